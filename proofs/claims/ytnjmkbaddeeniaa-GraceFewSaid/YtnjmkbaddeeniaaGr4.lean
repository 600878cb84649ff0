/- Layer 35: Close. -/
import Derived.Test.YtnjmkbaddeeniaaGr3
import Derived.WalkSpells
namespace Go.Proofs.Ytnjmkbaddeeniaa
open Go.RowKit Go.Maps

theorem int_infoG : (Try.prog.info? 3).map (fun i => (i.zero, i.size, i.bytes)) = some (some (.int .i64 0), 1, 8) := by kernel_rfl
def closeG (s : GS) (id : Int) : GS := match s.nx id with
  | some _ => s
  | none => fillG ⟨s.most, s.n + 1, catF s.n s.f (oneF 0), updI s.nx id s.n, s.free, s.c + 1⟩ s.n
theorem closeNil35 (id : Int) (w : World) : Calls Try.prog 24 #[.pointer none, .int .i64 id] w fun e w' => e = .returned (.bool false) ∧ w = w' := by
  go_enter Try.func24, Try.ntmps24
  go_wp2
  go_ret
  exact ⟨rfl, rfl⟩
theorem own_v35 {k : IntKind} {e : TypeId} {B : Nat} {w : World} {v : Value} {n : Nat} {f : Nat → Int} (h : Own k e B w v n f) : OwnV 1 e B w v n (fun i => .int k (f i)) := by
  unfold OwnV
  rw [Nat.mul_one]
  exact h
theorem v_own35 {k : IntKind} {e : TypeId} {B : Nat} {w : World} {v : Value} {n : Nat} {f : Nat → Int} (h : OwnV 1 e B w v n (fun i => .int k (f i))) : Own k e B w v n f := by
  unfold OwnV at h
  rw [Nat.mul_one] at h
  exact h
theorem rd_v35 {k : IntKind} {w : World} {A : Option Addr} {n c : Nat} {f : Nat → Int} (h : Rd k w A n c f) : RdV 1 w A n c (fun i => .int k (f i)) :=
  ⟨h.1, h.2.1, h.2.2.1, fun hn => by
    obtain ⟨b, off, hA, hc⟩ := h.2.2.2 hn
    exact ⟨b, off, hA, fun i hi => hc i (by omega)⟩⟩
theorem cat_v35 {k : IntKind} (n : Nat) (f g : Nat → Int) (m : Nat) : ∀ i, i < (n + m) * 1 → catV (n * 1) (fun i => .int k (f i)) (fun i => .int k (g i)) i = (fun i => .int k (catF n f g i)) i := by
  intro i _
  unfold catV catF
  rw [Nat.mul_one]
  simp only
  split <;> rfl
def Stepped (B : Nat) (w : World) (g : GM) (s' : GS) (w' : World) : Prop := ∃ g', g'.p = g.p ∧ GrOk B w' g' s' ∧ Fr B g.fp w w' ∧ Later2 w g g'
set_option maxRecDepth 20000 in
set_option maxHeartbeats 3200000 in
theorem close35 {B : Nat} {w : World} {g : GM} {s : GS} (h : GrOk B w g s) (id : Int) (hid : (Lit.int .i64 id).wf = true) (hn : s.n + 1 ≤ 100) (hc : s.c + 1 ≤ 1000) (hB : B ≤ w.heap.size) : Calls Try.prog 24 #[.pointer (some ⟨g.p, 0, none⟩), .int .i64 id] w fun e w' => e = .returned (.bool (s.nx id).isNone) ∧ Stepped B w g (closeG s id) w' := by
  obtain ⟨p, v, mv⟩ := g
  obtain ⟨c0, c1, c2, c3⟩ := row4G h.row
  simp only at c0 c1 c2 c3
  have Hid' := hide hid
  have H := hide h
  have HBs := hide hB
  obtain ⟨i0, hi, hz0, hz1, hz2⟩ := info_parts int_infoG
  clear hid
  rcases h.map with ⟨h1, h2, h3⟩ | ⟨bm, h1, h2, h3⟩
  · simp only at h1
    subst h1
    have hln := fun W : World => Maps.look_nil (P := Try.prog) (w := W) (t := 33) true mapI_keyed Try.underlying33 (mapI_zero W) (keyOf_int_mk Try.underlying3 Hid'.out)
    simp only [if_true] at hln
    have HX := hide (h3 id)
    have HC : Hid (closeG s id = fillG ⟨s.most, s.n + 1, catF s.n s.f (oneF 0), updI s.nx id s.n, s.free, s.c + 1⟩ s.n) := by show _ = _; unfold closeG; rw [h3 id]
    have hmn := fun W : World => run_eql_map_nil (P := Try.prog) W 33 3 3 none Try.underlying33
    have hr := (H.out.below ((Below.refl _ _).alloc (Nat.le_refl _) (.map #[] 0))).row
    have f2 : (w.alloc (.map #[] 0)).frozen? ⟨p, 2, none⟩ = false := frozenRow (show _ = some (Obj.cells #[.int .i64 s.most, v, .map none, .int .i64 s.free] 35 (0, 0)) from hr) 2
    have g2 : (w.alloc (.map #[] 0)).cell? ⟨p, 2, none⟩ = some (.map none) := (row4G hr).2.2.1
    have hpl := (h.fp_lt (.inl rfl)).2
    have hmm := @run_makeMap Try.prog
    obtain ⟨bm, hbm⟩ : ∃ bm, bm = w.heap.size := ⟨_, rfl⟩
    have HG := hide (h.setMap rfl hB)
    simp only at HG
    rw [← hbm] at HG
    have hcm : (w.alloc (.map #[] 0)).setCell ⟨p, 2, none⟩ (.map (some bm)) = (w.setCell ⟨p, 2, none⟩ (.map (some bm))).alloc (.map #[] 0) := World.setCell_alloc_past _ _ _ _ hpl
    have HF0 := hide ((Fr.alloc (B := B) (GM.fp ⟨p, v, .map none⟩) w (.map #[] 0) hB).step (Fr.set (B := B) (p := p) _ 2 (.map (some bm)) h.hp) (fun i hi => .inl (.inl hi)))
    have HL : Hid (Later2 w ⟨p, v, .map none⟩ ⟨p, v, .map (some bm)⟩) := fun i hi => by
      rcases hi with h1 | h1 | h1
      · exact .inl (.inl h1)
      · exact .inl (.inr (.inl h1))
      · have : bm = i := by simpa using h1
        exact .inr (by omega)
    clear h h2 h3 hr
    have Hcm := hide hcm
    have Hbm := hide hbm
    clear hcm hbm
    go_enter Try.func24, Try.ntmps24
    go_wp2_with fail
    have hcm := Hcm.out
    rw [← Hbm.out]
    rw [hcm] at HG HF0
    obtain ⟨W, hW⟩ : ∃ W, W = (w.setCell ⟨p, 2, none⟩ (.map (some bm))).alloc (.map #[] 0) := ⟨_, rfl⟩
    rw [← hW] at HG HF0 ⊢
    have HF := HF0
    have HWs : Hid (B ≤ W.heap.size) := Nat.le_trans hB HF0.out.below.size
    clear hW hcm f2 g2 hln hmm hpl
    clear c0 c1 c2 c3
    obtain ⟨a0, a1, a2, a3⟩ := row4G HG.out.row
    obtain ⟨A, c, hv, _, _⟩ := HG.out.own.rd
    simp only at a0 a1 a2 a3 hv
    subst hv
    have HM : Hid (MpI W bm s.c s.nx) := by
      rcases HG.out.map with ⟨e, _⟩ | ⟨b', e, _, e3⟩
      · cases e
      · obtain rfl : bm = b' := by simpa using e
        exact e3
    go_still_tail 10, (by kernel_rfl)
    change wpList _ _ _ _ _ W.drew
    go_wp2_with (first
      | (at_mapUpdate; refine wp_updI rfl _ _ _ rfl bm s.c s.nx rfl HM.out (by simp only [maxLen]; omega) id (s.n : Int) rfl Hid'.out rfl (WalkArith.wf_i64 (by omega)) ?_; intro W2 hM2 hg2; have HG2 := hide ((HG.out.at_ (w' := W.drew) (fun _ _ => rfl)).setNx rfl hg2 hM2 (by omega) (by omega) (by omega)); have HF2 := hide ((HF.out.step (Fr.drawn (fun _ => False) _ 1) (fun _ h => h.elim)).step (Fr.grown hg2 (HG.out.fp_lt (.inr (.inr rfl))).1 HWs.out) (fun i hi => by subst hi; exact HL.out _ (.inr (.inr rfl)))); have hsz2 : B ≤ W2.heap.size := Nat.le_trans HBs.out HF2.out.below.size; clear hM2 hg2 a0 a1 a2 a3; obtain ⟨a0, a1, a2, a3⟩ := row4G HG2.out.row; simp only at a0 a1 a2 a3; have HG3 := hide (HG2.out.below ((Below.refl _ _).alloc (Nat.le_refl _) (.cells #[.int .i64 0] 3))); have HF3 := hide (HF2.out.step (Fr.alloc (fun _ => False) _ (.cells #[.int .i64 0] 3) hsz2) (fun _ h => h.elim)); have HO := hide HG3.out.own)
      | (at_builtin; refine wp_appV rfl (.tmp 42) (.tmp 43) _ rfl 1 i0 _ 8 Try.underlying28 hi hz0 hz1 hz2 rfl (by omega) B _ s.n (fun i => .int .i64 (s.f i)) rfl (own_v35 HO.out) _ 1 1 (fun i => .int .i64 (oneF 0 i)) rfl (rd_v35 (Rd.one .i64 3 _ 0)) (fun _ _ => rfl) (by simp only [maxLen]; omega) (by omega) (by simp; omega) ?_; intro v6 w6 hown6 hg6 hob6; have HO6 := hide (v_own35 (hown6.congr (cat_v35 _ _ _ _))); have HR6 := hide (keepGrown (show _ = some (Obj.cells #[.int .i64 s.most, .slice A s.n c, .map (some bm), .int .i64 s.free] 35 (0, 0)) from HG3.out.row) hg6 HG3.out.ne_v); obtain ⟨A6, c6, rfl, _, _⟩ := HO6.out.rd; have Hg6 := hide hg6; have Hob6 := hide hob6; clear hown6 hg6 hob6; have b1 : w6.cell? ⟨p, 1, none⟩ = some (.slice A s.n c) := (by rw [cell_of_row w6 p 1 _ _ _ HR6.out]; rfl); have f1 : w6.frozen? ⟨p, 1, none⟩ = false := frozenRow HR6.out 1; have HP := hide (HG3.out.push rfl (v' := .slice A6 (s.n + 1) c6) Hg6.out HO6.out (own_ne_mem HO6.out HR6.out) hn); have HF7 := hide ((HF3.out.step (Fr.grownV Hg6.out (fun j e => (World.ownsRow.lt HO.out j e).1) (by have := HF3.out.below.size; have := HBs.out; omega)) (fun i hi => HL.out _ (.inr (.inl hi)))).step (Fr.set _ 1 (.slice A6 (s.n + 1) c6) HG.out.hp) (fun i hi => by subst hi; exact HL.out _ (.inl rfl))); clear a0 a1 a2 a3; obtain ⟨a0, a1, a2, a3⟩ := row4G HP.out.row; simp only at a0 a1 a2 a3))
    refine (fill35 HP.out (i := s.n) (by simp)).mono ?_
    rintro e W9 ⟨rfl, hg9, hf9⟩
    have HL9 : Hid (Later2 w ⟨p, .slice A s.n c, .map none⟩ ⟨p, .slice A6 (s.n + 1) c6, .map (some bm)⟩) := fun i hi => by
      rcases hi with h1 | h1 | h1
      · exact .inl (.inl h1)
      · rcases Hob6.out with h2 | h2
        · exact .inl (.inr (.inl (h2.symm.trans h1)))
        · have h3 := h2.symm.trans h1
          have h4 := HF3.out.below.size
          refine .inr ?_
          have := Option.some.inj h3
          omega
      · exact HL.out i (.inr (.inr h1))
    have HF9 := hide (HF7.out.step hf9 HL9.out)
    have HG9 := hide hg9
    clear hg9 hf9
    go_wp2_with fail
    go_ret
    exact ⟨by first | rfl | (rw [HX.out]; rfl), ⟨p, .slice A6 (s.n + 1) c6, .map (some bm)⟩, rfl, by rw [HC.out]; exact HG9.out, HF9.out, HL9.out⟩
  · simp only at h1
    subst h1
    have H3 := hide h3
    cases hx : s.nx id with
    | some x =>
      have HX := hide hx
      have HC : Hid (closeG s id = s) := by show _ = _; unfold closeG; rw [hx]
      clear h h2 h3 hx
      go_enter Try.func24, Try.ntmps24
      go_wp2_with (at_lookup; refine wp_lookI rfl _ _ rfl bm s.c s.nx rfl H3.out id rfl Hid'.out ?_; rw [HX.out]; simp only [Option.getD, Option.isSome])
      go_ret
      exact ⟨rfl, _, rfl, by rw [HC.out]; exact H.out, Fr.refl _ _, fun i hi => .inl hi⟩
    | none =>
      have HX := hide hx
      have HC : Hid (closeG s id = fillG ⟨s.most, s.n + 1, catF s.n s.f (oneF 0), updI s.nx id s.n, s.free, s.c + 1⟩ s.n) := by show _ = _; unfold closeG; rw [hx]
      have hmn := fun W : World => run_eql_map_nil (P := Try.prog) W 33 3 3 (some bm) Try.underlying33
      have HG := H
      have HF : Hid (Fr B (GM.fp ⟨p, v, .map (some bm)⟩) w w) := Fr.refl _ _
      have HL : Hid (Later2 w ⟨p, v, .map (some bm)⟩ ⟨p, v, .map (some bm)⟩) := fun i hi => .inl hi
      have HWs := HBs
      clear h h2 h3 hx
      go_enter Try.func24, Try.ntmps24
      go_wp2_with (at_lookup; refine wp_lookI rfl _ _ rfl bm s.c s.nx rfl H3.out id rfl Hid'.out ?_; rw [HX.out]; simp only [Option.getD, Option.isSome])
      clear c0 c1 c2 c3
      obtain ⟨a0, a1, a2, a3⟩ := row4G HG.out.row
      obtain ⟨A, c, hv, _, _⟩ := HG.out.own.rd
      simp only at a0 a1 a2 a3 hv
      subst hv
      have HM : Hid (MpI w bm s.c s.nx) := by
        rcases HG.out.map with ⟨e, _⟩ | ⟨b', e, _, e3⟩
        · cases e
        · obtain rfl : bm = b' := by simpa using e
          exact e3
      go_still_tail 10, (by kernel_rfl)
      change wpList _ _ _ _ _ w.drew
      go_wp2_with (first
        | (at_mapUpdate; refine wp_updI rfl _ _ _ rfl bm s.c s.nx rfl HM.out (by simp only [maxLen]; omega) id (s.n : Int) rfl Hid'.out rfl (WalkArith.wf_i64 (by omega)) ?_; intro W2 hM2 hg2; have HG2 := hide ((HG.out.at_ (w' := w.drew) (fun _ _ => rfl)).setNx rfl hg2 hM2 (by omega) (by omega) (by omega)); have HF2 := hide ((HF.out.step (Fr.drawn (fun _ => False) _ 1) (fun _ h => h.elim)).step (Fr.grown hg2 (HG.out.fp_lt (.inr (.inr rfl))).1 HWs.out) (fun i hi => by subst hi; exact HL.out _ (.inr (.inr rfl)))); have hsz2 : B ≤ W2.heap.size := Nat.le_trans HBs.out HF2.out.below.size; clear hM2 hg2 a0 a1 a2 a3; obtain ⟨a0, a1, a2, a3⟩ := row4G HG2.out.row; simp only at a0 a1 a2 a3; have HG3 := hide (HG2.out.below ((Below.refl _ _).alloc (Nat.le_refl _) (.cells #[.int .i64 0] 3))); have HF3 := hide (HF2.out.step (Fr.alloc (fun _ => False) _ (.cells #[.int .i64 0] 3) hsz2) (fun _ h => h.elim)); have HO := hide HG3.out.own)
        | (at_builtin; refine wp_appV rfl (.tmp 42) (.tmp 43) _ rfl 1 i0 _ 8 Try.underlying28 hi hz0 hz1 hz2 rfl (by omega) B _ s.n (fun i => .int .i64 (s.f i)) rfl (own_v35 HO.out) _ 1 1 (fun i => .int .i64 (oneF 0 i)) rfl (rd_v35 (Rd.one .i64 3 _ 0)) (fun _ _ => rfl) (by simp only [maxLen]; omega) (by omega) (by simp; omega) ?_; intro v6 w6 hown6 hg6 hob6; have HO6 := hide (v_own35 (hown6.congr (cat_v35 _ _ _ _))); have HR6 := hide (keepGrown (show _ = some (Obj.cells #[.int .i64 s.most, .slice A s.n c, .map (some bm), .int .i64 s.free] 35 (0, 0)) from HG3.out.row) hg6 HG3.out.ne_v); obtain ⟨A6, c6, rfl, _, _⟩ := HO6.out.rd; have Hg6 := hide hg6; have Hob6 := hide hob6; clear hown6 hg6 hob6; have b1 : w6.cell? ⟨p, 1, none⟩ = some (.slice A s.n c) := (by rw [cell_of_row w6 p 1 _ _ _ HR6.out]; rfl); have f1 : w6.frozen? ⟨p, 1, none⟩ = false := frozenRow HR6.out 1; have HP := hide (HG3.out.push rfl (v' := .slice A6 (s.n + 1) c6) Hg6.out HO6.out (own_ne_mem HO6.out HR6.out) hn); have HF7 := hide ((HF3.out.step (Fr.grownV Hg6.out (fun j e => (World.ownsRow.lt HO.out j e).1) (by have := HF3.out.below.size; have := HBs.out; omega)) (fun i hi => HL.out _ (.inr (.inl hi)))).step (Fr.set _ 1 (.slice A6 (s.n + 1) c6) HG.out.hp) (fun i hi => by subst hi; exact HL.out _ (.inl rfl))); clear a0 a1 a2 a3; obtain ⟨a0, a1, a2, a3⟩ := row4G HP.out.row; simp only at a0 a1 a2 a3))
      refine (fill35 HP.out (i := s.n) (by simp)).mono ?_
      rintro e W9 ⟨rfl, hg9, hf9⟩
      have HL9 : Hid (Later2 w ⟨p, .slice A s.n c, .map (some bm)⟩ ⟨p, .slice A6 (s.n + 1) c6, .map (some bm)⟩) := fun i hi => by
        rcases hi with h1 | h1 | h1
        · exact .inl (.inl h1)
        · rcases Hob6.out with h2 | h2
          · exact .inl (.inr (.inl (h2.symm.trans h1)))
          · have h3 := h2.symm.trans h1
            have h4 := HF3.out.below.size
            refine .inr ?_
            have := Option.some.inj h3
            omega
        · exact HL.out i (.inr (.inr h1))
      have HF9 := hide (HF7.out.step hf9 HL9.out)
      have HG9 := hide hg9
      clear hg9 hf9
      go_wp2_with fail
      go_ret
      exact ⟨by first | rfl | (rw [HX.out]; rfl), ⟨p, .slice A6 (s.n + 1) c6, .map (some bm)⟩, rfl, by rw [HC.out]; exact HG9.out, HF9.out, HL9.out⟩
end Go.Proofs.Ytnjmkbaddeeniaa
