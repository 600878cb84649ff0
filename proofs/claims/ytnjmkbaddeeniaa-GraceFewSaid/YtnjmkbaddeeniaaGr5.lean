/- Layer 35: Keep. -/
import Derived.Test.YtnjmkbaddeeniaaGr4
namespace Go.Proofs.Ytnjmkbaddeeniaa
open Go.RowKit Go.Maps

theorem GrOk.bump {B : Nat} {w : World} {g : GM} {s : GS} (h : GrOk B w g s) (hc : s.c + 1 ≤ 1000) : GrOk B w g { s with c := s.c + 1 } :=
  { h with
    map := h.map.imp id fun ⟨bm, h1, h2, ⟨D, a, b⟩⟩ => ⟨bm, h1, h2, ⟨D, a.mono (Nat.le_succ _), b⟩⟩
    c1000 := hc
    f0 := fun i hi => by have := h.f0 i hi; simp only at this ⊢; omega }
theorem GrOk.setIn {B b c : Nat} {w : World} {g : GM} {s : GS} (h : GrOk B w g s) (hv : g.v = .slice (some ⟨b, 0, none⟩) s.n c) {i : Nat} {y : Int} (y0 : 0 ≤ y) (y1 : y ≤ (s.c : Int)) : GrOk B (w.setCell ⟨b, i, none⟩ (.int .i64 y)) g { s with f := setF s.f i y } := by
  have hb : g.v.ownBlock = some b := by rw [hv]; rfl
  have hO := h.own
  rw [hv] at hO
  exact { h with
    row := (heap_set_ne _ _ _ _ _ (fun e => h.ne_v (by rw [hb, e]))).trans h.row
    own := by show Own _ _ _ _ g.v _ _; rw [hv]; exact hO.set i y
    map := h.map.imp id fun ⟨bm, h1, h2, h3⟩ => ⟨bm, h1, h2, h3.at_block (heap_set_ne _ _ _ _ _ (fun e => (h.ne_m h1).2 (by rw [hb, e])))⟩
    f0 := fun j hj => by
      simp only at hj ⊢
      unfold setF
      split
      · exact ⟨y0, y1⟩
      · exact h.f0 j hj }
def incG (s : GS) (i : Nat) : GS := fillG { s with f := setF s.f i (s.f i + 1) } i
def loopG (s : GS) (x : Nat) : Nat → GS
  | 0 => s
  | j + 1 => incG (loopG s x j) (x + j)
theorem incG_le (s : GS) (i : Nat) : (incG s i).n = s.n ∧ (incG s i).f = setF s.f i (s.f i + 1) ∧ (incG s i).nx = s.nx ∧ (incG s i).most = s.most ∧ (incG s i).c = s.c := fillG_le _ _
theorem loopG_le (s : GS) (x j : Nat) : (loopG s x j).n = s.n ∧ (loopG s x j).nx = s.nx ∧ (loopG s x j).most = s.most ∧ (loopG s x j).c = s.c ∧ ∀ i, x + j ≤ i → (loopG s x j).f i = s.f i := by
  induction j with
  | zero => exact ⟨rfl, rfl, rfl, rfl, fun _ _ => rfl⟩
  | succ j ih =>
    obtain ⟨a, b, c, d, e⟩ := ih
    obtain ⟨a', b', c', d', e'⟩ := incG_le (loopG s x j) (x + j)
    refine ⟨a'.trans a, c'.trans b, d'.trans c, e'.trans d, fun i hi => ?_⟩
    show (incG (loopG s x j) (x + j)).f i = s.f i
    rw [b']
    unfold setF
    rw [if_neg (by omega)]
    exact e i (by omega)
def keepG (s : GS) (id : Int) : GS := match s.nx id with
  | none => s
  | some x => if (s.free : Int) ≤ x then { loopG { s with c := s.c + 1 } x.toNat (s.n - x.toNat) with nx := updI s.nx id s.n, c := s.c + 1 + 1 } else s
theorem keepG_no {s : GS} {id : Int} (h : canG s id = false) : keepG s id = s := by
  unfold keepG
  unfold canG at h
  cases hx : s.nx id with
  | none => rfl
  | some x =>
    rw [hx] at h
    simp only at h ⊢
    rw [if_neg (of_decide_eq_false h)]
theorem canG_yes {s : GS} {id : Int} (h : canG s id = true) : ∃ x, s.nx id = some x ∧ (s.free : Int) ≤ x := by
  unfold canG at h
  cases hx : s.nx id with
  | none => rw [hx] at h; cases h
  | some x => rw [hx] at h; exact ⟨x, rfl, of_decide_eq_true h⟩
theorem keepNil35 (id : Int) (w : World) : Calls Try.prog 26 #[.pointer none, .int .i64 id] w fun e w' => e = .returned (.bool false) ∧ w = w' := by
  go_enter Try.func26, Try.ntmps26
  go_wp2_with fail
  refine (canNil35 id _).mono ?_
  rintro e w' ⟨rfl, rfl⟩
  go_wp2_with fail
  go_ret
  exact ⟨rfl, rfl⟩
theorem GrOk.form {B : Nat} {w : World} {g : GM} {s : GS} (h : GrOk B w g s) (hn : 0 < s.n) : ∃ b c, g.v = .slice (some ⟨b, 0, none⟩) s.n c := by
  obtain ⟨A, c, hv, hr, ha⟩ := h.own.rd
  obtain ⟨b, off, rfl, _⟩ := hr.at_ hn
  obtain ⟨_, _, h0, _⟩ := ha _ rfl
  simp only at h0
  subst h0
  exact ⟨b, c, hv⟩
set_option maxRecDepth 20000 in
set_option maxHeartbeats 3200000 in
theorem keep35 {B : Nat} {w : World} {g : GM} {s : GS} (h : GrOk B w g s) (id : Int) (hid : (Lit.int .i64 id).wf = true) (hc : s.c + 1 + 1 ≤ 1000) (hB : B ≤ w.heap.size) : Calls Try.prog 26 #[.pointer (some ⟨g.p, 0, none⟩), .int .i64 id] w fun e w' => e = .returned (.bool (canG s id)) ∧ GrOk B w' g (keepG s id) ∧ Fr B g.fp w w' := by
  have Hid' := hide hid
  have H := hide h
  have HBs := hide hB
  cases hcan : canG s id with
  | false =>
    have HK := hide (keepG_no hcan)
    have HC := hide hcan
    clear h hcan
    go_enter Try.func26, Try.ntmps26
    go_wp2_with fail
    refine (can35 H.out id Hid'.out).mono ?_
    rintro e w' ⟨rfl, rfl⟩
    rw [HC.out]
    go_wp2_with fail
    go_ret
    exact ⟨rfl, by rw [HK.out]; exact H.out, Fr.refl _ _⟩
  | true =>
    obtain ⟨xi, hx, hxf⟩ := canG_yes hcan
    obtain ⟨x, rfl⟩ : ∃ x : Nat, xi = (x : Int) := ⟨xi.toNat, by have := (h.nx0 id xi hx).1; omega⟩
    have hxn : x ≤ s.n := by have := (h.nx0 id _ hx).2; omega
    have hn100 := h.n100
    have HK : Hid (keepG s id = { loopG { s with c := s.c + 1 } x (s.n - x) with nx := updI s.nx id s.n, c := s.c + 1 + 1 }) := by
      show _ = _
      unfold keepG
      rw [hx]
      simp only [Int.toNat_natCast]
      rw [if_pos hxf]
    have HC := hide hcan
    have HX := hide hx
    obtain ⟨p, v, mv⟩ := g
    obtain ⟨bm, hbm⟩ : ∃ bm, mv = .map (some bm) := by
      rcases h.map with ⟨_, _, h3⟩ | ⟨bm, h1, _⟩
      · rw [h3 id] at hx; cases hx
      · exact ⟨bm, h1⟩
    subst hbm
    have HM : Hid (MpI w bm s.c s.nx) := by
      rcases h.map with ⟨e, _⟩ | ⟨b', e, _, e3⟩
      · cases e
      · obtain rfl : bm = b' := by simpa using e
        exact e3
    have HG0 := hide (h.bump (by omega))
    obtain ⟨c0, c1, c2, c3⟩ := row4G h.row
    simp only at c0 c1 c2 c3
    obtain ⟨A, c, hv, _, _⟩ := h.own.rd
    simp only at hv
    subst hv
    clear h hcan hx hxf
    go_enter Try.func26, Try.ntmps26
    go_wp2_with fail
    refine (can35 H.out id Hid'.out).mono ?_
    rintro e w' ⟨rfl, rfl⟩
    rw [HC.out]
    go_wp2_with (at_lookup; refine wp_look1 rfl _ _ rfl bm s.c s.nx rfl HM.out id rfl Hid'.out ?_; rw [HX.out]; simp only [Option.getD])
    clear c0 c1 c2 c3
    go_loopw [5] (fun i wr => ∃ j : Nat, x + j ≤ s.n ∧ i = .int .i64 ((x + j : Nat) : Int) ∧ GrOk B wr ⟨p, .slice A s.n c, .map (some bm)⟩ (loopG { s with c := s.c + 1 } x j) ∧ Fr B (GM.fp ⟨p, .slice A s.n c, .map (some bm)⟩) w wr) (fun i _ => s.n - (intOf i).toNat)
    case atStart => exact ⟨0, by omega, rfl, HG0.out, Fr.refl _ _⟩
    case round =>
      obtain ⟨j, hj, rfl, hG, hF⟩ := hrel
      obtain ⟨l1, l2, l3, l4, l5⟩ := loopG_le { s with c := s.c + 1 } x j
      simp only at l1 l2 l3 l4 l5
      have HL := hide (And.intro l1 (And.intro l2 (And.intro l3 l4)))
      obtain ⟨c0, c1, c2, c3⟩ := row4G hG.row
      simp only at c0 c1 c2 c3
      have hfr := frozenRow (show _ = some (Obj.cells #[.int .i64 (loopG { s with c := s.c + 1 } x j).most, .slice A s.n c, .map (some bm), .int .i64 (loopG { s with c := s.c + 1 } x j).free] 35 (0, 0)) from hG.row) 1
      have HG := hide hG
      have HF := hide hF
      clear hG hF
      obtain ⟨k, hk⟩ : ∃ k, k = x + j := ⟨_, rfl⟩
      rw [← hk] at hj l5 ⊢
      by_cases hlt : k < s.n
      · have hkn : (k : Int) < (s.n : Int) := by omega
        have hfk := l5 k (Nat.le_refl _)
        have hf0 := H.out.f0 k hlt
        obtain ⟨b, cc, hv⟩ := HG.out.form (by rw [l1]; omega)
        simp only [l1] at hv
        injection hv with hA _ hcc
        subst hA
        subst hcc
        have hO := HG.out.own
        rw [l1] at hO
        have d1 := hO.cell hlt
        have g1 := hO.frozen k
        rw [hfk] at d1
        obtain ⟨y, hy⟩ : ∃ y, y = s.f k := ⟨_, rfl⟩
        rw [← hy] at d1 hfk hf0
        have hy1 : 0 ≤ y := hf0.1
        have hy2 : y ≤ 1000 := by omega
        have HS := hide (HG.out.setIn (b := b) (c := c) (i := k) (y := y + 1) (by simp only; rw [l1]) (by omega) (by rw [l4]; omega))
        have HE : Hid (loopG { s with c := s.c + 1 } x (j + 1) = fillG { loopG { s with c := s.c + 1 } x j with f := setF (loopG { s with c := s.c + 1 } x j).f k (y + 1) } k) := by
          show incG _ _ = _
          unfold incG
          rw [← hk, hfk]
        have HFb := hide (HF.out.step (Fr.set _ k (.int .i64 (y + 1)) (HG.out.fp_lt (.inr (.inl rfl))).1) (fun i hi => by subst hi; exact .inl (.inr (.inl rfl))))
        have Hk := hide hk
        have HL1 := hide l1
        clear l1 l2 l3 l4 l5 hf0 hO hk hy hfk hfr
        generalize (loopG { s with c := s.c + 1 } x j) = s1 at *
        go_wp2_with fail
        refine (fill35 HS.out (i := k) (by show k < s1.n; rw [HL1.out]; exact hlt)).mono ?_
        rintro e w9 ⟨rfl, hg9, hf9⟩
        have HG9 := hide hg9
        have HF9 := hide (HFb.out.step hf9 (fun i hi => .inl hi))
        clear hg9 hf9
        go_wp2_with fail
        go_roundw
        case rel => exact ⟨j + 1, by have := Hk.out; omega, by rw [show x + (j + 1) = k + 1 by have := Hk.out; omega]; go_num, by rw [HE.out]; exact HG9.out, HF9.out⟩
        case measure => simp [intOf]; omega
      · obtain rfl : k = s.n := by omega
        obtain rfl : j = s.n - x := by omega
        have hM2 : MpI wr bm (s.c + 1) s.nx := by
          rcases HG.out.map with ⟨e, _⟩ | ⟨b', e, _, e3⟩
          · cases e
          · obtain rfl : bm = b' := by simpa using e
            rw [l4, l2] at e3
            exact e3
        have HM2 := hide hM2
        have HL1 := hide l1
        have HL2 := hide l2
        have HL4 := hide l4
        have HWs : Hid (B ≤ wr.heap.size) := Nat.le_trans HBs.out HF.out.below.size
        clear l1 l2 l3 l4 l5 hM2 hfr hk
        generalize (loopG { s with c := s.c + 1 } x (s.n - x)) = s1 at *
        go_wp2_with fail
        go_still_tail 10, (by kernel_rfl)
        change wpList _ _ _ _ _ wr.drew
        go_wp2_with (at_mapUpdate; refine wp_updI rfl _ _ _ rfl bm (s.c + 1) s.nx rfl HM2.out (by simp only [maxLen]; omega) id (s.n : Int) rfl Hid'.out rfl (WalkArith.wf_i64 (by omega)) ?_; intro W2 hM3 hg2; have HG2 := hide ((HG.out.at_ (w' := wr.drew) (fun _ _ => rfl)).setNx rfl hg2 (id := id) (y := (s.n : Int)) (by rw [HL4.out, HL2.out]; exact hM3) (by omega) (by rw [HL1.out]; omega) (by rw [HL4.out]; omega)); have HF2 := hide ((HF.out.step (Fr.drawn (fun _ => False) _ 1) (fun _ h => h.elim)).step (Fr.grown hg2 (HG.out.fp_lt (.inr (.inr rfl))).1 HWs.out) (fun i hi => by subst hi; exact .inl (.inr (.inr rfl)))); clear hM3 hg2)
        go_ret
        refine ⟨rfl, ?_, HF2.out⟩
        rw [HK.out]
        have hh := HG2.out
        rw [HL4.out, HL2.out] at hh
        exact hh
end Go.Proofs.Ytnjmkbaddeeniaa
