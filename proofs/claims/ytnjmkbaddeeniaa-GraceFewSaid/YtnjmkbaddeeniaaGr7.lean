/- Layer 35: who can keep more; the walk of GraceMore. -/
import Derived.Test.YtnjmkbaddeeniaaGr6
import Derived.Deep.RegionHeld3
import Derived.Deep.Slices
namespace Go.Proofs.Ytnjmkbaddeeniaa
open Go.RowKit Go.Maps Go.ChangeShapes Go.WideShapes Go.Deep

/-- A slice of structs of a bool and an integer. -/
def RdBI (w : World) (A : Option Addr) (n c : Nat) (h : Nat → Bool) (f : Nat → Int) : Prop :=
  n ≤ c ∧ c ≤ maxLen ∧ (A = none → c = 0) ∧ (0 < n → ∃ b off, A = some ⟨b, off, none⟩ ∧ ∀ i, i < n → w.cell? ⟨b, off + i * 2, none⟩ = some (.bool (h i)) ∧ w.cell? ⟨b, off + i * 2 + 1, none⟩ = some (.int .i64 (f i)))
theorem RdBI.below {w w' : World} {A : Option Addr} {n c : Nat} {f : Nat → Int} {h : Nat → Bool} (r : RdBI w A n c h f) (hb : Below w.heap.size w w') : RdBI w' A n c h f :=
  ⟨r.1, r.2.1, r.2.2.1, fun hn => by
    obtain ⟨b, off, hA, hc⟩ := r.2.2.2 hn
    exact ⟨b, off, hA, fun i hi => by
      obtain ⟨h1, h2⟩ := hc i hi
      rw [hb.cell (World.block_lt_of_cell? w _ h1), hb.cell (World.block_lt_of_cell? w _ h2)]
      exact ⟨h1, h2⟩⟩⟩
theorem RdBI.at_ {w : World} {A : Option Addr} {n c : Nat} {f : Nat → Int} {h : Nat → Bool} (r : RdBI w A n c h f) {i : Nat} (hi : i < n) :
    ∃ b off, A = some ⟨b, off, none⟩ ∧ w.cell? ⟨b, off + i * 2, none⟩ = some (.bool (h i)) ∧ w.cell? ⟨b, off + i * 2 + 1, none⟩ = some (.int .i64 (f i)) := by
  obtain ⟨b, off, hA, hc⟩ := r.2.2.2 (by omega)
  exact ⟨b, off, hA, hc i hi⟩
section
variable {H : Type} {enc : TypeId × Value → H} {P : Program} {w : World} {base : Nat} {spare : Nat → Bool} {held : Bool}
theorem rdbi_of {t e : TypeId} {f0 f1 : Field} {fuel : Nat} {a : Option Addr} {len cap : Nat} {x : DataW H × List MemPlace} (ht : P.underlying t = some (.slice e)) (he : P.underlying e = some (.struct #[f0, f1]))
    (hC : P.cellsOf e = 2) (o0 : f0.offset = 0) (o1 : f1.offset = 1) (k0 : P.cellsOf f0.type = 1) (k1 : P.cellsOf f1.type = 1) (u0 : P.underlying f0.type = some .bool) (u1 : P.underlying f1.type = some (.int .i64))
    (h : DataW.trod enc P w base spare held fuel t [.slice a len cap] = some x) : ∃ b f, RdBI w a len cap b f ∧ ∀ i, i < len → (Lit.int .i64 (f i)).wf = true := by
  rcases open_slice ht h with ⟨hcs, _⟩ | ⟨ad, l, c, m, n, D, Pl, hcs, _, hl, hm, hmm, _, hi⟩
  · simp at hcs
    obtain ⟨rfl, rfl, rfl⟩ := hcs
    exact ⟨fun _ => false, fun _ => 0, ⟨Nat.le_refl _, by simp [maxLen], fun _ => rfl, fun h => absurd h (by omega)⟩, fun i hi => by omega⟩
  · simp at hcs
    obtain ⟨rfl, rfl, rfl⟩ := hcs
    have hlm : len ≤ m := by rw [hmm]; split <;> omega
    have key : ∀ i, i < len → ∃ p : Bool × Int, (w.cell? (ad.add (i * 2)) = some (.bool p.1) ∧ w.cell? ((ad.add (i * 2)).add 1) = some (.int .i64 p.2)) ∧ (Lit.int .i64 p.2).wf = true := by
      intro i him
      obtain ⟨cs', hc, ht'⟩ := hi i (by omega)
      rw [hC] at hc
      obtain ⟨_, hcl, hat⟩ := World.cells?_some hc
      obtain ⟨ys, n', _, _, _, hyl, hf⟩ := DataW.trod_struct he ht'
      match cs', hcl, hat, ys, hyl, hf with
      | [q0, q1], _, hat, [ya, yb], _, hf =>
        have a0 := hf 0 f0 rfl
        have a1 := hf 1 f1 rfl
        rw [o0, k0] at a0
        rw [o1, k1] at a1
        obtain ⟨v0, e0, _⟩ := DataW.trod_bool u0 (show DataW.trod enc P w base spare held n' f0.type [q0] = some ya from a0)
        obtain ⟨v1, e1, _, w1⟩ := DataW.trod_int u1 (show DataW.trod enc P w base spare held n' f1.type [q1] = some yb from a1)
        simp at e0 e1
        subst e0
        subst e1
        have h0 := hat 0 (by omega)
        have h1 := hat 1 (by omega)
        refine ⟨(v0, v1), ⟨?_, by simpa using h1⟩, w1⟩
        have e : (ad.add (i * 2)).add 0 = ad.add (i * 2) := by simp [Addr.add]
        rw [e] at h0
        simpa using h0
    obtain ⟨F, hF⟩ := choose_lt key
    refine ⟨fun i => (F i).1, fun i => (F i).2, ⟨hl, hm, fun e => (by cases e), fun hn => ?_⟩, fun i hi => (hF i hi).2⟩
    obtain ⟨b, off, spot⟩ := ad
    have h0 := (hF 0 hn).1.1
    have hs : spot = none := by simpa [Addr.add] using World.cell?_spot h0
    subst hs
    refine ⟨b, off, rfl, fun i hi => ?_⟩
    have := (hF i hi).1
    rw [Addr.add_lit, Addr.add_lit] at this
    exact this
end

structure RelG (a b : GS) : Prop where
  n : a.n = b.n
  f : a.f = b.f
  nx : a.nx = b.nx
  free : b.free ≤ a.free
  most : a.most ≤ b.most
theorem RelG.fill {a b : GS} (h : RelG a b) {i : Nat} (hi : a.free ≤ i) : RelG (fillG a i) (fillG b i) ∧ (fillG a i).free ≤ i + 1 := by
  obtain ⟨h1, h2, h3, h4, h5⟩ := h
  unfold fillG
  by_cases ha : a.most ≤ a.f i
  · rw [if_pos ha]
    refine ⟨?_, Nat.le_refl _⟩
    split
    · exact ⟨h1, h2, h3, Nat.le_refl _, h5⟩
    · exact ⟨h1, h2, h3, by simp only; omega, h5⟩
  · rw [if_neg ha]
    rw [if_neg (by rw [← h2]; omega)]
    exact ⟨⟨h1, h2, h3, h4, h5⟩, by omega⟩
theorem RelG.close {a b : GS} (h : RelG a b) (hf : a.free ≤ a.n) (id : Int) : RelG (closeG a id) (closeG b id) := by
  unfold closeG
  rw [← h.nx]
  cases a.nx id with
  | some x => exact h
  | none =>
    simp only
    rw [← h.n]
    exact (RelG.fill (a := ⟨a.most, a.n + 1, catF a.n a.f (oneF 0), updI a.nx id a.n, a.free, a.c + 1⟩) (b := ⟨b.most, a.n + 1, catF a.n b.f (oneF 0), updI a.nx id a.n, b.free, b.c + 1⟩) ⟨rfl, by simp only; rw [h.f], rfl, h.free, h.most⟩ hf).1
theorem RelG.can {a b : GS} (h : RelG a b) {id : Int} (hc : canG a id = true) : canG b id = true := by
  obtain ⟨x, h1, h2⟩ := canG_yes hc
  unfold canG
  rw [← h.nx, h1]
  exact decide_eq_true (by have := h.free; omega)
theorem RelG.loop {a b : GS} (h : RelG a b) (x j : Nat) (hx : a.free ≤ x) : RelG (loopG a x j) (loopG b x j) ∧ (loopG a x j).free ≤ x + j := by
  induction j with
  | zero => exact ⟨h, hx⟩
  | succ j ih =>
    obtain ⟨i1, i2⟩ := ih
    show RelG (incG _ _) (incG _ _) ∧ (incG _ _).free ≤ _
    unfold incG
    rw [← i1.f]
    have := RelG.fill (a := { loopG a x j with f := setF (loopG a x j).f (x + j) ((loopG a x j).f (x + j) + 1) }) (b := { loopG b x j with f := setF (loopG a x j).f (x + j) ((loopG a x j).f (x + j) + 1) }) (i := x + j) ⟨i1.n, rfl, i1.nx, i1.free, i1.most⟩ i2
    exact this
theorem RelG.keep {a b : GS} (h : RelG a b) {id : Int} (hc : canG a id = true) (h0 : ∀ x, a.nx id = some x → 0 ≤ x) : RelG (keepG a id) (keepG b id) := by
  obtain ⟨x, h1, h2⟩ := canG_yes hc
  have hx := h0 x h1
  unfold keepG
  rw [← h.nx, h1]
  simp only
  rw [if_pos h2, if_pos (by have := h.free; omega), ← h.n]
  have hl := (RelG.loop (a := { a with c := a.c + 1 }) (b := ⟨b.most, a.n, b.f, a.nx, b.free, b.c + 1⟩) ⟨rfl, h.f, rfl, h.free, h.most⟩ x.toNat (a.n - x.toNat) (by simp only; omega)).1
  exact ⟨hl.n, hl.f, rfl, hl.free, hl.most⟩
theorem keep_can {a : GS} {id : Int} (hc : canG a id = true) (hf : (keepG a id).free ≤ (keepG a id).n) : (keepG a id).nx id = some (a.n : Int) ∧ (keepG a id).n = a.n ∧ canG (keepG a id) id = true := by
  obtain ⟨x, h1, h2⟩ := canG_yes hc
  have e : (keepG a id).nx id = some (a.n : Int) ∧ (keepG a id).n = a.n := by
    unfold keepG
    rw [h1]
    simp only
    rw [if_pos h2]
    exact ⟨by simp [updI], (loopG_le _ _ _).1⟩
  refine ⟨e.1, e.2, ?_⟩
  unfold canG
  rw [e.1]
  exact decide_eq_true (by have := e.2; omega)
theorem RelG.again {a b : GS} {id : Int} (h : RelG (keepG a id) b) (e1 : (keepG a id).nx id = some (a.n : Int)) (e2 : (keepG a id).n = a.n) (hf : (keepG a id).free ≤ (keepG a id).n) : RelG (keepG (keepG a id) id) b := by
  generalize keepG a id = s at *
  have hs : keepG s id = { s with nx := updI s.nx id s.n, c := s.c + 1 + 1 } := by
    unfold keepG
    rw [e1]
    simp only [Int.toNat_natCast]
    rw [if_pos (by omega), show s.n - a.n = 0 by omega]
    rfl
  rw [hs]
  have hu : updI s.nx id s.n = s.nx := by
    funext k
    unfold updI
    split
    · rename_i hk; rw [hk, e1, e2]
    · rfl
  exact ⟨h.n, h.f, by simp only; rw [hu]; exact h.nx, h.free, h.most⟩
theorem closeG_le (s : GS) (id : Int) : (closeG s id).n ≤ s.n + 1 ∧ (closeG s id).c ≤ s.c + 1 := by
  unfold closeG
  cases s.nx id with
  | some x => exact ⟨by simp, by simp⟩
  | none =>
    obtain ⟨a, _, _, _, c⟩ := fillG_le ⟨s.most, s.n + 1, catF s.n s.f (oneF 0), updI s.nx id s.n, s.free, s.c + 1⟩ s.n
    simp only
    rw [a, c]
    exact ⟨Nat.le_refl _, Nat.le_refl _⟩
theorem keepG_le (s : GS) (id : Int) : (keepG s id).n = s.n ∧ (keepG s id).c ≤ s.c + 1 + 1 := by
  unfold keepG
  cases s.nx id with
  | none => exact ⟨rfl, by simp only; omega⟩
  | some x =>
    simp only
    split
    · exact ⟨(loopG_le _ _ _).1, Nat.le_refl _⟩
    · exact ⟨rfl, by omega⟩
theorem fr_row {B p : Nat} {S : Nat → Prop} {w w' : World} {o : Obj} (h : Fr B S w w') (hr : w.heap[p]? = some o) (hn : ¬ S p) : w'.heap[p]? = some o := (h.keep p (Array.getElem?_eq_some_iff.1 hr).1 hn).trans hr
theorem row2D {w : World} {b : Nat} {T : TypeId} {v0 v1 : Value} (h : w.heap[b]? = some (.cells #[v0, v1] T (0, 0))) : w.cell? ⟨b, 0, none⟩ = some v0 ∧ w.cell? ⟨b, 1, none⟩ = some v1 := row2 h
def MoreI (w wr : World) (pm pn k : Nat) : Prop := ∃ (gm gn : GM) (sm sn : GS), gm.p = pm ∧ gn.p = pn ∧ GrOk w.heap.size wr gm sm ∧ GrOk w.heap.size wr gn sn ∧ Apart gn gm ∧ RelG sm sn ∧ sm.n ≤ k ∧ sm.c ≤ 4 * k ∧ sn.c ≤ 4 * k ∧ Below w.heap.size w wr
set_option maxRecDepth 20000 in
set_option maxHeartbeats 6400000 in
theorem more_walk (m r : Int) (A : Option Addr) (n c : Nat) (h : Nat → Bool) (f : Nat → Int) (w : World) (m0 : 0 ≤ m) (m1 : m ≤ 255) (r0 : 0 ≤ r) (r1 : r ≤ 255) (ha : RdBI w A n c h f) (hw : ∀ i, i < n → (Lit.int .i64 (f i)).wf = true) :
    Calls Try.prog 6 #[.int .u8 m, .int .u8 r, .slice A n c] w (Yes w) := by
  have Ha := hide ha
  have Hw := hide hw
  have hn63 : (n : Int) ≤ 9223372036854775807 := by have h1 := ha.1; have h2 := ha.2.1; simp only [maxLen] at h2; omega
  clear ha hw
  by_cases h60 : 60 < n
  · have hd : decide ((60 : Int) < (n : Int)) = true := decide_eq_true (by omega)
    go_enter Try.func6, Try.ntmps6
    go_wp2_with fail
    refine (alive35 _).mono ?_
    rintro e w2 ⟨rfl, hb2⟩
    go_wp2_with fail
    go_ret
    exact ⟨rfl, hb2⟩
  have hd : decide ((60 : Int) < (n : Int)) = false := decide_eq_false (by omega)
  have Hn : Hid (n ≤ 60) := by show _ ≤ _; omega
  clear h60
  have O1 := hide (heap_alloc_new w (.cells #[.int .i64 m, .slice none 0 0, .map none, .int .i64 0] 35))
  have O2 := hide (heap_alloc_newG (w.alloc (.cells #[.int .i64 m, .slice none 0 0, .map none, .int .i64 0] 35)) (.cells #[.int .i64 (m + r), .slice none 0 0, .map none, .int .i64 0] 35) (n := w.heap.size + 1) (by simp))
  have O3 := hide (keepRow O1.out ((Below.refl _ _).alloc (Nat.le_refl _) (.cells #[.int .i64 (m + r), .slice none 0 0, .map none, .int .i64 0] 35)))
  have E0 := hide (((Below.refl w.heap.size w).alloc (Nat.le_refl _) (.cells #[.int .i64 m, .slice none 0 0, .map none, .int .i64 0] 35)).alloc (by simp) (.cells #[.int .i64 (m + r), .slice none 0 0, .map none, .int .i64 0] 35))
  have Gm0 : Hid (GrOk w.heap.size _ (newM w.heap.size) (newS m)) := GrOk.new O3.out (Nat.le_refl _) (by omega) (by omega)
  have Gn0 : Hid (GrOk w.heap.size _ (newM (w.heap.size + 1)) (newS (m + r))) := GrOk.new O2.out (by omega) (by omega) (by omega)
  have A0 : Hid (Apart (newM (w.heap.size + 1)) (newM w.heap.size)) := Apart.new (by omega)
  clear O1 O2 O3
  go_enter Try.func6, Try.ntmps6
  go_wp2_with fail
  refine (new35 m (by omega) (by omega) _).mono ?_
  rintro e z ⟨rfl, rfl⟩
  go_wp2_with fail
  refine (new35 (m + r) (by omega) (by omega) _).mono ?_
  rintro e z ⟨rfl, rfl⟩
  rw [show (w.alloc (.cells #[.int .i64 m, .slice none 0 0, .map none, .int .i64 0] 35)).heap.size = w.heap.size + 1 by simp]
  generalize hz0 : ((w.alloc (.cells #[.int .i64 m, .slice none 0 0, .map none, .int .i64 0] 35)).alloc (.cells #[.int .i64 (m + r), .slice none 0 0, .map none, .int .i64 0] 35)) = z0 at *
  clear hz0
  have I0 : Hid (MoreI w z0 w.heap.size (w.heap.size + 1) 0) := ⟨newM w.heap.size, newM (w.heap.size + 1), newS m, newS (m + r), rfl, rfl, Gm0.out, Gn0.out, A0.out, ⟨rfl, rfl, rfl, Nat.le_refl _, by simp only [newS]; omega⟩, Nat.le_refl _, by simp [newS], by simp [newS], E0.out⟩
  clear Gm0 Gn0 A0 E0
  go_wp2_with fail
  go_loopw [32] (fun i wr => ∃ k : Nat, k ≤ n ∧ i = .int .i64 k ∧ MoreI w wr w.heap.size (w.heap.size + 1) k) (fun i _ => n - (intOf i).toNat)
  case atStart => exact ⟨0, Nat.zero_le _, rfl, I0.out⟩
  case round =>
    obtain ⟨k, hk, rfl, gm, gn, sm, sn, hpm, hpn, hgm, hgn, hap, hrel, hkn, hcm, hcn, hbl⟩ := hrel
    obtain ⟨pm, vm, mm⟩ := gm
    obtain ⟨pn, vn, mn⟩ := gn
    simp only at hpm hpn
    by_cases hlt : k < n
    · have hkn' : (k : Int) < (n : Int) := by omega
      obtain ⟨b, off, rfl, hc0, hc1⟩ := (Ha.out.below hbl).at_ hlt
      have Hid' := hide (Hw.out k hlt)
      have hn60 := Hn.out
      obtain ⟨id, hide'⟩ : ∃ id, id = f k := ⟨_, rfl⟩
      obtain ⟨kb, hkb⟩ : ∃ kb, kb = h k := ⟨_, rfl⟩
      rw [← hide'] at Hid' hc1
      rw [← hkb] at hc0
      clear hide' hkb
      have D0 := hide (heap_alloc_new wr (.cells #[.bool kb, .int .i64 id] 41))
      have al := (Below.refl wr.heap.size wr).alloc (Nat.le_refl _) (.cells #[.bool kb, .int .i64 id] 41)
      have Gm0 := hide (hgm.below al)
      have Gn0 := hide (hgn.below al)
      have A0 := hide hap
      have E0 := hide (hbl.alloc hbl.size (.cells #[.bool kb, .int .i64 id] 41))
      have Dm : Hid (¬ GM.fp ⟨pm, vm, mm⟩ wr.heap.size) := fun h => by have := (hgm.fp_lt h).2; omega
      have Dn : Hid (¬ GM.fp ⟨pn, vn, mn⟩ wr.heap.size) := fun h => by have := (hgn.fp_lt h).2; omega
      have HR := hide hrel
      have HK := hide (And.intro hkn (And.intro hcm hcn))
      have hfm := hgm.freen
      have hnx0 := hgm.nx0 id
      have Hnx := hide (fun x hx => (hnx0 x hx).1)
      obtain ⟨t0, t1⟩ := row2D D0.out
      clear hgm hgn hap hrel hkn hcm hcn al hnx0
      subst hpm
      subst hpn
      generalize hpd : wr.heap.size = pd at *
      cases kb with
      | false =>
        go_wp2_with fail
        generalize hz : wr.alloc (.cells #[.bool false, .int .i64 id] 41) = z0 at *
        have hlt0 := rowLt D0.out
        have GmD := hide (Gm0.out.at_ (w' := z0.drew) (fun _ _ => rfl))
        have GnD := hide (Gn0.out.at_ (w' := z0.drew) (fun _ _ => rfl))
        have ED := hide E0.out.drew
        have DD : Hid (z0.drew.heap[pd]? = some (.cells #[.bool false, .int .i64 id] 41 (0, 0))) := D0.out
        have hbe : ((sm.nx id).isNone != (sm.nx id).isNone) = false := by simp
        have hnm : sm.n + 1 ≤ 100 := by have := HK.out.1; omega
        have hnn : sn.n + 1 ≤ 100 := by have := HR.out.n; omega
        have hcm : sm.c + 1 ≤ 1000 := by have := HK.out.2.1; omega
        have hcn : sn.c + 1 ≤ 1000 := by have := HK.out.2.2; omega
        clear hz hpd hbl hc0 hc1
        go_region_held3 (fun W => W.cell? ⟨pd, 1, none⟩ = some (.int .i64 id)) ((first | exact (row2D D1.out).2 | exact (row2D D2.out).2 | (go_keep; done)))
          ((first
            | (go_at_call 24; (with_reducible refine (close35 GmD.out id Hid'.out hnm hcm ED.out.size).mono ?_); rintro e z1 ⟨rfl, ⟨q, v, mv⟩, hp, hg, hf, hl⟩; simp only at hp; subst hp; have Gm1 := hide hg; have Gn1 := hide (GnD.out.fr A0.out hf); have A1 := hide (A0.out.later GnD.out hl); have E1 := hide (ED.out.trans hf.below); have D1 := hide (fr_row hf DD.out Dm.out))
            | (go_at_call 24; (with_reducible refine (close35 Gn1.out id Hid'.out hnn hcn E1.out.size).mono ?_); rintro e z2 ⟨rfl, ⟨q', v', mv'⟩, hp', hg', hf', hl'⟩; simp only at hp'; subst hp'; rw [← HR.out.nx]; have Gn2 := hide hg'; have Gm2 := hide (Gm1.out.fr A1.out.symm hf'); have A2 := hide ((A1.out.symm.later Gm1.out hl').symm); have E2 := hide (E1.out.trans hf'.below); have D2 := hide (fr_row hf' D1.out Dn.out))))
        all_goals
          go_wp2_with fail
          go_roundw
          case rel =>
            obtain ⟨b1, b2⟩ := closeG_le sm id
            obtain ⟨b3, b4⟩ := closeG_le sn id
            obtain ⟨q1, q2, q3⟩ := HK.out
            exact ⟨k + 1, by omega, by go_num, _, _, _, _, rfl, rfl, Gm2.out, Gn2.out, A2.out, HR.out.close hfm id, by omega, by omega, by omega, E2.out⟩
          case measure => simp [intOf]; omega
      | true =>
        go_wp2_with fail
        generalize hz : wr.alloc (.cells #[.bool true, .int .i64 id] 41) = z0 at *
        clear hz hpd hbl hc0 hc1
        have hbc : sm.c ≤ 4 * k := HK.out.2.1
        have hbd : sn.c ≤ 4 * k := HK.out.2.2
        have hl1 := (keepG_le sm id).2
        have hl2 := (keepG_le sn id).2
        have hl3 := (keepG_le (keepG sm id) id).2
        have hl4 := (keepG_le sm id).1
        have hl5 := (keepG_le (keepG sm id) id).1
        go_wp2_with fail
        refine (can35 Gm0.out id Hid'.out).mono ?_
        rintro e w' ⟨rfl, rfl⟩
        cases hcan : canG sm id with
        | false =>
          go_wp2_with fail
          go_roundw
          case rel =>
            obtain ⟨q1, q2, q3⟩ := HK.out
            exact ⟨k + 1, by omega, by go_num, _, _, _, _, rfl, rfl, Gm0.out, Gn0.out, A0.out, HR.out, by omega, by omega, by omega, E0.out⟩
          case measure => simp [intOf]; omega
        | true =>
          go_wp2_with fail
          refine (can35 Gn0.out id Hid'.out).mono ?_
          rintro e w' ⟨rfl, rfl⟩
          rw [HR.out.can hcan]
          go_wp2_with fail
          refine (keep35 Gm0.out id Hid'.out (by omega) E0.out.size).mono ?_
          rintro e z1 ⟨rfl, hg, hf⟩
          rw [hcan]
          have Gm1 := hide hg
          have Gn1 := hide (Gn0.out.fr A0.out hf)
          have A1 := hide (A0.out)
          have E1 := hide (E0.out.trans hf.below)
          have D1 := hide (fr_row hf D0.out Dm.out)
          clear t0 t1
          obtain ⟨t0, t1⟩ := row2D D1.out
          clear hg hf D0 Gm0 Gn0 A0 E0
          go_wp2_with fail
          refine (keep35 Gn1.out id Hid'.out (by omega) E1.out.size).mono ?_
          rintro e z2 ⟨rfl, hg, hf⟩
          rw [HR.out.can hcan]
          have Gn2 := hide hg
          have Gm2 := hide (Gm1.out.fr A1.out.symm hf)
          have A2 := hide (A1.out)
          have E2 := hide (E1.out.trans hf.below)
          have D2 := hide (fr_row hf D1.out Dn.out)
          clear t0 t1
          obtain ⟨t0, t1⟩ := row2D D2.out
          clear hg hf D1 Gn1 Gm1 A1 E1
          obtain ⟨e1, e2, e3⟩ := keep_can hcan Gm2.out.freen
          have hr1 := HR.out.keep hcan Hnx.out
          have hr2 := hr1.again e1 e2 Gm2.out.freen
          have HR2 := hide hr2
          have E3 := hide e3
          clear e1 e2 e3 hr1 hr2
          go_wp2_with fail
          refine (can35 Gm2.out id Hid'.out).mono ?_
          rintro e w' ⟨rfl, rfl⟩
          rw [E3.out]
          go_wp2_with fail
          refine (keep35 Gm2.out id Hid'.out (by omega) E2.out.size).mono ?_
          rintro e z3 ⟨rfl, hg, hf⟩
          rw [E3.out]
          have Gm3 := hide hg
          have Gn3 := hide (Gn2.out.fr A2.out hf)
          have A3 := hide (A2.out)
          have E3 := hide (E2.out.trans hf.below)
          have D3 := hide (fr_row hf D2.out Dm.out)
          clear t0 t1
          obtain ⟨t0, t1⟩ := row2D D3.out
          clear hg hf D2 Gm2 Gn2 A2 E2
          go_wp2_with fail
          go_roundw
          case rel =>
            obtain ⟨q1, q2, q3⟩ := HK.out
            exact ⟨k + 1, by omega, by go_num, _, _, _, _, rfl, rfl, Gm3.out, Gn3.out, A3.out, HR2.out, by omega, by omega, by omega, E3.out⟩
          case measure => simp [intOf]; omega
    · obtain rfl : k = n := by omega
      clear hpm hpn hgm hgn hap hrel hkn hcm hcn
      go_wp2_with fail
      refine (alive35 _).mono ?_
      rintro e w2 ⟨rfl, hb2⟩
      go_wp2_with fail
      go_ret
      exact ⟨rfl, hbl.of hb2⟩
end Go.Proofs.Ytnjmkbaddeeniaa
