/- Layer 36: a map keyed by eight bytes, told by a function. -/
import Derived.Test.YteikpdolickkaaaMA
import Derived.Test.YteikpdolickkaaaVal
import Derived.Maps.OwnSet
import Derived.Maps.OwnOps
import Derived.WideKeyArr
import Derived.WideKeyEntry
namespace Go.Proofs.Yteikpdolickkaaa
open Go.RowKit Go.Maps Go.WideMaps
open Go.ChangeMaps (heap_setBlock_same)

theorem arr36 : ArrKey Try.prog 216 5 8 := ⟨Try.underlying216, by kernel_rfl, by kernel_rfl, by kernel_rfl⟩
theorem law36 : KeyLaw Try.prog 216 := arr36.law
theorem keyed36 : Keyed Try.prog 216 := Keyed.of_law law36
theorem zero36 (w : World) : (zeroValue 3).run Try.prog w = .ok (.int .i64 0) w := by kernel_rfl
/-- Eight bytes as a key. -/
def ky (g : Nat → Int) : Value := .agg #[.int .u8 (g 0), .int .u8 (g 1), .int .u8 (g 2), .int .u8 (g 3), .int .u8 (g 4), .int .u8 (g 5), .int .u8 (g 6), .int .u8 (g 7)]
theorem ky_inj {g h : Nat → Int} (e : ky g = ky h) : ∀ i, i < 8 → g i = h i := by
  unfold ky at e
  injection e with e
  simp at e
  obtain ⟨e0, e1, e2, e3, e4, e5, e6, e7⟩ := e
  intro i hi
  rcases i with _ | _ | _ | _ | _ | _ | _ | _ | i <;> first | assumption | omega
theorem ky_congr {g h : Nat → Int} (e : ∀ i, i < 8 → g i = h i) : ky g = ky h := by
  unfold ky
  rw [e 0 (by omega), e 1 (by omega), e 2 (by omega), e 3 (by omega), e 4 (by omega), e 5 (by omega), e 6 (by omega), e 7 (by omega)]
theorem ky_lit {g : Nat → Int} (h : Byt 8 g) : ∃ l, keyOf Try.prog 216 (ky g) = some l := by
  have wf : ∀ i, i < 8 → (Lit.int .u8 (g i)).wf = true := fun i hi => WalkArith.wf_u8 (h i hi)
  have w0 := wf 0 (by omega)
  have w1 := wf 1 (by omega)
  have w2 := wf 2 (by omega)
  have w3 := wf 3 (by omega)
  have w4 := wf 4 (by omega)
  have w5 := wf 5 (by omega)
  have w6 := wf 6 (by omega)
  have w7 := wf 7 (by omega)
  have hk : Program.keyType Try.prog 216 = true := by kernel_rfl
  obtain ⟨m0, hm0⟩ : ∃ m, Try.prog.types.size = m + 1 := ⟨Try.prog.types.size - 1, by kernel_rfl⟩
  have hl : ∃ ls, Try.prog.keyLits (Try.prog.types.size + 1) 216 (ky g).cells.toList = some ls := by
    rw [hm0]
    unfold Program.keyLits
    simp only [Try.underlying216]
    rw [if_pos (by rw [arr36.size]; rfl), arr36.one]
    simp only [Program.keyLits, Try.underlying5, ky, Value.cells, List.range, List.range.loop, List.mapM_cons, List.mapM_nil]
    simp [w0, w1, w2, w3, w4, w5, w6, w7]
  obtain ⟨ls, hls⟩ := hl
  refine ⟨.string (keyBytes ls), ?_⟩
  unfold keyOf
  simp only [Try.underlying216]
  rw [if_pos (by simp [hk, Value.formed, Try.underlying216, arr36.size, ky]), hls]
  rfl
/-- The same as a list. -/
def kl (g : Nat → Int) : List Int := [g 0, g 1, g 2, g 3, g 4, g 5, g 6, g 7]
theorem kl_inj {g h : Nat → Int} (e : kl g = kl h) : ∀ i, i < 8 → g i = h i := by
  unfold kl at e
  simp at e
  obtain ⟨e0, e1, e2, e3, e4, e5, e6, e7⟩ := e
  intro i hi
  rcases i with _ | _ | _ | _ | _ | _ | _ | _ | i <;> first | assumption | omega
theorem kl_congr {g h : Nat → Int} (e : ∀ i, i < 8 → g i = h i) : kl g = kl h := by
  unfold kl
  rw [e 0 (by omega), e 1 (by omega), e 2 (by omega), e 3 (by omega), e 4 (by omega), e 5 (by omega), e 6 (by omega), e 7 (by omega)]
def updB (f : List Int → Int) (k : List Int) (v : Int) : List Int → Int := fun x => if x = k then v else f x
/-- Block b is a map of at most n entries that counts f. -/
def MpB (w : World) (b n : Nat) (f : List Int → Int) : Prop :=
  ∃ D : DataW Unit, w.ownsMap Try.prog 216 (plainElem Try.prog 3) b n D ∧ Maps.IsMap D ∧ ∀ (g : Nat → Int) (l : Lit), keyOf Try.prog 216 (ky g) = some l → D.atKey l (.lit (.int .i64 0)) = .lit (.int .i64 (f (kl g)))
theorem MpB.made (w : World) : MpB (w.alloc (.map #[] 0)) w.heap.size 0 (fun _ => 0) :=
  ⟨.map [], World.ownsMap_made _ _ _ _, Maps.isMap_empty, fun _ _ _ => rfl⟩
theorem MpB.at_block {w w' : World} {b n : Nat} {f : List Int → Int} (h : MpB w b n f) (hb : w'.heap[b]? = w.heap[b]?) : MpB w' b n f := by
  obtain ⟨D, ⟨es, clock, h1, h2⟩, h3⟩ := h
  exact ⟨D, ⟨es, clock, hb.trans h1, h2⟩, h3⟩
theorem MpB.lt {w : World} {b n : Nat} {f : List Int → Int} (h : MpB w b n f) : b < w.heap.size := by
  obtain ⟨D, h, _⟩ := h
  exact h.lt
theorem MpB.le {w : World} {b n m : Nat} {f : List Int → Int} (h : MpB w b n f) (hnm : n ≤ m) : MpB w b m f := by
  obtain ⟨D, ⟨es, clock, h1, h2, h4, h5⟩, h3⟩ := h
  exact ⟨D, ⟨es, clock, h1, h2, by omega, h5⟩, h3⟩
section
variable {w : World} {ops : Array Oper} {rest : List Oper} {o : Oper} {a : Act} {Q : Exit → Act → World → Prop}
theorem wp_lookB (hg : o.guard = none) (m x : Operand) (hop : o.op = Op.lookup 213 m x false) (b n : Nat) (f : List Int → Int) (hm : a.eval m = .map (some b)) (h : MpB w b n f) (g : Nat → Int) (hx : a.eval x = ky g) (hk : Byt 8 g)
    (hK : wpList Try.prog ops Q rest (a.put o.dst (.int .i64 (f (kl g)))) w) : wpList Try.prog ops Q (o :: rest) a w := by
  obtain ⟨D, h1, _, h3⟩ := h
  obtain ⟨l, hl⟩ := ky_lit hk
  have h5 := h3 _ l hl
  refine wpList_lookup_own_int _ hg m x 213 hop 216 3 .i64 keyed36 Try.underlying213 Try.underlying3 (zero36 w) b n D hm h1 (ky g) l hx hl ?_
  intro c hc _
  rw [h5] at hc
  injection hc with hc
  injection hc with _ hc
  rw [← hc]
  exact hK
theorem wp_delB (hg : o.guard = none) (m x : Operand) (hop : o.op = Op.call { callee := Callee.builtin Builtin.delete, args := #[m, x], argTypes := #[213, 216] }) (b n : Nat) (f : List Int → Int) (hm : a.eval m = .map (some b)) (h : MpB w b n f) (g : Nat → Int) (hx : a.eval x = ky g) (hk : Byt 8 g) (h0 : f (kl g) = 0)
    (hK : ∀ w', MpB w' b n f → w.grownBy w' (some b) → wpList Try.prog ops Q rest (a.put o.dst (.tuple #[])) w') : wpList Try.prog ops Q (o :: rest) a w := by
  obtain ⟨D, h1, h2, h3⟩ := h
  obtain ⟨l, hl⟩ := ky_lit hk
  refine wpList_delete_own _ hg m x _ _ hop 3 keyed36 Try.underlying213 _ b n D hm h1 (ky g) l hx hl ?_
  intro w' h4 h5
  refine hK w' ⟨_, h4, h2.del _, fun v l' hv => ?_⟩ h5.grown
  by_cases e : l' = l
  · subst e
    rw [Maps.atKey_del_same, kl_congr (ky_inj (keyed36.inj hv hl)), h0]
  · rw [Maps.atKey_del_other e]
    exact h3 v l' hv
end
set_option maxRecDepth 8000 in
theorem mid36 {w : World} {b n : Nat} {f : List Int → Int} (h : MpB w b n f) (hn : n < maxLen) {g : Nat → Int} (hk : Byt 8 g) {v : Value} {w1 : World}
    (hrun : (Instr.mapEntry 213 (.map (some b)) (ky g)).run Try.prog w = .ok v w1) : MpB w1 b (n + 1) f := by
  obtain ⟨D, h1, h2, h3⟩ := h
  obtain ⟨l, hl⟩ := ky_lit hk
  have h1' := h1
  obtain ⟨es, clock, hb, F, hs, hD⟩ := h1'
  have ht := Try.underlying213
  rcases law36.find w hl es.toList F.keys with ⟨e1, e2⟩ | ⟨j, e0, e1, e2, e3⟩
  · obtain ⟨w', r1, r2, r3⟩ := h1.store keyed36 ht hn hl (plainElem_int Try.underlying3 (show (Lit.int .i64 0).wf = true from by decide))
    have hu : (Instr.mapUpdate 213 (.map (some b)) (ky g) (.int .i64 0)).run Try.prog w = .ok () w1 := by
      simp [Instr.mapEntry, run_underlying ht, MapKept.run_getObj_map hb, law36.check w false hl, e1, zero36, MapKept.run_setObj_map _ hb, Result.andThen] at hrun
      simp [Instr.mapUpdate, run_underlying ht, MapKept.run_getObj_map hb, law36.check w false hl, e1, MapKept.run_setObj_map _ hb, Result.andThen]
      exact hrun.2
    rw [hu] at r1
    injection r1 with _ r1
    subst r1
    have h0 : f (kl g) = 0 := by
      have a1 := h3 g l hl
      rw [hD, WideElems.atKey_none law36 F hl e2] at a1
      injection a1 with a1
      injection a1 with _ a1
      exact a1.symm
    refine ⟨_, r2, h2.put _ _, fun g' l' hv => ?_⟩
    by_cases e : l' = l
    · subst e
      rw [Maps.atKey_put_same h2 (keyed36.key hl), kl_congr (ky_inj (keyed36.inj hv hl)), h0]
    · rw [Maps.atKey_put_other e]
      exact h3 g' l' hv
  · have hj : es[j]? = some e0 := by simpa using e2
    have hsame : es.modify j (fun x => { x with key := ky g }) = es := by
      apply Array.ext'
      rw [Array.toList_modify, ChangeMaps.modify_eq_set _ _ _ _ e2, show ({ e0 with key := ky g } : MapEntry) = e0 by rw [← e3]]
      exact WideElems.set_self _ _ _ e2
    simp [Instr.mapEntry, run_underlying ht, MapKept.run_getObj_map hb, law36.check w false hl, e1, hj, e3, law36.stays w hl, hsame, MapKept.run_setObj_map _ hb, Result.andThen] at hrun
    refine MpB.le (MpB.at_block (w := w) ⟨D, h1, h2, h3⟩ ?_) (Nat.le_succ n)
    rw [← hrun.2, hb]
    exact heap_setBlock_same hb _
theorem ent36 {w : World} {b n : Nat} {f : List Int → Int} (h : MpB w b n f) (hn : n < maxLen) {g : Nat → Int} (hk : Byt 8 g) :
    ∃ (v0 : Value) (st : Nat) (w1 : World), (Instr.mapEntry 213 (.map (some b)) (ky g)).run Try.prog w = .ok (.tuple #[v0, goInt st]) w1 ∧ w.grownBy w1 (some b) ∧
      ∀ w2 : World, w2.heap[b]? = w1.heap[b]? → ∀ y : Int, (Lit.int .i64 y).wf = true → ∃ w3, (Instr.entryStore 213 (.map (some b)) (goInt st) (.int .i64 y)).run Try.prog w2 = .ok () w3 ∧ MpB w3 b (n + 1) (updB f (kl g) y) ∧ w2.grownBy w3 (some b) := by
  obtain ⟨D, h1, h2, h3⟩ := h
  obtain ⟨l, hl⟩ := ky_lit hk
  have h1' := h1
  obtain ⟨es, clock, hb, F, hs, hD⟩ := h1'
  obtain ⟨v0, st, es1, clock1, e1, _, e3⟩ := WideElems.entry_then_store law36 Try.underlying213 zero36 hb F hl
  refine ⟨v0, st, _, e1, World.mapTurned.grown ⟨es, clock, es1, clock1, hb, rfl⟩, fun w2 hw2 y hy => ?_⟩
  have hb2 := hw2.trans (heap_setBlock_same hb _)
  obtain ⟨es', clock', s1, s2⟩ := e3 w2 (.int .i64 y) hb2
  obtain ⟨w', r1, r2, r3⟩ := h1.store keyed36 Try.underlying213 hn hl (plainElem_int Try.underlying3 hy)
  have hw' : ChangeMaps.setBlock w b (.map es' clock') = w' := by
    rw [s2] at r1
    injection r1
  have hh : w'.heap[b]? = some (.map es' clock') := by
    rw [← hw']
    exact heap_setBlock_same hb _
  refine ⟨_, s1, MpB.at_block (w := w') ⟨_, r2, h2.put _ _, fun g' l' hv => ?_⟩ (by rw [hh]; exact heap_setBlock_same hb2 _), World.mapTurned.grown ⟨es1, clock1, es', clock', hb2, rfl⟩⟩
  unfold updB
  by_cases e : l' = l
  · subst e
    rw [Maps.atKey_put_same h2 (keyed36.key hl), if_pos (kl_congr (ky_inj (keyed36.inj hv hl)))]
  · rw [Maps.atKey_put_other e, if_neg ?_]
    · exact h3 g' l' hv
    · intro e2
      rw [ky_congr (kl_inj e2), hl] at hv
      exact e (Option.some.inj hv).symm
set_option maxRecDepth 8000 in
theorem look36 {w : World} {b n : Nat} {f : List Int → Int} (h : MpB w b n f) {g : Nat → Int} (hk : Byt 8 g) : (Instr.lookup 213 (.map (some b)) (ky g) false).run Try.prog w = .ok (.int .i64 (f (kl g))) w := by
  obtain ⟨D, h1, _, h3⟩ := h
  obtain ⟨l, hl⟩ := ky_lit hk
  have h5 := h3 _ l hl
  obtain ⟨c, hrun, hc, _⟩ := h1.lookup_int keyed36 Try.underlying213 Try.underlying3 (zero36 w) hl
  rw [h5] at hc
  injection hc with hc
  injection hc with _ hc
  subst hc
  exact hrun
end Go.Proofs.Yteikpdolickkaaa
