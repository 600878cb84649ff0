/- Layer 35: a map of integers told by a function; the memory of closed streams, as blocks. -/
import Derived.Test.YtnjmkbaddeeniaaMA
import Derived.Test.YtnjmkbaddeeniaaVal
import Derived.Maps.OwnSet
import Derived.Maps.OwnOps
namespace Go.Proofs.Ytnjmkbaddeeniaa
open Go.RowKit Go.Maps

theorem mapI_keyed : Keyed Try.prog 3 := int_keyed Try.underlying3
theorem mapI_zero (w : World) : (zeroValue 3).run Try.prog w = .ok (.int .i64 0) w := by kernel_rfl
def updI (f : Int → Option Int) (k : Int) (v : Int) : Int → Option Int := fun x => if x = k then some v else f x
/-- Block b is a map of at most n entries that holds f. -/
def MpI (w : World) (b n : Nat) (f : Int → Option Int) : Prop :=
  ∃ D : DataW Unit, w.ownsMap Try.prog 3 (plainElem Try.prog 3) b n D ∧ Maps.IsMap D ∧ ∀ k : Int, (Lit.int .i64 k).wf = true → Maps.has D (.int .i64 k) = (f k).isSome ∧ D.atKey (.int .i64 k) (.lit (.int .i64 0)) = .lit (.int .i64 ((f k).getD 0))
theorem MpI.made (w : World) : MpI (w.alloc (.map #[] 0)) w.heap.size 0 (fun _ => none) :=
  ⟨.map [], World.ownsMap_made _ _ _ _, Maps.isMap_empty, fun _ _ => ⟨rfl, rfl⟩⟩
theorem MpI.at_block {w w' : World} {b n : Nat} {f : Int → Option Int} (h : MpI w b n f) (hb : w'.heap[b]? = w.heap[b]?) : MpI w' b n f := by
  obtain ⟨D, ⟨es, clock, h1, h2⟩, h3⟩ := h
  exact ⟨D, ⟨es, clock, hb.trans h1, h2⟩, h3⟩
theorem MpI.lt {w : World} {b n : Nat} {f : Int → Option Int} (h : MpI w b n f) : b < w.heap.size := by
  obtain ⟨D, h, _⟩ := h
  exact h.lt
section
variable {w : World} {ops : Array Oper} {rest : List Oper} {o : Oper} {a : Act} {Q : Exit → Act → World → Prop}
theorem wp_lookI (hg : o.guard = none) (m x : Operand) (hop : o.op = Op.lookup 33 m x true) (b n : Nat) (f : Int → Option Int) (hm : a.eval m = .map (some b)) (h : MpI w b n f) (k : Int) (hx : a.eval x = .int .i64 k) (hk : (Lit.int .i64 k).wf = true)
    (hK : wpList Try.prog ops Q rest (a.put o.dst (.tuple #[.int .i64 ((f k).getD 0), .bool (f k).isSome])) w) : wpList Try.prog ops Q (o :: rest) a w := by
  obtain ⟨D, h1, _, h3⟩ := h
  obtain ⟨h4, h5⟩ := h3 k hk
  refine wpList_lookup_own_ok_int _ hg m x 33 hop 3 3 .i64 mapI_keyed Try.underlying33 Try.underlying3 (mapI_zero w) b n D hm h1 (.int .i64 k) (.int .i64 k) hx (keyOf_int_mk Try.underlying3 hk) ?_
  intro c hc _
  rw [h5] at hc
  injection hc with hc
  injection hc with _ hc
  rw [h4, ← hc]
  exact hK
theorem wp_look1 (hg : o.guard = none) (m x : Operand) (hop : o.op = Op.lookup 33 m x false) (b n : Nat) (f : Int → Option Int) (hm : a.eval m = .map (some b)) (h : MpI w b n f) (k : Int) (hx : a.eval x = .int .i64 k) (hk : (Lit.int .i64 k).wf = true)
    (hK : wpList Try.prog ops Q rest (a.put o.dst (.int .i64 ((f k).getD 0))) w) : wpList Try.prog ops Q (o :: rest) a w := by
  obtain ⟨D, h1, _, h3⟩ := h
  obtain ⟨h4, h5⟩ := h3 k hk
  refine wpList_lookup_own_int _ hg m x 33 hop 3 3 .i64 mapI_keyed Try.underlying33 Try.underlying3 (mapI_zero w) b n D hm h1 (.int .i64 k) (.int .i64 k) hx (keyOf_int_mk Try.underlying3 hk) ?_
  intro c hc _
  rw [h5] at hc
  injection hc with hc
  injection hc with _ hc
  rw [← hc]
  exact hK
theorem wp_updI (hg : o.guard = none) (m x v : Operand) (hop : o.op = Op.mapUpdate 33 m x v) (b n : Nat) (f : Int → Option Int) (hm : a.eval m = .map (some b)) (h : MpI w b n f) (hn : n < maxLen) (k y : Int) (hx : a.eval x = .int .i64 k) (hk : (Lit.int .i64 k).wf = true) (hv : a.eval v = .int .i64 y) (hy : (Lit.int .i64 y).wf = true)
    (hK : ∀ w', MpI w' b (n + 1) (updI f k y) → w.grownBy w' (some b) → wpList Try.prog ops Q rest (a.put o.dst undef) w') : wpList Try.prog ops Q (o :: rest) a w := by
  obtain ⟨D, h1, h2, h3⟩ := h
  refine wpList_mapUpdate_own _ hg m x v 33 hop 3 3 mapI_keyed Try.underlying33 _ b n D hm h1 hn (.int .i64 k) (.int .i64 y) (.int .i64 k) hx hv (keyOf_int_mk Try.underlying3 hk) _ [] (plainElem_int Try.underlying3 hy) ?_
  intro w' h4 h5
  refine hK w' ⟨_, h4, h2.put _ _, fun k' hk' => ?_⟩ h5
  unfold updI
  by_cases e : k' = k
  · subst e
    rw [if_pos rfl, Maps.has_put_same h2 (by simp [Go.WideAt.IsKeyLit]), Maps.atKey_put_same h2 (by simp [Go.WideAt.IsKeyLit])]
    exact ⟨rfl, rfl⟩
  · have hne : (Lit.int .i64 k') ≠ (Lit.int .i64 k) := fun h => e (by injection h)
    rw [if_neg e, Maps.has_put_other hne, Maps.atKey_put_other hne]
    exact h3 k' hk'
end

/-- The memory's state. -/
structure GS where
  most : Int
  n : Nat
  f : Nat → Int
  nx : Int → Option Int
  free : Nat
  c : Nat
/-- The memory's blocks: its struct's, its row, its map. -/
structure GM where
  p : Nat
  v : Value
  mv : Value
def GM.fp (g : GM) (i : Nat) : Prop := i = g.p ∨ g.v.ownBlock = some i ∨ g.mv = .map (some i)
def rowG (s : GS) (g : GM) : Obj := .cells #[.int .i64 s.most, g.v, g.mv, .int .i64 s.free] 35 (0, 0)
structure GrOk (B : Nat) (w : World) (g : GM) (s : GS) : Prop where
  row : w.heap[g.p]? = some (rowG s g)
  hp : B ≤ g.p
  own : Own .i64 3 B w g.v s.n s.f
  map : (g.mv = .map none ∧ s.n = 0 ∧ ∀ k, s.nx k = none) ∨ ∃ bm, g.mv = .map (some bm) ∧ B ≤ bm ∧ MpI w bm s.c s.nx
  n100 : s.n ≤ 100
  c1000 : s.c ≤ 1000
  most0 : 0 ≤ s.most
  most1 : s.most ≤ 100000
  freen : s.free ≤ s.n
  f0 : ∀ i, i < s.n → 0 ≤ s.f i ∧ s.f i ≤ (s.c : Int)
  nx0 : ∀ k x, s.nx k = some x → 0 ≤ x ∧ x ≤ (s.n : Int)
theorem GrOk.fp_lt {B : Nat} {w : World} {g : GM} {s : GS} (h : GrOk B w g s) {i : Nat} (hi : g.fp i) : B ≤ i ∧ i < w.heap.size := by
  rcases hi with rfl | hi | hi
  · exact ⟨h.hp, (Array.getElem?_eq_some_iff.1 h.row).1⟩
  · exact World.ownsRow.lt h.own i hi
  · rcases h.map with ⟨h1, _⟩ | ⟨bm, h1, h2, h3⟩
    · rw [h1] at hi; cases hi
    · rw [h1] at hi
      injection hi with hi
      injection hi with hi
      subst hi
      exact ⟨h2, h3.lt⟩
theorem own_at {k : IntKind} {e : TypeId} {B : Nat} {w w' : World} {v : Value} {n : Nat} {f : Nat → Int} (h : Own k e B w v n f) (hb : ∀ i, v.ownBlock = some i → w'.heap[i]? = w.heap[i]?) : Own k e B w' v n f := by
  refine ⟨h.1, ?_⟩
  rcases h.2 with h2 | ⟨g, cap, cur, hv, hg, hh, r⟩
  · exact .inl h2
  · exact .inr ⟨g, cap, cur, hv, hg, (hb g (by rw [hv]; rfl)).trans hh, r⟩
theorem GrOk.at_ {B : Nat} {w w' : World} {g : GM} {s : GS} (h : GrOk B w g s) (hb : ∀ i, g.fp i → w'.heap[i]? = w.heap[i]?) : GrOk B w' g s :=
  { h with
    row := (hb _ (.inl rfl)).trans h.row
    own := own_at h.own fun i hi => hb i (.inr (.inl hi))
    map := h.map.imp id fun ⟨bm, h1, h2, h3⟩ => ⟨bm, h1, h2, h3.at_block (hb bm (.inr (.inr h1)))⟩ }
theorem GrOk.below {B : Nat} {w w' : World} {g : GM} {s : GS} (h : GrOk B w g s) (hb : Below w.heap.size w w') : GrOk B w' g s := h.at_ fun i hi => hb.block i (h.fp_lt hi).2
/-- What turns of a world when a memory's blocks alone are written. -/
structure Fr (B : Nat) (S : Nat → Prop) (w w' : World) : Prop where
  below : Below B w w'
  keep : ∀ i, i < w.heap.size → ¬ S i → w'.heap[i]? = w.heap[i]?
def Apart (g h : GM) : Prop := ∀ i, g.fp i → ¬ h.fp i
theorem GrOk.fr {B : Nat} {w w' : World} {g h : GM} {s : GS} (k : GrOk B w g s) (ha : Apart g h) (hf : Fr B h.fp w w') : GrOk B w' g s := k.at_ fun i hi => hf.keep i (k.fp_lt hi).2 (ha i hi)
def Later2 (w : World) (g g' : GM) : Prop := ∀ i, g'.fp i → g.fp i ∨ w.heap.size ≤ i
theorem Apart.later {B : Nat} {w : World} {g h h' : GM} {s : GS} (ha : Apart g h) (k : GrOk B w g s) (hl : Later2 w h h') : Apart g h' := fun i hi hi' => by
  rcases hl i hi' with h1 | h1
  · exact ha i hi h1
  · have := (k.fp_lt hi).2
    omega
theorem Apart.symm {g h : GM} (ha : Apart g h) : Apart h g := fun i hi hi' => ha i hi' hi
end Go.Proofs.Ytnjmkbaddeeniaa
