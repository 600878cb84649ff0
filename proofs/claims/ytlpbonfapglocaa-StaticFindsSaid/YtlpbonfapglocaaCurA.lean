/- Layer 2's cursor, its bytes' place under a name: what a number is taken from stays where it was. -/
import Derived.Test.YtlpbonfapglocaaCur2
import Derived.Laws.ResultCell
namespace Go.Proofs.Ytlpbonfapglocaa
open Go.RowKit

theorem keepRow {w w' : World} {b : Nat} {cs : Array Value} {T : TypeId} (h : w.heap[b]? = some (.cells cs T (0, 0))) (hb : Below w.heap.size w w') : w'.heap[b]? = some (.cells cs T (0, 0)) :=
  (hb.block b (Array.getElem?_eq_some_iff.1 h).1).trans h
theorem rowLt {w : World} {b : Nat} {o : Obj} (h : w.heap[b]? = some o) : b < w.heap.size := (Array.getElem?_eq_some_iff.1 h).1
theorem keepGrown {w w' : World} {b : Nat} {cs : Array Value} {T : TypeId} {v : Value} (h : w.heap[b]? = some (.cells cs T (0, 0))) (hg : w.grownBy w' v.ownBlock) (hne : v.ownBlock ≠ some b) : w'.heap[b]? = some (.cells cs T (0, 0)) :=
  (hg.block b (Array.getElem?_eq_some_iff.1 h).1 (fun e => hne e.symm)).trans h
theorem keepOne {w w' : World} {b p : Nat} {cs : Array Value} {T : TypeId} (h : w.heap[b]? = some (.cells cs T (0, 0))) (hg : w.grownBy w' (some p)) (hne : b ≠ p) : w'.heap[b]? = some (.cells cs T (0, 0)) :=
  (hg.block b (Array.getElem?_eq_some_iff.1 h).1 (fun e => hne (Option.some.inj e))).trans h
theorem grown_set (w : World) (p j : Nat) (u : Value) : w.grownBy (w.setCell ⟨p, j, none⟩ u) (some p) := grown_cell w w (Below.refl _ _) p j u
theorem row2 {w : World} {b : Nat} {T : TypeId} {v0 v1 : Value} (h : w.heap[b]? = some (.cells #[v0, v1] T (0, 0))) : w.cell? ⟨b, 0, none⟩ = some v0 ∧ w.cell? ⟨b, 1, none⟩ = some v1 := by
  refine ⟨?_, ?_⟩
  · rw [cell_of_row w b 0 _ _ _ h]; rfl
  · rw [cell_of_row w b 1 _ _ _ h]; rfl
theorem row5 {w : World} {b : Nat} {T : TypeId} {v0 v1 v2 v3 v4 : Value} (h : w.heap[b]? = some (.cells #[v0, v1, v2, v3, v4] T (0, 0))) :
    w.cell? ⟨b, 0, none⟩ = some v0 ∧ w.cell? ⟨b, 1, none⟩ = some v1 ∧ w.cell? ⟨b, 2, none⟩ = some v2 ∧ w.cell? ⟨b, 3, none⟩ = some v3 ∧ w.cell? ⟨b, 4, none⟩ = some v4 := by
  refine ⟨?_, ?_, ?_, ?_, ?_⟩
  · rw [cell_of_row w b 0 _ _ _ h]; rfl
  · rw [cell_of_row w b 1 _ _ _ h]; rfl
  · rw [cell_of_row w b 2 _ _ _ h]; rfl
  · rw [cell_of_row w b 3 _ _ _ h]; rfl
  · rw [cell_of_row w b 4 _ _ _ h]; rfl
theorem row6 {w : World} {b : Nat} {T : TypeId} {v0 v1 v2 v3 v4 v5 : Value} (h : w.heap[b]? = some (.cells #[v0, v1, v2, v3, v4, v5] T (0, 0))) :
    w.cell? ⟨b, 0, none⟩ = some v0 ∧ w.cell? ⟨b, 1, none⟩ = some v1 ∧ w.cell? ⟨b, 2, none⟩ = some v2 ∧ w.cell? ⟨b, 3, none⟩ = some v3 ∧ w.cell? ⟨b, 4, none⟩ = some v4 ∧ w.cell? ⟨b, 5, none⟩ = some v5 := by
  refine ⟨?_, ?_, ?_, ?_, ?_, ?_⟩
  · rw [cell_of_row w b 0 _ _ _ h]; rfl
  · rw [cell_of_row w b 1 _ _ _ h]; rfl
  · rw [cell_of_row w b 2 _ _ _ h]; rfl
  · rw [cell_of_row w b 3 _ _ _ h]; rfl
  · rw [cell_of_row w b 4 _ _ _ h]; rfl
  · rw [cell_of_row w b 5 _ _ _ h]; rfl
theorem setRow (w : World) (g j : Nat) (u : Value) {cs : Array Value} {T : TypeId} (h : w.heap[g]? = some (.cells cs T (0, 0))) : (w.setCell ⟨g, j, none⟩ u).heap[g]? = some (.cells (cs.setIfInBounds j u) T (0, 0)) :=
  heap_setCell_same w g j _ _ _ h
theorem frozenRow {w : World} {g : Nat} {cs : Array Value} {T : TypeId} (h : w.heap[g]? = some (.cells cs T (0, 0))) (j : Nat) : w.frozen? ⟨g, j, none⟩ = false := frozen_of_row w g j _ _ h
theorem Own.ne {k : IntKind} {e : TypeId} {B b : Nat} {w : World} {v : Value} {n : Nat} {f : Nat → Int} (h : Own k e B w v n f) (hb : b < B) : v.ownBlock ≠ some b := fun he => by
  have := (World.ownsRow.lt h b he).1
  omega
theorem Own.rdS {k : IntKind} {e : TypeId} {B : Nat} {w : World} {A : Option Addr} {n c : Nat} {f : Nat → Int} (h : Own k e B w (.slice A n c) n f) : Rd k w A n c f := by
  obtain ⟨A', c', e', h4, _⟩ := h.rd
  injection e' with e1 _ e2
  subst e1
  subst e2
  exact h4
theorem Own.baseB {k : IntKind} {e : TypeId} {B B' : Nat} {w : World} {v : Value} {n : Nat} {f : Nat → Int} (h : Own k e B w v n f) (hB : B' ≤ B) : Own k e B' w v n f := Own.baseT h hB

/-- A cursor at block p whose n bytes f lie at A; t were taken. -/
def CurA (w : World) (p : Nat) (A : Option Addr) (c n : Nat) (f : Nat → Int) (t : Nat) : Prop :=
  w.heap[p]? = some (.cells #[.slice A n c, .int .i64 (t : Int)] 102 (0, 0)) ∧ Rd .u8 w A n c f ∧ (∀ a, A = some a → a.block ≠ p) ∧ t ≤ n ∧ n ≤ 100000000
theorem CurA.cur {w : World} {p c n t : Nat} {A : Option Addr} {f : Nat → Int} (h : CurA w p A c n f t) : Cur w p n f t := ⟨A, c, h⟩
theorem CurA.lt {w : World} {p c n t : Nat} {A : Option Addr} {f : Nat → Int} (h : CurA w p A c n f t) : p < w.heap.size := h.cur.lt
theorem CurA.below {w w' : World} {p c n t : Nat} {A : Option Addr} {f : Nat → Int} (h : CurA w p A c n f t) (hb : Below w.heap.size w w') : CurA w' p A c n f t :=
  ⟨keepRow h.1 hb, h.2.1.below hb, h.2.2⟩
theorem CurA.other {w w' : World} {p c n t g : Nat} {A : Option Addr} {f : Nat → Int} (h : CurA w p A c n f t) (hg : w.grownBy w' (some g)) (hp : p ≠ g) (hA : ∀ a, A = some a → a.block ≠ g) : CurA w' p A c n f t :=
  ⟨keepOne h.1 hg hp, h.2.1.other hg (fun b off e => hA _ e), h.2.2⟩
set_option maxHeartbeats 400000 in
theorem cnewA (A : Option Addr) (n c : Nat) (f : Nat → Int) (w : World) (ha : Rd .u8 w A n c f) (hn : n ≤ 100000000) :
    Calls Try.prog 70 #[.slice A n c] w fun e w' => ∃ p A' c', e = .returned (.pointer (some ⟨p, 0, none⟩)) ∧ w.heap.size ≤ p ∧ CurA w' p A' c' n f 0 ∧ (∀ a, A' = some a → w.heap.size ≤ a.block ∧ a.block < w'.heap.size) ∧ Below w.heap.size w w' := by
  have Ha := hide ha
  clear ha
  go_enter Try.func70, Try.ntmps70
  go_wp2_with fail
  refine (clone_any A n c f _ Ha.out (by omega)).mono ?_
  rintro e w1 ⟨v, rfl, hown, hb1⟩
  obtain ⟨A1, c1, rfl, hr1, hbl⟩ := hown.rd
  have Hr1 := hide hr1
  have Hbl := hide hbl
  have hs := hb1.size
  clear hown hr1 hbl
  go_wp2_with fail
  go_ret
  refine ⟨w1.heap.size, A1, c1, rfl, hs, ⟨heap_alloc_new w1 _, Hr1.out.alloc _, fun a e => ?_, by omega, hn⟩, fun a e => ?_, hb1.alloc hs _⟩
  · have := Hbl.out a e
    omega
  · have := Hbl.out a e
    simp
    omega
set_option maxHeartbeats 400000 in
theorem numberA (p n t s c : Nat) (A : Option Addr) (size : Int) (hs : size = (s : Int)) (f : Nat → Int) (w : World) (h : CurA w p A c n f t) (hb : Byt n f) (h1 : 1 ≤ s) (h2 : s ≤ 4) (h3 : t + s ≤ n) :
    Calls Try.prog 71 #[.pointer (some ⟨p, 0, none⟩), .int .i64 size] w fun e w' =>
      e = .returned (.tuple #[.int .i64 (num (fun i => f (t + i)) s), .int .i64 0]) ∧ CurA w' p A c n f (t + s) ∧ w.grownBy w' (some p) := by
  subst hs
  have hn : n ≤ 100000000 := h.2.2.2.2
  have H := hide h
  have Hb : Hid (Byt (n - t) (fun i => f (t + i))) := fun i hi => hb (t + i) (by omega)
  clear h hb
  generalize hX : num (fun i => f (t + i)) s = X
  have HX := hide hX
  clear hX
  go_enter Try.func71, Try.ntmps71
  go_wp2_with fail
  refine (ahead_any p n t f _ H.out.cur).mono ?_
  rintro e w1 ⟨A1, c1, rfl, hr1, hd1⟩
  have Hr1 := hide (hr1.drawn hd1)
  clear hr1
  go_wp2_with fail
  refine (get_ok A1 _ c1 s _ _ Hr1.out Hb.out h1 h2 (by omega)).mono ?_
  rintro e w2 ⟨rfl, rfl⟩
  rw [HX.out]
  have hB := drawn_below hd1 w.heap.size
  obtain ⟨hh, hr0, ha0, ht0, hn0⟩ := H.out.below hB
  have d1 := cell_of_row w1 p 1 _ _ _ hh
  simp at d1
  have f1 := frozen_of_row w1 p 1 _ _ hh
  have Hh := hide hh
  have Hr0 := hide hr0
  have Ha0 := hide ha0
  clear hh hr0 ha0 hd1
  go_wp2_with fail
  go_ret2
  have hg : w1.grownBy (w1.setCell ⟨p, 1, none⟩ (.int .i64 ((t : Int) + s))) (some p) := grown_cell w1 w1 (Below.refl _ _) p 1 _
  refine ⟨rfl, ⟨?_, Hr0.out.other hg (fun b off e => Ha0.out _ e), Ha0.out, by omega, hn0⟩, grown_cell w w1 hB p 1 _⟩
  rw [heap_setCell_same w1 p 1 _ _ _ Hh.out]
  simp
end Go.Proofs.Ytlpbonfapglocaa
