/- strings.SplitSeq's call; what a caller keeps over its rounds. -/
import Derived.Test.YtminoofghdpomaaDoorSq3
import Derived.Maps.AppendAt
namespace Go.Proofs.YtminoofghdpomaaDoor
set_option linter.unusedVariables false
set_option linter.unusedSimpArgs false
open Go Go.RowKit Go.Shelf

def sqW (w : World) (s sep : ByteArray) : World := ((w.alloc (.cells #[.string s] 9)).alloc (.cells #[.string sep] 9)).alloc (.cells #[.int .i64 0] 3)
def sqF (b : Nat) : Value := .func (.func 59) #[] #[.pointer (some ⟨b + 1, 0, none⟩), .pointer (some ⟨b, 0, none⟩), .pointer (some ⟨b + 2, 0, none⟩)]
theorem splitseq_in (s sep : ByteArray) (w : World) : Calls Tryd.prog 53 #[.string s, .string sep, .int .i64 0] w fun e w' => e = .returned (sqF w.heap.size) ∧ w' = sqW w s sep := by
  go_enter Tryd.func53, Tryd.ntmps53
  go_wp2
  go_ret
  exact ⟨rfl, rfl⟩
theorem splitseq_call (s sep : ByteArray) (w : World) : Calls Tryd.prog 40 #[.string s, .string sep] w fun e w' => e = .returned (sqF w.heap.size) ∧ w' = sqW w s sep := by
  have h := hide (splitseq_in s sep w)
  obtain ⟨F, hF⟩ : ∃ F, sqF w.heap.size = F := ⟨_, rfl⟩
  obtain ⟨V, hV⟩ : ∃ V, sqW w s sep = V := ⟨_, rfl⟩
  rw [hF, hV] at h
  rw [hF, hV]
  clear hF hV
  go_enter Tryd.func40, Tryd.ntmps40
  go_wp2_with fail
  refine h.out.mono ?_
  rintro e w1 ⟨rfl, rfl⟩
  go_wp2_with fail
  go_ret
  exact ⟨rfl, rfl⟩
theorem sqW_size (w : World) (s sep : ByteArray) : (sqW w s sep).heap.size = w.heap.size + 3 := by simp [sqW]
theorem sqW_below (w : World) (s sep : ByteArray) : Below w.heap.size w (sqW w s sep) := (((Below.refl _ w).alloc (Nat.le_refl _) _).alloc (by simp) _).alloc (by simp; omega) _
theorem sqW_grown (w : World) (s sep : ByteArray) : w.grownBy (sqW w s sep) none :=
  ⟨rfl, rfl, rfl, by rw [sqW_size]; omega, fun k hk _ => (sqW_below w s sep).block k hk⟩
theorem sqW_0 (w : World) (s sep : ByteArray) : Boxed (sqW w s sep) w.heap.size 9 (.string s) := ((Boxed.new w _ _).alloc _).alloc _
theorem sqW_1 (w : World) (s sep : ByteArray) : Boxed (sqW w s sep) (w.heap.size + 1) 9 (.string sep) := by
  have h := Boxed.new (w.alloc (.cells #[.string s] 9)) 9 (.string sep)
  rw [World.size_alloc] at h
  exact h.alloc _
theorem sqW_2 (w : World) (s sep : ByteArray) : Boxed (sqW w s sep) (w.heap.size + 2) 3 (.int .i64 0) := by
  have h := Boxed.new ((w.alloc (.cells #[.string s] 9)).alloc (.cells #[.string sep] 9)) 3 (.int .i64 0)
  rw [World.size_alloc, World.size_alloc] at h
  exact h
/-- the iterator, where the call has left it -/
theorem sqW_itr (w : World) (s : ByteArray) (c : UInt8) (hs : s.size ≤ 4611686018427387904) (n : Nat) (hn : 1 ≤ n) :
    Itr Tryd.prog n 59 #[.pointer (some ⟨w.heap.size + 1, 0, none⟩), .pointer (some ⟨w.heap.size, 0, none⟩), .pointer (some ⟨w.heap.size + 2, 0, none⟩)] w.heap.size (w.heap.size + 3) w.heap.size Value.string (pcB c s) (sqW w s ⟨#[c]⟩) :=
  splitseq_itr c s hs _ n _ hn (sqW_0 w s _).cell (sqW_0 w s _).frozen (sqW_1 w s _).cell (sqW_2 w s _).cell

/-! what abides -/
section
variable {Bs B : Nat} {X Y : World} {row : Option Nat}
def RowOk (Bs B : Nat) (X : World) (row : Option Nat) : Prop := ∀ r, row = some r → r = Bs ∨ (B ≤ r ∧ ∃ o : Obj, X.heap[r]? = some o ∧ o.isCells = false)
theorem ab_box (hg : X.grownBy Y row) (hr : RowOk Bs B X row) {k : Nat} {t : TypeId} {v : Value} (h : Boxed X k t v) (hne : k ≠ Bs) : Boxed Y k t v := by
  refine h.kept hg fun e => ?_
  rcases hr k e.symm with e2 | ⟨_, o, ho, hc⟩
  · exact hne e2
  · rw [show X.heap[k]? = _ from h] at ho
    cases ho
    cases hc
theorem ab_row (hg : X.grownBy Y row) (hr : RowOk Bs B X row) (hB : Bs < B) {e : TypeId} {s k : Nat} {v : Value} {xs : List Value} (h : X.ownsRow B e s v k xs) : Y.ownsRow B e s v k xs := by
  rcases h.2 with ⟨rfl, _⟩ | ⟨g, cap, cur, rfl, hb, hgb, _⟩
  · exact h.kept hg (.inl rfl)
  · refine h.kept hg (.inr fun e' => ?_)
    have e2 : row = some g := by simpa [Value.ownBlock] using e'.symm
    rcases hr g e2 with e3 | ⟨_, o, ho, hc⟩
    · omega
    · rw [hgb] at ho
      cases ho
      cases hc
theorem ab_below (hg : X.grownBy Y row) (hr : RowOk Bs B X row) {n : Nat} {w : World} (hn : n ≤ w.heap.size) (h1 : n ≤ Bs) (h2 : n ≤ B) (h : Below n w X) : Below n w Y :=
  h.grown hg (Nat.le_trans hn h.size) (fun k e => by rcases hr k e with e2 | e2 <;> omega)
end
theorem ko_below {X Y : World} (h : Below X.heap.size X Y) : KeepsOthers X Y := ⟨h.size, fun k o hk _ => (h.block k (Array.getElem?_eq_some_iff.1 hk).1).trans hk⟩
theorem km_below {lo hi : Nat} {X Y : World} (h : Below X.heap.size X Y) (hh : hi ≤ X.heap.size) : KMid lo hi X Y := ⟨h.size, fun k _ h2 => h.block k (by omega)⟩
theorem bx_low {X Y : World} (h : Below X.heap.size X Y) {b : Nat} {t : TypeId} {v : Value} (hb : Boxed X b t v) : Boxed Y b t v := (h.block b hb.lt).trans hb
/-- a variable's box, and what is appended to the row that it holds -/
theorem box_app {W w1 : World} {n lo hi N B : Nat} {t e : TypeId} {s : Nat} {v v' : Value} {k m : Nat} {xs ys : List Value} {tmp : Obj}
    (hv : Boxed W B t v) (hBl : B < lo) (hlh : lo ≤ hi) (hhN : hi ≤ N) (hN : N ≤ W.heap.size) (hn : n ≤ B) (hrow : W.ownsRow N e s v k xs) (hown : w1.ownsRow N e s v' m ys) (hg : (W.alloc tmp).grownBy w1 v.ownBlock) :
    Boxed w1 B t v ∧ Boxed (w1.setCell ⟨B, 0, none⟩ v') B t v' ∧ (w1.setCell ⟨B, 0, none⟩ v').ownsRow N e s v' m ys ∧ KeepsOthers W (w1.setCell ⟨B, 0, none⟩ v') ∧ KMid lo hi W (w1.setCell ⟨B, 0, none⟩ v') ∧ Below n W (w1.setCell ⟨B, 0, none⟩ v') ∧
      (∀ b, b < N → b ≠ B → (w1.setCell ⟨B, 0, none⟩ v').heap[b]? = W.heap[b]?) := by
  have hb1 : ∀ j, v.ownBlock = some j → N ≤ j := fun j e => (World.ownsRow.lt hrow j e).1
  have hb2 : ∀ j, v'.ownBlock = some j → N ≤ j := fun j e => (World.ownsRow.lt hown j e).1
  have old : ∀ b, b < N → w1.heap[b]? = W.heap[b]? := fun b hb =>
    (hg.block b (by simp; omega) (fun e => by have := hb1 b e.symm; omega)).trans (Below.heap_alloc W tmp b (by omega))
  have h1 : Boxed w1 B t v := (old B (by omega)).trans hv
  have set : ∀ b, b < N → b ≠ B → (w1.setCell ⟨B, 0, none⟩ v').heap[b]? = W.heap[b]? := fun b hb hne => (Below.heap_setCell w1 ⟨B, 0, none⟩ v' b hne).trans (old b hb)
  have sz : W.heap.size ≤ (w1.setCell ⟨B, 0, none⟩ v').heap.size := by
    have a := hg.size
    have b := (grownBy_setCell' w1 B v').size
    simp at a
    omega
  refine ⟨h1, h1.set v', hown.kept (grownBy_setCell' w1 B v') (.inr fun e => by have := hb2 B e; omega), ?_, ⟨sz, fun k h2 h3 => set k (by omega) (by omega)⟩, ?_, set⟩
  · refine ((KeepsOthers.alloc W tmp).trans (KeepsOthers.of_grownBy hg fun j o ej hj => ?_)).trans (KeepsOthers.setCell _ _ _)
    rcases (hrow.alloc tmp).2 with ⟨rfl, _⟩ | ⟨g, cap, cur, rfl, _, hgb, _⟩
    · simp [Value.ownBlock] at ej
    · obtain rfl : g = j := by simpa [Value.ownBlock] using ej
      rw [hgb] at hj
      cases hj
      rfl
  · exact (((Below.refl n W).alloc (by omega) tmp).grown hg (by simp; omega) (fun j ej => by have := hb1 j ej; omega)).setCell (p := ⟨B, 0, none⟩) hn v'
theorem bx_oth {W W' : World} {b : Nat} {t : TypeId} {v : Value} (h : Boxed W b t v) (e : W'.heap[b]? = W.heap[b]?) : Boxed W' b t v := e.trans h
/-- a store into one box leaves another -/
theorem bx_other {W : World} {b c : Nat} {t : TypeId} {v u : Value} (h : Boxed W b t v) (hne : b ≠ c) : Boxed (W.setCell ⟨c, 0, none⟩ u) b t v := (Below.heap_setCell W ⟨c, 0, none⟩ u b hne).trans h
theorem bx_put {W : World} {b D : Nat} {t : TypeId} {v : Value} {o : Obj} (h : Boxed W b t v) (hD : W.heap[D]? = some o) (ho : o.isCells = false) (o' : Obj) : Boxed (W.putObj D o') b t v :=
  (World.putObj_heap_other (fun e => by
    subst e
    rw [show W.heap[b]? = _ from h] at hD
    cases hD
    cases ho)).trans h
end Go.Proofs.YtminoofghdpomaaDoor
