/- Layer 3: the numbers of a text, the program's side. -/
import Derived.Test.YtminoofghdpomaaDoorSq4
import Derived.Test.YtminoofghdpomaaDoorDx2
namespace Go.Proofs.YtminoofghdpomaaDoor
set_option linter.unusedVariables false
set_option linter.unusedSimpArgs false
open Go Go.RowKit Go.Shelf Go.PlainAid
attribute [local go_sem] Oper.semAt_some

/-- What the text of a list is read as. -/
def RlR (s : ByteArray) (k : Nat) (f : Nat → Int) (ok : Bool) : Prop :=
  (ok = true ∧ I64F k f ∧ ((s.size = 0 ∧ k = 0) ∨ (0 < s.size ∧ pcB 44 s = itL f k))) ∨ (ok = false ∧ k = 0 ∧ 0 < s.size ∧ ∃ x ∈ pcB 44 s, ∀ u, -9223372036854775808 ≤ u → u ≤ 9223372036854775807 → x ≠ intS u)
def RlE (s : ByteArray) (w : World) (e : Ending) (w' : World) : Prop := ∃ (A : Option Addr) (k c : Nat) (f : Nat → Int) (ok : Bool), e = .returned (.tuple #[.slice A k c, .bool ok]) ∧ Rd .i64 w' A k c f ∧ RlR s k f ok ∧ Below w.heap.size w w'
theorem int_info : (Tryd.prog.info? 3).map (fun i => (i.zero, i.size, i.bytes)) = some (some (.int .i64 0), 1, 8) := by kernel_rfl
theorem itL_cong {f g : Nat → Int} {k : Nat} (h : ∀ i, i < k → f i = g i) : itL f k = itL g k := List.map_congr_left fun i hi => by rw [h i (List.mem_range.1 hi)]
def PcI (w : World) (n : Nat) (pre : List ByteArray) (W : World) : Prop :=
  ∃ v f, Boxed W (n + 2) 37 v ∧ Boxed W n 37 (.slice none 0 0) ∧ Boxed W (n + 1) 4 (.bool false) ∧ pre = itL f pre.length ∧ I64F pre.length f ∧ Own .i64 3 (n + 6) W v pre.length f ∧ Below n w W
def PcX (w : World) (n : Nat) (pre : List ByteArray) (W : World) : Prop :=
  Boxed W n 37 (.slice none 0 0) ∧ Boxed W (n + 1) 4 (.bool false) ∧ (∃ x ∈ pre, ∀ u, -9223372036854775808 ≤ u → u ≤ 9223372036854775807 → x ≠ intS u) ∧ Below n w W
theorem PcI.ab {w : World} {n : Nat} (hn : n = w.heap.size) : AbI (n + 3) (n + 6) (PcI w n) := by
  rintro s X Y row ⟨v, f, h1, h2, h3, h4, h5, h6, h7⟩ hg hr
  exact ⟨v, f, ab_box hg hr h1 (by omega), ab_box hg hr h2 (by omega), ab_box hg hr h3 (by omega), h4, h5, ab_row hg hr (by omega) h6, ab_below hg hr (by omega) (by omega) (by omega) h7⟩
theorem PcX.ab {w : World} {n : Nat} (hn : n = w.heap.size) : AbI (n + 3) (n + 6) (PcX w n) := by
  rintro s X Y row ⟨h2, h3, h4, h7⟩ hg hr
  exact ⟨ab_box hg hr h2 (by omega), ab_box hg hr h3 (by omega), h4, ab_below hg hr (by omega) (by omega) (by omega) h7⟩
end Go.Proofs.YtminoofghdpomaaDoor
