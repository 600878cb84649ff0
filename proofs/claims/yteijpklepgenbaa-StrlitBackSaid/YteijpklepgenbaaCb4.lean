/- Layer 16: the contracts of 'Code' and 'Length'; the chapter's examples; a book that nobody made. -/
import Derived.Test.YteijpklepgenbaaCb3
namespace Go.Proofs.Yteijpklepgenbaa
open Go.RowKit

/-- A book that was made. -/
def Book (W : World) (B : Nat) : Prop := ∃ og, Blk W B 71 547 (bookC lenI (fun s => (cd (rnk s) : Int)) og (fun j => (bg j : Int))) ∧ Rd .i64 W (some ⟨og, 0, none⟩) 257 257 (fun i => (ord i : Int))
theorem Book.below {W W' : World} {B : Nat} (h : Book W B) (hb : Below W.heap.size W W') : Book W' B := by
  obtain ⟨og, h1, h2⟩ := h
  exact ⟨og, h1.below hb, h2.below hb⟩
theorem mk_any (w : World) : Calls Try.prog 20 #[] w fun e w' => ∃ B, e = .returned (.pointer (some ⟨B, 0, none⟩)) ∧ Book w' B ∧ Below w.heap.size w w' :=
  (make_any w).mono fun e w' hh => by
    obtain ⟨B, og, he, hM⟩ := hh
    obtain ⟨A, c, e1, hr, _⟩ := hM.2.1.rd
    injection e1 with e1 _ e2
    subst e1
    subst e2
    exact ⟨B, he, ⟨og, hM.1, hr⟩, hM.2.2.1⟩
theorem Book.le {W : World} {B : Nat} (h : Book W B) (j : Nat) (hj : j < 257) : W.cell? ⟨B, j, none⟩ = some (.int .i64 (len j : Int)) := by
  obtain ⟨og, h1, _⟩ := h
  rw [h1.cell (j := j) (by omega)]
  simp [bookC, hj, lenI]
theorem Book.co {W : World} {B : Nat} (h : Book W B) (j : Nat) (hj : j < 257) : W.cell? ⟨B, 257 + j, none⟩ = some (.int .i64 (cd (rnk j) : Int)) := by
  obtain ⟨og, h1, _⟩ := h
  rw [h1.cell (j := 257 + j) (by omega)]
  have e1 : ¬ 257 + j < 257 := by omega
  have e2 : 257 + j < 514 := by omega
  simp [bookC, e1, e2]
theorem Book.lt {W : World} {B : Nat} (h : Book W B) : B < W.heap.size := by
  obtain ⟨og, h1, _⟩ := h
  exact h1.lt

/-- A symbol's code, and its length. -/
def codI (s : Int) : Int := if 0 ≤ s ∧ s < 257 then (cd (rnk s.toNat) : Int) else 0
def lnI (s : Int) : Int := if 0 ≤ s ∧ s < 257 then (len s.toNat : Int) else 0
def Coded (w : World) (x n : Int) (e : Ending) (w' : World) : Prop := e = .returned (.tuple #[.int .i64 x, .int .i64 n]) ∧ Drawn w w'
theorem code_none (s : Int) (w : World) : Calls Try.prog 22 #[.pointer none, .int .i64 s] w (Coded w 0 0) := by
  go_enter Try.func22, Try.ntmps22
  go_wp2_with fail
  go_ret2
  exact ⟨rfl, Drawn.refl _⟩
theorem code_out (B : Nat) (s : Int) (w : World) (h : ¬ (0 ≤ s ∧ s < 257)) : Calls Try.prog 22 #[.pointer (some ⟨B, 0, none⟩), .int .i64 s] w (Coded w 0 0) := by
  by_cases h0 : s < 0
  · have d0 : decide (s < 0) = true := by simpa using h0
    go_enter Try.func22, Try.ntmps22
    go_wp2_with fail
    go_ret2
    exact ⟨rfl, Drawn.refl _⟩
  · have d0 : decide (s < 0) = false := by simpa using h0
    have d1 : decide (257 ≤ s) = true := by simp; omega
    go_enter Try.func22, Try.ntmps22
    go_wp2_with fail
    go_ret2
    exact ⟨rfl, Drawn.refl _⟩
theorem code_at (B S : Nat) (hS : S < 257) (x n : Int) (w : World) (hB : B < w.heap.size) (h1 : w.cell? ⟨B, 257 + S, none⟩ = some (.int .i64 x)) (h2 : w.cell? ⟨B, S, none⟩ = some (.int .i64 n)) : Calls Try.prog 22 #[.pointer (some ⟨B, 0, none⟩), .int .i64 (S : Int)] w (Coded w x n) := by
  have d0 : decide ((S : Int) < 0) = false := by simp
  have d1 : decide (257 ≤ (S : Int)) = false := by simp; omega
  have hS0 : (0 : Int) ≤ (S : Int) := by omega
  have hS1 : (S : Int) < 257 := by omega
  go_enter Try.func22, Try.ntmps22
  go_wp2_with fail
  go_quiet (fail)
  go_wp2_with fail
  go_ret2
  exact ⟨rfl, Drawn.of _ _⟩
theorem code_any (B : Nat) (s : Int) (w : World) (h : Book w B) : Calls Try.prog 22 #[.pointer (some ⟨B, 0, none⟩), .int .i64 s] w (Coded w (codI s) (lnI s)) := by
  by_cases hs : 0 ≤ s ∧ s < 257
  · obtain ⟨S, rfl⟩ := Int.eq_ofNat_of_zero_le hs.1
    have hS : S < 257 := by omega
    unfold codI lnI
    rw [if_pos hs, if_pos hs]
    exact code_at B S hS _ _ w h.lt (h.co S hS) (h.le S hS)
  · unfold codI lnI
    rw [if_neg hs, if_neg hs]
    exact code_out B s w hs
theorem cod97 : codI 97 = 3 ∧ lnI 97 = 5 := by decide +kernel
theorem cod32 : codI 32 = 20 ∧ lnI 32 = 6 := by decide +kernel
theorem cod256 : codI 256 = 1073741823 ∧ lnI 256 = 30 := by decide +kernel
theorem cod48 : lnI 48 = 5 := by decide +kernel
end Go.Proofs.Yteijpklepgenbaa
