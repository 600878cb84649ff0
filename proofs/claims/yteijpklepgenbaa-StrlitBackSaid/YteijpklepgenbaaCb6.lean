/- Layer 16: books that are not there, or that nobody made: the walk of the law. -/
import Derived.Test.YteijpklepgenbaaCb4
namespace Go.Proofs.Yteijpklepgenbaa
open Go.RowKit

def zeroC : Nat → Value := fun i => if i = 514 then .slice none 0 0 else .int .i64 0
theorem zero_cells : (List.replicate 514 (.int .i64 0) ++ [.slice none 0 0] ++ List.replicate 32 (.int .i64 0) : List Value) = rowV 547 zeroC := by kernel_rfl
/-- A book that nobody made. -/
def Zero (W : World) (B : Nat) : Prop := Blk W B 71 547 zeroC
theorem Zero.int {W : World} {B : Nat} (h : Zero W B) (j : Nat) (hj : j < 547) (hne : j ≠ 514) : W.cell? ⟨B, j, none⟩ = some (.int .i64 0) := by
  rw [Blk.cell h hj]
  simp [zeroC, hne]
theorem Zero.sl {W : World} {B : Nat} (h : Zero W B) : W.cell? ⟨B, 514, none⟩ = some (.slice none 0 0) := by
  rw [Blk.cell h (j := 514) (by omega)]
  rfl
theorem code_zero (B : Nat) (s : Int) (w : World) (h : Zero w B) : Calls Try.prog 22 #[.pointer (some ⟨B, 0, none⟩), .int .i64 s] w (Coded w 0 0) := by
  by_cases hs : 0 ≤ s ∧ s < 257
  · obtain ⟨S, rfl⟩ := Int.eq_ofNat_of_zero_le hs.1
    have hS : S < 257 := by omega
    exact code_at B S hS 0 0 w (Blk.lt h) (h.int (257 + S) (by omega) (by omega)) (h.int S (by omega) (by omega))
  · exact code_out B s w hs
def NotFound (w : World) (e : Ending) (w' : World) : Prop := e = .returned (.tuple #[.int .i64 0, .bool false]) ∧ Drawn w w'
theorem find_none (c n : Int) (w : World) : Calls Try.prog 35 #[.pointer none, .int .i64 c, .int .i64 n] w (NotFound w) := by
  go_enter Try.func35, Try.ntmps35
  go_wp2_with fail
  go_ret2
  exact ⟨rfl, Drawn.refl _⟩
theorem find_out (B : Nat) (c n : Int) (w : World) (h : n < 1 ∨ 30 < n) : Calls Try.prog 35 #[.pointer (some ⟨B, 0, none⟩), .int .i64 c, .int .i64 n] w (NotFound w) := by
  by_cases h0 : n < 1
  · have d0 : decide (n < 1) = true := by simpa using h0
    go_enter Try.func35, Try.ntmps35
    go_wp2_with fail
    go_ret2
    exact ⟨rfl, Drawn.refl _⟩
  · have d0 : decide (n < 1) = false := by simpa using h0
    have d1 : decide (30 < n) = true := by simp; omega
    go_enter Try.func35, Try.ntmps35
    go_wp2_with fail
    go_ret2
    exact ⟨rfl, Drawn.refl _⟩
theorem cints_elem : Try.prog.elem 52 = 3 := by kernel_rfl
theorem int_size : (Try.prog.info? 3).map (·.size) = some 1 := by kernel_rfl
theorem cints_cut (A : Option Addr) (n c lo hi : Nat) (h1 : lo ≤ hi) (hc : hi ≤ c) (W : World) :
    (Instr.slice 52 (.slice A n c) (some (.int .i64 (lo : Int))) (some (.int .i64 (hi : Int))) none).run Try.prog W = .ok (.slice (cutA A c lo) (hi - lo) (c - lo)) W :=
  cut_lh 52 3 Try.underlying52 cints_elem int_size A n c lo hi h1 hc .i64 .i64 W
theorem find_zero (B L : Nat) (c : Int) (w : World) (h : Zero w B) (h1 : 1 ≤ L) (h2 : L ≤ 30) : Calls Try.prog 35 #[.pointer (some ⟨B, 0, none⟩), .int .i64 c, .int .i64 (L : Int)] w (NotFound w) := by
  have d0 : decide ((L : Int) < 1) = false := by simp; omega
  have d1 : decide (30 < (L : Int)) = false := by simp; omega
  have c1 := h.sl
  have c2 := h.int (515 + L) (by omega) (by omega)
  have c3 := h.int (515 + (L + 1)) (by omega) (by omega)
  have hB := Blk.lt h
  have l0 : (0 : Int) ≤ (L : Int) := by omega
  have l1 : (L : Int) < 32 := by omega
  have l2 : (0 : Int) ≤ (L : Int) + 1 := by omega
  have l3 : (L : Int) + 1 < 32 := by omega
  have l4 : ((L : Int) + 1).toNat = L + 1 := by omega
  have hw : IntKind.i64.wrap ((L : Int) + 1) = (L : Int) + 1 := IntWalk.i64_in _ (by omega)
  have hcut : ∀ W, (Instr.slice 52 (.slice none 0 0) (some (.int .i64 0)) (some (.int .i64 0)) none).run Try.prog W = .ok (.slice none 0 0) W := fun W => cints_cut none 0 0 0 0 (Nat.le_refl _) (Nat.le_refl _) W
  clear h
  go_enter Try.func35, Try.ntmps35
  go_wp2_with fail
  go_quiet (fail)
  go_wp2_with fail
  go_ret2
  exact ⟨rfl, Drawn.of _ _⟩
theorem find_zeroI (B : Nat) (c n : Int) (w : World) (h : Zero w B) : Calls Try.prog 35 #[.pointer (some ⟨B, 0, none⟩), .int .i64 c, .int .i64 n] w (NotFound w) := by
  by_cases hn : n < 1 ∨ 30 < n
  · exact find_out B c n w hn
  · obtain ⟨L, rfl⟩ := Int.eq_ofNat_of_zero_le (show 0 ≤ n by omega)
    exact find_zero B L c w h (by omega) (by omega)
theorem int_info : (Try.prog.info? 3).map (fun i => (i.zero, i.size, i.bytes)) = some (some (.int .i64 0), 1, 8) := by kernel_rfl
end Go.Proofs.Yteijpklepgenbaa
