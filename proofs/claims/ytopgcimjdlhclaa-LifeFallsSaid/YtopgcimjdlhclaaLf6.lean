/- Layer 33: what a frame means, the reference's side; it is the same. -/
import Derived.Test.YtopgcimjdlhclaaLf5
namespace Go.Proofs.Ytopgcimjdlhclaa
open Go.RowKit

def rclP (b s t : Int) (kept : Bool) : Int × Int := if kept = false then (3, 16) else if b = 1 - s then (2, 0) else if b = s then (3, 15) else if t = 3 ∨ t = 8 then (2, 0) else (3, 14)
def rkdP (k o : Int) (x y : Bool) (b s t : Int) (kept : Bool) : Int × Int :=
  if k = 0 then (if t = 1 ∧ s = 0 ∧ o = 0 then (1, 0) else (3, 10))
  else if k = 1 then (if t = 1 ∧ s = o then (3, 11) else (3, 16))
  else if k = 2 then (if t = 3 ∨ t = 1 ∧ s = 1 ∨ t = 8 ∧ s = 0 then (1, 0) else (3, 12))
  else if k = 3 then (if t < 3 ∧ (if s = 0 then x else y) = true then (3, 13) else (1, 0))
  else rclP b s t kept
def raskP (k o : Int) (x y : Bool) (b s t : Int) (kept : Bool) : Int × Int :=
  if riB k o x y b = false ∨ sdB s = false then (0, 0)
  else if t = 2 then (2, 0)
  else if t = 5 then unP (!(prB k o y b s kept)) 22
  else if t = 0 ∨ t = 1 ∨ t = 3 ∨ t = 8 then rkdP k o x y b s t kept
  else (0, 0)
set_option maxRecDepth 100000 in
theorem rpromise_any (k o : Int) (x y : Bool) (b s : Int) (kept : Bool) (w : World) : Calls Try.prog 65 #[.agg (StL k o x y b), .int .i64 s, .bool kept] w fun e w' => e = .returned (.tuple #[.int .i64 (unA (!(prB k o y b s kept))), .int .i64 (unR (!(prB k o y b s kept)) 22)]) ∧ Below w.heap.size w w' := by
  unfold prB StL at *
  cases kept
  all_goals
    go_enter Try.func65, Try.ntmps65
    go_wp2
    all_goals (go_ret2; refine ⟨?_, (Below.refl _ _).alloc (Nat.le_refl _) _⟩; simp_all [unA, unR])
set_option maxRecDepth 100000 in
theorem rclosed_any (k o : Int) (x y : Bool) (b s t : Int) (kept : Bool) (w : World) (hs : s = 0 ∨ s = 1) : Calls Try.prog 66 #[.agg (StL k o x y b), .int .i64 s, .int .i64 t, .bool kept] w fun e w' => e = .returned (.tuple #[.int .i64 (rclP b s t kept).1, .int .i64 (rclP b s t kept).2]) ∧ Below w.heap.size w w' := by
  obtain ⟨R, hR⟩ : ∃ R, R = rclP b s t kept := ⟨_, rfl⟩
  rw [← hR]
  unfold rclP at hR
  have HR := hide hR
  clear hR
  obtain ⟨R1, R2⟩ := R
  unfold StL at *
  simp only
  rcases hs with rfl | rfl <;> cases kept
  all_goals
    go_enter Try.func66, Try.ntmps66
    go_wp2
    all_goals
      go_ret2
      have e1 := congrArg Prod.fst HR.out
      have e2 := congrArg Prod.snd HR.out
      clear HR
      simp only at e1 e2
      subst e1
      subst e2
      refine ⟨?_, (Below.refl _ _).alloc (Nat.le_refl _) _⟩
      simp_all
theorem cl_eq (b s t : Int) (kept : Bool) (hs : s = 0 ∨ s = 1) (hb : b = 0 ∨ b = 1 ∨ b = 2) (ht : t = 0 ∨ t = 1 ∨ t = 3 ∨ t = 8) : clP b s t kept = rclP b s t kept := by
  rcases hs with rfl | rfl <;> rcases hb with rfl | rfl | rfl <;> rcases ht with rfl | rfl | rfl | rfl <;> cases kept <;> decide
theorem kd_eq (k o : Int) (x y : Bool) (b s t : Int) (kept : Bool) (hr : riB k o x y b = true) (hs : s = 0 ∨ s = 1) (ht : t = 0 ∨ t = 1 ∨ t = 3 ∨ t = 8) : kdP k o x y b s t kept = rkdP k o x y b s t kept := by
  have h4 : k ≠ 0 → k ≠ 1 → k ≠ 2 → k ≠ 3 → b = 0 ∨ b = 1 ∨ b = 2 := by
    intro h0 h1 h2 h3
    unfold riB sdB at hr
    simp [h0, h1, h2, h3] at hr
    omega
  have ho : o = 0 ∨ o = 1 := by
    unfold riB sdB at hr
    simp at hr
    omega
  unfold kdP rkdP
  by_cases k0 : k = 0
  · rw [if_pos k0, if_pos k0]
    rcases ho with rfl | rfl <;> rcases hs with rfl | rfl <;> rcases ht with rfl | rfl | rfl | rfl <;> decide
  by_cases k1 : k = 1
  · rw [if_neg k0, if_neg k0, if_pos k1, if_pos k1]
  by_cases k2 : k = 2
  · rw [if_neg k0, if_neg k0, if_neg k1, if_neg k1, if_pos k2, if_pos k2]
    rcases hs with rfl | rfl <;> rcases ht with rfl | rfl | rfl | rfl <;> decide
  by_cases k3 : k = 3
  · rw [if_neg k0, if_neg k0, if_neg k1, if_neg k1, if_neg k2, if_neg k2, if_pos k3, if_pos k3]
    rcases hs with rfl | rfl <;> rcases ht with rfl | rfl | rfl | rfl <;> cases x <;> cases y <;> decide
  · rw [if_neg k0, if_neg k0, if_neg k1, if_neg k1, if_neg k2, if_neg k2, if_neg k3, if_neg k3]
    exact cl_eq b s t kept hs (h4 k0 k1 k2 k3) ht
theorem ask_eq (k o : Int) (x y : Bool) (b s t : Int) (kept : Bool) : askP k o x y b s t kept = raskP k o x y b s t kept := by
  unfold askP raskP
  split
  · rfl
  rename_i h
  have h1 : riB k o x y b = true := by cases hh : riB k o x y b <;> simp_all
  have h2 : s = 0 ∨ s = 1 := sdB_or (by cases hh : sdB s <;> simp_all)
  split
  · rfl
  split
  · rfl
  split
  · rename_i ht
    exact kd_eq k o x y b s t kept h1 h2 ht
  · rfl
end Go.Proofs.Ytopgcimjdlhclaa
