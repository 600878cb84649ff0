/- Layer 12: what a part wants, and what it does when that is there. -/
import Derived.Test.YtpnjamomkpkkeaaCt2
namespace Go.Proofs.Ytpnjamomkpkkeaa
set_option linter.unusedVariables false
set_option linter.unusedSimpArgs false
open Go.RowKit

theorem row6c {w : World} {b : Nat} {T : TypeId} {v0 v1 v2 v3 v4 v5 : Value} (h : w.heap[b]? = some (.cells #[v0, v1, v2, v3, v4, v5] T (0, 0))) : w.cell? ⟨b, 0, none⟩ = some v0 ∧ w.cell? ⟨b, 1, none⟩ = some v1 ∧ w.cell? ⟨b, 2, none⟩ = some v2 ∧ w.cell? ⟨b, 3, none⟩ = some v3 ∧ w.cell? ⟨b, 4, none⟩ = some v4 ∧ w.cell? ⟨b, 5, none⟩ = some v5 := by
  refine ⟨?_, ?_, ?_, ?_, ?_, ?_⟩ <;> simp [World.cell?, h]
set_option maxRecDepth 20000 in
theorem wanted0 (p k : Nat) (x0 x1 x2 x3 : Int) (x4 : Bool) (v : Value) (u0 u1 u2 u3 u4 u5 u6 : Value) (w : World) (hk : k ≤ 2) (h : w.heap[p]? = some (.cells #[.int .i64 k, .int .i64 x0, .int .i64 x1, .int .i64 x2, .int .i64 x3, .bool x4, v, u0, u1, u2, u3, u4, u5, u6] 60 (0, 0))) : Calls Try.prog 120 #[.pointer (some ⟨p, 0, none⟩), .int .i64 0] w fun e w' => e = .returned (.int .i64 (if k = 2 then x0 else (if k = 0 then 24 else 9))) ∧ w = w' := by
  obtain ⟨c0, c1, c2, c3, c4, c5, c6, c7, c8, c9, c10, c11, c12, c13⟩ := row14 h
  have hk3 : k = 0 ∨ k = 1 ∨ k = 2 := by omega
  rcases hk3 with rfl | rfl | rfl
  all_goals
    go_enter Try.func120, Try.ntmps120
    go_wp2_with fail
    go_ret
    exact ⟨rfl, rfl⟩
set_option maxRecDepth 20000 in
theorem wanted1 (p k : Nat) (x0 x1 x2 x3 : Int) (x4 : Bool) (v : Value) (u0 u1 u2 u3 u4 u5 u6 : Value) (w : World) (hk : k ≤ 2) (h : w.heap[p]? = some (.cells #[u0, u1, u2, u3, u4, u5, u6, .int .i64 k, .int .i64 x0, .int .i64 x1, .int .i64 x2, .int .i64 x3, .bool x4, v] 60 (0, 0))) : Calls Try.prog 120 #[.pointer (some ⟨p, 7, none⟩), .int .i64 1] w fun e w' => e = .returned (.int .i64 (if k = 2 then x0 else 9)) ∧ w = w' := by
  obtain ⟨c0, c1, c2, c3, c4, c5, c6, c7, c8, c9, c10, c11, c12, c13⟩ := row14 h
  have hk3 : k = 0 ∨ k = 1 ∨ k = 2 := by omega
  rcases hk3 with rfl | rfl | rfl
  all_goals
    go_enter Try.func120, Try.ntmps120
    go_wp2_with fail
    go_ret
    exact ⟨rfl, rfl⟩
set_option maxRecDepth 20000 in
set_option maxHeartbeats 1600000 in
theorem whole_body0 (p : Nat) (x0 x1 x2 x3 : Int) (x4 : Bool) (A : Option Addr) (n c : Nat) (u0 u1 u2 u3 u4 u5 u6 : Value) (w : World) (h : w.heap[p]? = some (.cells #[.int .i64 2, .int .i64 x0, .int .i64 x1, .int .i64 x2, .int .i64 x3, .bool x4, (.slice A n c), u0, u1, u2, u3, u4, u5, u6] 60 (0, 0))) : Calls Try.prog 121 #[.pointer (some ⟨p, 0, none⟩), .int .i64 0] w fun e w' => e = .returned (.tuple #[.agg #[.int .i64 0, .int .i64 x1, .int .i64 x2, .int .i64 x3, .bool x4, .slice A n c], .bool true]) ∧ w'.heap[p]? = some (.cells #[.int .i64 1, .int .i64 x0, .int .i64 x1, .int .i64 x2, .int .i64 x3, .bool x4, (.slice none 0 0), u0, u1, u2, u3, u4, u5, u6] 60 (0, 0)) ∧ FrQ (fun i => i = p) w w' := by
  have a1 := (Below.refl w.heap.size w).alloc (Nat.le_refl _) (.cells #[.int .i64 0, .int .i64 0, .int .i64 0, .int .i64 0, .bool false, .slice none 0 0] 29)
  have P0 := hide (keepRow h a1)
  have F0 := hide (FrQ.ofBelow (fun i => i = p) a1)
  have R0 := hide (heap_alloc_new w (.cells #[.int .i64 0, .int .i64 0, .int .i64 0, .int .i64 0, .bool false, .slice none 0 0] 29))
  have hq : Hid (p ≠ w.heap.size) := Nat.ne_of_lt (rowLt h)
  clear a1 h
  obtain ⟨c0, c1, c2, c3, c4, c5, c6, c7, c8, c9, c10, c11, c12, c13⟩ := row14 P0.out
  go_enter Try.func121, Try.ntmps121
  go_upto_region 1 with (fail)
  generalize hW : w.alloc (.cells #[.int .i64 0, .int .i64 0, .int .i64 0, .int .i64 0, .bool false, .slice none 0 0] 29) = W0 at *
  generalize hQ : w.heap.size = q at *
  clear hW
  have mf0 := frozenRow P0.out 6
  have ms0 := setRow (W0) p 6 (.slice none 0 0) P0.out
  simp only [List.setIfInBounds_toArray, List.set_cons_zero, List.set_cons_succ] at ms0
  have P1 := hide ms0
  have F1 := hide (F0.out.tr (FrQ.set (S := fun i => i = p) rfl 6 (.slice none 0 0)))
  have R1 := hide (keepOne R0.out (grown_set _ p 6 (.slice none 0 0)) (Ne.symm hq.out))
  clear P0 F0 R0
  go_upto_region 3 with (fail)
  clear c0 c1 c2 c3 c4 c5 c6 c7 c8 c9 c10 c11 c12 c13 mf0 ms0
  generalize hW : W0.setCell ⟨p, 6, none⟩ (.slice none 0 0) = W1 at *
  clear hW
  obtain ⟨c0, c1, c2, c3, c4, c5, c6, c7, c8, c9, c10, c11, c12, c13⟩ := row14 P1.out
  have nf0 := frozenRow P1.out 0
  have ns0 := setRow (W1) p 0 (.int .i64 1) P1.out
  simp only [List.setIfInBounds_toArray, List.set_cons_zero, List.set_cons_succ] at ns0
  have P2 := hide ns0
  have F2 := hide (F1.out.tr (FrQ.set (S := fun i => i = p) rfl 0 (.int .i64 1)))
  have R2 := hide (keepOne R1.out (grown_set _ p 0 (.int .i64 1)) (Ne.symm hq.out))
  clear P1 F1 R1
  go_upto_region 5 with (fail)
  clear c0 c1 c2 c3 c4 c5 c6 c7 c8 c9 c10 c11 c12 c13 nf0 ns0
  generalize hW : W1.setCell ⟨p, 0, none⟩ (.int .i64 1) = W2 at *
  clear hW
  obtain ⟨c0, c1, c2, c3, c4, c5, c6, c7, c8, c9, c10, c11, c12, c13⟩ := row14 P2.out
  have b1 := (Below.refl W2.heap.size W2).alloc (Nat.le_refl _) (.cells #[.int .i64 x0, .int .i64 x1, .int .i64 x2, .int .i64 x3, .bool x4] 55)
  have H3 := hide (heap_alloc_new W2 (.cells #[.int .i64 x0, .int .i64 x1, .int .i64 x2, .int .i64 x3, .bool x4] 55))
  have P3 := hide (keepRow P2.out b1)
  have F3 := hide (F2.out.tr (FrQ.ofBelow _ b1))
  have R3 := hide (keepRow R2.out b1)
  have hq3 : Hid (q ≠ W2.heap.size) := Nat.ne_of_lt (rowLt R2.out)
  clear b1 P2 F2 R2
  go_upto_region 6 with (fail)
  clear c0 c1 c2 c3 c4 c5 c6 c7 c8 c9 c10 c11 c12 c13
  generalize hW : W2.alloc (.cells #[.int .i64 x0, .int .i64 x1, .int .i64 x2, .int .i64 x3, .bool x4] 55) = W3 at *
  generalize hQ2 : W2.heap.size = q2 at *
  clear hW hQ2
  obtain ⟨d0, d1, d2, d3, d4⟩ := row5 H3.out
  obtain ⟨r0, r1, r2, r3, r4, r5⟩ := row6c R3.out
  have gf0 := frozenRow R3.out 0
  have gs0 := setRow (W3) q 0 (.int .i64 0) R3.out
  simp only [List.setIfInBounds_toArray, List.set_cons_zero, List.set_cons_succ] at gs0
  have gf1 := frozenRow gs0 1
  obtain ⟨-, gc1, -, -, -, -⟩ := row6c gs0
  have gs1 := setRow (W3.setCell ⟨q, 0, none⟩ (.int .i64 0)) q 1 (.int .i64 x1) gs0
  simp only [List.setIfInBounds_toArray, List.set_cons_zero, List.set_cons_succ] at gs1
  have gf2 := frozenRow gs1 2
  obtain ⟨-, -, gc2, -, -, -⟩ := row6c gs1
  have gs2 := setRow ((W3.setCell ⟨q, 0, none⟩ (.int .i64 0)).setCell ⟨q, 1, none⟩ (.int .i64 x1)) q 2 (.int .i64 x2) gs1
  simp only [List.setIfInBounds_toArray, List.set_cons_zero, List.set_cons_succ] at gs2
  have gf3 := frozenRow gs2 3
  obtain ⟨-, -, -, gc3, -, -⟩ := row6c gs2
  have gs3 := setRow (((W3.setCell ⟨q, 0, none⟩ (.int .i64 0)).setCell ⟨q, 1, none⟩ (.int .i64 x1)).setCell ⟨q, 2, none⟩ (.int .i64 x2)) q 3 (.int .i64 x3) gs2
  simp only [List.setIfInBounds_toArray, List.set_cons_zero, List.set_cons_succ] at gs3
  have gf4 := frozenRow gs3 4
  obtain ⟨-, -, -, -, gc4, -⟩ := row6c gs3
  have gs4 := setRow ((((W3.setCell ⟨q, 0, none⟩ (.int .i64 0)).setCell ⟨q, 1, none⟩ (.int .i64 x1)).setCell ⟨q, 2, none⟩ (.int .i64 x2)).setCell ⟨q, 3, none⟩ (.int .i64 x3)) q 4 (.bool x4) gs3
  simp only [List.setIfInBounds_toArray, List.set_cons_zero, List.set_cons_succ] at gs4
  have gf5 := frozenRow gs4 5
  obtain ⟨-, -, -, -, -, gc5⟩ := row6c gs4
  have gs5 := setRow (((((W3.setCell ⟨q, 0, none⟩ (.int .i64 0)).setCell ⟨q, 1, none⟩ (.int .i64 x1)).setCell ⟨q, 2, none⟩ (.int .i64 x2)).setCell ⟨q, 3, none⟩ (.int .i64 x3)).setCell ⟨q, 4, none⟩ (.bool x4)) q 5 (.slice A n c) gs4
  simp only [List.setIfInBounds_toArray, List.set_cons_zero, List.set_cons_succ] at gs5
  have RR := hide gs5
  have PP := hide (keepOne (keepOne (keepOne (keepOne (keepOne (keepOne P3.out (grown_set _ q 0 (.int .i64 0)) hq.out) (grown_set _ q 1 (.int .i64 x1)) hq.out) (grown_set _ q 2 (.int .i64 x2)) hq.out) (grown_set _ q 3 (.int .i64 x3)) hq.out) (grown_set _ q 4 (.bool x4)) hq.out) (grown_set _ q 5 (.slice A n c)) hq.out)
  have FF : Hid (FrQ (fun i => i = p) w ((((((W3.setCell ⟨q, 0, none⟩ (.int .i64 0)).setCell ⟨q, 1, none⟩ (.int .i64 x1)).setCell ⟨q, 2, none⟩ (.int .i64 x2)).setCell ⟨q, 3, none⟩ (.int .i64 x3)).setCell ⟨q, 4, none⟩ (.bool x4)).setCell ⟨q, 5, none⟩ (.slice A n c))) := F3.out.trans ((((((FrQ.set (S := fun i => i = q) rfl 0 (.int .i64 0)).tr (FrQ.set (S := fun i => i = q) rfl 1 (.int .i64 x1))).tr (FrQ.set (S := fun i => i = q) rfl 2 (.int .i64 x2))).tr (FrQ.set (S := fun i => i = q) rfl 3 (.int .i64 x3))).tr (FrQ.set (S := fun i => i = q) rfl 4 (.bool x4))).tr (FrQ.set (S := fun i => i = q) rfl 5 (.slice A n c))) (fun _ _ e => e) (fun i hi e => by have h1 : i = q := e; omega)
  obtain ⟨f0, f1, f2, f3, f4, f5⟩ := row6c RR.out
  clear P3 F3 R3 
  go_wp2_with fail
  refine bodyPost_ret (v := .tuple #[.agg #[.int .i64 0, .int .i64 x1, .int .i64 x2, .int .i64 x3, .bool x4, .slice A n c], .bool true]) ?_ rfl ⟨rfl, PP.out, FF.out⟩
  rw [results_cell_tmp rfl]
  go_simp
set_option maxRecDepth 20000 in
set_option maxHeartbeats 1600000 in
theorem whole_pre0 (p : Nat) (x0 x1 x2 x3 : Int) (x4 : Bool) (A : Option Addr) (n c : Nat) (u0 u1 u2 u3 u4 u5 u6 : Value) (w : World) (h : w.heap[p]? = some (.cells #[.int .i64 0, .int .i64 x0, .int .i64 x1, .int .i64 x2, .int .i64 x3, .bool x4, (.slice A n c), u0, u1, u2, u3, u4, u5, u6] 60 (0, 0))) : Calls Try.prog 121 #[.pointer (some ⟨p, 0, none⟩), .int .i64 0] w fun e w' => e = .returned (.tuple #[.agg #[.int .i64 0, .int .i64 (-1), .int .i64 0, .int .i64 0, .bool false, .slice A n c], .bool true]) ∧ w'.heap[p]? = some (.cells #[.int .i64 1, .int .i64 x0, .int .i64 x1, .int .i64 x2, .int .i64 x3, .bool x4, (.slice none 0 0), u0, u1, u2, u3, u4, u5, u6] 60 (0, 0)) ∧ FrQ (fun i => i = p) w w' := by
  have a1 := (Below.refl w.heap.size w).alloc (Nat.le_refl _) (.cells #[.int .i64 0, .int .i64 0, .int .i64 0, .int .i64 0, .bool false, .slice none 0 0] 29)
  have P0 := hide (keepRow h a1)
  have F0 := hide (FrQ.ofBelow (fun i => i = p) a1)
  have R0 := hide (heap_alloc_new w (.cells #[.int .i64 0, .int .i64 0, .int .i64 0, .int .i64 0, .bool false, .slice none 0 0] 29))
  have hq : Hid (p ≠ w.heap.size) := Nat.ne_of_lt (rowLt h)
  clear a1 h
  obtain ⟨c0, c1, c2, c3, c4, c5, c6, c7, c8, c9, c10, c11, c12, c13⟩ := row14 P0.out
  go_enter Try.func121, Try.ntmps121
  go_upto_region 1 with (fail)
  generalize hW : w.alloc (.cells #[.int .i64 0, .int .i64 0, .int .i64 0, .int .i64 0, .bool false, .slice none 0 0] 29) = W0 at *
  generalize hQ : w.heap.size = q at *
  clear hW
  have mf0 := frozenRow P0.out 6
  have ms0 := setRow (W0) p 6 (.slice none 0 0) P0.out
  simp only [List.setIfInBounds_toArray, List.set_cons_zero, List.set_cons_succ] at ms0
  have P1 := hide ms0
  have F1 := hide (F0.out.tr (FrQ.set (S := fun i => i = p) rfl 6 (.slice none 0 0)))
  have R1 := hide (keepOne R0.out (grown_set _ p 6 (.slice none 0 0)) (Ne.symm hq.out))
  clear P0 F0 R0
  go_upto_region 3 with (fail)
  clear c0 c1 c2 c3 c4 c5 c6 c7 c8 c9 c10 c11 c12 c13 mf0 ms0
  generalize hW : W0.setCell ⟨p, 6, none⟩ (.slice none 0 0) = W1 at *
  clear hW
  obtain ⟨c0, c1, c2, c3, c4, c5, c6, c7, c8, c9, c10, c11, c12, c13⟩ := row14 P1.out
  have nf0 := frozenRow P1.out 0
  have ns0 := setRow (W1) p 0 (.int .i64 1) P1.out
  simp only [List.setIfInBounds_toArray, List.set_cons_zero, List.set_cons_succ] at ns0
  have P2 := hide ns0
  have F2 := hide (F1.out.tr (FrQ.set (S := fun i => i = p) rfl 0 (.int .i64 1)))
  have R2 := hide (keepOne R1.out (grown_set _ p 0 (.int .i64 1)) (Ne.symm hq.out))
  clear P1 F1 R1
  go_upto_region 9 with (fail)
  clear c0 c1 c2 c3 c4 c5 c6 c7 c8 c9 c10 c11 c12 c13 nf0 ns0
  generalize hW : W1.setCell ⟨p, 0, none⟩ (.int .i64 1) = W2 at *
  clear hW
  obtain ⟨c0, c1, c2, c3, c4, c5, c6, c7, c8, c9, c10, c11, c12, c13⟩ := row14 P2.out
  obtain ⟨r0, r1, r2, r3, r4, r5⟩ := row6c R2.out
  have gf0 := frozenRow R2.out 0
  have gs0 := setRow (W2) q 0 (.int .i64 0) R2.out
  simp only [List.setIfInBounds_toArray, List.set_cons_zero, List.set_cons_succ] at gs0
  have gf1 := frozenRow gs0 1
  obtain ⟨-, gc1, -, -, -, -⟩ := row6c gs0
  have gs1 := setRow (W2.setCell ⟨q, 0, none⟩ (.int .i64 0)) q 1 (.int .i64 (-1)) gs0
  simp only [List.setIfInBounds_toArray, List.set_cons_zero, List.set_cons_succ] at gs1
  have gf2 := frozenRow gs1 2
  obtain ⟨-, -, gc2, -, -, -⟩ := row6c gs1
  have gs2 := setRow ((W2.setCell ⟨q, 0, none⟩ (.int .i64 0)).setCell ⟨q, 1, none⟩ (.int .i64 (-1))) q 2 (.int .i64 0) gs1
  simp only [List.setIfInBounds_toArray, List.set_cons_zero, List.set_cons_succ] at gs2
  have gf3 := frozenRow gs2 3
  obtain ⟨-, -, -, gc3, -, -⟩ := row6c gs2
  have gs3 := setRow (((W2.setCell ⟨q, 0, none⟩ (.int .i64 0)).setCell ⟨q, 1, none⟩ (.int .i64 (-1))).setCell ⟨q, 2, none⟩ (.int .i64 0)) q 3 (.int .i64 0) gs2
  simp only [List.setIfInBounds_toArray, List.set_cons_zero, List.set_cons_succ] at gs3
  have gf4 := frozenRow gs3 4
  obtain ⟨-, -, -, -, gc4, -⟩ := row6c gs3
  have gs4 := setRow ((((W2.setCell ⟨q, 0, none⟩ (.int .i64 0)).setCell ⟨q, 1, none⟩ (.int .i64 (-1))).setCell ⟨q, 2, none⟩ (.int .i64 0)).setCell ⟨q, 3, none⟩ (.int .i64 0)) q 4 (.bool false) gs3
  simp only [List.setIfInBounds_toArray, List.set_cons_zero, List.set_cons_succ] at gs4
  have gf5 := frozenRow gs4 5
  obtain ⟨-, -, -, -, -, gc5⟩ := row6c gs4
  have gs5 := setRow (((((W2.setCell ⟨q, 0, none⟩ (.int .i64 0)).setCell ⟨q, 1, none⟩ (.int .i64 (-1))).setCell ⟨q, 2, none⟩ (.int .i64 0)).setCell ⟨q, 3, none⟩ (.int .i64 0)).setCell ⟨q, 4, none⟩ (.bool false)) q 5 (.slice A n c) gs4
  simp only [List.setIfInBounds_toArray, List.set_cons_zero, List.set_cons_succ] at gs5
  have RR := hide gs5
  have PP := hide (keepOne (keepOne (keepOne (keepOne (keepOne (keepOne P2.out (grown_set _ q 0 (.int .i64 0)) hq.out) (grown_set _ q 1 (.int .i64 (-1))) hq.out) (grown_set _ q 2 (.int .i64 0)) hq.out) (grown_set _ q 3 (.int .i64 0)) hq.out) (grown_set _ q 4 (.bool false)) hq.out) (grown_set _ q 5 (.slice A n c)) hq.out)
  have FF : Hid (FrQ (fun i => i = p) w ((((((W2.setCell ⟨q, 0, none⟩ (.int .i64 0)).setCell ⟨q, 1, none⟩ (.int .i64 (-1))).setCell ⟨q, 2, none⟩ (.int .i64 0)).setCell ⟨q, 3, none⟩ (.int .i64 0)).setCell ⟨q, 4, none⟩ (.bool false)).setCell ⟨q, 5, none⟩ (.slice A n c))) := F2.out.trans ((((((FrQ.set (S := fun i => i = q) rfl 0 (.int .i64 0)).tr (FrQ.set (S := fun i => i = q) rfl 1 (.int .i64 (-1)))).tr (FrQ.set (S := fun i => i = q) rfl 2 (.int .i64 0))).tr (FrQ.set (S := fun i => i = q) rfl 3 (.int .i64 0))).tr (FrQ.set (S := fun i => i = q) rfl 4 (.bool false))).tr (FrQ.set (S := fun i => i = q) rfl 5 (.slice A n c))) (fun _ _ e => e) (fun i hi e => by have h1 : i = q := e; omega)
  obtain ⟨f0, f1, f2, f3, f4, f5⟩ := row6c RR.out
  clear P2 F2 R2 c0 c1 c2 c3 c4 c5 c6 c7 c8 c9 c10 c11 c12 c13
  go_wp2_with fail
  refine bodyPost_ret (v := .tuple #[.agg #[.int .i64 0, .int .i64 (-1), .int .i64 0, .int .i64 0, .bool false, .slice A n c], .bool true]) ?_ rfl ⟨rfl, PP.out, FF.out⟩
  rw [results_cell_tmp rfl]
  go_simp
set_option maxRecDepth 20000 in
set_option maxHeartbeats 1600000 in
theorem whole_head10 (p : Nat) (x0 x1 x2 x3 : Int) (x4 : Bool) (A : Option Addr) (c : Nat) (f : Nat → Int) (hf : Byt 9 f) (u0 u1 u2 u3 u4 u5 u6 : Value) (w : World) (h : w.heap[p]? = some (.cells #[.int .i64 1, .int .i64 x0, .int .i64 x1, .int .i64 x2, .int .i64 x3, .bool x4, (.slice A 9 c), u0, u1, u2, u3, u4, u5, u6] 60 (0, 0))) (ha : Rd .u8 w A 9 c f) (hA : ∀ a, A = some a → a.block ≠ p) : Calls Try.prog 121 #[.pointer (some ⟨p, 0, none⟩), .int .i64 0] w fun e w' => e = .returned (.tuple #[.agg #[.int .i64 0, .int .i64 0, .int .i64 0, .int .i64 0, .bool false, .slice none 0 0], .bool false]) ∧ w'.heap[p]? = some (.cells #[.int .i64 2, .int .i64 (gL f), .int .i64 (f 3), .int .i64 (f 4), .int .i64 (lowN (gX f)), .bool (lowB (gX f)), (.slice none 0 0), u0, u1, u2, u3, u4, u5, u6] 60 (0, 0)) ∧ FrQ (fun i => i = p) w w' := by
  have a1 := (Below.refl w.heap.size w).alloc (Nat.le_refl _) (.cells #[.int .i64 0, .int .i64 0, .int .i64 0, .int .i64 0, .bool false, .slice none 0 0] 29)
  have P0 := hide (keepRow h a1)
  have F0 := hide (FrQ.ofBelow (fun i => i = p) a1)
  have R0 := hide (heap_alloc_new w (.cells #[.int .i64 0, .int .i64 0, .int .i64 0, .int .i64 0, .bool false, .slice none 0 0] 29))
  have hq : Hid (p ≠ w.heap.size) := Nat.ne_of_lt (rowLt h)
  obtain ⟨y0, g0⟩ : ∃ y, gL f = y := ⟨_, rfl⟩
  obtain ⟨y1, g1⟩ : ∃ y, f 3 = y := ⟨_, rfl⟩
  obtain ⟨y2, g2⟩ : ∃ y, f 4 = y := ⟨_, rfl⟩
  obtain ⟨y3, g3⟩ : ∃ y, lowN (gX f) = y := ⟨_, rfl⟩
  obtain ⟨y4, g4⟩ : ∃ y, lowB (gX f) = y := ⟨_, rfl⟩
  have HY := hide (And.intro g0 (And.intro g1 (And.intro g2 (And.intro g3 g4))))
  rw [g0, g1, g2, g3, g4]
  clear g0 g1 g2 g3 g4
  have HA0 := hide (ha.below a1)
  have HNA := hide hA
  have HF := hide hf
  clear ha hf hA
  clear a1 h
  obtain ⟨c0, c1, c2, c3, c4, c5, c6, c7, c8, c9, c10, c11, c12, c13⟩ := row14 P0.out
  go_enter Try.func121, Try.ntmps121
  go_upto_region 1 with (fail)
  generalize hW : w.alloc (.cells #[.int .i64 0, .int .i64 0, .int .i64 0, .int .i64 0, .bool false, .slice none 0 0] 29) = W0 at *
  generalize hQ : w.heap.size = q at *
  clear hW
  have mf0 := frozenRow P0.out 6
  have ms0 := setRow (W0) p 6 (.slice none 0 0) P0.out
  simp only [List.setIfInBounds_toArray, List.set_cons_zero, List.set_cons_succ] at ms0
  have P1 := hide ms0
  have F1 := hide (F0.out.tr (FrQ.set (S := fun i => i = p) rfl 6 (.slice none 0 0)))
  have R1 := hide (keepOne R0.out (grown_set _ p 6 (.slice none 0 0)) (Ne.symm hq.out))
  have HA1 := hide (HA0.out.frQ (FrQ.set (S := fun i => i = p) rfl 6 (.slice none 0 0)) fun _ a e e2 => HNA.out a e e2)
  clear P0 F0 R0 HA0
  go_upto_region 3 with (fail)
  clear c0 c1 c2 c3 c4 c5 c6 c7 c8 c9 c10 c11 c12 c13 mf0 ms0
  generalize hW : W0.setCell ⟨p, 6, none⟩ (.slice none 0 0) = W1 at *
  clear hW
  obtain ⟨c0, c1, c2, c3, c4, c5, c6, c7, c8, c9, c10, c11, c12, c13⟩ := row14 P1.out
  have nf0 := frozenRow P1.out 0
  have ns0 := setRow (W1) p 0 (.int .i64 2) P1.out
  simp only [List.setIfInBounds_toArray, List.set_cons_zero, List.set_cons_succ] at ns0
  have P2 := hide ns0
  have F2 := hide (F1.out.tr (FrQ.set (S := fun i => i = p) rfl 0 (.int .i64 2)))
  have R2 := hide (keepOne R1.out (grown_set _ p 0 (.int .i64 2)) (Ne.symm hq.out))
  have HA2 := hide (HA1.out.frQ (FrQ.set (S := fun i => i = p) rfl 0 (.int .i64 2)) fun _ a e e2 => HNA.out a e e2)
  clear P1 F1 R1 HA1
  go_upto_region 11 with (fail)
  clear c0 c1 c2 c3 c4 c5 c6 c7 c8 c9 c10 c11 c12 c13 nf0 ns0
  generalize hW : W1.setCell ⟨p, 0, none⟩ (.int .i64 2) = W2 at *
  clear hW
  obtain ⟨c0, c1, c2, c3, c4, c5, c6, c7, c8, c9, c10, c11, c12, c13⟩ := row14 P2.out
  go_wp2_with fail
  refine (hget_ok A 9 c f W2 HA2.out HF.out (Nat.le_refl _)).mono ?_
  rintro e V ⟨rfl, hb⟩
  have P3 := hide (keepRow P2.out hb)
  have F3 := hide (F2.out.tr (FrQ.ofBelow _ hb))
  have R3 := hide (keepRow R2.out hb)
  have e3 : gT f = f 3 := gT_eq f
  have e4 : gF f = f 4 := gF_eq f
  rw [e3, e4]
  obtain ⟨g0, g1, g2, g3, g4⟩ := HY.out
  rw [g0, g1, g2, g3, g4]
  clear e3 e4 hb P2 F2 R2 HA2 c0 c1 c2 c3 c4 c5 c6 c7 c8 c9 c10 c11 c12 c13 g0 g1 g2 g3 g4
  obtain ⟨c0, c1, c2, c3, c4, c5, c6, c7, c8, c9, c10, c11, c12, c13⟩ := row14 P3.out
  have kf0 := frozenRow P3.out 1
  have ks0 := setRow (V) p 1 (.int .i64 y0) P3.out
  simp only [List.setIfInBounds_toArray, List.set_cons_zero, List.set_cons_succ] at ks0
  have kf1 := frozenRow ks0 2
  obtain ⟨-, -, kc1, -, -, -, -, -, -, -, -, -, -, -⟩ := row14 ks0
  have ks1 := setRow (V.setCell ⟨p, 1, none⟩ (.int .i64 y0)) p 2 (.int .i64 y1) ks0
  simp only [List.setIfInBounds_toArray, List.set_cons_zero, List.set_cons_succ] at ks1
  have kf2 := frozenRow ks1 3
  obtain ⟨-, -, -, kc2, -, -, -, -, -, -, -, -, -, -⟩ := row14 ks1
  have ks2 := setRow ((V.setCell ⟨p, 1, none⟩ (.int .i64 y0)).setCell ⟨p, 2, none⟩ (.int .i64 y1)) p 3 (.int .i64 y2) ks1
  simp only [List.setIfInBounds_toArray, List.set_cons_zero, List.set_cons_succ] at ks2
  have kf3 := frozenRow ks2 4
  obtain ⟨-, -, -, -, kc3, -, -, -, -, -, -, -, -, -⟩ := row14 ks2
  have ks3 := setRow (((V.setCell ⟨p, 1, none⟩ (.int .i64 y0)).setCell ⟨p, 2, none⟩ (.int .i64 y1)).setCell ⟨p, 3, none⟩ (.int .i64 y2)) p 4 (.int .i64 y3) ks2
  simp only [List.setIfInBounds_toArray, List.set_cons_zero, List.set_cons_succ] at ks3
  have kf4 := frozenRow ks3 5
  obtain ⟨-, -, -, -, -, kc4, -, -, -, -, -, -, -, -⟩ := row14 ks3
  have ks4 := setRow ((((V.setCell ⟨p, 1, none⟩ (.int .i64 y0)).setCell ⟨p, 2, none⟩ (.int .i64 y1)).setCell ⟨p, 3, none⟩ (.int .i64 y2)).setCell ⟨p, 4, none⟩ (.int .i64 y3)) p 5 (.bool y4) ks3
  simp only [List.setIfInBounds_toArray, List.set_cons_zero, List.set_cons_succ] at ks4
  have P4 := hide ks4
  have F4 := hide (((((F3.out.tr (FrQ.set (S := fun i => i = p) rfl 1 (.int .i64 y0))).tr (FrQ.set (S := fun i => i = p) rfl 2 (.int .i64 y1))).tr (FrQ.set (S := fun i => i = p) rfl 3 (.int .i64 y2))).tr (FrQ.set (S := fun i => i = p) rfl 4 (.int .i64 y3))).tr (FrQ.set (S := fun i => i = p) rfl 5 (.bool y4)))
  have R4 := hide (keepOne (keepOne (keepOne (keepOne (keepOne R3.out (grown_set _ p 1 (.int .i64 y0)) (Ne.symm hq.out)) (grown_set _ p 2 (.int .i64 y1)) (Ne.symm hq.out)) (grown_set _ p 3 (.int .i64 y2)) (Ne.symm hq.out)) (grown_set _ p 4 (.int .i64 y3)) (Ne.symm hq.out)) (grown_set _ p 5 (.bool y4)) (Ne.symm hq.out))
  clear P3 F3 R3
  go_upto_region 12 with (fail)
  clear c0 c1 c2 c3 c4 c5 c6 c7 c8 c9 c10 c11 c12 c13 kf0 ks0 kf1 kc1 ks1 kf2 kc2 ks2 kf3 kc3 ks3 kf4 kc4 ks4
  generalize hW : ((((V.setCell ⟨p, 1, none⟩ (.int .i64 y0)).setCell ⟨p, 2, none⟩ (.int .i64 y1)).setCell ⟨p, 3, none⟩ (.int .i64 y2)).setCell ⟨p, 4, none⟩ (.int .i64 y3)).setCell ⟨p, 5, none⟩ (.bool y4) = W4 at *
  clear hW
  obtain ⟨r0, r1, r2, r3, r4, r5⟩ := row6c R4.out
  have gf0 := frozenRow R4.out 0
  have gs0 := setRow (W4) q 0 (.int .i64 0) R4.out
  simp only [List.setIfInBounds_toArray, List.set_cons_zero, List.set_cons_succ] at gs0
  have gf1 := frozenRow gs0 1
  obtain ⟨-, gc1, -, -, -, -⟩ := row6c gs0
  have gs1 := setRow (W4.setCell ⟨q, 0, none⟩ (.int .i64 0)) q 1 (.int .i64 0) gs0
  simp only [List.setIfInBounds_toArray, List.set_cons_zero, List.set_cons_succ] at gs1
  have gf2 := frozenRow gs1 2
  obtain ⟨-, -, gc2, -, -, -⟩ := row6c gs1
  have gs2 := setRow ((W4.setCell ⟨q, 0, none⟩ (.int .i64 0)).setCell ⟨q, 1, none⟩ (.int .i64 0)) q 2 (.int .i64 0) gs1
  simp only [List.setIfInBounds_toArray, List.set_cons_zero, List.set_cons_succ] at gs2
  have gf3 := frozenRow gs2 3
  obtain ⟨-, -, -, gc3, -, -⟩ := row6c gs2
  have gs3 := setRow (((W4.setCell ⟨q, 0, none⟩ (.int .i64 0)).setCell ⟨q, 1, none⟩ (.int .i64 0)).setCell ⟨q, 2, none⟩ (.int .i64 0)) q 3 (.int .i64 0) gs2
  simp only [List.setIfInBounds_toArray, List.set_cons_zero, List.set_cons_succ] at gs3
  have gf4 := frozenRow gs3 4
  obtain ⟨-, -, -, -, gc4, -⟩ := row6c gs3
  have gs4 := setRow ((((W4.setCell ⟨q, 0, none⟩ (.int .i64 0)).setCell ⟨q, 1, none⟩ (.int .i64 0)).setCell ⟨q, 2, none⟩ (.int .i64 0)).setCell ⟨q, 3, none⟩ (.int .i64 0)) q 4 (.bool false) gs3
  simp only [List.setIfInBounds_toArray, List.set_cons_zero, List.set_cons_succ] at gs4
  have gf5 := frozenRow gs4 5
  obtain ⟨-, -, -, -, -, gc5⟩ := row6c gs4
  have gs5 := setRow (((((W4.setCell ⟨q, 0, none⟩ (.int .i64 0)).setCell ⟨q, 1, none⟩ (.int .i64 0)).setCell ⟨q, 2, none⟩ (.int .i64 0)).setCell ⟨q, 3, none⟩ (.int .i64 0)).setCell ⟨q, 4, none⟩ (.bool false)) q 5 (.slice none 0 0) gs4
  simp only [List.setIfInBounds_toArray, List.set_cons_zero, List.set_cons_succ] at gs5
  have RR := hide gs5
  have PP := hide (keepOne (keepOne (keepOne (keepOne (keepOne (keepOne P4.out (grown_set _ q 0 (.int .i64 0)) hq.out) (grown_set _ q 1 (.int .i64 0)) hq.out) (grown_set _ q 2 (.int .i64 0)) hq.out) (grown_set _ q 3 (.int .i64 0)) hq.out) (grown_set _ q 4 (.bool false)) hq.out) (grown_set _ q 5 (.slice none 0 0)) hq.out)
  have FF : Hid (FrQ (fun i => i = p) w ((((((W4.setCell ⟨q, 0, none⟩ (.int .i64 0)).setCell ⟨q, 1, none⟩ (.int .i64 0)).setCell ⟨q, 2, none⟩ (.int .i64 0)).setCell ⟨q, 3, none⟩ (.int .i64 0)).setCell ⟨q, 4, none⟩ (.bool false)).setCell ⟨q, 5, none⟩ (.slice none 0 0))) := F4.out.trans ((((((FrQ.set (S := fun i => i = q) rfl 0 (.int .i64 0)).tr (FrQ.set (S := fun i => i = q) rfl 1 (.int .i64 0))).tr (FrQ.set (S := fun i => i = q) rfl 2 (.int .i64 0))).tr (FrQ.set (S := fun i => i = q) rfl 3 (.int .i64 0))).tr (FrQ.set (S := fun i => i = q) rfl 4 (.bool false))).tr (FrQ.set (S := fun i => i = q) rfl 5 (.slice none 0 0))) (fun _ _ e => e) (fun i hi e => by have h1 : i = q := e; omega)
  obtain ⟨f0, f1, f2, f3, f4, f5⟩ := row6c RR.out
  clear P4 F4 R4 
  go_wp2_with fail
  refine bodyPost_ret (v := .tuple #[.agg #[.int .i64 0, .int .i64 0, .int .i64 0, .int .i64 0, .bool false, .slice none 0 0], .bool false]) ?_ rfl ⟨rfl, PP.out, FF.out⟩
  rw [results_cell_tmp rfl]
  go_simp
set_option maxRecDepth 20000 in
set_option maxHeartbeats 1600000 in
theorem whole_body1 (p : Nat) (x0 x1 x2 x3 : Int) (x4 : Bool) (A : Option Addr) (n c : Nat) (u0 u1 u2 u3 u4 u5 u6 : Value) (w : World) (h : w.heap[p]? = some (.cells #[u0, u1, u2, u3, u4, u5, u6, .int .i64 2, .int .i64 x0, .int .i64 x1, .int .i64 x2, .int .i64 x3, .bool x4, (.slice A n c)] 60 (0, 0))) : Calls Try.prog 121 #[.pointer (some ⟨p, 7, none⟩), .int .i64 1] w fun e w' => e = .returned (.tuple #[.agg #[.int .i64 1, .int .i64 x1, .int .i64 x2, .int .i64 x3, .bool x4, .slice A n c], .bool true]) ∧ w'.heap[p]? = some (.cells #[u0, u1, u2, u3, u4, u5, u6, .int .i64 1, .int .i64 x0, .int .i64 x1, .int .i64 x2, .int .i64 x3, .bool x4, (.slice none 0 0)] 60 (0, 0)) ∧ FrQ (fun i => i = p) w w' := by
  have a1 := (Below.refl w.heap.size w).alloc (Nat.le_refl _) (.cells #[.int .i64 0, .int .i64 0, .int .i64 0, .int .i64 0, .bool false, .slice none 0 0] 29)
  have P0 := hide (keepRow h a1)
  have F0 := hide (FrQ.ofBelow (fun i => i = p) a1)
  have R0 := hide (heap_alloc_new w (.cells #[.int .i64 0, .int .i64 0, .int .i64 0, .int .i64 0, .bool false, .slice none 0 0] 29))
  have hq : Hid (p ≠ w.heap.size) := Nat.ne_of_lt (rowLt h)
  clear a1 h
  obtain ⟨c0, c1, c2, c3, c4, c5, c6, c7, c8, c9, c10, c11, c12, c13⟩ := row14 P0.out
  go_enter Try.func121, Try.ntmps121
  go_upto_region 1 with (fail)
  generalize hW : w.alloc (.cells #[.int .i64 0, .int .i64 0, .int .i64 0, .int .i64 0, .bool false, .slice none 0 0] 29) = W0 at *
  generalize hQ : w.heap.size = q at *
  clear hW
  have mf0 := frozenRow P0.out 13
  have ms0 := setRow (W0) p 13 (.slice none 0 0) P0.out
  simp only [List.setIfInBounds_toArray, List.set_cons_zero, List.set_cons_succ] at ms0
  have P1 := hide ms0
  have F1 := hide (F0.out.tr (FrQ.set (S := fun i => i = p) rfl 13 (.slice none 0 0)))
  have R1 := hide (keepOne R0.out (grown_set _ p 13 (.slice none 0 0)) (Ne.symm hq.out))
  clear P0 F0 R0
  go_upto_region 3 with (fail)
  clear c0 c1 c2 c3 c4 c5 c6 c7 c8 c9 c10 c11 c12 c13 mf0 ms0
  generalize hW : W0.setCell ⟨p, 13, none⟩ (.slice none 0 0) = W1 at *
  clear hW
  obtain ⟨c0, c1, c2, c3, c4, c5, c6, c7, c8, c9, c10, c11, c12, c13⟩ := row14 P1.out
  have nf0 := frozenRow P1.out 7
  have ns0 := setRow (W1) p 7 (.int .i64 1) P1.out
  simp only [List.setIfInBounds_toArray, List.set_cons_zero, List.set_cons_succ] at ns0
  have P2 := hide ns0
  have F2 := hide (F1.out.tr (FrQ.set (S := fun i => i = p) rfl 7 (.int .i64 1)))
  have R2 := hide (keepOne R1.out (grown_set _ p 7 (.int .i64 1)) (Ne.symm hq.out))
  clear P1 F1 R1
  go_upto_region 5 with (fail)
  clear c0 c1 c2 c3 c4 c5 c6 c7 c8 c9 c10 c11 c12 c13 nf0 ns0
  generalize hW : W1.setCell ⟨p, 7, none⟩ (.int .i64 1) = W2 at *
  clear hW
  obtain ⟨c0, c1, c2, c3, c4, c5, c6, c7, c8, c9, c10, c11, c12, c13⟩ := row14 P2.out
  have b1 := (Below.refl W2.heap.size W2).alloc (Nat.le_refl _) (.cells #[.int .i64 x0, .int .i64 x1, .int .i64 x2, .int .i64 x3, .bool x4] 55)
  have H3 := hide (heap_alloc_new W2 (.cells #[.int .i64 x0, .int .i64 x1, .int .i64 x2, .int .i64 x3, .bool x4] 55))
  have P3 := hide (keepRow P2.out b1)
  have F3 := hide (F2.out.tr (FrQ.ofBelow _ b1))
  have R3 := hide (keepRow R2.out b1)
  have hq3 : Hid (q ≠ W2.heap.size) := Nat.ne_of_lt (rowLt R2.out)
  clear b1 P2 F2 R2
  go_upto_region 6 with (fail)
  clear c0 c1 c2 c3 c4 c5 c6 c7 c8 c9 c10 c11 c12 c13
  generalize hW : W2.alloc (.cells #[.int .i64 x0, .int .i64 x1, .int .i64 x2, .int .i64 x3, .bool x4] 55) = W3 at *
  generalize hQ2 : W2.heap.size = q2 at *
  clear hW hQ2
  obtain ⟨d0, d1, d2, d3, d4⟩ := row5 H3.out
  obtain ⟨r0, r1, r2, r3, r4, r5⟩ := row6c R3.out
  have gf0 := frozenRow R3.out 0
  have gs0 := setRow (W3) q 0 (.int .i64 1) R3.out
  simp only [List.setIfInBounds_toArray, List.set_cons_zero, List.set_cons_succ] at gs0
  have gf1 := frozenRow gs0 1
  obtain ⟨-, gc1, -, -, -, -⟩ := row6c gs0
  have gs1 := setRow (W3.setCell ⟨q, 0, none⟩ (.int .i64 1)) q 1 (.int .i64 x1) gs0
  simp only [List.setIfInBounds_toArray, List.set_cons_zero, List.set_cons_succ] at gs1
  have gf2 := frozenRow gs1 2
  obtain ⟨-, -, gc2, -, -, -⟩ := row6c gs1
  have gs2 := setRow ((W3.setCell ⟨q, 0, none⟩ (.int .i64 1)).setCell ⟨q, 1, none⟩ (.int .i64 x1)) q 2 (.int .i64 x2) gs1
  simp only [List.setIfInBounds_toArray, List.set_cons_zero, List.set_cons_succ] at gs2
  have gf3 := frozenRow gs2 3
  obtain ⟨-, -, -, gc3, -, -⟩ := row6c gs2
  have gs3 := setRow (((W3.setCell ⟨q, 0, none⟩ (.int .i64 1)).setCell ⟨q, 1, none⟩ (.int .i64 x1)).setCell ⟨q, 2, none⟩ (.int .i64 x2)) q 3 (.int .i64 x3) gs2
  simp only [List.setIfInBounds_toArray, List.set_cons_zero, List.set_cons_succ] at gs3
  have gf4 := frozenRow gs3 4
  obtain ⟨-, -, -, -, gc4, -⟩ := row6c gs3
  have gs4 := setRow ((((W3.setCell ⟨q, 0, none⟩ (.int .i64 1)).setCell ⟨q, 1, none⟩ (.int .i64 x1)).setCell ⟨q, 2, none⟩ (.int .i64 x2)).setCell ⟨q, 3, none⟩ (.int .i64 x3)) q 4 (.bool x4) gs3
  simp only [List.setIfInBounds_toArray, List.set_cons_zero, List.set_cons_succ] at gs4
  have gf5 := frozenRow gs4 5
  obtain ⟨-, -, -, -, -, gc5⟩ := row6c gs4
  have gs5 := setRow (((((W3.setCell ⟨q, 0, none⟩ (.int .i64 1)).setCell ⟨q, 1, none⟩ (.int .i64 x1)).setCell ⟨q, 2, none⟩ (.int .i64 x2)).setCell ⟨q, 3, none⟩ (.int .i64 x3)).setCell ⟨q, 4, none⟩ (.bool x4)) q 5 (.slice A n c) gs4
  simp only [List.setIfInBounds_toArray, List.set_cons_zero, List.set_cons_succ] at gs5
  have RR := hide gs5
  have PP := hide (keepOne (keepOne (keepOne (keepOne (keepOne (keepOne P3.out (grown_set _ q 0 (.int .i64 1)) hq.out) (grown_set _ q 1 (.int .i64 x1)) hq.out) (grown_set _ q 2 (.int .i64 x2)) hq.out) (grown_set _ q 3 (.int .i64 x3)) hq.out) (grown_set _ q 4 (.bool x4)) hq.out) (grown_set _ q 5 (.slice A n c)) hq.out)
  have FF : Hid (FrQ (fun i => i = p) w ((((((W3.setCell ⟨q, 0, none⟩ (.int .i64 1)).setCell ⟨q, 1, none⟩ (.int .i64 x1)).setCell ⟨q, 2, none⟩ (.int .i64 x2)).setCell ⟨q, 3, none⟩ (.int .i64 x3)).setCell ⟨q, 4, none⟩ (.bool x4)).setCell ⟨q, 5, none⟩ (.slice A n c))) := F3.out.trans ((((((FrQ.set (S := fun i => i = q) rfl 0 (.int .i64 1)).tr (FrQ.set (S := fun i => i = q) rfl 1 (.int .i64 x1))).tr (FrQ.set (S := fun i => i = q) rfl 2 (.int .i64 x2))).tr (FrQ.set (S := fun i => i = q) rfl 3 (.int .i64 x3))).tr (FrQ.set (S := fun i => i = q) rfl 4 (.bool x4))).tr (FrQ.set (S := fun i => i = q) rfl 5 (.slice A n c))) (fun _ _ e => e) (fun i hi e => by have h1 : i = q := e; omega)
  obtain ⟨f0, f1, f2, f3, f4, f5⟩ := row6c RR.out
  clear P3 F3 R3 
  go_wp2_with fail
  refine bodyPost_ret (v := .tuple #[.agg #[.int .i64 1, .int .i64 x1, .int .i64 x2, .int .i64 x3, .bool x4, .slice A n c], .bool true]) ?_ rfl ⟨rfl, PP.out, FF.out⟩
  rw [results_cell_tmp rfl]
  go_simp
set_option maxRecDepth 20000 in
set_option maxHeartbeats 1600000 in
theorem whole_head11 (p : Nat) (x0 x1 x2 x3 : Int) (x4 : Bool) (A : Option Addr) (c : Nat) (f : Nat → Int) (hf : Byt 9 f) (u0 u1 u2 u3 u4 u5 u6 : Value) (w : World) (h : w.heap[p]? = some (.cells #[u0, u1, u2, u3, u4, u5, u6, .int .i64 1, .int .i64 x0, .int .i64 x1, .int .i64 x2, .int .i64 x3, .bool x4, (.slice A 9 c)] 60 (0, 0))) (ha : Rd .u8 w A 9 c f) (hA : ∀ a, A = some a → a.block ≠ p) : Calls Try.prog 121 #[.pointer (some ⟨p, 7, none⟩), .int .i64 1] w fun e w' => e = .returned (.tuple #[.agg #[.int .i64 0, .int .i64 0, .int .i64 0, .int .i64 0, .bool false, .slice none 0 0], .bool false]) ∧ w'.heap[p]? = some (.cells #[u0, u1, u2, u3, u4, u5, u6, .int .i64 2, .int .i64 (gL f), .int .i64 (f 3), .int .i64 (f 4), .int .i64 (lowN (gX f)), .bool (lowB (gX f)), (.slice none 0 0)] 60 (0, 0)) ∧ FrQ (fun i => i = p) w w' := by
  have a1 := (Below.refl w.heap.size w).alloc (Nat.le_refl _) (.cells #[.int .i64 0, .int .i64 0, .int .i64 0, .int .i64 0, .bool false, .slice none 0 0] 29)
  have P0 := hide (keepRow h a1)
  have F0 := hide (FrQ.ofBelow (fun i => i = p) a1)
  have R0 := hide (heap_alloc_new w (.cells #[.int .i64 0, .int .i64 0, .int .i64 0, .int .i64 0, .bool false, .slice none 0 0] 29))
  have hq : Hid (p ≠ w.heap.size) := Nat.ne_of_lt (rowLt h)
  obtain ⟨y0, g0⟩ : ∃ y, gL f = y := ⟨_, rfl⟩
  obtain ⟨y1, g1⟩ : ∃ y, f 3 = y := ⟨_, rfl⟩
  obtain ⟨y2, g2⟩ : ∃ y, f 4 = y := ⟨_, rfl⟩
  obtain ⟨y3, g3⟩ : ∃ y, lowN (gX f) = y := ⟨_, rfl⟩
  obtain ⟨y4, g4⟩ : ∃ y, lowB (gX f) = y := ⟨_, rfl⟩
  have HY := hide (And.intro g0 (And.intro g1 (And.intro g2 (And.intro g3 g4))))
  rw [g0, g1, g2, g3, g4]
  clear g0 g1 g2 g3 g4
  have HA0 := hide (ha.below a1)
  have HNA := hide hA
  have HF := hide hf
  clear ha hf hA
  clear a1 h
  obtain ⟨c0, c1, c2, c3, c4, c5, c6, c7, c8, c9, c10, c11, c12, c13⟩ := row14 P0.out
  go_enter Try.func121, Try.ntmps121
  go_upto_region 1 with (fail)
  generalize hW : w.alloc (.cells #[.int .i64 0, .int .i64 0, .int .i64 0, .int .i64 0, .bool false, .slice none 0 0] 29) = W0 at *
  generalize hQ : w.heap.size = q at *
  clear hW
  have mf0 := frozenRow P0.out 13
  have ms0 := setRow (W0) p 13 (.slice none 0 0) P0.out
  simp only [List.setIfInBounds_toArray, List.set_cons_zero, List.set_cons_succ] at ms0
  have P1 := hide ms0
  have F1 := hide (F0.out.tr (FrQ.set (S := fun i => i = p) rfl 13 (.slice none 0 0)))
  have R1 := hide (keepOne R0.out (grown_set _ p 13 (.slice none 0 0)) (Ne.symm hq.out))
  have HA1 := hide (HA0.out.frQ (FrQ.set (S := fun i => i = p) rfl 13 (.slice none 0 0)) fun _ a e e2 => HNA.out a e e2)
  clear P0 F0 R0 HA0
  go_upto_region 3 with (fail)
  clear c0 c1 c2 c3 c4 c5 c6 c7 c8 c9 c10 c11 c12 c13 mf0 ms0
  generalize hW : W0.setCell ⟨p, 13, none⟩ (.slice none 0 0) = W1 at *
  clear hW
  obtain ⟨c0, c1, c2, c3, c4, c5, c6, c7, c8, c9, c10, c11, c12, c13⟩ := row14 P1.out
  have nf0 := frozenRow P1.out 7
  have ns0 := setRow (W1) p 7 (.int .i64 2) P1.out
  simp only [List.setIfInBounds_toArray, List.set_cons_zero, List.set_cons_succ] at ns0
  have P2 := hide ns0
  have F2 := hide (F1.out.tr (FrQ.set (S := fun i => i = p) rfl 7 (.int .i64 2)))
  have R2 := hide (keepOne R1.out (grown_set _ p 7 (.int .i64 2)) (Ne.symm hq.out))
  have HA2 := hide (HA1.out.frQ (FrQ.set (S := fun i => i = p) rfl 7 (.int .i64 2)) fun _ a e e2 => HNA.out a e e2)
  clear P1 F1 R1 HA1
  go_upto_region 11 with (fail)
  clear c0 c1 c2 c3 c4 c5 c6 c7 c8 c9 c10 c11 c12 c13 nf0 ns0
  generalize hW : W1.setCell ⟨p, 7, none⟩ (.int .i64 2) = W2 at *
  clear hW
  obtain ⟨c0, c1, c2, c3, c4, c5, c6, c7, c8, c9, c10, c11, c12, c13⟩ := row14 P2.out
  go_wp2_with fail
  refine (hget_ok A 9 c f W2 HA2.out HF.out (Nat.le_refl _)).mono ?_
  rintro e V ⟨rfl, hb⟩
  have P3 := hide (keepRow P2.out hb)
  have F3 := hide (F2.out.tr (FrQ.ofBelow _ hb))
  have R3 := hide (keepRow R2.out hb)
  have e3 : gT f = f 3 := gT_eq f
  have e4 : gF f = f 4 := gF_eq f
  rw [e3, e4]
  obtain ⟨g0, g1, g2, g3, g4⟩ := HY.out
  rw [g0, g1, g2, g3, g4]
  clear e3 e4 hb P2 F2 R2 HA2 c0 c1 c2 c3 c4 c5 c6 c7 c8 c9 c10 c11 c12 c13 g0 g1 g2 g3 g4
  obtain ⟨c0, c1, c2, c3, c4, c5, c6, c7, c8, c9, c10, c11, c12, c13⟩ := row14 P3.out
  have kf0 := frozenRow P3.out 8
  have ks0 := setRow (V) p 8 (.int .i64 y0) P3.out
  simp only [List.setIfInBounds_toArray, List.set_cons_zero, List.set_cons_succ] at ks0
  have kf1 := frozenRow ks0 9
  obtain ⟨-, -, -, -, -, -, -, -, -, kc1, -, -, -, -⟩ := row14 ks0
  have ks1 := setRow (V.setCell ⟨p, 8, none⟩ (.int .i64 y0)) p 9 (.int .i64 y1) ks0
  simp only [List.setIfInBounds_toArray, List.set_cons_zero, List.set_cons_succ] at ks1
  have kf2 := frozenRow ks1 10
  obtain ⟨-, -, -, -, -, -, -, -, -, -, kc2, -, -, -⟩ := row14 ks1
  have ks2 := setRow ((V.setCell ⟨p, 8, none⟩ (.int .i64 y0)).setCell ⟨p, 9, none⟩ (.int .i64 y1)) p 10 (.int .i64 y2) ks1
  simp only [List.setIfInBounds_toArray, List.set_cons_zero, List.set_cons_succ] at ks2
  have kf3 := frozenRow ks2 11
  obtain ⟨-, -, -, -, -, -, -, -, -, -, -, kc3, -, -⟩ := row14 ks2
  have ks3 := setRow (((V.setCell ⟨p, 8, none⟩ (.int .i64 y0)).setCell ⟨p, 9, none⟩ (.int .i64 y1)).setCell ⟨p, 10, none⟩ (.int .i64 y2)) p 11 (.int .i64 y3) ks2
  simp only [List.setIfInBounds_toArray, List.set_cons_zero, List.set_cons_succ] at ks3
  have kf4 := frozenRow ks3 12
  obtain ⟨-, -, -, -, -, -, -, -, -, -, -, -, kc4, -⟩ := row14 ks3
  have ks4 := setRow ((((V.setCell ⟨p, 8, none⟩ (.int .i64 y0)).setCell ⟨p, 9, none⟩ (.int .i64 y1)).setCell ⟨p, 10, none⟩ (.int .i64 y2)).setCell ⟨p, 11, none⟩ (.int .i64 y3)) p 12 (.bool y4) ks3
  simp only [List.setIfInBounds_toArray, List.set_cons_zero, List.set_cons_succ] at ks4
  have P4 := hide ks4
  have F4 := hide (((((F3.out.tr (FrQ.set (S := fun i => i = p) rfl 8 (.int .i64 y0))).tr (FrQ.set (S := fun i => i = p) rfl 9 (.int .i64 y1))).tr (FrQ.set (S := fun i => i = p) rfl 10 (.int .i64 y2))).tr (FrQ.set (S := fun i => i = p) rfl 11 (.int .i64 y3))).tr (FrQ.set (S := fun i => i = p) rfl 12 (.bool y4)))
  have R4 := hide (keepOne (keepOne (keepOne (keepOne (keepOne R3.out (grown_set _ p 8 (.int .i64 y0)) (Ne.symm hq.out)) (grown_set _ p 9 (.int .i64 y1)) (Ne.symm hq.out)) (grown_set _ p 10 (.int .i64 y2)) (Ne.symm hq.out)) (grown_set _ p 11 (.int .i64 y3)) (Ne.symm hq.out)) (grown_set _ p 12 (.bool y4)) (Ne.symm hq.out))
  clear P3 F3 R3
  go_upto_region 12 with (fail)
  clear c0 c1 c2 c3 c4 c5 c6 c7 c8 c9 c10 c11 c12 c13 kf0 ks0 kf1 kc1 ks1 kf2 kc2 ks2 kf3 kc3 ks3 kf4 kc4 ks4
  generalize hW : ((((V.setCell ⟨p, 8, none⟩ (.int .i64 y0)).setCell ⟨p, 9, none⟩ (.int .i64 y1)).setCell ⟨p, 10, none⟩ (.int .i64 y2)).setCell ⟨p, 11, none⟩ (.int .i64 y3)).setCell ⟨p, 12, none⟩ (.bool y4) = W4 at *
  clear hW
  obtain ⟨r0, r1, r2, r3, r4, r5⟩ := row6c R4.out
  have gf0 := frozenRow R4.out 0
  have gs0 := setRow (W4) q 0 (.int .i64 0) R4.out
  simp only [List.setIfInBounds_toArray, List.set_cons_zero, List.set_cons_succ] at gs0
  have gf1 := frozenRow gs0 1
  obtain ⟨-, gc1, -, -, -, -⟩ := row6c gs0
  have gs1 := setRow (W4.setCell ⟨q, 0, none⟩ (.int .i64 0)) q 1 (.int .i64 0) gs0
  simp only [List.setIfInBounds_toArray, List.set_cons_zero, List.set_cons_succ] at gs1
  have gf2 := frozenRow gs1 2
  obtain ⟨-, -, gc2, -, -, -⟩ := row6c gs1
  have gs2 := setRow ((W4.setCell ⟨q, 0, none⟩ (.int .i64 0)).setCell ⟨q, 1, none⟩ (.int .i64 0)) q 2 (.int .i64 0) gs1
  simp only [List.setIfInBounds_toArray, List.set_cons_zero, List.set_cons_succ] at gs2
  have gf3 := frozenRow gs2 3
  obtain ⟨-, -, -, gc3, -, -⟩ := row6c gs2
  have gs3 := setRow (((W4.setCell ⟨q, 0, none⟩ (.int .i64 0)).setCell ⟨q, 1, none⟩ (.int .i64 0)).setCell ⟨q, 2, none⟩ (.int .i64 0)) q 3 (.int .i64 0) gs2
  simp only [List.setIfInBounds_toArray, List.set_cons_zero, List.set_cons_succ] at gs3
  have gf4 := frozenRow gs3 4
  obtain ⟨-, -, -, -, gc4, -⟩ := row6c gs3
  have gs4 := setRow ((((W4.setCell ⟨q, 0, none⟩ (.int .i64 0)).setCell ⟨q, 1, none⟩ (.int .i64 0)).setCell ⟨q, 2, none⟩ (.int .i64 0)).setCell ⟨q, 3, none⟩ (.int .i64 0)) q 4 (.bool false) gs3
  simp only [List.setIfInBounds_toArray, List.set_cons_zero, List.set_cons_succ] at gs4
  have gf5 := frozenRow gs4 5
  obtain ⟨-, -, -, -, -, gc5⟩ := row6c gs4
  have gs5 := setRow (((((W4.setCell ⟨q, 0, none⟩ (.int .i64 0)).setCell ⟨q, 1, none⟩ (.int .i64 0)).setCell ⟨q, 2, none⟩ (.int .i64 0)).setCell ⟨q, 3, none⟩ (.int .i64 0)).setCell ⟨q, 4, none⟩ (.bool false)) q 5 (.slice none 0 0) gs4
  simp only [List.setIfInBounds_toArray, List.set_cons_zero, List.set_cons_succ] at gs5
  have RR := hide gs5
  have PP := hide (keepOne (keepOne (keepOne (keepOne (keepOne (keepOne P4.out (grown_set _ q 0 (.int .i64 0)) hq.out) (grown_set _ q 1 (.int .i64 0)) hq.out) (grown_set _ q 2 (.int .i64 0)) hq.out) (grown_set _ q 3 (.int .i64 0)) hq.out) (grown_set _ q 4 (.bool false)) hq.out) (grown_set _ q 5 (.slice none 0 0)) hq.out)
  have FF : Hid (FrQ (fun i => i = p) w ((((((W4.setCell ⟨q, 0, none⟩ (.int .i64 0)).setCell ⟨q, 1, none⟩ (.int .i64 0)).setCell ⟨q, 2, none⟩ (.int .i64 0)).setCell ⟨q, 3, none⟩ (.int .i64 0)).setCell ⟨q, 4, none⟩ (.bool false)).setCell ⟨q, 5, none⟩ (.slice none 0 0))) := F4.out.trans ((((((FrQ.set (S := fun i => i = q) rfl 0 (.int .i64 0)).tr (FrQ.set (S := fun i => i = q) rfl 1 (.int .i64 0))).tr (FrQ.set (S := fun i => i = q) rfl 2 (.int .i64 0))).tr (FrQ.set (S := fun i => i = q) rfl 3 (.int .i64 0))).tr (FrQ.set (S := fun i => i = q) rfl 4 (.bool false))).tr (FrQ.set (S := fun i => i = q) rfl 5 (.slice none 0 0))) (fun _ _ e => e) (fun i hi e => by have h1 : i = q := e; omega)
  obtain ⟨f0, f1, f2, f3, f4, f5⟩ := row6c RR.out
  clear P4 F4 R4 
  go_wp2_with fail
  refine bodyPost_ret (v := .tuple #[.agg #[.int .i64 0, .int .i64 0, .int .i64 0, .int .i64 0, .bool false, .slice none 0 0], .bool false]) ?_ rfl ⟨rfl, PP.out, FF.out⟩
  rw [results_cell_tmp rfl]
  go_simp
set_option maxRecDepth 20000 in
set_option maxHeartbeats 1600000 in
theorem whole_head01 (p : Nat) (x0 x1 x2 x3 : Int) (x4 : Bool) (A : Option Addr) (c : Nat) (f : Nat → Int) (hf : Byt 9 f) (u0 u1 u2 u3 u4 u5 u6 : Value) (w : World) (h : w.heap[p]? = some (.cells #[u0, u1, u2, u3, u4, u5, u6, .int .i64 0, .int .i64 x0, .int .i64 x1, .int .i64 x2, .int .i64 x3, .bool x4, (.slice A 9 c)] 60 (0, 0))) (ha : Rd .u8 w A 9 c f) (hA : ∀ a, A = some a → a.block ≠ p) : Calls Try.prog 121 #[.pointer (some ⟨p, 7, none⟩), .int .i64 1] w fun e w' => e = .returned (.tuple #[.agg #[.int .i64 0, .int .i64 0, .int .i64 0, .int .i64 0, .bool false, .slice none 0 0], .bool false]) ∧ w'.heap[p]? = some (.cells #[u0, u1, u2, u3, u4, u5, u6, .int .i64 2, .int .i64 (gL f), .int .i64 (f 3), .int .i64 (f 4), .int .i64 (lowN (gX f)), .bool (lowB (gX f)), (.slice none 0 0)] 60 (0, 0)) ∧ FrQ (fun i => i = p) w w' := by
  have a1 := (Below.refl w.heap.size w).alloc (Nat.le_refl _) (.cells #[.int .i64 0, .int .i64 0, .int .i64 0, .int .i64 0, .bool false, .slice none 0 0] 29)
  have P0 := hide (keepRow h a1)
  have F0 := hide (FrQ.ofBelow (fun i => i = p) a1)
  have R0 := hide (heap_alloc_new w (.cells #[.int .i64 0, .int .i64 0, .int .i64 0, .int .i64 0, .bool false, .slice none 0 0] 29))
  have hq : Hid (p ≠ w.heap.size) := Nat.ne_of_lt (rowLt h)
  obtain ⟨y0, g0⟩ : ∃ y, gL f = y := ⟨_, rfl⟩
  obtain ⟨y1, g1⟩ : ∃ y, f 3 = y := ⟨_, rfl⟩
  obtain ⟨y2, g2⟩ : ∃ y, f 4 = y := ⟨_, rfl⟩
  obtain ⟨y3, g3⟩ : ∃ y, lowN (gX f) = y := ⟨_, rfl⟩
  obtain ⟨y4, g4⟩ : ∃ y, lowB (gX f) = y := ⟨_, rfl⟩
  have HY := hide (And.intro g0 (And.intro g1 (And.intro g2 (And.intro g3 g4))))
  rw [g0, g1, g2, g3, g4]
  clear g0 g1 g2 g3 g4
  have HA0 := hide (ha.below a1)
  have HNA := hide hA
  have HF := hide hf
  clear ha hf hA
  clear a1 h
  obtain ⟨c0, c1, c2, c3, c4, c5, c6, c7, c8, c9, c10, c11, c12, c13⟩ := row14 P0.out
  go_enter Try.func121, Try.ntmps121
  go_upto_region 1 with (fail)
  generalize hW : w.alloc (.cells #[.int .i64 0, .int .i64 0, .int .i64 0, .int .i64 0, .bool false, .slice none 0 0] 29) = W0 at *
  generalize hQ : w.heap.size = q at *
  clear hW
  have mf0 := frozenRow P0.out 13
  have ms0 := setRow (W0) p 13 (.slice none 0 0) P0.out
  simp only [List.setIfInBounds_toArray, List.set_cons_zero, List.set_cons_succ] at ms0
  have P1 := hide ms0
  have F1 := hide (F0.out.tr (FrQ.set (S := fun i => i = p) rfl 13 (.slice none 0 0)))
  have R1 := hide (keepOne R0.out (grown_set _ p 13 (.slice none 0 0)) (Ne.symm hq.out))
  have HA1 := hide (HA0.out.frQ (FrQ.set (S := fun i => i = p) rfl 13 (.slice none 0 0)) fun _ a e e2 => HNA.out a e e2)
  clear P0 F0 R0 HA0
  go_upto_region 3 with (fail)
  clear c0 c1 c2 c3 c4 c5 c6 c7 c8 c9 c10 c11 c12 c13 mf0 ms0
  generalize hW : W0.setCell ⟨p, 13, none⟩ (.slice none 0 0) = W1 at *
  clear hW
  obtain ⟨c0, c1, c2, c3, c4, c5, c6, c7, c8, c9, c10, c11, c12, c13⟩ := row14 P1.out
  have nf0 := frozenRow P1.out 7
  have ns0 := setRow (W1) p 7 (.int .i64 2) P1.out
  simp only [List.setIfInBounds_toArray, List.set_cons_zero, List.set_cons_succ] at ns0
  have P2 := hide ns0
  have F2 := hide (F1.out.tr (FrQ.set (S := fun i => i = p) rfl 7 (.int .i64 2)))
  have R2 := hide (keepOne R1.out (grown_set _ p 7 (.int .i64 2)) (Ne.symm hq.out))
  have HA2 := hide (HA1.out.frQ (FrQ.set (S := fun i => i = p) rfl 7 (.int .i64 2)) fun _ a e e2 => HNA.out a e e2)
  clear P1 F1 R1 HA1
  go_upto_region 11 with (fail)
  clear c0 c1 c2 c3 c4 c5 c6 c7 c8 c9 c10 c11 c12 c13 nf0 ns0
  generalize hW : W1.setCell ⟨p, 7, none⟩ (.int .i64 2) = W2 at *
  clear hW
  obtain ⟨c0, c1, c2, c3, c4, c5, c6, c7, c8, c9, c10, c11, c12, c13⟩ := row14 P2.out
  go_wp2_with fail
  refine (hget_ok A 9 c f W2 HA2.out HF.out (Nat.le_refl _)).mono ?_
  rintro e V ⟨rfl, hb⟩
  have P3 := hide (keepRow P2.out hb)
  have F3 := hide (F2.out.tr (FrQ.ofBelow _ hb))
  have R3 := hide (keepRow R2.out hb)
  have e3 : gT f = f 3 := gT_eq f
  have e4 : gF f = f 4 := gF_eq f
  rw [e3, e4]
  obtain ⟨g0, g1, g2, g3, g4⟩ := HY.out
  rw [g0, g1, g2, g3, g4]
  clear e3 e4 hb P2 F2 R2 HA2 c0 c1 c2 c3 c4 c5 c6 c7 c8 c9 c10 c11 c12 c13 g0 g1 g2 g3 g4
  obtain ⟨c0, c1, c2, c3, c4, c5, c6, c7, c8, c9, c10, c11, c12, c13⟩ := row14 P3.out
  have kf0 := frozenRow P3.out 8
  have ks0 := setRow (V) p 8 (.int .i64 y0) P3.out
  simp only [List.setIfInBounds_toArray, List.set_cons_zero, List.set_cons_succ] at ks0
  have kf1 := frozenRow ks0 9
  obtain ⟨-, -, -, -, -, -, -, -, -, kc1, -, -, -, -⟩ := row14 ks0
  have ks1 := setRow (V.setCell ⟨p, 8, none⟩ (.int .i64 y0)) p 9 (.int .i64 y1) ks0
  simp only [List.setIfInBounds_toArray, List.set_cons_zero, List.set_cons_succ] at ks1
  have kf2 := frozenRow ks1 10
  obtain ⟨-, -, -, -, -, -, -, -, -, -, kc2, -, -, -⟩ := row14 ks1
  have ks2 := setRow ((V.setCell ⟨p, 8, none⟩ (.int .i64 y0)).setCell ⟨p, 9, none⟩ (.int .i64 y1)) p 10 (.int .i64 y2) ks1
  simp only [List.setIfInBounds_toArray, List.set_cons_zero, List.set_cons_succ] at ks2
  have kf3 := frozenRow ks2 11
  obtain ⟨-, -, -, -, -, -, -, -, -, -, -, kc3, -, -⟩ := row14 ks2
  have ks3 := setRow (((V.setCell ⟨p, 8, none⟩ (.int .i64 y0)).setCell ⟨p, 9, none⟩ (.int .i64 y1)).setCell ⟨p, 10, none⟩ (.int .i64 y2)) p 11 (.int .i64 y3) ks2
  simp only [List.setIfInBounds_toArray, List.set_cons_zero, List.set_cons_succ] at ks3
  have kf4 := frozenRow ks3 12
  obtain ⟨-, -, -, -, -, -, -, -, -, -, -, -, kc4, -⟩ := row14 ks3
  have ks4 := setRow ((((V.setCell ⟨p, 8, none⟩ (.int .i64 y0)).setCell ⟨p, 9, none⟩ (.int .i64 y1)).setCell ⟨p, 10, none⟩ (.int .i64 y2)).setCell ⟨p, 11, none⟩ (.int .i64 y3)) p 12 (.bool y4) ks3
  simp only [List.setIfInBounds_toArray, List.set_cons_zero, List.set_cons_succ] at ks4
  have P4 := hide ks4
  have F4 := hide (((((F3.out.tr (FrQ.set (S := fun i => i = p) rfl 8 (.int .i64 y0))).tr (FrQ.set (S := fun i => i = p) rfl 9 (.int .i64 y1))).tr (FrQ.set (S := fun i => i = p) rfl 10 (.int .i64 y2))).tr (FrQ.set (S := fun i => i = p) rfl 11 (.int .i64 y3))).tr (FrQ.set (S := fun i => i = p) rfl 12 (.bool y4)))
  have R4 := hide (keepOne (keepOne (keepOne (keepOne (keepOne R3.out (grown_set _ p 8 (.int .i64 y0)) (Ne.symm hq.out)) (grown_set _ p 9 (.int .i64 y1)) (Ne.symm hq.out)) (grown_set _ p 10 (.int .i64 y2)) (Ne.symm hq.out)) (grown_set _ p 11 (.int .i64 y3)) (Ne.symm hq.out)) (grown_set _ p 12 (.bool y4)) (Ne.symm hq.out))
  clear P3 F3 R3
  go_upto_region 12 with (fail)
  clear c0 c1 c2 c3 c4 c5 c6 c7 c8 c9 c10 c11 c12 c13 kf0 ks0 kf1 kc1 ks1 kf2 kc2 ks2 kf3 kc3 ks3 kf4 kc4 ks4
  generalize hW : ((((V.setCell ⟨p, 8, none⟩ (.int .i64 y0)).setCell ⟨p, 9, none⟩ (.int .i64 y1)).setCell ⟨p, 10, none⟩ (.int .i64 y2)).setCell ⟨p, 11, none⟩ (.int .i64 y3)).setCell ⟨p, 12, none⟩ (.bool y4) = W4 at *
  clear hW
  obtain ⟨r0, r1, r2, r3, r4, r5⟩ := row6c R4.out
  have gf0 := frozenRow R4.out 0
  have gs0 := setRow (W4) q 0 (.int .i64 0) R4.out
  simp only [List.setIfInBounds_toArray, List.set_cons_zero, List.set_cons_succ] at gs0
  have gf1 := frozenRow gs0 1
  obtain ⟨-, gc1, -, -, -, -⟩ := row6c gs0
  have gs1 := setRow (W4.setCell ⟨q, 0, none⟩ (.int .i64 0)) q 1 (.int .i64 0) gs0
  simp only [List.setIfInBounds_toArray, List.set_cons_zero, List.set_cons_succ] at gs1
  have gf2 := frozenRow gs1 2
  obtain ⟨-, -, gc2, -, -, -⟩ := row6c gs1
  have gs2 := setRow ((W4.setCell ⟨q, 0, none⟩ (.int .i64 0)).setCell ⟨q, 1, none⟩ (.int .i64 0)) q 2 (.int .i64 0) gs1
  simp only [List.setIfInBounds_toArray, List.set_cons_zero, List.set_cons_succ] at gs2
  have gf3 := frozenRow gs2 3
  obtain ⟨-, -, -, gc3, -, -⟩ := row6c gs2
  have gs3 := setRow (((W4.setCell ⟨q, 0, none⟩ (.int .i64 0)).setCell ⟨q, 1, none⟩ (.int .i64 0)).setCell ⟨q, 2, none⟩ (.int .i64 0)) q 3 (.int .i64 0) gs2
  simp only [List.setIfInBounds_toArray, List.set_cons_zero, List.set_cons_succ] at gs3
  have gf4 := frozenRow gs3 4
  obtain ⟨-, -, -, -, gc4, -⟩ := row6c gs3
  have gs4 := setRow ((((W4.setCell ⟨q, 0, none⟩ (.int .i64 0)).setCell ⟨q, 1, none⟩ (.int .i64 0)).setCell ⟨q, 2, none⟩ (.int .i64 0)).setCell ⟨q, 3, none⟩ (.int .i64 0)) q 4 (.bool false) gs3
  simp only [List.setIfInBounds_toArray, List.set_cons_zero, List.set_cons_succ] at gs4
  have gf5 := frozenRow gs4 5
  obtain ⟨-, -, -, -, -, gc5⟩ := row6c gs4
  have gs5 := setRow (((((W4.setCell ⟨q, 0, none⟩ (.int .i64 0)).setCell ⟨q, 1, none⟩ (.int .i64 0)).setCell ⟨q, 2, none⟩ (.int .i64 0)).setCell ⟨q, 3, none⟩ (.int .i64 0)).setCell ⟨q, 4, none⟩ (.bool false)) q 5 (.slice none 0 0) gs4
  simp only [List.setIfInBounds_toArray, List.set_cons_zero, List.set_cons_succ] at gs5
  have RR := hide gs5
  have PP := hide (keepOne (keepOne (keepOne (keepOne (keepOne (keepOne P4.out (grown_set _ q 0 (.int .i64 0)) hq.out) (grown_set _ q 1 (.int .i64 0)) hq.out) (grown_set _ q 2 (.int .i64 0)) hq.out) (grown_set _ q 3 (.int .i64 0)) hq.out) (grown_set _ q 4 (.bool false)) hq.out) (grown_set _ q 5 (.slice none 0 0)) hq.out)
  have FF : Hid (FrQ (fun i => i = p) w ((((((W4.setCell ⟨q, 0, none⟩ (.int .i64 0)).setCell ⟨q, 1, none⟩ (.int .i64 0)).setCell ⟨q, 2, none⟩ (.int .i64 0)).setCell ⟨q, 3, none⟩ (.int .i64 0)).setCell ⟨q, 4, none⟩ (.bool false)).setCell ⟨q, 5, none⟩ (.slice none 0 0))) := F4.out.trans ((((((FrQ.set (S := fun i => i = q) rfl 0 (.int .i64 0)).tr (FrQ.set (S := fun i => i = q) rfl 1 (.int .i64 0))).tr (FrQ.set (S := fun i => i = q) rfl 2 (.int .i64 0))).tr (FrQ.set (S := fun i => i = q) rfl 3 (.int .i64 0))).tr (FrQ.set (S := fun i => i = q) rfl 4 (.bool false))).tr (FrQ.set (S := fun i => i = q) rfl 5 (.slice none 0 0))) (fun _ _ e => e) (fun i hi e => by have h1 : i = q := e; omega)
  obtain ⟨f0, f1, f2, f3, f4, f5⟩ := row6c RR.out
  clear P4 F4 R4 
  go_wp2_with fail
  refine bodyPost_ret (v := .tuple #[.agg #[.int .i64 0, .int .i64 0, .int .i64 0, .int .i64 0, .bool false, .slice none 0 0], .bool false]) ?_ rfl ⟨rfl, PP.out, FF.out⟩
  rw [results_cell_tmp rfl]
  go_simp
end Go.Proofs.Ytpnjamomkpkkeaa
