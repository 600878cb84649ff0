/- Layer 3: the document's text of a number, below 0. -/
import Derived.Test.YtminoofghdpomaaDoorTx3
namespace Go.Proofs.YtminoofghdpomaaDoor
set_option linter.unusedVariables false
set_option linter.unusedSimpArgs false
open Go.RowKit Go.PlainAid

/-- The text of -n. -/
def negS (n : Nat) : ByteArray := ⟨(45 :: decL n).toArray⟩
/-- A number's own text. -/
def intS (t : Int) : ByteArray := if t < 0 then negS (-t).toNat else decS t.toNat
theorem negS_len (n : Nat) : (negS n).size = (decL n).length + 1 := by
  unfold negS
  show (45 :: decL n).toArray.size = _
  simp
theorem negS_20 {n : Nat} (h : n ≤ 9223372036854775808) : (negS n).size ≤ 20 := by
  rw [negS_len]
  have := (decL_len 19 n (by omega) (by omega)).1
  omega
theorem negS_cat {n q d : Nat} (h : ¬ n < 10) (hq : q = n / 10) (hd : d = n % 10) : negS q ++ ⟨#[48 + d.toUInt8]⟩ = negS n := by
  unfold negS
  rw [decL_more h, ← hq, ← hd, ← List.cons_append, ← bytes_cat]
set_option maxRecDepth 20000 in
theorem rtextN_s1 (w : World) : Calls Tryd.prog 29 #[.int .i64 (-1)] w fun e w' => e = .returned (.string ⟨#[45, 49]⟩) ∧ Drawn w w' := by
  go_enter Tryd.func29, Tryd.ntmps29
  go_wp2_with fail
  refine (digit03_1 _).mono ?_
  rintro e w1 ⟨rfl, rfl⟩
  go_wp2_with fail
  go_ret
  exact ⟨rfl, Drawn.refl _⟩
set_option maxRecDepth 20000 in
theorem rtextN_s2 (w : World) : Calls Tryd.prog 29 #[.int .i64 (-2)] w fun e w' => e = .returned (.string ⟨#[45, 50]⟩) ∧ Drawn w w' := by
  go_enter Tryd.func29, Tryd.ntmps29
  go_wp2_with fail
  refine (digit03_2 _).mono ?_
  rintro e w1 ⟨rfl, rfl⟩
  go_wp2_with fail
  go_ret
  exact ⟨rfl, Drawn.refl _⟩
set_option maxRecDepth 20000 in
theorem rtextN_s3 (w : World) : Calls Tryd.prog 29 #[.int .i64 (-3)] w fun e w' => e = .returned (.string ⟨#[45, 51]⟩) ∧ Drawn w w' := by
  go_enter Tryd.func29, Tryd.ntmps29
  go_wp2_with fail
  refine (digit03_3 _).mono ?_
  rintro e w1 ⟨rfl, rfl⟩
  go_wp2_with fail
  go_ret
  exact ⟨rfl, Drawn.refl _⟩
set_option maxRecDepth 20000 in
theorem rtextN_s4 (w : World) : Calls Tryd.prog 29 #[.int .i64 (-4)] w fun e w' => e = .returned (.string ⟨#[45, 52]⟩) ∧ Drawn w w' := by
  go_enter Tryd.func29, Tryd.ntmps29
  go_wp2_with fail
  refine (digit03_4 _).mono ?_
  rintro e w1 ⟨rfl, rfl⟩
  go_wp2_with fail
  go_ret
  exact ⟨rfl, Drawn.refl _⟩
set_option maxRecDepth 20000 in
theorem rtextN_s5 (w : World) : Calls Tryd.prog 29 #[.int .i64 (-5)] w fun e w' => e = .returned (.string ⟨#[45, 53]⟩) ∧ Drawn w w' := by
  go_enter Tryd.func29, Tryd.ntmps29
  go_wp2_with fail
  refine (digit03_5 _).mono ?_
  rintro e w1 ⟨rfl, rfl⟩
  go_wp2_with fail
  go_ret
  exact ⟨rfl, Drawn.refl _⟩
set_option maxRecDepth 20000 in
theorem rtextN_s6 (w : World) : Calls Tryd.prog 29 #[.int .i64 (-6)] w fun e w' => e = .returned (.string ⟨#[45, 54]⟩) ∧ Drawn w w' := by
  go_enter Tryd.func29, Tryd.ntmps29
  go_wp2_with fail
  refine (digit03_6 _).mono ?_
  rintro e w1 ⟨rfl, rfl⟩
  go_wp2_with fail
  go_ret
  exact ⟨rfl, Drawn.refl _⟩
set_option maxRecDepth 20000 in
theorem rtextN_s7 (w : World) : Calls Tryd.prog 29 #[.int .i64 (-7)] w fun e w' => e = .returned (.string ⟨#[45, 55]⟩) ∧ Drawn w w' := by
  go_enter Tryd.func29, Tryd.ntmps29
  go_wp2_with fail
  refine (digit03_7 _).mono ?_
  rintro e w1 ⟨rfl, rfl⟩
  go_wp2_with fail
  go_ret
  exact ⟨rfl, Drawn.refl _⟩
set_option maxRecDepth 20000 in
theorem rtextN_s8 (w : World) : Calls Tryd.prog 29 #[.int .i64 (-8)] w fun e w' => e = .returned (.string ⟨#[45, 56]⟩) ∧ Drawn w w' := by
  go_enter Tryd.func29, Tryd.ntmps29
  go_wp2_with fail
  refine (digit03_8 _).mono ?_
  rintro e w1 ⟨rfl, rfl⟩
  go_wp2_with fail
  go_ret
  exact ⟨rfl, Drawn.refl _⟩
set_option maxRecDepth 20000 in
theorem rtextN_s9 (w : World) : Calls Tryd.prog 29 #[.int .i64 (-9)] w fun e w' => e = .returned (.string ⟨#[45, 57]⟩) ∧ Drawn w w' := by
  go_enter Tryd.func29, Tryd.ntmps29
  go_wp2_with fail
  refine (digit03_9 _).mono ?_
  rintro e w1 ⟨rfl, rfl⟩
  go_wp2_with fail
  go_ret
  exact ⟨rfl, Drawn.refl _⟩
theorem rtextN_small (n : Nat) (h0 : 0 < n) (h : n < 10) (w : World) : Calls Tryd.prog 29 #[.int .i64 (-(n : Int))] w fun e w' => e = .returned (.string (negS n)) ∧ Drawn w w' := by
  have hs : negS n = ⟨[45, 48 + n.toUInt8].toArray⟩ := by unfold negS; rw [decL_small h]
  rw [hs]
  have h10 : n = 1 ∨ n = 2 ∨ n = 3 ∨ n = 4 ∨ n = 5 ∨ n = 6 ∨ n = 7 ∨ n = 8 ∨ n = 9 := by omega
  clear h hs h0
  rcases h10 with rfl | rfl | rfl | rfl | rfl | rfl | rfl | rfl | rfl
  · exact rtextN_s1 w
  · exact rtextN_s2 w
  · exact rtextN_s3 w
  · exact rtextN_s4 w
  · exact rtextN_s5 w
  · exact rtextN_s6 w
  · exact rtextN_s7 w
  · exact rtextN_s8 w
  · exact rtextN_s9 w
set_option maxRecDepth 20000 in
set_option maxHeartbeats 3200000 in
theorem rtextN_0 (N qz dz : Int) (s y : ByteArray) (w : World) (hn : decide (N < 0) = true) (hd : decide (-10 < N) = false) (e1 : Int.tdiv N 10 = qz) (e2 : Int.tmod N 10 = dz) (e3 : dz = -0) (hw : IntKind.i64.wrap qz = qz) (hs : s.size ≤ 20) (hc : s ++ ⟨#[48]⟩ = y)
    (hq : ∀ W, Calls Tryd.prog 29 #[.int .i64 qz] W fun e w' => e = .returned (.string s) ∧ Drawn W w') : Calls Tryd.prog 29 #[.int .i64 N] w fun e w' => e = .returned (.string y) ∧ Drawn w w' := by
  have Ih := hide hq
  have hcat : ∀ W, (Op.stringOp .add s ⟨#[48]⟩).run Tryd.prog W = .ok (.string y) W := fun W => by
    rw [run_string_add_sum W s ⟨#[48]⟩ (by have : (⟨#[48]⟩ : ByteArray).size = 1 := rfl; omega), hc]
  have hno : ¬ (s.size + 1 > 9223372036854775807) := by omega
  subst e3
  clear hq hc hs
  go_enter Tryd.func29, Tryd.ntmps29
  go_wp2_with fail
  refine (Ih.out _).mono ?_
  rintro e w1 ⟨rfl, m1, rfl⟩
  go_wp2_with fail
  refine (digit03_0 _).mono ?_
  rintro e w2 ⟨rfl, rfl⟩
  go_wp2_with fail
  go_ret
  exact ⟨rfl, _, rfl⟩
set_option maxRecDepth 20000 in
set_option maxHeartbeats 3200000 in
theorem rtextN_1 (N qz dz : Int) (s y : ByteArray) (w : World) (hn : decide (N < 0) = true) (hd : decide (-10 < N) = false) (e1 : Int.tdiv N 10 = qz) (e2 : Int.tmod N 10 = dz) (e3 : dz = -1) (hw : IntKind.i64.wrap qz = qz) (hs : s.size ≤ 20) (hc : s ++ ⟨#[49]⟩ = y)
    (hq : ∀ W, Calls Tryd.prog 29 #[.int .i64 qz] W fun e w' => e = .returned (.string s) ∧ Drawn W w') : Calls Tryd.prog 29 #[.int .i64 N] w fun e w' => e = .returned (.string y) ∧ Drawn w w' := by
  have Ih := hide hq
  have hcat : ∀ W, (Op.stringOp .add s ⟨#[49]⟩).run Tryd.prog W = .ok (.string y) W := fun W => by
    rw [run_string_add_sum W s ⟨#[49]⟩ (by have : (⟨#[49]⟩ : ByteArray).size = 1 := rfl; omega), hc]
  have hno : ¬ (s.size + 1 > 9223372036854775807) := by omega
  subst e3
  clear hq hc hs
  go_enter Tryd.func29, Tryd.ntmps29
  go_wp2_with fail
  refine (Ih.out _).mono ?_
  rintro e w1 ⟨rfl, m1, rfl⟩
  go_wp2_with fail
  refine (digit03_1 _).mono ?_
  rintro e w2 ⟨rfl, rfl⟩
  go_wp2_with fail
  go_ret
  exact ⟨rfl, _, rfl⟩
set_option maxRecDepth 20000 in
set_option maxHeartbeats 3200000 in
theorem rtextN_2 (N qz dz : Int) (s y : ByteArray) (w : World) (hn : decide (N < 0) = true) (hd : decide (-10 < N) = false) (e1 : Int.tdiv N 10 = qz) (e2 : Int.tmod N 10 = dz) (e3 : dz = -2) (hw : IntKind.i64.wrap qz = qz) (hs : s.size ≤ 20) (hc : s ++ ⟨#[50]⟩ = y)
    (hq : ∀ W, Calls Tryd.prog 29 #[.int .i64 qz] W fun e w' => e = .returned (.string s) ∧ Drawn W w') : Calls Tryd.prog 29 #[.int .i64 N] w fun e w' => e = .returned (.string y) ∧ Drawn w w' := by
  have Ih := hide hq
  have hcat : ∀ W, (Op.stringOp .add s ⟨#[50]⟩).run Tryd.prog W = .ok (.string y) W := fun W => by
    rw [run_string_add_sum W s ⟨#[50]⟩ (by have : (⟨#[50]⟩ : ByteArray).size = 1 := rfl; omega), hc]
  have hno : ¬ (s.size + 1 > 9223372036854775807) := by omega
  subst e3
  clear hq hc hs
  go_enter Tryd.func29, Tryd.ntmps29
  go_wp2_with fail
  refine (Ih.out _).mono ?_
  rintro e w1 ⟨rfl, m1, rfl⟩
  go_wp2_with fail
  refine (digit03_2 _).mono ?_
  rintro e w2 ⟨rfl, rfl⟩
  go_wp2_with fail
  go_ret
  exact ⟨rfl, _, rfl⟩
set_option maxRecDepth 20000 in
set_option maxHeartbeats 3200000 in
theorem rtextN_3 (N qz dz : Int) (s y : ByteArray) (w : World) (hn : decide (N < 0) = true) (hd : decide (-10 < N) = false) (e1 : Int.tdiv N 10 = qz) (e2 : Int.tmod N 10 = dz) (e3 : dz = -3) (hw : IntKind.i64.wrap qz = qz) (hs : s.size ≤ 20) (hc : s ++ ⟨#[51]⟩ = y)
    (hq : ∀ W, Calls Tryd.prog 29 #[.int .i64 qz] W fun e w' => e = .returned (.string s) ∧ Drawn W w') : Calls Tryd.prog 29 #[.int .i64 N] w fun e w' => e = .returned (.string y) ∧ Drawn w w' := by
  have Ih := hide hq
  have hcat : ∀ W, (Op.stringOp .add s ⟨#[51]⟩).run Tryd.prog W = .ok (.string y) W := fun W => by
    rw [run_string_add_sum W s ⟨#[51]⟩ (by have : (⟨#[51]⟩ : ByteArray).size = 1 := rfl; omega), hc]
  have hno : ¬ (s.size + 1 > 9223372036854775807) := by omega
  subst e3
  clear hq hc hs
  go_enter Tryd.func29, Tryd.ntmps29
  go_wp2_with fail
  refine (Ih.out _).mono ?_
  rintro e w1 ⟨rfl, m1, rfl⟩
  go_wp2_with fail
  refine (digit03_3 _).mono ?_
  rintro e w2 ⟨rfl, rfl⟩
  go_wp2_with fail
  go_ret
  exact ⟨rfl, _, rfl⟩
set_option maxRecDepth 20000 in
set_option maxHeartbeats 3200000 in
theorem rtextN_4 (N qz dz : Int) (s y : ByteArray) (w : World) (hn : decide (N < 0) = true) (hd : decide (-10 < N) = false) (e1 : Int.tdiv N 10 = qz) (e2 : Int.tmod N 10 = dz) (e3 : dz = -4) (hw : IntKind.i64.wrap qz = qz) (hs : s.size ≤ 20) (hc : s ++ ⟨#[52]⟩ = y)
    (hq : ∀ W, Calls Tryd.prog 29 #[.int .i64 qz] W fun e w' => e = .returned (.string s) ∧ Drawn W w') : Calls Tryd.prog 29 #[.int .i64 N] w fun e w' => e = .returned (.string y) ∧ Drawn w w' := by
  have Ih := hide hq
  have hcat : ∀ W, (Op.stringOp .add s ⟨#[52]⟩).run Tryd.prog W = .ok (.string y) W := fun W => by
    rw [run_string_add_sum W s ⟨#[52]⟩ (by have : (⟨#[52]⟩ : ByteArray).size = 1 := rfl; omega), hc]
  have hno : ¬ (s.size + 1 > 9223372036854775807) := by omega
  subst e3
  clear hq hc hs
  go_enter Tryd.func29, Tryd.ntmps29
  go_wp2_with fail
  refine (Ih.out _).mono ?_
  rintro e w1 ⟨rfl, m1, rfl⟩
  go_wp2_with fail
  refine (digit03_4 _).mono ?_
  rintro e w2 ⟨rfl, rfl⟩
  go_wp2_with fail
  go_ret
  exact ⟨rfl, _, rfl⟩
set_option maxRecDepth 20000 in
set_option maxHeartbeats 3200000 in
theorem rtextN_5 (N qz dz : Int) (s y : ByteArray) (w : World) (hn : decide (N < 0) = true) (hd : decide (-10 < N) = false) (e1 : Int.tdiv N 10 = qz) (e2 : Int.tmod N 10 = dz) (e3 : dz = -5) (hw : IntKind.i64.wrap qz = qz) (hs : s.size ≤ 20) (hc : s ++ ⟨#[53]⟩ = y)
    (hq : ∀ W, Calls Tryd.prog 29 #[.int .i64 qz] W fun e w' => e = .returned (.string s) ∧ Drawn W w') : Calls Tryd.prog 29 #[.int .i64 N] w fun e w' => e = .returned (.string y) ∧ Drawn w w' := by
  have Ih := hide hq
  have hcat : ∀ W, (Op.stringOp .add s ⟨#[53]⟩).run Tryd.prog W = .ok (.string y) W := fun W => by
    rw [run_string_add_sum W s ⟨#[53]⟩ (by have : (⟨#[53]⟩ : ByteArray).size = 1 := rfl; omega), hc]
  have hno : ¬ (s.size + 1 > 9223372036854775807) := by omega
  subst e3
  clear hq hc hs
  go_enter Tryd.func29, Tryd.ntmps29
  go_wp2_with fail
  refine (Ih.out _).mono ?_
  rintro e w1 ⟨rfl, m1, rfl⟩
  go_wp2_with fail
  refine (digit03_5 _).mono ?_
  rintro e w2 ⟨rfl, rfl⟩
  go_wp2_with fail
  go_ret
  exact ⟨rfl, _, rfl⟩
set_option maxRecDepth 20000 in
set_option maxHeartbeats 3200000 in
theorem rtextN_6 (N qz dz : Int) (s y : ByteArray) (w : World) (hn : decide (N < 0) = true) (hd : decide (-10 < N) = false) (e1 : Int.tdiv N 10 = qz) (e2 : Int.tmod N 10 = dz) (e3 : dz = -6) (hw : IntKind.i64.wrap qz = qz) (hs : s.size ≤ 20) (hc : s ++ ⟨#[54]⟩ = y)
    (hq : ∀ W, Calls Tryd.prog 29 #[.int .i64 qz] W fun e w' => e = .returned (.string s) ∧ Drawn W w') : Calls Tryd.prog 29 #[.int .i64 N] w fun e w' => e = .returned (.string y) ∧ Drawn w w' := by
  have Ih := hide hq
  have hcat : ∀ W, (Op.stringOp .add s ⟨#[54]⟩).run Tryd.prog W = .ok (.string y) W := fun W => by
    rw [run_string_add_sum W s ⟨#[54]⟩ (by have : (⟨#[54]⟩ : ByteArray).size = 1 := rfl; omega), hc]
  have hno : ¬ (s.size + 1 > 9223372036854775807) := by omega
  subst e3
  clear hq hc hs
  go_enter Tryd.func29, Tryd.ntmps29
  go_wp2_with fail
  refine (Ih.out _).mono ?_
  rintro e w1 ⟨rfl, m1, rfl⟩
  go_wp2_with fail
  refine (digit03_6 _).mono ?_
  rintro e w2 ⟨rfl, rfl⟩
  go_wp2_with fail
  go_ret
  exact ⟨rfl, _, rfl⟩
set_option maxRecDepth 20000 in
set_option maxHeartbeats 3200000 in
theorem rtextN_7 (N qz dz : Int) (s y : ByteArray) (w : World) (hn : decide (N < 0) = true) (hd : decide (-10 < N) = false) (e1 : Int.tdiv N 10 = qz) (e2 : Int.tmod N 10 = dz) (e3 : dz = -7) (hw : IntKind.i64.wrap qz = qz) (hs : s.size ≤ 20) (hc : s ++ ⟨#[55]⟩ = y)
    (hq : ∀ W, Calls Tryd.prog 29 #[.int .i64 qz] W fun e w' => e = .returned (.string s) ∧ Drawn W w') : Calls Tryd.prog 29 #[.int .i64 N] w fun e w' => e = .returned (.string y) ∧ Drawn w w' := by
  have Ih := hide hq
  have hcat : ∀ W, (Op.stringOp .add s ⟨#[55]⟩).run Tryd.prog W = .ok (.string y) W := fun W => by
    rw [run_string_add_sum W s ⟨#[55]⟩ (by have : (⟨#[55]⟩ : ByteArray).size = 1 := rfl; omega), hc]
  have hno : ¬ (s.size + 1 > 9223372036854775807) := by omega
  subst e3
  clear hq hc hs
  go_enter Tryd.func29, Tryd.ntmps29
  go_wp2_with fail
  refine (Ih.out _).mono ?_
  rintro e w1 ⟨rfl, m1, rfl⟩
  go_wp2_with fail
  refine (digit03_7 _).mono ?_
  rintro e w2 ⟨rfl, rfl⟩
  go_wp2_with fail
  go_ret
  exact ⟨rfl, _, rfl⟩
set_option maxRecDepth 20000 in
set_option maxHeartbeats 3200000 in
theorem rtextN_8 (N qz dz : Int) (s y : ByteArray) (w : World) (hn : decide (N < 0) = true) (hd : decide (-10 < N) = false) (e1 : Int.tdiv N 10 = qz) (e2 : Int.tmod N 10 = dz) (e3 : dz = -8) (hw : IntKind.i64.wrap qz = qz) (hs : s.size ≤ 20) (hc : s ++ ⟨#[56]⟩ = y)
    (hq : ∀ W, Calls Tryd.prog 29 #[.int .i64 qz] W fun e w' => e = .returned (.string s) ∧ Drawn W w') : Calls Tryd.prog 29 #[.int .i64 N] w fun e w' => e = .returned (.string y) ∧ Drawn w w' := by
  have Ih := hide hq
  have hcat : ∀ W, (Op.stringOp .add s ⟨#[56]⟩).run Tryd.prog W = .ok (.string y) W := fun W => by
    rw [run_string_add_sum W s ⟨#[56]⟩ (by have : (⟨#[56]⟩ : ByteArray).size = 1 := rfl; omega), hc]
  have hno : ¬ (s.size + 1 > 9223372036854775807) := by omega
  subst e3
  clear hq hc hs
  go_enter Tryd.func29, Tryd.ntmps29
  go_wp2_with fail
  refine (Ih.out _).mono ?_
  rintro e w1 ⟨rfl, m1, rfl⟩
  go_wp2_with fail
  refine (digit03_8 _).mono ?_
  rintro e w2 ⟨rfl, rfl⟩
  go_wp2_with fail
  go_ret
  exact ⟨rfl, _, rfl⟩
set_option maxRecDepth 20000 in
set_option maxHeartbeats 3200000 in
theorem rtextN_9 (N qz dz : Int) (s y : ByteArray) (w : World) (hn : decide (N < 0) = true) (hd : decide (-10 < N) = false) (e1 : Int.tdiv N 10 = qz) (e2 : Int.tmod N 10 = dz) (e3 : dz = -9) (hw : IntKind.i64.wrap qz = qz) (hs : s.size ≤ 20) (hc : s ++ ⟨#[57]⟩ = y)
    (hq : ∀ W, Calls Tryd.prog 29 #[.int .i64 qz] W fun e w' => e = .returned (.string s) ∧ Drawn W w') : Calls Tryd.prog 29 #[.int .i64 N] w fun e w' => e = .returned (.string y) ∧ Drawn w w' := by
  have Ih := hide hq
  have hcat : ∀ W, (Op.stringOp .add s ⟨#[57]⟩).run Tryd.prog W = .ok (.string y) W := fun W => by
    rw [run_string_add_sum W s ⟨#[57]⟩ (by have : (⟨#[57]⟩ : ByteArray).size = 1 := rfl; omega), hc]
  have hno : ¬ (s.size + 1 > 9223372036854775807) := by omega
  subst e3
  clear hq hc hs
  go_enter Tryd.func29, Tryd.ntmps29
  go_wp2_with fail
  refine (Ih.out _).mono ?_
  rintro e w1 ⟨rfl, m1, rfl⟩
  go_wp2_with fail
  refine (digit03_9 _).mono ?_
  rintro e w2 ⟨rfl, rfl⟩
  go_wp2_with fail
  go_ret
  exact ⟨rfl, _, rfl⟩
theorem rtextN : ∀ (n : Nat), 0 < n → n ≤ 9223372036854775808 → ∀ (w : World), Calls Tryd.prog 29 #[.int .i64 (-(n : Int))] w fun e w' => e = .returned (.string (negS n)) ∧ Drawn w w' := by
  intro n
  induction n using Nat.strongRecOn with
  | ind n ih =>
    intro hp hn w
    by_cases h : n < 10
    · exact rtextN_small n hp h w
    · obtain ⟨q, hq⟩ : ∃ q, q = n / 10 := ⟨_, rfl⟩
      obtain ⟨d, hd⟩ : ∃ d, d = n % 10 := ⟨_, rfl⟩
      have hcat := negS_cat h hq hd
      have e1 : Int.tdiv (-(n : Int)) 10 = -(q : Int) := by rw [Int.neg_tdiv, Int.tdiv_eq_ediv_of_nonneg (by omega)]; omega
      have e2 : Int.tmod (-(n : Int)) 10 = -(d : Int) := by rw [Int.neg_tmod, Int.tmod_eq_emod_of_nonneg (by omega)]; omega
      have hw : IntKind.i64.wrap (-(q : Int)) = -(q : Int) := IntWalk.i64_in _ (by omega)
      have hsz := negS_20 (n := q) (by omega)
      have h0 : decide (-(n : Int) < 0) = true := decide_eq_true (by omega)
      have h10 : decide (-10 < -(n : Int)) = false := decide_eq_false (by omega)
      have hq' := ih q (by omega) (by omega) (by omega)
      have hd10 : d = 0 ∨ d = 1 ∨ d = 2 ∨ d = 3 ∨ d = 4 ∨ d = 5 ∨ d = 6 ∨ d = 7 ∨ d = 8 ∨ d = 9 := by omega
      clear hd hq h
      rcases hd10 with rfl | rfl | rfl | rfl | rfl | rfl | rfl | rfl | rfl | rfl
      · exact rtextN_0 _ _ _ _ _ w h0 h10 e1 e2 (by omega) hw hsz hcat hq'
      · exact rtextN_1 _ _ _ _ _ w h0 h10 e1 e2 (by omega) hw hsz hcat hq'
      · exact rtextN_2 _ _ _ _ _ w h0 h10 e1 e2 (by omega) hw hsz hcat hq'
      · exact rtextN_3 _ _ _ _ _ w h0 h10 e1 e2 (by omega) hw hsz hcat hq'
      · exact rtextN_4 _ _ _ _ _ w h0 h10 e1 e2 (by omega) hw hsz hcat hq'
      · exact rtextN_5 _ _ _ _ _ w h0 h10 e1 e2 (by omega) hw hsz hcat hq'
      · exact rtextN_6 _ _ _ _ _ w h0 h10 e1 e2 (by omega) hw hsz hcat hq'
      · exact rtextN_7 _ _ _ _ _ w h0 h10 e1 e2 (by omega) hw hsz hcat hq'
      · exact rtextN_8 _ _ _ _ _ w h0 h10 e1 e2 (by omega) hw hsz hcat hq'
      · exact rtextN_9 _ _ _ _ _ w h0 h10 e1 e2 (by omega) hw hsz hcat hq'
/-- Whatever number: its own text. -/
theorem rtextI (t : Int) (h0 : -9223372036854775808 ≤ t) (h1 : t ≤ 9223372036854775807) (w : World) : Calls Tryd.prog 29 #[.int .i64 t] w fun e w' => e = .returned (.string (intS t)) ∧ Drawn w w' := by
  unfold intS
  by_cases h : t < 0
  · rw [if_pos h]
    have := rtextN (-t).toNat (by omega) (by omega) w
    rwa [show -((-t).toNat : Int) = t by omega] at this
  · rw [if_neg h]
    have := rtext03 t.toNat (by omega) w
    rwa [show (t.toNat : Int) = t by omega] at this
end Go.Proofs.YtminoofghdpomaaDoor
