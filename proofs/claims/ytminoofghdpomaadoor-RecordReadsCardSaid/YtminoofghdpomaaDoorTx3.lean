/- Layer 3: the document's text of a number, from 0 on. -/
import Derived.Test.YtminoofghdpomaaDoorTs0
import Derived.Test.YtminoofghdpomaaDoorTs2
namespace Go.Proofs.YtminoofghdpomaaDoor
set_option linter.unusedVariables false
set_option linter.unusedSimpArgs false
open Go.RowKit Go.PlainAid

set_option maxRecDepth 20000 in
theorem digit03_0 (w : World) : Calls Tryd.prog 45 #[.int .i64 0] w fun e w' => e = .returned (.string ⟨#[48]⟩) ∧ w = w' := by
  go_enter Tryd.func45, Tryd.ntmps45
  go_wp2
  go_ret
  exact ⟨rfl, rfl⟩
set_option maxRecDepth 20000 in
theorem digit03_1 (w : World) : Calls Tryd.prog 45 #[.int .i64 1] w fun e w' => e = .returned (.string ⟨#[49]⟩) ∧ w = w' := by
  go_enter Tryd.func45, Tryd.ntmps45
  go_wp2
  go_ret
  exact ⟨rfl, rfl⟩
set_option maxRecDepth 20000 in
theorem digit03_2 (w : World) : Calls Tryd.prog 45 #[.int .i64 2] w fun e w' => e = .returned (.string ⟨#[50]⟩) ∧ w = w' := by
  go_enter Tryd.func45, Tryd.ntmps45
  go_wp2
  go_ret
  exact ⟨rfl, rfl⟩
set_option maxRecDepth 20000 in
theorem digit03_3 (w : World) : Calls Tryd.prog 45 #[.int .i64 3] w fun e w' => e = .returned (.string ⟨#[51]⟩) ∧ w = w' := by
  go_enter Tryd.func45, Tryd.ntmps45
  go_wp2
  go_ret
  exact ⟨rfl, rfl⟩
set_option maxRecDepth 20000 in
theorem digit03_4 (w : World) : Calls Tryd.prog 45 #[.int .i64 4] w fun e w' => e = .returned (.string ⟨#[52]⟩) ∧ w = w' := by
  go_enter Tryd.func45, Tryd.ntmps45
  go_wp2
  go_ret
  exact ⟨rfl, rfl⟩
set_option maxRecDepth 20000 in
theorem digit03_5 (w : World) : Calls Tryd.prog 45 #[.int .i64 5] w fun e w' => e = .returned (.string ⟨#[53]⟩) ∧ w = w' := by
  go_enter Tryd.func45, Tryd.ntmps45
  go_wp2
  go_ret
  exact ⟨rfl, rfl⟩
set_option maxRecDepth 20000 in
theorem digit03_6 (w : World) : Calls Tryd.prog 45 #[.int .i64 6] w fun e w' => e = .returned (.string ⟨#[54]⟩) ∧ w = w' := by
  go_enter Tryd.func45, Tryd.ntmps45
  go_wp2
  go_ret
  exact ⟨rfl, rfl⟩
set_option maxRecDepth 20000 in
theorem digit03_7 (w : World) : Calls Tryd.prog 45 #[.int .i64 7] w fun e w' => e = .returned (.string ⟨#[55]⟩) ∧ w = w' := by
  go_enter Tryd.func45, Tryd.ntmps45
  go_wp2
  go_ret
  exact ⟨rfl, rfl⟩
set_option maxRecDepth 20000 in
theorem digit03_8 (w : World) : Calls Tryd.prog 45 #[.int .i64 8] w fun e w' => e = .returned (.string ⟨#[56]⟩) ∧ w = w' := by
  go_enter Tryd.func45, Tryd.ntmps45
  go_wp2
  go_ret
  exact ⟨rfl, rfl⟩
set_option maxRecDepth 20000 in
theorem digit03_9 (w : World) : Calls Tryd.prog 45 #[.int .i64 9] w fun e w' => e = .returned (.string ⟨#[57]⟩) ∧ w = w' := by
  go_enter Tryd.func45, Tryd.ntmps45
  go_wp2
  go_ret
  exact ⟨rfl, rfl⟩
theorem quietE03 {P : Program} {g : FuncId} {args : Array Value} {w : World} {n : Nat} {v : Value} (h : Calls P g args (w.drewN n) fun e w' => e = .returned v ∧ w.drewN n = w') :
    Calls P g args (w.drewN n) fun e w'' => e = .returned v ∧ ∃ m, w'' = w.drewN m :=
  h.mono fun _ _ ⟨he, hm⟩ => ⟨he, n, hm.symm⟩
theorem quietE03' {P : Program} {g : FuncId} {args : Array Value} {w : World} {v : Value} (h : Calls P g args w fun e w' => e = .returned v ∧ w = w') :
    Calls P g args w fun e w'' => e = .returned v ∧ ∃ m, w'' = w.drewN m :=
  h.mono fun _ _ ⟨he, hm⟩ => ⟨he, 0, hm.symm⟩
set_option maxRecDepth 20000 in
theorem rtext03_s0 (w : World) : Calls Tryd.prog 29 #[.int .i64 0] w fun e w' => e = .returned (.string ⟨#[48]⟩) ∧ Drawn w w' := by
  go_enter Tryd.func29, Tryd.ntmps29
  go_wp2_with fail
  refine (digit03_0 _).mono ?_
  rintro e w1 ⟨rfl, rfl⟩
  go_wp2_with fail
  go_ret
  exact ⟨rfl, Drawn.refl _⟩
set_option maxRecDepth 20000 in
theorem rtext03_s1 (w : World) : Calls Tryd.prog 29 #[.int .i64 1] w fun e w' => e = .returned (.string ⟨#[49]⟩) ∧ Drawn w w' := by
  go_enter Tryd.func29, Tryd.ntmps29
  go_wp2_with fail
  refine (digit03_1 _).mono ?_
  rintro e w1 ⟨rfl, rfl⟩
  go_wp2_with fail
  go_ret
  exact ⟨rfl, Drawn.refl _⟩
set_option maxRecDepth 20000 in
theorem rtext03_s2 (w : World) : Calls Tryd.prog 29 #[.int .i64 2] w fun e w' => e = .returned (.string ⟨#[50]⟩) ∧ Drawn w w' := by
  go_enter Tryd.func29, Tryd.ntmps29
  go_wp2_with fail
  refine (digit03_2 _).mono ?_
  rintro e w1 ⟨rfl, rfl⟩
  go_wp2_with fail
  go_ret
  exact ⟨rfl, Drawn.refl _⟩
set_option maxRecDepth 20000 in
theorem rtext03_s3 (w : World) : Calls Tryd.prog 29 #[.int .i64 3] w fun e w' => e = .returned (.string ⟨#[51]⟩) ∧ Drawn w w' := by
  go_enter Tryd.func29, Tryd.ntmps29
  go_wp2_with fail
  refine (digit03_3 _).mono ?_
  rintro e w1 ⟨rfl, rfl⟩
  go_wp2_with fail
  go_ret
  exact ⟨rfl, Drawn.refl _⟩
set_option maxRecDepth 20000 in
theorem rtext03_s4 (w : World) : Calls Tryd.prog 29 #[.int .i64 4] w fun e w' => e = .returned (.string ⟨#[52]⟩) ∧ Drawn w w' := by
  go_enter Tryd.func29, Tryd.ntmps29
  go_wp2_with fail
  refine (digit03_4 _).mono ?_
  rintro e w1 ⟨rfl, rfl⟩
  go_wp2_with fail
  go_ret
  exact ⟨rfl, Drawn.refl _⟩
set_option maxRecDepth 20000 in
theorem rtext03_s5 (w : World) : Calls Tryd.prog 29 #[.int .i64 5] w fun e w' => e = .returned (.string ⟨#[53]⟩) ∧ Drawn w w' := by
  go_enter Tryd.func29, Tryd.ntmps29
  go_wp2_with fail
  refine (digit03_5 _).mono ?_
  rintro e w1 ⟨rfl, rfl⟩
  go_wp2_with fail
  go_ret
  exact ⟨rfl, Drawn.refl _⟩
set_option maxRecDepth 20000 in
theorem rtext03_s6 (w : World) : Calls Tryd.prog 29 #[.int .i64 6] w fun e w' => e = .returned (.string ⟨#[54]⟩) ∧ Drawn w w' := by
  go_enter Tryd.func29, Tryd.ntmps29
  go_wp2_with fail
  refine (digit03_6 _).mono ?_
  rintro e w1 ⟨rfl, rfl⟩
  go_wp2_with fail
  go_ret
  exact ⟨rfl, Drawn.refl _⟩
set_option maxRecDepth 20000 in
theorem rtext03_s7 (w : World) : Calls Tryd.prog 29 #[.int .i64 7] w fun e w' => e = .returned (.string ⟨#[55]⟩) ∧ Drawn w w' := by
  go_enter Tryd.func29, Tryd.ntmps29
  go_wp2_with fail
  refine (digit03_7 _).mono ?_
  rintro e w1 ⟨rfl, rfl⟩
  go_wp2_with fail
  go_ret
  exact ⟨rfl, Drawn.refl _⟩
set_option maxRecDepth 20000 in
theorem rtext03_s8 (w : World) : Calls Tryd.prog 29 #[.int .i64 8] w fun e w' => e = .returned (.string ⟨#[56]⟩) ∧ Drawn w w' := by
  go_enter Tryd.func29, Tryd.ntmps29
  go_wp2_with fail
  refine (digit03_8 _).mono ?_
  rintro e w1 ⟨rfl, rfl⟩
  go_wp2_with fail
  go_ret
  exact ⟨rfl, Drawn.refl _⟩
set_option maxRecDepth 20000 in
theorem rtext03_s9 (w : World) : Calls Tryd.prog 29 #[.int .i64 9] w fun e w' => e = .returned (.string ⟨#[57]⟩) ∧ Drawn w w' := by
  go_enter Tryd.func29, Tryd.ntmps29
  go_wp2_with fail
  refine (digit03_9 _).mono ?_
  rintro e w1 ⟨rfl, rfl⟩
  go_wp2_with fail
  go_ret
  exact ⟨rfl, Drawn.refl _⟩
theorem rtext03_small (n : Nat) (h : n < 10) (w : World) : Calls Tryd.prog 29 #[.int .i64 (n : Int)] w fun e w' => e = .returned (.string (decS n)) ∧ Drawn w w' := by
  have hs : decS n = ⟨[48 + n.toUInt8].toArray⟩ := by unfold decS; rw [decL_small h]
  rw [hs]
  have h10 : n = 0 ∨ n = 1 ∨ n = 2 ∨ n = 3 ∨ n = 4 ∨ n = 5 ∨ n = 6 ∨ n = 7 ∨ n = 8 ∨ n = 9 := by omega
  clear h hs
  rcases h10 with rfl | rfl | rfl | rfl | rfl | rfl | rfl | rfl | rfl | rfl
  · exact rtext03_s0 w
  · exact rtext03_s1 w
  · exact rtext03_s2 w
  · exact rtext03_s3 w
  · exact rtext03_s4 w
  · exact rtext03_s5 w
  · exact rtext03_s6 w
  · exact rtext03_s7 w
  · exact rtext03_s8 w
  · exact rtext03_s9 w
set_option maxRecDepth 20000 in
set_option maxHeartbeats 3200000 in
theorem rtext03_0 (N qz : Int) (s y : ByteArray) (w : World) (hn : decide (N < 0) = false) (hd : decide (N < 10) = false) (e1 : Int.tdiv N 10 = qz) (e2 : Int.tmod N 10 = 0) (hw : IntKind.i64.wrap qz = qz) (hs : s.size ≤ 19) (hc : s ++ ⟨#[48]⟩ = y)
    (hq : ∀ W, Calls Tryd.prog 29 #[.int .i64 qz] W fun e w' => e = .returned (.string s) ∧ Drawn W w') : Calls Tryd.prog 29 #[.int .i64 N] w fun e w' => e = .returned (.string y) ∧ Drawn w w' := by
  have Ih := hide hq
  have hcat : ∀ W, (Op.stringOp .add s ⟨#[48]⟩).run Tryd.prog W = .ok (.string y) W := fun W => by
    rw [run_string_add_sum W s ⟨#[48]⟩ (by have : (⟨#[48]⟩ : ByteArray).size = 1 := rfl; omega), hc]
  have hno : ¬ (s.size + 1 > 9223372036854775807) := by omega
  clear hq hc hs
  go_enter Tryd.func29, Tryd.ntmps29
  go_wp2_with fail
  refine (Ih.out _).mono ?_
  rintro e w1 ⟨rfl, m1, rfl⟩
  go_wp2_with fail
  refine (digit03_0 _).mono ?_
  rintro e w2 ⟨rfl, rfl⟩
  go_wp2_with fail
  go_ret
  exact ⟨rfl, _, rfl⟩
set_option maxRecDepth 20000 in
set_option maxHeartbeats 3200000 in
theorem rtext03_1 (N qz : Int) (s y : ByteArray) (w : World) (hn : decide (N < 0) = false) (hd : decide (N < 10) = false) (e1 : Int.tdiv N 10 = qz) (e2 : Int.tmod N 10 = 1) (hw : IntKind.i64.wrap qz = qz) (hs : s.size ≤ 19) (hc : s ++ ⟨#[49]⟩ = y)
    (hq : ∀ W, Calls Tryd.prog 29 #[.int .i64 qz] W fun e w' => e = .returned (.string s) ∧ Drawn W w') : Calls Tryd.prog 29 #[.int .i64 N] w fun e w' => e = .returned (.string y) ∧ Drawn w w' := by
  have Ih := hide hq
  have hcat : ∀ W, (Op.stringOp .add s ⟨#[49]⟩).run Tryd.prog W = .ok (.string y) W := fun W => by
    rw [run_string_add_sum W s ⟨#[49]⟩ (by have : (⟨#[49]⟩ : ByteArray).size = 1 := rfl; omega), hc]
  have hno : ¬ (s.size + 1 > 9223372036854775807) := by omega
  clear hq hc hs
  go_enter Tryd.func29, Tryd.ntmps29
  go_wp2_with fail
  refine (Ih.out _).mono ?_
  rintro e w1 ⟨rfl, m1, rfl⟩
  go_wp2_with fail
  refine (digit03_1 _).mono ?_
  rintro e w2 ⟨rfl, rfl⟩
  go_wp2_with fail
  go_ret
  exact ⟨rfl, _, rfl⟩
set_option maxRecDepth 20000 in
set_option maxHeartbeats 3200000 in
theorem rtext03_2 (N qz : Int) (s y : ByteArray) (w : World) (hn : decide (N < 0) = false) (hd : decide (N < 10) = false) (e1 : Int.tdiv N 10 = qz) (e2 : Int.tmod N 10 = 2) (hw : IntKind.i64.wrap qz = qz) (hs : s.size ≤ 19) (hc : s ++ ⟨#[50]⟩ = y)
    (hq : ∀ W, Calls Tryd.prog 29 #[.int .i64 qz] W fun e w' => e = .returned (.string s) ∧ Drawn W w') : Calls Tryd.prog 29 #[.int .i64 N] w fun e w' => e = .returned (.string y) ∧ Drawn w w' := by
  have Ih := hide hq
  have hcat : ∀ W, (Op.stringOp .add s ⟨#[50]⟩).run Tryd.prog W = .ok (.string y) W := fun W => by
    rw [run_string_add_sum W s ⟨#[50]⟩ (by have : (⟨#[50]⟩ : ByteArray).size = 1 := rfl; omega), hc]
  have hno : ¬ (s.size + 1 > 9223372036854775807) := by omega
  clear hq hc hs
  go_enter Tryd.func29, Tryd.ntmps29
  go_wp2_with fail
  refine (Ih.out _).mono ?_
  rintro e w1 ⟨rfl, m1, rfl⟩
  go_wp2_with fail
  refine (digit03_2 _).mono ?_
  rintro e w2 ⟨rfl, rfl⟩
  go_wp2_with fail
  go_ret
  exact ⟨rfl, _, rfl⟩
set_option maxRecDepth 20000 in
set_option maxHeartbeats 3200000 in
theorem rtext03_3 (N qz : Int) (s y : ByteArray) (w : World) (hn : decide (N < 0) = false) (hd : decide (N < 10) = false) (e1 : Int.tdiv N 10 = qz) (e2 : Int.tmod N 10 = 3) (hw : IntKind.i64.wrap qz = qz) (hs : s.size ≤ 19) (hc : s ++ ⟨#[51]⟩ = y)
    (hq : ∀ W, Calls Tryd.prog 29 #[.int .i64 qz] W fun e w' => e = .returned (.string s) ∧ Drawn W w') : Calls Tryd.prog 29 #[.int .i64 N] w fun e w' => e = .returned (.string y) ∧ Drawn w w' := by
  have Ih := hide hq
  have hcat : ∀ W, (Op.stringOp .add s ⟨#[51]⟩).run Tryd.prog W = .ok (.string y) W := fun W => by
    rw [run_string_add_sum W s ⟨#[51]⟩ (by have : (⟨#[51]⟩ : ByteArray).size = 1 := rfl; omega), hc]
  have hno : ¬ (s.size + 1 > 9223372036854775807) := by omega
  clear hq hc hs
  go_enter Tryd.func29, Tryd.ntmps29
  go_wp2_with fail
  refine (Ih.out _).mono ?_
  rintro e w1 ⟨rfl, m1, rfl⟩
  go_wp2_with fail
  refine (digit03_3 _).mono ?_
  rintro e w2 ⟨rfl, rfl⟩
  go_wp2_with fail
  go_ret
  exact ⟨rfl, _, rfl⟩
set_option maxRecDepth 20000 in
set_option maxHeartbeats 3200000 in
theorem rtext03_4 (N qz : Int) (s y : ByteArray) (w : World) (hn : decide (N < 0) = false) (hd : decide (N < 10) = false) (e1 : Int.tdiv N 10 = qz) (e2 : Int.tmod N 10 = 4) (hw : IntKind.i64.wrap qz = qz) (hs : s.size ≤ 19) (hc : s ++ ⟨#[52]⟩ = y)
    (hq : ∀ W, Calls Tryd.prog 29 #[.int .i64 qz] W fun e w' => e = .returned (.string s) ∧ Drawn W w') : Calls Tryd.prog 29 #[.int .i64 N] w fun e w' => e = .returned (.string y) ∧ Drawn w w' := by
  have Ih := hide hq
  have hcat : ∀ W, (Op.stringOp .add s ⟨#[52]⟩).run Tryd.prog W = .ok (.string y) W := fun W => by
    rw [run_string_add_sum W s ⟨#[52]⟩ (by have : (⟨#[52]⟩ : ByteArray).size = 1 := rfl; omega), hc]
  have hno : ¬ (s.size + 1 > 9223372036854775807) := by omega
  clear hq hc hs
  go_enter Tryd.func29, Tryd.ntmps29
  go_wp2_with fail
  refine (Ih.out _).mono ?_
  rintro e w1 ⟨rfl, m1, rfl⟩
  go_wp2_with fail
  refine (digit03_4 _).mono ?_
  rintro e w2 ⟨rfl, rfl⟩
  go_wp2_with fail
  go_ret
  exact ⟨rfl, _, rfl⟩
set_option maxRecDepth 20000 in
set_option maxHeartbeats 3200000 in
theorem rtext03_5 (N qz : Int) (s y : ByteArray) (w : World) (hn : decide (N < 0) = false) (hd : decide (N < 10) = false) (e1 : Int.tdiv N 10 = qz) (e2 : Int.tmod N 10 = 5) (hw : IntKind.i64.wrap qz = qz) (hs : s.size ≤ 19) (hc : s ++ ⟨#[53]⟩ = y)
    (hq : ∀ W, Calls Tryd.prog 29 #[.int .i64 qz] W fun e w' => e = .returned (.string s) ∧ Drawn W w') : Calls Tryd.prog 29 #[.int .i64 N] w fun e w' => e = .returned (.string y) ∧ Drawn w w' := by
  have Ih := hide hq
  have hcat : ∀ W, (Op.stringOp .add s ⟨#[53]⟩).run Tryd.prog W = .ok (.string y) W := fun W => by
    rw [run_string_add_sum W s ⟨#[53]⟩ (by have : (⟨#[53]⟩ : ByteArray).size = 1 := rfl; omega), hc]
  have hno : ¬ (s.size + 1 > 9223372036854775807) := by omega
  clear hq hc hs
  go_enter Tryd.func29, Tryd.ntmps29
  go_wp2_with fail
  refine (Ih.out _).mono ?_
  rintro e w1 ⟨rfl, m1, rfl⟩
  go_wp2_with fail
  refine (digit03_5 _).mono ?_
  rintro e w2 ⟨rfl, rfl⟩
  go_wp2_with fail
  go_ret
  exact ⟨rfl, _, rfl⟩
set_option maxRecDepth 20000 in
set_option maxHeartbeats 3200000 in
theorem rtext03_6 (N qz : Int) (s y : ByteArray) (w : World) (hn : decide (N < 0) = false) (hd : decide (N < 10) = false) (e1 : Int.tdiv N 10 = qz) (e2 : Int.tmod N 10 = 6) (hw : IntKind.i64.wrap qz = qz) (hs : s.size ≤ 19) (hc : s ++ ⟨#[54]⟩ = y)
    (hq : ∀ W, Calls Tryd.prog 29 #[.int .i64 qz] W fun e w' => e = .returned (.string s) ∧ Drawn W w') : Calls Tryd.prog 29 #[.int .i64 N] w fun e w' => e = .returned (.string y) ∧ Drawn w w' := by
  have Ih := hide hq
  have hcat : ∀ W, (Op.stringOp .add s ⟨#[54]⟩).run Tryd.prog W = .ok (.string y) W := fun W => by
    rw [run_string_add_sum W s ⟨#[54]⟩ (by have : (⟨#[54]⟩ : ByteArray).size = 1 := rfl; omega), hc]
  have hno : ¬ (s.size + 1 > 9223372036854775807) := by omega
  clear hq hc hs
  go_enter Tryd.func29, Tryd.ntmps29
  go_wp2_with fail
  refine (Ih.out _).mono ?_
  rintro e w1 ⟨rfl, m1, rfl⟩
  go_wp2_with fail
  refine (digit03_6 _).mono ?_
  rintro e w2 ⟨rfl, rfl⟩
  go_wp2_with fail
  go_ret
  exact ⟨rfl, _, rfl⟩
set_option maxRecDepth 20000 in
set_option maxHeartbeats 3200000 in
theorem rtext03_7 (N qz : Int) (s y : ByteArray) (w : World) (hn : decide (N < 0) = false) (hd : decide (N < 10) = false) (e1 : Int.tdiv N 10 = qz) (e2 : Int.tmod N 10 = 7) (hw : IntKind.i64.wrap qz = qz) (hs : s.size ≤ 19) (hc : s ++ ⟨#[55]⟩ = y)
    (hq : ∀ W, Calls Tryd.prog 29 #[.int .i64 qz] W fun e w' => e = .returned (.string s) ∧ Drawn W w') : Calls Tryd.prog 29 #[.int .i64 N] w fun e w' => e = .returned (.string y) ∧ Drawn w w' := by
  have Ih := hide hq
  have hcat : ∀ W, (Op.stringOp .add s ⟨#[55]⟩).run Tryd.prog W = .ok (.string y) W := fun W => by
    rw [run_string_add_sum W s ⟨#[55]⟩ (by have : (⟨#[55]⟩ : ByteArray).size = 1 := rfl; omega), hc]
  have hno : ¬ (s.size + 1 > 9223372036854775807) := by omega
  clear hq hc hs
  go_enter Tryd.func29, Tryd.ntmps29
  go_wp2_with fail
  refine (Ih.out _).mono ?_
  rintro e w1 ⟨rfl, m1, rfl⟩
  go_wp2_with fail
  refine (digit03_7 _).mono ?_
  rintro e w2 ⟨rfl, rfl⟩
  go_wp2_with fail
  go_ret
  exact ⟨rfl, _, rfl⟩
set_option maxRecDepth 20000 in
set_option maxHeartbeats 3200000 in
theorem rtext03_8 (N qz : Int) (s y : ByteArray) (w : World) (hn : decide (N < 0) = false) (hd : decide (N < 10) = false) (e1 : Int.tdiv N 10 = qz) (e2 : Int.tmod N 10 = 8) (hw : IntKind.i64.wrap qz = qz) (hs : s.size ≤ 19) (hc : s ++ ⟨#[56]⟩ = y)
    (hq : ∀ W, Calls Tryd.prog 29 #[.int .i64 qz] W fun e w' => e = .returned (.string s) ∧ Drawn W w') : Calls Tryd.prog 29 #[.int .i64 N] w fun e w' => e = .returned (.string y) ∧ Drawn w w' := by
  have Ih := hide hq
  have hcat : ∀ W, (Op.stringOp .add s ⟨#[56]⟩).run Tryd.prog W = .ok (.string y) W := fun W => by
    rw [run_string_add_sum W s ⟨#[56]⟩ (by have : (⟨#[56]⟩ : ByteArray).size = 1 := rfl; omega), hc]
  have hno : ¬ (s.size + 1 > 9223372036854775807) := by omega
  clear hq hc hs
  go_enter Tryd.func29, Tryd.ntmps29
  go_wp2_with fail
  refine (Ih.out _).mono ?_
  rintro e w1 ⟨rfl, m1, rfl⟩
  go_wp2_with fail
  refine (digit03_8 _).mono ?_
  rintro e w2 ⟨rfl, rfl⟩
  go_wp2_with fail
  go_ret
  exact ⟨rfl, _, rfl⟩
set_option maxRecDepth 20000 in
set_option maxHeartbeats 3200000 in
theorem rtext03_9 (N qz : Int) (s y : ByteArray) (w : World) (hn : decide (N < 0) = false) (hd : decide (N < 10) = false) (e1 : Int.tdiv N 10 = qz) (e2 : Int.tmod N 10 = 9) (hw : IntKind.i64.wrap qz = qz) (hs : s.size ≤ 19) (hc : s ++ ⟨#[57]⟩ = y)
    (hq : ∀ W, Calls Tryd.prog 29 #[.int .i64 qz] W fun e w' => e = .returned (.string s) ∧ Drawn W w') : Calls Tryd.prog 29 #[.int .i64 N] w fun e w' => e = .returned (.string y) ∧ Drawn w w' := by
  have Ih := hide hq
  have hcat : ∀ W, (Op.stringOp .add s ⟨#[57]⟩).run Tryd.prog W = .ok (.string y) W := fun W => by
    rw [run_string_add_sum W s ⟨#[57]⟩ (by have : (⟨#[57]⟩ : ByteArray).size = 1 := rfl; omega), hc]
  have hno : ¬ (s.size + 1 > 9223372036854775807) := by omega
  clear hq hc hs
  go_enter Tryd.func29, Tryd.ntmps29
  go_wp2_with fail
  refine (Ih.out _).mono ?_
  rintro e w1 ⟨rfl, m1, rfl⟩
  go_wp2_with fail
  refine (digit03_9 _).mono ?_
  rintro e w2 ⟨rfl, rfl⟩
  go_wp2_with fail
  go_ret
  exact ⟨rfl, _, rfl⟩
theorem rtext03 : ∀ (n : Nat), n ≤ 9223372036854775807 → ∀ (w : World), Calls Tryd.prog 29 #[.int .i64 (n : Int)] w fun e w' => e = .returned (.string (decS n)) ∧ Drawn w w' := by
  intro n
  induction n using Nat.strongRecOn with
  | ind n ih =>
    intro hn w
    by_cases h : n < 10
    · exact rtext03_small n h w
    · obtain ⟨q, hq⟩ : ∃ q, q = n / 10 := ⟨_, rfl⟩
      obtain ⟨d, hd⟩ : ∃ d, d = n % 10 := ⟨_, rfl⟩
      have hcat := decS_cat h hq hd
      have e1 : Int.tdiv (n : Int) 10 = (q : Int) := by rw [Int.tdiv_eq_ediv_of_nonneg (by omega)]; omega
      have e2 : Int.tmod (n : Int) 10 = (d : Int) := by rw [Int.tmod_eq_emod_of_nonneg (by omega)]; omega
      have hw : IntKind.i64.wrap (q : Int) = (q : Int) := IntWalk.i64_in _ (by omega)
      have hsz := decS_19 (n := q) (by omega)
      have h0 : decide ((n : Int) < 0) = false := decide_eq_false (by omega)
      have h10 : decide ((n : Int) < 10) = false := decide_eq_false (by omega)
      have hq' := ih q (by omega) (by omega)
      have hd10 : d = 0 ∨ d = 1 ∨ d = 2 ∨ d = 3 ∨ d = 4 ∨ d = 5 ∨ d = 6 ∨ d = 7 ∨ d = 8 ∨ d = 9 := by omega
      clear hd hq h
      rcases hd10 with rfl | rfl | rfl | rfl | rfl | rfl | rfl | rfl | rfl | rfl
      · exact rtext03_0 _ _ _ _ w h0 h10 e1 e2 hw hsz hcat hq'
      · exact rtext03_1 _ _ _ _ w h0 h10 e1 e2 hw hsz hcat hq'
      · exact rtext03_2 _ _ _ _ w h0 h10 e1 e2 hw hsz hcat hq'
      · exact rtext03_3 _ _ _ _ w h0 h10 e1 e2 hw hsz hcat hq'
      · exact rtext03_4 _ _ _ _ w h0 h10 e1 e2 hw hsz hcat hq'
      · exact rtext03_5 _ _ _ _ w h0 h10 e1 e2 hw hsz hcat hq'
      · exact rtext03_6 _ _ _ _ w h0 h10 e1 e2 hw hsz hcat hq'
      · exact rtext03_7 _ _ _ _ w h0 h10 e1 e2 hw hsz hcat hq'
      · exact rtext03_8 _ _ _ _ w h0 h10 e1 e2 hw hsz hcat hq'
      · exact rtext03_9 _ _ _ _ w h0 h10 e1 e2 hw hsz hcat hq'
end Go.Proofs.YtminoofghdpomaaDoor
