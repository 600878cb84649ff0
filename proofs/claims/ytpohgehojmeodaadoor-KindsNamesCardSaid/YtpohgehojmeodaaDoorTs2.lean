/- Layer 29: the law's own digits. -/
import Derived.Test.YtpohgehojmeodaaDoorTs0
import Derived.Deep.RegionHeld3
import Derived.Deep.QuietTactic
import Derived.BigQuiet
import Derived.Laws.Concat
import Derived.PlainAid
namespace Go.Proofs.YtpohgehojmeodaaDoor
set_option linter.unusedVariables false
set_option linter.unusedSimpArgs false
open Go.RowKit Go.PlainAid

theorem quietT29 {P : Program} {g : FuncId} {args : Array Value} {w : World} {n : Nat} {v : Value} (h : Calls P g args (w.drewN n) fun e w' => e = .returned v ∧ Drawn (w.drewN n) w') :
    Calls P g args (w.drewN n) fun e w'' => e = .returned v ∧ ∃ m, w'' = w.drewN m :=
  h.mono fun _ _ ⟨he, m, hm⟩ => ⟨he, n + m, by rw [hm, World.drewN_drewN]⟩
theorem quietU29 {P : Program} {g : FuncId} {args : Array Value} {w : World} {v : Value} (h : Calls P g args w fun e w' => e = .returned v ∧ Drawn w w') :
    Calls P g args w fun e w'' => e = .returned v ∧ ∃ m, w'' = w.drewN m :=
  h.mono fun _ _ ⟨he, m, hm⟩ => ⟨he, m, hm⟩
theorem bytes_cat (a b : List UInt8) : (⟨a.toArray⟩ : ByteArray) ++ ⟨b.toArray⟩ = ⟨(a ++ b).toArray⟩ := by
  apply ByteArray.ext
  simp
theorem decS_len (n : Nat) : (decS n).size = (decL n).length := by
  unfold decS
  show (decL n).toArray.size = _
  simp
theorem decS_19 {n : Nat} (h : n ≤ 9223372036854775807) : (decS n).size ≤ 19 := by
  rw [decS_len]
  exact (decL_len 19 n (by omega) (by omega)).1
theorem decS_cat {n q d : Nat} (h : ¬ n < 10) (hq : q = n / 10) (hd : d = n % 10) : decS q ++ ⟨#[48 + d.toUInt8]⟩ = decS n := by
  unfold decS
  rw [decL_more h, ← hq, ← hd, ← bytes_cat]
theorem sl29_0 (W : World) : (Instr.slice 9 (.string ⟨#[48, 49, 50, 51, 52, 53, 54, 55, 56, 57]⟩) (some (.int .i64 0)) (some (.int .i64 1)) none).run Tryd.prog W = .ok (.string ⟨#[48]⟩) W := by kernel_rfl
theorem sl29_1 (W : World) : (Instr.slice 9 (.string ⟨#[48, 49, 50, 51, 52, 53, 54, 55, 56, 57]⟩) (some (.int .i64 1)) (some (.int .i64 2)) none).run Tryd.prog W = .ok (.string ⟨#[49]⟩) W := by kernel_rfl
theorem sl29_2 (W : World) : (Instr.slice 9 (.string ⟨#[48, 49, 50, 51, 52, 53, 54, 55, 56, 57]⟩) (some (.int .i64 2)) (some (.int .i64 3)) none).run Tryd.prog W = .ok (.string ⟨#[50]⟩) W := by kernel_rfl
theorem sl29_3 (W : World) : (Instr.slice 9 (.string ⟨#[48, 49, 50, 51, 52, 53, 54, 55, 56, 57]⟩) (some (.int .i64 3)) (some (.int .i64 4)) none).run Tryd.prog W = .ok (.string ⟨#[51]⟩) W := by kernel_rfl
theorem sl29_4 (W : World) : (Instr.slice 9 (.string ⟨#[48, 49, 50, 51, 52, 53, 54, 55, 56, 57]⟩) (some (.int .i64 4)) (some (.int .i64 5)) none).run Tryd.prog W = .ok (.string ⟨#[52]⟩) W := by kernel_rfl
theorem sl29_5 (W : World) : (Instr.slice 9 (.string ⟨#[48, 49, 50, 51, 52, 53, 54, 55, 56, 57]⟩) (some (.int .i64 5)) (some (.int .i64 6)) none).run Tryd.prog W = .ok (.string ⟨#[53]⟩) W := by kernel_rfl
theorem sl29_6 (W : World) : (Instr.slice 9 (.string ⟨#[48, 49, 50, 51, 52, 53, 54, 55, 56, 57]⟩) (some (.int .i64 6)) (some (.int .i64 7)) none).run Tryd.prog W = .ok (.string ⟨#[54]⟩) W := by kernel_rfl
theorem sl29_7 (W : World) : (Instr.slice 9 (.string ⟨#[48, 49, 50, 51, 52, 53, 54, 55, 56, 57]⟩) (some (.int .i64 7)) (some (.int .i64 8)) none).run Tryd.prog W = .ok (.string ⟨#[55]⟩) W := by kernel_rfl
theorem sl29_8 (W : World) : (Instr.slice 9 (.string ⟨#[48, 49, 50, 51, 52, 53, 54, 55, 56, 57]⟩) (some (.int .i64 8)) (some (.int .i64 9)) none).run Tryd.prog W = .ok (.string ⟨#[56]⟩) W := by kernel_rfl
theorem sl29_9 (W : World) : (Instr.slice 9 (.string ⟨#[48, 49, 50, 51, 52, 53, 54, 55, 56, 57]⟩) (some (.int .i64 9)) (some (.int .i64 10)) none).run Tryd.prog W = .ok (.string ⟨#[57]⟩) W := by kernel_rfl
set_option maxRecDepth 20000 in
set_option maxHeartbeats 3200000 in
theorem text29_small (n : Nat) (h : n < 10) (w : World) : Calls Tryd.prog 62 #[.int .i64 (n : Int)] w fun e w' => e = .returned (.string (decS n)) ∧ Drawn w w' := by
  have hs : Hid (decS n = ⟨[48 + n.toUInt8].toArray⟩) := by show _ = _; unfold decS; rw [decL_small h]
  have h10 : n = 0 ∨ n = 1 ∨ n = 2 ∨ n = 3 ∨ n = 4 ∨ n = 5 ∨ n = 6 ∨ n = 7 ∨ n = 8 ∨ n = 9 := by omega
  clear h
  rcases h10 with rfl | rfl | rfl | rfl | rfl | rfl | rfl | rfl | rfl | rfl
  all_goals
    go_enter Tryd.func62, Tryd.ntmps62
    go_wp2
    go_ret
    exact ⟨by rw [hs.out]; rfl, Drawn.refl _⟩
set_option maxRecDepth 20000 in
set_option maxHeartbeats 3200000 in
theorem text29_0 (N qz : Int) (s y : ByteArray) (w : World) (hd : decide (N < 10) = false) (e1 : Int.tdiv N 10 = qz) (e2 : Int.tmod N 10 = 0) (hw : IntKind.i64.wrap qz = qz) (hs : s.size ≤ 19) (hc : s ++ ⟨#[48]⟩ = y)
    (hq : ∀ W, Calls Tryd.prog 62 #[.int .i64 qz] W fun e w' => e = .returned (.string s) ∧ Drawn W w') : Calls Tryd.prog 62 #[.int .i64 N] w fun e w' => e = .returned (.string y) ∧ Drawn w w' := by
  have Ih := hide hq
  have hcat : ∀ W, (Op.stringOp .add s ⟨#[48]⟩).run Tryd.prog W = .ok (.string y) W := fun W => by
    rw [run_string_add_sum W s ⟨#[48]⟩ (by have : (⟨#[48]⟩ : ByteArray).size = 1 := rfl; omega), hc]
  have hno : ¬ (s.size + 1 > 9223372036854775807) := by omega
  have ks := sl29_0
  clear hq hc hs
  go_enter Tryd.func62, Tryd.ntmps62
  go_wp2_with fail
  go_quiet ((go_at_call 62; first | exact quietT29 (Ih.out _) | exact quietU29 (Ih.out _)))
  all_goals
    go_wp2_with fail
    go_ret
    exact ⟨rfl, by first | exact Drawn.refl _ | exact ⟨_, rfl⟩⟩
set_option maxRecDepth 20000 in
set_option maxHeartbeats 3200000 in
theorem text29_1 (N qz : Int) (s y : ByteArray) (w : World) (hd : decide (N < 10) = false) (e1 : Int.tdiv N 10 = qz) (e2 : Int.tmod N 10 = 1) (hw : IntKind.i64.wrap qz = qz) (hs : s.size ≤ 19) (hc : s ++ ⟨#[49]⟩ = y)
    (hq : ∀ W, Calls Tryd.prog 62 #[.int .i64 qz] W fun e w' => e = .returned (.string s) ∧ Drawn W w') : Calls Tryd.prog 62 #[.int .i64 N] w fun e w' => e = .returned (.string y) ∧ Drawn w w' := by
  have Ih := hide hq
  have hcat : ∀ W, (Op.stringOp .add s ⟨#[49]⟩).run Tryd.prog W = .ok (.string y) W := fun W => by
    rw [run_string_add_sum W s ⟨#[49]⟩ (by have : (⟨#[49]⟩ : ByteArray).size = 1 := rfl; omega), hc]
  have hno : ¬ (s.size + 1 > 9223372036854775807) := by omega
  have ks := sl29_1
  clear hq hc hs
  go_enter Tryd.func62, Tryd.ntmps62
  go_wp2_with fail
  go_quiet ((go_at_call 62; first | exact quietT29 (Ih.out _) | exact quietU29 (Ih.out _)))
  all_goals
    go_wp2_with fail
    go_ret
    exact ⟨rfl, by first | exact Drawn.refl _ | exact ⟨_, rfl⟩⟩
set_option maxRecDepth 20000 in
set_option maxHeartbeats 3200000 in
theorem text29_2 (N qz : Int) (s y : ByteArray) (w : World) (hd : decide (N < 10) = false) (e1 : Int.tdiv N 10 = qz) (e2 : Int.tmod N 10 = 2) (hw : IntKind.i64.wrap qz = qz) (hs : s.size ≤ 19) (hc : s ++ ⟨#[50]⟩ = y)
    (hq : ∀ W, Calls Tryd.prog 62 #[.int .i64 qz] W fun e w' => e = .returned (.string s) ∧ Drawn W w') : Calls Tryd.prog 62 #[.int .i64 N] w fun e w' => e = .returned (.string y) ∧ Drawn w w' := by
  have Ih := hide hq
  have hcat : ∀ W, (Op.stringOp .add s ⟨#[50]⟩).run Tryd.prog W = .ok (.string y) W := fun W => by
    rw [run_string_add_sum W s ⟨#[50]⟩ (by have : (⟨#[50]⟩ : ByteArray).size = 1 := rfl; omega), hc]
  have hno : ¬ (s.size + 1 > 9223372036854775807) := by omega
  have ks := sl29_2
  clear hq hc hs
  go_enter Tryd.func62, Tryd.ntmps62
  go_wp2_with fail
  go_quiet ((go_at_call 62; first | exact quietT29 (Ih.out _) | exact quietU29 (Ih.out _)))
  all_goals
    go_wp2_with fail
    go_ret
    exact ⟨rfl, by first | exact Drawn.refl _ | exact ⟨_, rfl⟩⟩
set_option maxRecDepth 20000 in
set_option maxHeartbeats 3200000 in
theorem text29_3 (N qz : Int) (s y : ByteArray) (w : World) (hd : decide (N < 10) = false) (e1 : Int.tdiv N 10 = qz) (e2 : Int.tmod N 10 = 3) (hw : IntKind.i64.wrap qz = qz) (hs : s.size ≤ 19) (hc : s ++ ⟨#[51]⟩ = y)
    (hq : ∀ W, Calls Tryd.prog 62 #[.int .i64 qz] W fun e w' => e = .returned (.string s) ∧ Drawn W w') : Calls Tryd.prog 62 #[.int .i64 N] w fun e w' => e = .returned (.string y) ∧ Drawn w w' := by
  have Ih := hide hq
  have hcat : ∀ W, (Op.stringOp .add s ⟨#[51]⟩).run Tryd.prog W = .ok (.string y) W := fun W => by
    rw [run_string_add_sum W s ⟨#[51]⟩ (by have : (⟨#[51]⟩ : ByteArray).size = 1 := rfl; omega), hc]
  have hno : ¬ (s.size + 1 > 9223372036854775807) := by omega
  have ks := sl29_3
  clear hq hc hs
  go_enter Tryd.func62, Tryd.ntmps62
  go_wp2_with fail
  go_quiet ((go_at_call 62; first | exact quietT29 (Ih.out _) | exact quietU29 (Ih.out _)))
  all_goals
    go_wp2_with fail
    go_ret
    exact ⟨rfl, by first | exact Drawn.refl _ | exact ⟨_, rfl⟩⟩
set_option maxRecDepth 20000 in
set_option maxHeartbeats 3200000 in
theorem text29_4 (N qz : Int) (s y : ByteArray) (w : World) (hd : decide (N < 10) = false) (e1 : Int.tdiv N 10 = qz) (e2 : Int.tmod N 10 = 4) (hw : IntKind.i64.wrap qz = qz) (hs : s.size ≤ 19) (hc : s ++ ⟨#[52]⟩ = y)
    (hq : ∀ W, Calls Tryd.prog 62 #[.int .i64 qz] W fun e w' => e = .returned (.string s) ∧ Drawn W w') : Calls Tryd.prog 62 #[.int .i64 N] w fun e w' => e = .returned (.string y) ∧ Drawn w w' := by
  have Ih := hide hq
  have hcat : ∀ W, (Op.stringOp .add s ⟨#[52]⟩).run Tryd.prog W = .ok (.string y) W := fun W => by
    rw [run_string_add_sum W s ⟨#[52]⟩ (by have : (⟨#[52]⟩ : ByteArray).size = 1 := rfl; omega), hc]
  have hno : ¬ (s.size + 1 > 9223372036854775807) := by omega
  have ks := sl29_4
  clear hq hc hs
  go_enter Tryd.func62, Tryd.ntmps62
  go_wp2_with fail
  go_quiet ((go_at_call 62; first | exact quietT29 (Ih.out _) | exact quietU29 (Ih.out _)))
  all_goals
    go_wp2_with fail
    go_ret
    exact ⟨rfl, by first | exact Drawn.refl _ | exact ⟨_, rfl⟩⟩
set_option maxRecDepth 20000 in
set_option maxHeartbeats 3200000 in
theorem text29_5 (N qz : Int) (s y : ByteArray) (w : World) (hd : decide (N < 10) = false) (e1 : Int.tdiv N 10 = qz) (e2 : Int.tmod N 10 = 5) (hw : IntKind.i64.wrap qz = qz) (hs : s.size ≤ 19) (hc : s ++ ⟨#[53]⟩ = y)
    (hq : ∀ W, Calls Tryd.prog 62 #[.int .i64 qz] W fun e w' => e = .returned (.string s) ∧ Drawn W w') : Calls Tryd.prog 62 #[.int .i64 N] w fun e w' => e = .returned (.string y) ∧ Drawn w w' := by
  have Ih := hide hq
  have hcat : ∀ W, (Op.stringOp .add s ⟨#[53]⟩).run Tryd.prog W = .ok (.string y) W := fun W => by
    rw [run_string_add_sum W s ⟨#[53]⟩ (by have : (⟨#[53]⟩ : ByteArray).size = 1 := rfl; omega), hc]
  have hno : ¬ (s.size + 1 > 9223372036854775807) := by omega
  have ks := sl29_5
  clear hq hc hs
  go_enter Tryd.func62, Tryd.ntmps62
  go_wp2_with fail
  go_quiet ((go_at_call 62; first | exact quietT29 (Ih.out _) | exact quietU29 (Ih.out _)))
  all_goals
    go_wp2_with fail
    go_ret
    exact ⟨rfl, by first | exact Drawn.refl _ | exact ⟨_, rfl⟩⟩
set_option maxRecDepth 20000 in
set_option maxHeartbeats 3200000 in
theorem text29_6 (N qz : Int) (s y : ByteArray) (w : World) (hd : decide (N < 10) = false) (e1 : Int.tdiv N 10 = qz) (e2 : Int.tmod N 10 = 6) (hw : IntKind.i64.wrap qz = qz) (hs : s.size ≤ 19) (hc : s ++ ⟨#[54]⟩ = y)
    (hq : ∀ W, Calls Tryd.prog 62 #[.int .i64 qz] W fun e w' => e = .returned (.string s) ∧ Drawn W w') : Calls Tryd.prog 62 #[.int .i64 N] w fun e w' => e = .returned (.string y) ∧ Drawn w w' := by
  have Ih := hide hq
  have hcat : ∀ W, (Op.stringOp .add s ⟨#[54]⟩).run Tryd.prog W = .ok (.string y) W := fun W => by
    rw [run_string_add_sum W s ⟨#[54]⟩ (by have : (⟨#[54]⟩ : ByteArray).size = 1 := rfl; omega), hc]
  have hno : ¬ (s.size + 1 > 9223372036854775807) := by omega
  have ks := sl29_6
  clear hq hc hs
  go_enter Tryd.func62, Tryd.ntmps62
  go_wp2_with fail
  go_quiet ((go_at_call 62; first | exact quietT29 (Ih.out _) | exact quietU29 (Ih.out _)))
  all_goals
    go_wp2_with fail
    go_ret
    exact ⟨rfl, by first | exact Drawn.refl _ | exact ⟨_, rfl⟩⟩
set_option maxRecDepth 20000 in
set_option maxHeartbeats 3200000 in
theorem text29_7 (N qz : Int) (s y : ByteArray) (w : World) (hd : decide (N < 10) = false) (e1 : Int.tdiv N 10 = qz) (e2 : Int.tmod N 10 = 7) (hw : IntKind.i64.wrap qz = qz) (hs : s.size ≤ 19) (hc : s ++ ⟨#[55]⟩ = y)
    (hq : ∀ W, Calls Tryd.prog 62 #[.int .i64 qz] W fun e w' => e = .returned (.string s) ∧ Drawn W w') : Calls Tryd.prog 62 #[.int .i64 N] w fun e w' => e = .returned (.string y) ∧ Drawn w w' := by
  have Ih := hide hq
  have hcat : ∀ W, (Op.stringOp .add s ⟨#[55]⟩).run Tryd.prog W = .ok (.string y) W := fun W => by
    rw [run_string_add_sum W s ⟨#[55]⟩ (by have : (⟨#[55]⟩ : ByteArray).size = 1 := rfl; omega), hc]
  have hno : ¬ (s.size + 1 > 9223372036854775807) := by omega
  have ks := sl29_7
  clear hq hc hs
  go_enter Tryd.func62, Tryd.ntmps62
  go_wp2_with fail
  go_quiet ((go_at_call 62; first | exact quietT29 (Ih.out _) | exact quietU29 (Ih.out _)))
  all_goals
    go_wp2_with fail
    go_ret
    exact ⟨rfl, by first | exact Drawn.refl _ | exact ⟨_, rfl⟩⟩
set_option maxRecDepth 20000 in
set_option maxHeartbeats 3200000 in
theorem text29_8 (N qz : Int) (s y : ByteArray) (w : World) (hd : decide (N < 10) = false) (e1 : Int.tdiv N 10 = qz) (e2 : Int.tmod N 10 = 8) (hw : IntKind.i64.wrap qz = qz) (hs : s.size ≤ 19) (hc : s ++ ⟨#[56]⟩ = y)
    (hq : ∀ W, Calls Tryd.prog 62 #[.int .i64 qz] W fun e w' => e = .returned (.string s) ∧ Drawn W w') : Calls Tryd.prog 62 #[.int .i64 N] w fun e w' => e = .returned (.string y) ∧ Drawn w w' := by
  have Ih := hide hq
  have hcat : ∀ W, (Op.stringOp .add s ⟨#[56]⟩).run Tryd.prog W = .ok (.string y) W := fun W => by
    rw [run_string_add_sum W s ⟨#[56]⟩ (by have : (⟨#[56]⟩ : ByteArray).size = 1 := rfl; omega), hc]
  have hno : ¬ (s.size + 1 > 9223372036854775807) := by omega
  have ks := sl29_8
  clear hq hc hs
  go_enter Tryd.func62, Tryd.ntmps62
  go_wp2_with fail
  go_quiet ((go_at_call 62; first | exact quietT29 (Ih.out _) | exact quietU29 (Ih.out _)))
  all_goals
    go_wp2_with fail
    go_ret
    exact ⟨rfl, by first | exact Drawn.refl _ | exact ⟨_, rfl⟩⟩
set_option maxRecDepth 20000 in
set_option maxHeartbeats 3200000 in
theorem text29_9 (N qz : Int) (s y : ByteArray) (w : World) (hd : decide (N < 10) = false) (e1 : Int.tdiv N 10 = qz) (e2 : Int.tmod N 10 = 9) (hw : IntKind.i64.wrap qz = qz) (hs : s.size ≤ 19) (hc : s ++ ⟨#[57]⟩ = y)
    (hq : ∀ W, Calls Tryd.prog 62 #[.int .i64 qz] W fun e w' => e = .returned (.string s) ∧ Drawn W w') : Calls Tryd.prog 62 #[.int .i64 N] w fun e w' => e = .returned (.string y) ∧ Drawn w w' := by
  have Ih := hide hq
  have hcat : ∀ W, (Op.stringOp .add s ⟨#[57]⟩).run Tryd.prog W = .ok (.string y) W := fun W => by
    rw [run_string_add_sum W s ⟨#[57]⟩ (by have : (⟨#[57]⟩ : ByteArray).size = 1 := rfl; omega), hc]
  have hno : ¬ (s.size + 1 > 9223372036854775807) := by omega
  have ks := sl29_9
  clear hq hc hs
  go_enter Tryd.func62, Tryd.ntmps62
  go_wp2_with fail
  go_quiet ((go_at_call 62; first | exact quietT29 (Ih.out _) | exact quietU29 (Ih.out _)))
  all_goals
    go_wp2_with fail
    go_ret
    exact ⟨rfl, by first | exact Drawn.refl _ | exact ⟨_, rfl⟩⟩
theorem text29 : ∀ (n : Nat), n ≤ 9223372036854775807 → ∀ (w : World), Calls Tryd.prog 62 #[.int .i64 (n : Int)] w fun e w' => e = .returned (.string (decS n)) ∧ Drawn w w' := by
  intro n
  induction n using Nat.strongRecOn with
  | ind n ih =>
    intro hn w
    by_cases h : n < 10
    · exact text29_small n h w
    · obtain ⟨q, hq⟩ : ∃ q, q = n / 10 := ⟨_, rfl⟩
      obtain ⟨d, hd⟩ : ∃ d, d = n % 10 := ⟨_, rfl⟩
      have hcat := decS_cat h hq hd
      have e1 : Int.tdiv (n : Int) 10 = (q : Int) := by rw [Int.tdiv_eq_ediv_of_nonneg (by omega)]; omega
      have e2 : Int.tmod (n : Int) 10 = (d : Int) := by rw [Int.tmod_eq_emod_of_nonneg (by omega)]; omega
      have hw : IntKind.i64.wrap (q : Int) = (q : Int) := IntWalk.i64_in _ (by omega)
      have hsz := decS_19 (n := q) (by omega)
      have h10 : decide ((n : Int) < 10) = false := decide_eq_false (by omega)
      have hq' := ih q (by omega) (by omega)
      have hd10 : d = 0 ∨ d = 1 ∨ d = 2 ∨ d = 3 ∨ d = 4 ∨ d = 5 ∨ d = 6 ∨ d = 7 ∨ d = 8 ∨ d = 9 := by omega
      clear hd hq h
      rcases hd10 with rfl | rfl | rfl | rfl | rfl | rfl | rfl | rfl | rfl | rfl
      · exact text29_0 _ _ _ _ w h10 e1 e2 hw hsz hcat hq'
      · exact text29_1 _ _ _ _ w h10 e1 e2 hw hsz hcat hq'
      · exact text29_2 _ _ _ _ w h10 e1 e2 hw hsz hcat hq'
      · exact text29_3 _ _ _ _ w h10 e1 e2 hw hsz hcat hq'
      · exact text29_4 _ _ _ _ w h10 e1 e2 hw hsz hcat hq'
      · exact text29_5 _ _ _ _ w h10 e1 e2 hw hsz hcat hq'
      · exact text29_6 _ _ _ _ w h10 e1 e2 hw hsz hcat hq'
      · exact text29_7 _ _ _ _ w h10 e1 e2 hw hsz hcat hq'
      · exact text29_8 _ _ _ _ w h10 e1 e2 hw hsz hcat hq'
      · exact text29_9 _ _ _ _ w h10 e1 e2 hw hsz hcat hq'
end Go.Proofs.YtpohgehojmeodaaDoor
