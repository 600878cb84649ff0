/- Layer 3: the document's value of digits, taken below 0. -/
import Derived.Test.YtminoofghdpomaaDoorTs3
import Derived.Test.YtminoofghdpomaaDoorTx4
import Derived.Test.YtminoofghdpomaaDoorMN
namespace Go.Proofs.YtminoofghdpomaaDoor
set_option linter.unusedVariables false
set_option linter.unusedSimpArgs false
open Go.RowKit Go.PlainAid

def P63 : Int := 9223372036854775808
set_option maxRecDepth 20000 in
set_option maxHeartbeats 3200000 in
theorem rval03 (s : ByteArray) (w : World) (hs : s.size ≤ 9223372036854775807) : Calls Tryd.prog 47 #[.string s] w fun e w' => e = .returned (.tuple #[.int .i64 (-(natN s P63)), .bool (natB s P63)]) ∧ w = w' := by
  have Hs := hide hs
  go_enter Tryd.func47, Tryd.ntmps47
  go_wp2_with fail
  go_loopw [4, 5] (fun n i wr => ∃ (k : Nat) (M : Int), k ≤ s.size ∧ wr = w ∧ i = .int .i64 k ∧ n = .int .i64 M ∧ natG (bt s) P63 k = some (-M)) (fun _ i _ => s.size - (intOf i).toNat)
  case atStart => exact ⟨0, 0, Nat.zero_le _, rfl, rfl, rfl, rfl⟩
  case round =>
    obtain ⟨k, M, hk, rfl, rfl, rfl, hG⟩ := hrel
    obtain ⟨m0, m1⟩ := natG_bd hG
    have m2 : -9223372036854775808 ≤ M := by
      by_cases h0 : 0 < k
      · have := m1 h0; unfold P63 at this; omega
      · obtain rfl : k = 0 := by omega
        have := Option.some.inj hG
        omega
    have m3 : M ≤ 0 := by omega
    have HG := hide hG
    clear hG m0 m1
    by_cases hp : k < s.size
    · have t1 : decide (k < s.size) = true := decide_eq_true hp
      have t2 : decide ((k : Int) < (s.size : Int)) = true := decide_eq_true (by omega)
      have hb := get_bt s k hp
      obtain ⟨c, hc⟩ : ∃ c, bt s k = c := ⟨_, rfl⟩
      have hc0 : 0 ≤ c := by rw [← hc]; exact bt_nonneg s k
      have hc1 : c ≤ 255 := by rw [← hc]; exact bt_le s k
      rw [hc] at hb
      have HC := hide hc
      clear hc
      by_cases hdig : 48 ≤ c ∧ c ≤ 57
      · obtain ⟨d, rfl⟩ : ∃ d, c = d + 48 := ⟨c - 48, by omega⟩
        have q0 : 0 ≤ d := by omega
        have q1 : d ≤ 9 := by omega
        have t3 : decide (d + 48 < 48) = false := decide_eq_false (by omega)
        have t4 : decide (57 < d + 48) = false := decide_eq_false (by omega)
        clear hdig
        by_cases hfit : 10 * (-M) + d ≤ 9223372036854775808
        · have HG2 : Hid (natG (bt s) P63 (k + 1) = some (-(10 * M - d))) := by
            have := natG_yes HG.out (by rw [HC.out]; omega) (by rw [HC.out]; omega) (by rw [HC.out]; unfold P63; omega)
            rw [HC.out] at this
            unfold Hid
            rw [this]
            congr 1
            omega
          have d1 : decide (M < -922337203685477580) = false := decide_eq_false (by omega)
          have g0 : -9223372036854775808 ≤ 10 * M := by omega
          have g1 : 10 * M ≤ 0 := by omega
          have g2 : -9223372036854775808 ≤ 10 * M - d := by omega
          have g3 : 10 * M - d ≤ 0 := by omega
          by_cases he : M = -922337203685477580
          · have d2 : (M == -922337203685477580) = true := by simp [he]
            have d3 : decide (8 < d) = false := decide_eq_false (by omega)
            clear hfit he
            go_wp2_with fail
            go_roundw
            case rel => exact ⟨k + 1, 10 * M - d, by omega, (by first | rfl | trivial), by go_num, rfl, HG2.out⟩
            case measure => simp [intOf]; omega
          · have d2 : (M == -922337203685477580) = false := by simpa using he
            clear hfit he
            go_wp2_with fail
            go_roundw
            case rel => exact ⟨k + 1, 10 * M - d, by omega, (by first | rfl | trivial), by go_num, rfl, HG2.out⟩
            case measure => simp [intOf]; omega
        · have HG2 : natG (bt s) P63 (k + 1) = none := natG_no HG.out (by rw [HC.out]; unfold P63; omega)
          obtain ⟨e1, e2⟩ := nat_no (show k + 1 ≤ s.size by omega) HG2
          have E1 := hide e1
          have E2 := hide e2
          clear e1 e2 HG2
          by_cases hl : M < -922337203685477580
          · have d1 : decide (M < -922337203685477580) = true := decide_eq_true hl
            clear hfit
            go_wp2_with fail
            go_ret2
            exact ⟨by rw [E1.out, E2.out]; rfl, rfl⟩
          · have d1 : decide (M < -922337203685477580) = false := decide_eq_false hl
            have d2 : (M == -922337203685477580) = true := by simp; omega
            have d3 : decide (8 < d) = true := decide_eq_true (by omega)
            clear hfit
            go_wp2_with fail
            go_ret2
            exact ⟨by rw [E1.out, E2.out]; rfl, rfl⟩
      · have HG2 : natG (bt s) P63 (k + 1) = none := natG_no HG.out (by rw [HC.out]; omega)
        obtain ⟨e1, e2⟩ := nat_no (show k + 1 ≤ s.size by omega) HG2
        have E1 := hide e1
        have E2 := hide e2
        clear e1 e2 HG2
        by_cases hl : c < 48
        · have t3 : decide (c < 48) = true := decide_eq_true hl
          clear hdig
          go_wp2_with fail
          go_ret2
          exact ⟨by rw [E1.out, E2.out]; rfl, rfl⟩
        · have t3 : decide (c < 48) = false := decide_eq_false hl
          have t4 : decide (57 < c) = true := decide_eq_true (by omega)
          clear hdig
          go_wp2_with fail
          go_ret2
          exact ⟨by rw [E1.out, E2.out]; rfl, rfl⟩
    · obtain rfl : k = s.size := by omega
      have t1 : decide (s.size < s.size) = false := decide_eq_false (by omega)
      by_cases h0 : s.size = 0
      · obtain ⟨e1, e2⟩ := nat_empty P63 h0
        have hM : M = 0 := by
          have := HG.out
          rw [h0] at this
          have := Option.some.inj this
          omega
        have E1 := hide e1
        have E2 := hide e2
        have HM := hide hM
        have t3 : decide (0 < s.size) = false := decide_eq_false (by omega)
        clear e1 e2 hM h0
        go_wp2_with fail
        go_ret2
        exact ⟨by rw [E1.out, E2.out, HM.out]; rfl, rfl⟩
      · obtain ⟨e1, e2⟩ := nat_yes (by omega) HG.out
        have E1 := hide e1
        have E2 := hide e2
        have t3 : decide (0 < s.size) = true := decide_eq_true (by omega)
        clear e1 e2 h0
        go_wp2_with fail
        go_ret2
        exact ⟨by rw [E1.out, E2.out, Int.neg_neg]; rfl, rfl⟩
end Go.Proofs.YtminoofghdpomaaDoor
