/- Layer 3: the reference's digits up to a limit. -/
import Derived.Test.YtkdldcmeiihbcaaNat2
namespace Go.Proofs.Ytkdldcmeiihbcaa
open Go.RowKit Go.PlainAid

set_option maxHeartbeats 3200000 in
theorem rnatural_any (s : ByteArray) (most : Int) (w : World) (hs : s.size ≤ 9223372036854775807) (m0 : -9223372036854775808 ≤ most) (m1 : most ≤ 9223372036854775807) : Calls Try.prog 69 #[.string s, .int .i64 most] w fun e w' => e = .returned (.tuple #[.int .i64 (natN s most), .bool (natB s most)]) ∧ w = w' := by
  by_cases hz : s.size = 0
  · obtain ⟨e1, e2⟩ := nat_empty most hz
    have t1 : ((s.size : Int) == 0) = true := by simpa using hz
    have E1 := hide e1
    have E2 := hide e2
    clear e1 e2 hz
    go_enter Try.func69, Try.ntmps69
    go_wp2
    go_ret2
    exact ⟨by rw [E1.out, E2.out]; rfl, rfl⟩
  have t1 : ((s.size : Int) == 0) = false := by simpa using hz
  have hz' : 0 < s.size := by omega
  clear hz
  by_cases hm : most < 0
  · have HG : Hid (natG (bt s) most 1 = none) := natG_no (k := 0) (n := 0) rfl (by have := bt_nonneg s 0; omega)
    obtain ⟨e1, e2⟩ := nat_no (show 1 ≤ s.size by omega) HG.out
    have t2 : decide (most < 0) = true := decide_eq_true hm
    have E1 := hide e1
    have E2 := hide e2
    clear e1 e2
    go_enter Try.func69, Try.ntmps69
    go_wp2
    go_ret2
    exact ⟨by rw [E1.out, E2.out]; rfl, rfl⟩
  have t2 : decide (most < 0) = false := decide_eq_false hm
  have m2 : 0 ≤ most := by omega
  clear hm
  go_enter Try.func69, Try.ntmps69
  go_wp2
  go_loop [6, 7, 8, 9] (fun n i _ _ => ∃ (pos : Nat) (N : Int), pos ≤ s.size ∧ i = .int .i64 pos ∧ n = .int .i64 N ∧ natG (bt s) most pos = some N) (fun _ i _ _ => s.size - (intOf i).toNat)
  case atStart => exact ⟨0, 0, Nat.zero_le _, rfl, rfl, rfl⟩
  case round =>
    obtain ⟨pos, N, hk, rfl, rfl, hN⟩ := hrel
    have HN := hide hN
    obtain ⟨n0, n1⟩ := natG_bd hN
    clear hN
    by_cases hp : pos < s.size
    · have hb := get_bt s pos hp
      obtain ⟨c, hc⟩ : ∃ c, bt s pos = c := ⟨_, rfl⟩
      rw [hc] at hb
      have HC := hide hc
      clear hc
      by_cases hdig : 48 ≤ c ∧ c ≤ 57
      · have u1 : decide (c < 48) = false := decide_eq_false (by omega)
        have u2 : decide (57 < c) = false := decide_eq_false (by omega)
        have u3 : 48 ≤ c := hdig.1
        have u4 : c ≤ 57 := hdig.2
        have u5 : 0 ≤ c - 48 := by omega
        have u6 : c - 48 ≤ 9 := by omega
        clear hdig
        by_cases hfit : 10 * N + (c - 48) ≤ most
        · have HG : Hid (natG (bt s) most (pos + 1) = some (10 * N + (c - 48))) := by
            have := natG_yes HN.out (by rw [HC.out]; omega) (by rw [HC.out]; omega) (by rw [HC.out]; omega)
            rw [HC.out] at this
            exact this
          have d1 : decide (most / 10 < N) = false := decide_eq_false (by omega)
          have g0 : 0 ≤ 10 * N := by omega
          have g1 : 10 * N ≤ 9223372036854775807 := by omega
          have g2 : 10 * N + (c - 48) ≤ 9223372036854775807 := by omega
          have g3 : 0 ≤ 10 * N + (c - 48) := by omega
          by_cases he : N = most / 10
          · have d2 : (N == most / 10) = true := by simpa using he
            have d3 : decide (most % 10 < c - 48) = false := decide_eq_false (by omega)
            clear hfit he
            go_wp2_with fail
            exact ⟨⟨pos + 1, 10 * N + (c - 48), by omega, by go_num, rfl, HG.out⟩, by simp [intOf]; omega⟩
          · have d2 : (N == most / 10) = false := by simpa using he
            clear hfit he
            go_wp2_with fail
            exact ⟨⟨pos + 1, 10 * N + (c - 48), by omega, by go_num, rfl, HG.out⟩, by simp [intOf]; omega⟩
        · have HG : Hid (natG (bt s) most (pos + 1) = none) := natG_no HN.out (by rw [HC.out]; omega)
          obtain ⟨e1, e2⟩ := nat_no (show pos + 1 ≤ s.size by omega) HG.out
          have E1 := hide e1
          have E2 := hide e2
          clear e1 e2
          have key : ∀ (t : Bool), t = decide (most / 10 < N) → Hid True := fun _ _ => trivial
          clear key
          by_cases d1' : most / 10 < N
          · have d1 : decide (most / 10 < N) = true := decide_eq_true d1'
            clear hfit d1'
            go_wp2_with fail
            go_loop [9] (fun i => ∃ q : Nat, i = .int .i64 q ∧ q ≤ s.size) (fun i => s.size - (intOf i).toNat)
            case atStart => exact ⟨pos, rfl, hk⟩
            case round =>
              obtain ⟨q, rfl, hq⟩ := hrel
              by_cases hlt : q < s.size
              · have hb2 := get_bt s q hlt
                generalize bt s q = c2 at hb2
                go_wp2_with fail
                all_goals first
                  | exact ⟨⟨q + 1, by go_num, by omega⟩, by simp [intOf]; omega⟩
                  | (go_ret2
                     exact ⟨by rw [E1.out, E2.out]; rfl, rfl⟩)
              · go_wp2_with fail
                go_ret2
                exact ⟨by rw [E1.out, E2.out]; rfl, rfl⟩
          · have d1 : decide (most / 10 < N) = false := decide_eq_false d1'
            have d2 : (N == most / 10) = true := by simp; omega
            have d3 : decide (most % 10 < c - 48) = true := decide_eq_true (by omega)
            clear hfit d1'
            go_wp2_with fail
            go_loop [9] (fun i => ∃ q : Nat, i = .int .i64 q ∧ q ≤ s.size) (fun i => s.size - (intOf i).toNat)
            case atStart => exact ⟨pos, rfl, hk⟩
            case round =>
              obtain ⟨q, rfl, hq⟩ := hrel
              by_cases hlt : q < s.size
              · have hb2 := get_bt s q hlt
                generalize bt s q = c2 at hb2
                go_wp2_with fail
                all_goals first
                  | exact ⟨⟨q + 1, by go_num, by omega⟩, by simp [intOf]; omega⟩
                  | (go_ret2
                     exact ⟨by rw [E1.out, E2.out]; rfl, rfl⟩)
              · go_wp2_with fail
                go_ret2
                exact ⟨by rw [E1.out, E2.out]; rfl, rfl⟩
      · have HG : Hid (natG (bt s) most (pos + 1) = none) := natG_no HN.out (by rw [HC.out]; omega)
        obtain ⟨e1, e2⟩ := nat_no (show pos + 1 ≤ s.size by omega) HG.out
        have E1 := hide e1
        have E2 := hide e2
        clear e1 e2
        by_cases u1' : c < 48
        · have u1 : decide (c < 48) = true := decide_eq_true u1'
          clear hdig
          go_wp2_with fail
          go_ret2
          exact ⟨by rw [E1.out, E2.out]; rfl, rfl⟩
        · have u1 : decide (c < 48) = false := decide_eq_false u1'
          have u2 : decide (57 < c) = true := decide_eq_true (by omega)
          clear hdig
          go_wp2_with fail
          go_ret2
          exact ⟨by rw [E1.out, E2.out]; rfl, rfl⟩
    · obtain rfl : pos = s.size := by omega
      obtain ⟨e1, e2⟩ := nat_yes hz' HN.out
      have E1 := hide e1
      have E2 := hide e2
      clear e1 e2
      go_wp2_with fail
      go_ret2
      exact ⟨by rw [E1.out, E2.out]; rfl, rfl⟩
end Go.Proofs.Ytkdldcmeiihbcaa
