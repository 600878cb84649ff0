/- Layer 25: the reference's names and pseudo-fields' names; values, the program's and the reference's; fields. -/
import Derived.Test.YtkdldcmeiihbcaaTok2
import Derived.Deep.RegionHeld3
namespace Go.Proofs.Ytkdldcmeiihbcaa
open Go.RowKit Go.PlainAid

set_option maxHeartbeats 1000000 in
theorem rname_any (s : ByteArray) (w : World) (hs : s.size ≤ 9223372036854775807) : Calls Try.prog 28 #[.string s] w fun e w' => e = .returned (.bool (nameB s)) ∧ w = w' := by
  have Hs := hide hs
  go_enter Try.func28, Try.ntmps28
  go_wp2
  go_loop [3, 4] (fun i _ => ∃ k : Nat, k ≤ s.size ∧ i = .int .i64 k ∧ ∀ j, j < k → nmC (bt s j) = true) (fun i _ => s.size - (intOf i).toNat)
  case atStart => exact ⟨0, Nat.zero_le _, rfl, fun j hj => absurd hj (by omega)⟩
  case round =>
    obtain ⟨k, hk, rfl, hall⟩ := hrel
    have Hall := hide hall
    clear hall
    by_cases hlt : k < s.size
    · have hb := get_bt s k hlt
      have Hy : Hid (33 ≤ bt s k ∧ bt s k ≤ 126 ∧ bt s k ≠ 58 ∧ ¬ (65 ≤ bt s k ∧ bt s k ≤ 90) → ∀ j, j < k + 1 → nmC (bt s j) = true) := fun hc j hj => by
        by_cases e : j = k
        · subst e; exact decide_eq_true hc
        · exact Hall.out j (by omega)
      have Hn : Hid (¬ (33 ≤ bt s k ∧ bt s k ≤ 126 ∧ bt s k ≠ 58 ∧ ¬ (65 ≤ bt s k ∧ bt s k ≤ 90)) → nameB s = false) := fun hc => name_no hlt (decide_eq_false hc)
      generalize bt s k = c at hb Hy Hn
      go_wp2
      all_goals first
        | (refine ⟨⟨k + 1, by omega, by go_num, Hy.out ?_⟩, by simp [intOf]; omega⟩
           (try simp only [beq_iff_eq, beq_eq_false_iff_ne, ne_eq] at *)
           omega)
        | (go_ret
           refine ⟨?_, rfl⟩
           rw [Hn.out (by (try simp only [beq_iff_eq, beq_eq_false_iff_ne, ne_eq] at *); omega)]
           rfl)
    · obtain rfl : k = s.size := by omega
      by_cases h0 : s.size = 0
      · have Hn : Hid (nameB s = false) := name_nil h0
        have d0 : decide (0 < s.size) = false := decide_eq_false (by omega)
        go_wp2
        go_ret
        exact ⟨by rw [Hn.out]; rfl, rfl⟩
      · have d0 : 0 < s.size := by omega
        have Hn : Hid (nameB s = true) := name_yes d0 Hall.out
        go_wp2
        go_ret
        exact ⟨by rw [Hn.out]; rfl, rfl⟩
set_option maxHeartbeats 1000000 in
theorem rpseudo_any (s : ByteArray) (w : World) (hs : s.size ≤ 9223372036854775807) : Calls Try.prog 30 #[.string s] w fun e w' => e = .returned (.bool (pseB s)) ∧ w = w' := by
  have hs2 : (s.extract 1 s.size).size ≤ 9223372036854775807 := by rw [size_extract1]; omega
  by_cases h0 : 0 < s.size
  · have hb := get_bt s 0 h0
    have h0' : 1 ≤ s.size := h0
    by_cases h : bt s 0 = 58
    · have H : Hid (pseB s = nameB (s.extract 1 s.size)) := by simp [Hid, pseB, h, h0]
      rw [h] at hb
      clear h
      go_enter Try.func30, Try.ntmps30
      go_wp2_with fail
      refine (rname_any _ _ hs2).mono ?_
      rintro e w' ⟨rfl, rfl⟩
      rw [← H.out]
      go_wp2_with fail
      go_ret
      exact ⟨rfl, rfl⟩
    · have H : Hid (pseB s = false) := by simp [Hid, pseB, h]
      have h3 : (bt s 0 == 58) = false := by simpa using h
      clear h
      go_enter Try.func30, Try.ntmps30
      go_wp2_with fail
      go_ret
      exact ⟨by rw [H.out]; rfl, rfl⟩
  · have H : Hid (pseB s = false) := by simp [Hid, pseB, h0]
    have d0 : s.size = 0 := by omega
    have d1 : decide ((0 : Int) < (s.size : Int)) = false := decide_eq_false (by omega)
    go_enter Try.func30, Try.ntmps30
    go_wp2_with fail
    go_ret
    exact ⟨by rw [H.out]; rfl, rfl⟩

/-! ### values -/
def okV (c : Int) (k n : Nat) : Prop := c ≠ 0 ∧ c ≠ 10 ∧ c ≠ 13 ∧ ((c = 9 ∨ c = 32) → k ≠ 0 ∧ k + 1 ≠ n)
instance (c : Int) (k n : Nat) : Decidable (okV c k n) := by unfold okV; exact inferInstance
def valB (s : ByteArray) : Bool := decide (∀ i, i < s.size → okV (bt s i) i s.size)
theorem val_yes {s : ByteArray} (h : ∀ i, i < s.size → okV (bt s i) i s.size) : valB s = true := decide_eq_true h
theorem val_no {s : ByteArray} {k : Nat} (hk : k < s.size) (h : ¬ okV (bt s k) k s.size) : valB s = false := decide_eq_false fun hh => h (hh k hk)
set_option maxHeartbeats 1000000 in
theorem value_any (s : ByteArray) (w : World) (hs : s.size ≤ 9223372036854775807) : Calls Try.prog 31 #[.string s] w fun e w' => e = .returned (.bool (valB s)) ∧ w = w' := by
  have Hs := hide hs
  go_enter Try.func31, Try.ntmps31
  go_wp2
  go_loop [3, 6] (fun _ i => ∃ k : Nat, k ≤ s.size ∧ i = .int .i64 k ∧ ∀ j, j < k → okV (bt s j) j s.size) (fun _ i => s.size - (intOf i).toNat)
  case atStart => exact ⟨0, Nat.zero_le _, rfl, fun j hj => absurd hj (by omega)⟩
  case round =>
    obtain ⟨k, hk, rfl, hall⟩ := hrel
    have Hall := hide hall
    clear hall
    by_cases hlt : k < s.size
    · have hb := get_bt s k hlt
      have Hy : Hid (okV (bt s k) k s.size → ∀ j, j < k + 1 → okV (bt s j) j s.size) := fun hc j hj => by
        by_cases e : j = k
        · subst e; exact hc
        · exact Hall.out j (by omega)
      have Hn : Hid (¬ okV (bt s k) k s.size → valB s = false) := fun hc => val_no hlt hc
      generalize bt s k = c at hb Hy Hn
      go_wp2
      all_goals first
        | (refine ⟨⟨k + 1, by omega, by go_num, Hy.out ?_⟩, by simp [intOf]; omega⟩
           unfold okV
           (try simp only [beq_iff_eq, beq_eq_false_iff_ne, ne_eq] at *)
           omega)
        | (go_ret
           refine ⟨?_, rfl⟩
           rw [Hn.out (by unfold okV; (try simp only [beq_iff_eq, beq_eq_false_iff_ne, ne_eq] at *); omega)]
           rfl)
    · obtain rfl : k = s.size := by omega
      have Hn : Hid (valB s = true) := val_yes Hall.out
      go_wp2
      go_ret
      exact ⟨by rw [Hn.out]; rfl, rfl⟩
end Go.Proofs.Ytkdldcmeiihbcaa
