/- Layer 25: which texts are names, pseudo-fields' names and values, in the program and in the reference. -/
import Derived.Test.YtfkjgjdbjmcioaaDoorCurA
import Derived.Test.YtfkjgjdbjmcioaaDoorVal
import Derived.PlainAid
import Derived.WalkSpells
namespace Go.Proofs.YtfkjgjdbjmcioaaDoor
open Go.RowKit Go.PlainAid

def capC (c : Int) : Bool := decide (65 ≤ c ∧ c ≤ 90)
def nmC (c : Int) : Bool := decide (33 ≤ c ∧ c ≤ 126 ∧ c ≠ 58 ∧ ¬ (65 ≤ c ∧ c ≤ 90))
def nameB (s : ByteArray) : Bool := decide (0 < s.size ∧ ∀ i, i < s.size → nmC (bt s i) = true)
theorem name_yes {s : ByteArray} (h0 : 0 < s.size) (h : ∀ i, i < s.size → nmC (bt s i) = true) : nameB s = true := decide_eq_true ⟨h0, h⟩
theorem name_no {s : ByteArray} {k : Nat} (hk : k < s.size) (h : nmC (bt s k) = false) : nameB s = false := decide_eq_false fun hh => by
  rw [hh.2 k hk] at h
  cases h
theorem name_nil {s : ByteArray} (h : s.size = 0) : nameB s = false := decide_eq_false fun hh => by omega

set_option maxHeartbeats 400000 in
theorem cap_any (c : Int) (w : World) : Calls Tryd.prog 76 #[.int .u8 c] w fun e w' => e = .returned (.bool (capC c)) ∧ w = w' := by
  by_cases h1 : 65 ≤ c
  · by_cases h2 : c ≤ 90
    · have H : Hid (capC c = true) := decide_eq_true ⟨h1, h2⟩
      have d1 : decide (65 ≤ c) = true := by simpa using h1
      have d2 : decide (c ≤ 90) = true := by simpa using h2
      go_enter Tryd.func76, Tryd.ntmps76
      go_wp2
      go_ret
      exact ⟨by rw [H.out]; rfl, rfl⟩
    · have H : Hid (capC c = false) := decide_eq_false fun h => h2 h.2
      have d1 : decide (65 ≤ c) = true := by simpa using h1
      have d2 : decide (c ≤ 90) = false := by simpa using h2
      go_enter Tryd.func76, Tryd.ntmps76
      go_wp2
      go_ret
      exact ⟨by rw [H.out]; rfl, rfl⟩
  · have H : Hid (capC c = false) := decide_eq_false fun h => h1 h.1
    have d1 : decide (65 ≤ c) = false := by simpa using h1
    go_enter Tryd.func76, Tryd.ntmps76
    go_wp2
    go_ret
    exact ⟨by rw [H.out]; rfl, rfl⟩
theorem colon0 : ((⟨#[58]⟩ : ByteArray)[0]'(by decide)).toNat = 58 := by rfl
set_option maxHeartbeats 400000 in
theorem ofname_any (c : Int) (w : World) : Calls Tryd.prog 77 #[.int .u8 c] w fun e w' => e = .returned (.bool (nmC c)) ∧ w = w' := by
  have hx := colon0
  by_cases h1 : 33 ≤ c
  · have d1 : decide (33 ≤ c) = true := by simpa using h1
    by_cases h2 : c ≤ 126
    · have d2 : decide (c ≤ 126) = true := by simpa using h2
      by_cases h3 : c = 58
      · have H : Hid (nmC c = false) := decide_eq_false fun h => h.2.2.1 h3
        have d3 : (c != 58) = false := by simp [h3]
        clear h3
        go_enter Tryd.func77, Tryd.ntmps77
        go_wp2
        go_ret
        exact ⟨by rw [H.out]; rfl, rfl⟩
      · have d3 : (c != 58) = true := by simp [h3]
        have H : Hid (nmC c = !capC c) := by
          unfold nmC capC Hid
          by_cases h4 : 65 ≤ c ∧ c ≤ 90 <;> simp [h1, h2, h3, h4]
        obtain ⟨b, hb⟩ : ∃ b, capC c = b := ⟨_, rfl⟩
        rw [hb] at H
        have HB := hide hb
        clear h3 hb
        go_enter Tryd.func77, Tryd.ntmps77
        go_wp2_with (go_at_call 76; refine (cap_any _ _).mono ?_; rintro e w' ⟨rfl, rfl⟩; rw [HB.out])
        go_ret
        exact ⟨by rw [H.out]; rfl, rfl⟩
    · have d2 : decide (c ≤ 126) = false := by simpa using h2
      have H : Hid (nmC c = false) := decide_eq_false fun h => h2 h.2.1
      go_enter Tryd.func77, Tryd.ntmps77
      go_wp2
      go_ret
      exact ⟨by rw [H.out]; rfl, rfl⟩
  · have d1 : decide (33 ≤ c) = false := by simpa using h1
    have H : Hid (nmC c = false) := decide_eq_false fun h => h1 h.1
    go_enter Tryd.func77, Tryd.ntmps77
    go_wp2
    go_ret
    exact ⟨by rw [H.out]; rfl, rfl⟩
set_option maxHeartbeats 400000 in
theorem name_any (s : ByteArray) (w : World) (hs : s.size ≤ 9223372036854775807) : Calls Tryd.prog 33 #[.string s] w fun e w' => e = .returned (.bool (nameB s)) ∧ w = w' := by
  have Hs := hide hs
  go_enter Tryd.func33, Tryd.ntmps33
  go_wp2
  go_loop [3, 6] (fun _ i => ∃ k : Nat, k ≤ s.size ∧ i = .int .i64 k ∧ ∀ j, j < k → nmC (bt s j) = true) (fun _ i => s.size - (intOf i).toNat)
  case atStart => exact ⟨0, Nat.zero_le _, rfl, fun j hj => absurd hj (by omega)⟩
  case round =>
    obtain ⟨k, hk, rfl, hall⟩ := hrel
    have Hall := hide hall
    clear hall
    by_cases hlt : k < s.size
    · have hb := get_bt s k hlt
      by_cases hc : nmC (bt s k) = true
      · have Hall' : Hid (∀ j, j < k + 1 → nmC (bt s j) = true) := fun j hj => by
          by_cases e : j = k
          · subst e; exact hc
          · exact Hall.out j (by omega)
        have Hc := hide hc
        clear hc
        go_wp2_with (go_at_call 77; refine (ofname_any _ _).mono ?_; rintro e w' ⟨rfl, rfl⟩; rw [Hc.out])
        go_round
        case rel => exact ⟨k + 1, by omega, by go_num, Hall'.out⟩
        case measure => simp [intOf]; omega
      · have hc' : nmC (bt s k) = false := by simpa using hc
        have Hn : Hid (nameB s = false) := name_no hlt hc'
        have Hc := hide hc'
        clear hc hc'
        go_wp2_with (go_at_call 77; refine (ofname_any _ _).mono ?_; rintro e w' ⟨rfl, rfl⟩; rw [Hc.out])
        go_ret
        exact ⟨by rw [Hn.out]; rfl, rfl⟩
    · obtain rfl : k = s.size := by omega
      by_cases h0 : s.size = 0
      · have Hn : Hid (nameB s = false) := name_nil h0
        have t1 : (!s.toList.isEmpty) = false := by
          have : s.toList = [] := by rw [ByteArray.toList_eq]; exact List.eq_nil_of_length_eq_zero (by simpa using h0)
          simp [this]
        clear h0
        go_wp2
        go_ret
        exact ⟨by rw [Hn.out]; rfl, rfl⟩
      · have Hn : Hid (nameB s = true) := name_yes (by omega) Hall.out
        have t1 : (!s.toList.isEmpty) = true := by
          have : s.toList ≠ [] := fun e => h0 (by
            rw [ByteArray.toList_eq] at e
            have : s.data.toList.length = 0 := by rw [e]; rfl
            simpa using this)
          simpa using this
        clear h0
        go_wp2
        go_ret
        exact ⟨by rw [Hn.out]; rfl, rfl⟩
end Go.Proofs.YtfkjgjdbjmcioaaDoor
