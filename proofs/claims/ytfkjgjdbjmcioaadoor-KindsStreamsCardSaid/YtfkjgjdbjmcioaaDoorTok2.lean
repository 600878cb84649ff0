/- Layer 25: a text's front cut off; pseudo-fields' names; the reference's. -/
import Derived.Test.YtfkjgjdbjmcioaaDoorTok1
import Derived.Lib.Strings
namespace Go.Proofs.YtfkjgjdbjmcioaaDoor
open Go.RowKit Go.PlainAid

theorem toList_nil {s : ByteArray} (h : s.size = 0) : s.toList = [] := by
  rw [ByteArray.toList_eq]
  exact List.eq_nil_of_length_eq_zero (by simpa using h)
theorem size_extract1 (s : ByteArray) : (s.extract 1 s.size).size = s.size - 1 := by
  rw [ByteArray.size_extract]
  omega
theorem bt_list (s : ByteArray) (k : Nat) : bt s k = match s.data.toList[k]? with | some c => (c.toNat : Int) | none => 0 := by
  unfold bt
  by_cases h : k < s.size
  · have h' : k < s.data.toList.length := by simpa using h
    rw [dif_pos h, List.getElem?_eq_getElem h']
    rfl
  · have h' : s.data.toList.length ≤ k := by
      have : s.data.toList.length = s.size := by simp
      omega
    rw [dif_neg h, List.getElem?_eq_none h']
theorem bt_extract1 (s : ByteArray) (i : Nat) : bt (s.extract 1 s.size) i = bt s (i + 1) := by
  rw [bt_list, bt_list, Lib.extract_data, List.getElem?_take]
  by_cases h : i < s.size - 1
  · rw [if_pos h, List.getElem?_drop, Nat.add_comm]
  · rw [if_neg h, List.getElem?_eq_none (by have : s.data.toList.length = s.size := by simp
                                            omega)]
/-- Whether a text begins with a colon. -/
theorem colon_front {s : ByteArray} (h : 0 < s.size) : ((s.extract 0 1).toList == [58]) = decide (bt s 0 = 58) := by
  rw [Lib.extract_toList, bt_list]
  have hl : s.data.toList.length = s.size := by simp
  cases hs : s.data.toList with
  | nil => rw [hs] at hl; simp at hl; omega
  | cons c l =>
    by_cases hc : c = 58
    · subst hc
      rfl
    · have h3 : ¬ ((c.toNat : Int) = 58) := fun h => hc (by
        apply UInt8.toNat_inj.1
        show c.toNat = 58
        omega)
      simp [hc, h3]
def pseB (s : ByteArray) : Bool := decide (0 < s.size ∧ bt s 0 = 58) && nameB (s.extract 1 s.size)

set_option maxHeartbeats 400000 in
theorem hasprefix_colon (s : ByteArray) (w : World) : Calls Tryd.prog 118 #[.string s, .string ⟨#[58]⟩] w fun e w' => e = .returned (.bool (decide (0 < s.size ∧ bt s 0 = 58))) ∧ w = w' := by
  have hz : (⟨#[58]⟩ : ByteArray).size = 1 := rfl
  by_cases h0 : 0 < s.size
  · have hc := colon_front h0
    have hd : decide ((1 : Int) ≤ (s.size : Int)) = true := by simp; omega
    have hd2 : 1 ≤ s.size := h0
    have H : Hid (decide (0 < s.size ∧ bt s 0 = 58) = decide (bt s 0 = 58)) := by simp [Hid, h0]
    obtain ⟨b, hb⟩ : ∃ b, decide (bt s 0 = 58) = b := ⟨_, rfl⟩
    rw [hb] at hc H
    clear hb
    go_enter Tryd.func118, Tryd.ntmps118
    go_wp2
    go_ret
    exact ⟨by rw [H.out]; rfl, rfl⟩
  · have hd : decide ((1 : Int) ≤ (s.size : Int)) = false := by simp; omega
    have H : Hid (decide (0 < s.size ∧ bt s 0 = 58) = false) := decide_eq_false fun h => h0 h.1
    have hd2 : ¬ 1 ≤ s.size := h0
    have hd3 : s.size = 0 := by omega
    go_enter Tryd.func118, Tryd.ntmps118
    go_wp2
    go_ret
    exact ⟨by rw [H.out]; rfl, rfl⟩
theorem cutprefix_yes (s : ByteArray) (w : World) (h0 : 0 < s.size) (h : bt s 0 = 58) : Calls Tryd.prog 71 #[.string s, .string ⟨#[58]⟩] w fun e w' => e = .returned (.tuple #[.string (s.extract 1 s.size), .bool true]) ∧ w = w' := by
  have hz : (⟨#[58]⟩ : ByteArray).size = 1 := rfl
  have hd2 : 1 ≤ s.size := h0
  have H : Hid (decide (0 < s.size ∧ bt s 0 = 58) = true) := decide_eq_true ⟨h0, h⟩
  clear h
  have hin : ∀ w, Calls Tryd.prog 99 #[.string s, .string ⟨#[58]⟩] w fun e w' => e = .returned (.tuple #[.string (s.extract 1 s.size), .bool true]) ∧ w = w' := by
    intro w
    go_enter Tryd.func99, Tryd.ntmps99
    go_wp2_with (go_at_call 118; refine (hasprefix_colon s _).mono ?_; rintro e w' ⟨rfl, rfl⟩; rw [H.out])
    go_ret2
    exact ⟨rfl, rfl⟩
  go_enter Tryd.func71, Tryd.ntmps71
  go_wp2_with (go_at_call 99; refine (hin _).mono ?_; rintro e w' ⟨rfl, rfl⟩)
  go_ret2
  exact ⟨rfl, rfl⟩
theorem cutprefix_no (s : ByteArray) (w : World) (h : ¬ (0 < s.size ∧ bt s 0 = 58)) : Calls Tryd.prog 71 #[.string s, .string ⟨#[58]⟩] w fun e w' => e = .returned (.tuple #[.string s, .bool false]) ∧ w = w' := by
  have H : Hid (decide (0 < s.size ∧ bt s 0 = 58) = false) := decide_eq_false h
  clear h
  have hin : ∀ w, Calls Tryd.prog 99 #[.string s, .string ⟨#[58]⟩] w fun e w' => e = .returned (.tuple #[.string s, .bool false]) ∧ w = w' := by
    intro w
    go_enter Tryd.func99, Tryd.ntmps99
    go_wp2_with (go_at_call 118; refine (hasprefix_colon s _).mono ?_; rintro e w' ⟨rfl, rfl⟩; rw [H.out])
    go_ret2
    exact ⟨rfl, rfl⟩
  go_enter Tryd.func71, Tryd.ntmps71
  go_wp2_with (go_at_call 99; refine (hin _).mono ?_; rintro e w' ⟨rfl, rfl⟩)
  go_ret2
  exact ⟨rfl, rfl⟩
end Go.Proofs.YtfkjgjdbjmcioaaDoor
