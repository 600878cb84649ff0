/- Layer 25: a text's front cut off; pseudo-fields' names; the reference's. -/
import Derived.Test.YtkdldcmeiihbcaaTok1
import Derived.Lib.Strings
namespace Go.Proofs.Ytkdldcmeiihbcaa
open Go.RowKit Go.PlainAid

theorem toList_nil {s : ByteArray} (h : s.size = 0) : s.toList = [] := by
  rw [ByteArray.toList_eq]
  exact List.eq_nil_of_length_eq_zero (by simpa using h)
theorem size_extract1 (s : ByteArray) : (s.extract 1 s.size).size = s.size - 1 := by
  rw [ByteArray.size_extract]
  omega
theorem bt_list (s : ByteArray) (k : Nat) : bt s k = match s.data.toList[k]? with | some c => (c.toNat : Int) | none => 0 := by
  unfold bt
  by_cases h : k < s.size
  · have h' : k < s.data.toList.length := by simpa using h
    rw [dif_pos h, List.getElem?_eq_getElem h']
    rfl
  · have h' : s.data.toList.length ≤ k := by
      have : s.data.toList.length = s.size := by simp
      omega
    rw [dif_neg h, List.getElem?_eq_none h']
theorem bt_extract1 (s : ByteArray) (i : Nat) : bt (s.extract 1 s.size) i = bt s (i + 1) := by
  rw [bt_list, bt_list, Lib.extract_data, List.getElem?_take]
  by_cases h : i < s.size - 1
  · rw [if_pos h, List.getElem?_drop, Nat.add_comm]
  · rw [if_neg h, List.getElem?_eq_none (by have : s.data.toList.length = s.size := by simp
                                            omega)]
/-- Whether a text begins with a colon. -/
theorem colon_front {s : ByteArray} (h : 0 < s.size) : ((s.extract 0 1).toList == [58]) = decide (bt s 0 = 58) := by
  rw [Lib.extract_toList, bt_list]
  have hl : s.data.toList.length = s.size := by simp
  cases hs : s.data.toList with
  | nil => rw [hs] at hl; simp at hl; omega
  | cons c l =>
    by_cases hc : c = 58
    · subst hc
      rfl
    · have h3 : ¬ ((c.toNat : Int) = 58) := fun h => hc (by
        apply UInt8.toNat_inj.1
        show c.toNat = 58
        omega)
      simp [hc, h3]
def pseB (s : ByteArray) : Bool := decide (0 < s.size ∧ bt s 0 = 58) && nameB (s.extract 1 s.size)

set_option maxHeartbeats 400000 in
theorem hasprefix_colon (s : ByteArray) (w : World) : Calls Try.prog 111 #[.string s, .string ⟨#[58]⟩] w fun e w' => e = .returned (.bool (decide (0 < s.size ∧ bt s 0 = 58))) ∧ w = w' := by
  have hz : (⟨#[58]⟩ : ByteArray).size = 1 := rfl
  by_cases h0 : 0 < s.size
  · have hc := colon_front h0
    have hd : decide ((1 : Int) ≤ (s.size : Int)) = true := by simp; omega
    have hd2 : 1 ≤ s.size := h0
    have H : Hid (decide (0 < s.size ∧ bt s 0 = 58) = decide (bt s 0 = 58)) := by simp [Hid, h0]
    obtain ⟨b, hb⟩ : ∃ b, decide (bt s 0 = 58) = b := ⟨_, rfl⟩
    rw [hb] at hc H
    clear hb
    go_enter Try.func111, Try.ntmps111
    go_wp2
    go_ret
    exact ⟨by rw [H.out]; rfl, rfl⟩
  · have hd : decide ((1 : Int) ≤ (s.size : Int)) = false := by simp; omega
    have H : Hid (decide (0 < s.size ∧ bt s 0 = 58) = false) := decide_eq_false fun h => h0 h.1
    have hd2 : ¬ 1 ≤ s.size := h0
    have hd3 : s.size = 0 := by omega
    go_enter Try.func111, Try.ntmps111
    go_wp2
    go_ret
    exact ⟨by rw [H.out]; rfl, rfl⟩
theorem cutprefix_yes (s : ByteArray) (w : World) (h0 : 0 < s.size) (h : bt s 0 = 58) : Calls Try.prog 66 #[.string s, .string ⟨#[58]⟩] w fun e w' => e = .returned (.tuple #[.string (s.extract 1 s.size), .bool true]) ∧ w = w' := by
  have hz : (⟨#[58]⟩ : ByteArray).size = 1 := rfl
  have hd2 : 1 ≤ s.size := h0
  have H : Hid (decide (0 < s.size ∧ bt s 0 = 58) = true) := decide_eq_true ⟨h0, h⟩
  clear h
  have hin : ∀ w, Calls Try.prog 101 #[.string s, .string ⟨#[58]⟩] w fun e w' => e = .returned (.tuple #[.string (s.extract 1 s.size), .bool true]) ∧ w = w' := by
    intro w
    go_enter Try.func101, Try.ntmps101
    go_wp2_with (go_at_call 111; refine (hasprefix_colon s _).mono ?_; rintro e w' ⟨rfl, rfl⟩; rw [H.out])
    go_ret2
    exact ⟨rfl, rfl⟩
  go_enter Try.func66, Try.ntmps66
  go_wp2_with (go_at_call 101; refine (hin _).mono ?_; rintro e w' ⟨rfl, rfl⟩)
  go_ret2
  exact ⟨rfl, rfl⟩
theorem cutprefix_no (s : ByteArray) (w : World) (h : ¬ (0 < s.size ∧ bt s 0 = 58)) : Calls Try.prog 66 #[.string s, .string ⟨#[58]⟩] w fun e w' => e = .returned (.tuple #[.string s, .bool false]) ∧ w = w' := by
  have H : Hid (decide (0 < s.size ∧ bt s 0 = 58) = false) := decide_eq_false h
  clear h
  have hin : ∀ w, Calls Try.prog 101 #[.string s, .string ⟨#[58]⟩] w fun e w' => e = .returned (.tuple #[.string s, .bool false]) ∧ w = w' := by
    intro w
    go_enter Try.func101, Try.ntmps101
    go_wp2_with (go_at_call 111; refine (hasprefix_colon s _).mono ?_; rintro e w' ⟨rfl, rfl⟩; rw [H.out])
    go_ret2
    exact ⟨rfl, rfl⟩
  go_enter Try.func66, Try.ntmps66
  go_wp2_with (go_at_call 101; refine (hin _).mono ?_; rintro e w' ⟨rfl, rfl⟩)
  go_ret2
  exact ⟨rfl, rfl⟩
theorem pseudo_any (s : ByteArray) (w : World) (hs : s.size ≤ 9223372036854775807) : Calls Try.prog 29 #[.string s] w fun e w' => e = .returned (.bool (pseB s)) ∧ w = w' := by
  have hs2 : (s.extract 1 s.size).size ≤ 9223372036854775807 := by rw [size_extract1]; omega
  by_cases h : 0 < s.size ∧ bt s 0 = 58
  · have H : Hid (pseB s = nameB (s.extract 1 s.size)) := by simp [Hid, pseB, h]
    obtain ⟨h1, h2⟩ := h
    have H2 := hide h2
    clear h2
    go_enter Try.func29, Try.ntmps29
    go_wp2_with fail
    refine (cutprefix_yes s _ h1 H2.out).mono ?_
    rintro e w' ⟨rfl, rfl⟩
    generalize s.extract 1 s.size = u at *
    go_wp2_with fail
    refine (name_any u _ hs2).mono ?_
    rintro e w' ⟨rfl, rfl⟩
    rw [← H.out]
    go_wp2_with fail
    go_ret
    exact ⟨rfl, rfl⟩
  · have H : Hid (pseB s = false) := by simp [Hid, pseB, h]
    have Hn := hide h
    clear h
    go_enter Try.func29, Try.ntmps29
    go_wp2_with (go_at_call 66; refine (cutprefix_no s _ Hn.out).mono ?_; rintro e w' ⟨rfl, rfl⟩)
    go_ret
    exact ⟨by rw [H.out]; rfl, rfl⟩
end Go.Proofs.Ytkdldcmeiihbcaa
