/- Tok1, Tok2, Tok3, Tok4, Tok5 in one text. -/
import Derived.Test.YtminoofghdpomaaDoorMA
import Derived.Test.YtminoofghdpomaaDoorVal
import Derived.PlainAid
import Derived.WalkSpells
import Derived.Test.YtminoofghdpomaaDoorBtL
import Derived.Lib.Strings
import Derived.Deep.RegionHeld3
namespace Go.Proofs.YtminoofghdpomaaDoor
set_option linter.unusedVariables false
set_option linter.unusedSimpArgs false
section
open Go.RowKit Go.PlainAid

def capC (c : Int) : Bool := decide (65 ≤ c ∧ c ≤ 90)
def nmC (c : Int) : Bool := decide (33 ≤ c ∧ c ≤ 126 ∧ c ≠ 58 ∧ ¬ (65 ≤ c ∧ c ≤ 90))
def nameB (s : ByteArray) : Bool := decide (0 < s.size ∧ ∀ i, i < s.size → nmC (bt s i) = true)
theorem name_yes {s : ByteArray} (h0 : 0 < s.size) (h : ∀ i, i < s.size → nmC (bt s i) = true) : nameB s = true := decide_eq_true ⟨h0, h⟩
theorem name_no {s : ByteArray} {k : Nat} (hk : k < s.size) (h : nmC (bt s k) = false) : nameB s = false := decide_eq_false fun hh => by
  rw [hh.2 k hk] at h
  cases h
theorem name_nil {s : ByteArray} (h : s.size = 0) : nameB s = false := decide_eq_false fun hh => by omega

theorem colon0 : ((⟨#[58]⟩ : ByteArray)[0]'(by decide)).toNat = 58 := by rfl
end

section
open Go.RowKit Go.PlainAid

theorem size_extract1 (s : ByteArray) : (s.extract 1 s.size).size = s.size - 1 := by
  rw [ByteArray.size_extract]
  omega
theorem bt_extract1 (s : ByteArray) (i : Nat) : bt (s.extract 1 s.size) i = bt s (i + 1) := by
  rw [bt_list, bt_list, Lib.extract_data, List.getElem?_take]
  by_cases h : i < s.size - 1
  · rw [if_pos h, List.getElem?_drop, Nat.add_comm]
  · rw [if_neg h, List.getElem?_eq_none (by have : s.data.toList.length = s.size := by simp
                                            omega)]
/-- Whether a text begins with a colon. -/
theorem colon_front {s : ByteArray} (h : 0 < s.size) : ((s.extract 0 1).toList == [58]) = decide (bt s 0 = 58) := by
  rw [Lib.extract_toList, bt_list]
  have hl : s.data.toList.length = s.size := by simp
  cases hs : s.data.toList with
  | nil => rw [hs] at hl; simp at hl; omega
  | cons c l =>
    by_cases hc : c = 58
    · subst hc
      rfl
    · have h3 : ¬ ((c.toNat : Int) = 58) := fun h => hc (by
        apply UInt8.toNat_inj.1
        show c.toNat = 58
        omega)
      simp [hc, h3]
def pseB (s : ByteArray) : Bool := decide (0 < s.size ∧ bt s 0 = 58) && nameB (s.extract 1 s.size)

set_option maxHeartbeats 400000 in
theorem hasprefix_colon (s : ByteArray) (w : World) : Calls Tryd.prog 62 #[.string s, .string ⟨#[58]⟩] w fun e w' => e = .returned (.bool (decide (0 < s.size ∧ bt s 0 = 58))) ∧ w = w' := by
  have hz : (⟨#[58]⟩ : ByteArray).size = 1 := rfl
  by_cases h0 : 0 < s.size
  · have hc := colon_front h0
    have hd : decide ((1 : Int) ≤ (s.size : Int)) = true := by simp; omega
    have hd2 : 1 ≤ s.size := h0
    have H : Hid (decide (0 < s.size ∧ bt s 0 = 58) = decide (bt s 0 = 58)) := by simp [Hid, h0]
    obtain ⟨b, hb⟩ : ∃ b, decide (bt s 0 = 58) = b := ⟨_, rfl⟩
    rw [hb] at hc H
    clear hb
    go_enter Tryd.func62, Tryd.ntmps62
    go_wp2
    go_ret
    exact ⟨by rw [H.out]; rfl, rfl⟩
  · have hd : decide ((1 : Int) ≤ (s.size : Int)) = false := by simp; omega
    have H : Hid (decide (0 < s.size ∧ bt s 0 = 58) = false) := decide_eq_false fun h => h0 h.1
    have hd2 : ¬ 1 ≤ s.size := h0
    have hd3 : s.size = 0 := by omega
    go_enter Tryd.func62, Tryd.ntmps62
    go_wp2
    go_ret
    exact ⟨by rw [H.out]; rfl, rfl⟩
theorem cutprefix_yes (s : ByteArray) (w : World) (h0 : 0 < s.size) (h : bt s 0 = 58) : Calls Tryd.prog 41 #[.string s, .string ⟨#[58]⟩] w fun e w' => e = .returned (.tuple #[.string (s.extract 1 s.size), .bool true]) ∧ w = w' := by
  have hz : (⟨#[58]⟩ : ByteArray).size = 1 := rfl
  have hd2 : 1 ≤ s.size := h0
  have H : Hid (decide (0 < s.size ∧ bt s 0 = 58) = true) := decide_eq_true ⟨h0, h⟩
  clear h
  have hin : ∀ w, Calls Tryd.prog 54 #[.string s, .string ⟨#[58]⟩] w fun e w' => e = .returned (.tuple #[.string (s.extract 1 s.size), .bool true]) ∧ w = w' := by
    intro w
    go_enter Tryd.func54, Tryd.ntmps54
    go_wp2_with (go_at_call 62; refine (hasprefix_colon s _).mono ?_; rintro e w' ⟨rfl, rfl⟩; rw [H.out])
    go_ret2
    exact ⟨rfl, rfl⟩
  go_enter Tryd.func41, Tryd.ntmps41
  go_wp2_with (go_at_call 54; refine (hin _).mono ?_; rintro e w' ⟨rfl, rfl⟩)
  go_ret2
  exact ⟨rfl, rfl⟩
theorem cutprefix_no (s : ByteArray) (w : World) (h : ¬ (0 < s.size ∧ bt s 0 = 58)) : Calls Tryd.prog 41 #[.string s, .string ⟨#[58]⟩] w fun e w' => e = .returned (.tuple #[.string s, .bool false]) ∧ w = w' := by
  have H : Hid (decide (0 < s.size ∧ bt s 0 = 58) = false) := decide_eq_false h
  clear h
  have hin : ∀ w, Calls Tryd.prog 54 #[.string s, .string ⟨#[58]⟩] w fun e w' => e = .returned (.tuple #[.string s, .bool false]) ∧ w = w' := by
    intro w
    go_enter Tryd.func54, Tryd.ntmps54
    go_wp2_with (go_at_call 62; refine (hasprefix_colon s _).mono ?_; rintro e w' ⟨rfl, rfl⟩; rw [H.out])
    go_ret2
    exact ⟨rfl, rfl⟩
  go_enter Tryd.func41, Tryd.ntmps41
  go_wp2_with (go_at_call 54; refine (hin _).mono ?_; rintro e w' ⟨rfl, rfl⟩)
  go_ret2
  exact ⟨rfl, rfl⟩
end

section
open Go.RowKit Go.PlainAid

/-! ### values -/
def okV (c : Int) (k n : Nat) : Prop := c ≠ 0 ∧ c ≠ 10 ∧ c ≠ 13 ∧ ((c = 9 ∨ c = 32) → k ≠ 0 ∧ k + 1 ≠ n)
instance (c : Int) (k n : Nat) : Decidable (okV c k n) := by unfold okV; exact inferInstance
def valB (s : ByteArray) : Bool := decide (∀ i, i < s.size → okV (bt s i) i s.size)
theorem val_yes {s : ByteArray} (h : ∀ i, i < s.size → okV (bt s i) i s.size) : valB s = true := decide_eq_true h
theorem val_no {s : ByteArray} {k : Nat} (hk : k < s.size) (h : ¬ okV (bt s k) k s.size) : valB s = false := decide_eq_false fun hh => h (hh k hk)
end

section
open Go.RowKit Go.PlainAid

def edB (c : Int) : Bool := decide (c = 9 ∨ c = 32)
def fieldB (n v : ByteArray) : Bool := (nameB n || pseB n) && valB v
end

section
open Go.RowKit Go.PlainAid

theorem name_pse {s : ByteArray} (h : nameB s = true) : pseB s = false := by
  have h1 := of_decide_eq_true h
  have h2 := h1.2 0 h1.1
  have h3 := of_decide_eq_true h2
  simp only [pseB]
  rw [show decide (0 < s.size ∧ bt s 0 = 58) = false from decide_eq_false fun hh => h3.2.2.1 hh.2]
  rfl
theorem ex_host : nameB ⟨#[72, 111, 115, 116]⟩ = false := name_no (k := 0) (by decide) (by decide +kernel)
theorem ex_ab : valB ⟨#[97, 32, 98]⟩ = true := by decide +kernel
theorem ex_a : valB ⟨#[97, 32]⟩ = false := by decide +kernel
theorem row3 {w : World} {b : Nat} {T : TypeId} {v0 v1 v2 : Value} (h : w.heap[b]? = some (.cells #[v0, v1, v2] T (0, 0))) : w.cell? ⟨b, 0, none⟩ = some v0 ∧ w.cell? ⟨b, 1, none⟩ = some v1 ∧ w.cell? ⟨b, 2, none⟩ = some v2 := by
  refine ⟨?_, ?_, ?_⟩
  · rw [cell_of_row w b 0 _ _ _ h]; rfl
  · rw [cell_of_row w b 1 _ _ _ h]; rfl
  · rw [cell_of_row w b 2 _ _ _ h]; rfl
end
end Go.Proofs.YtminoofghdpomaaDoor
