/- Tok1, Tok2, Tok3, Tok4, Tok5 in one text. -/
import Derived.Test.YtpohgehojmeodaaDoorMA
import Derived.Test.YtpohgehojmeodaaDoorVal
import Derived.PlainAid
import Derived.WalkSpells
import Derived.Test.YtpohgehojmeodaaDoorBtL
import Derived.Lib.Strings
import Derived.Deep.RegionHeld3
namespace Go.Proofs.YtpohgehojmeodaaDoor
set_option linter.unusedVariables false
set_option linter.unusedSimpArgs false
section
open Go.RowKit Go.PlainAid

def capC (c : Int) : Bool := decide (65 ≤ c ∧ c ≤ 90)
def nmC (c : Int) : Bool := decide (33 ≤ c ∧ c ≤ 126 ∧ c ≠ 58 ∧ ¬ (65 ≤ c ∧ c ≤ 90))
def nameB (s : ByteArray) : Bool := decide (0 < s.size ∧ ∀ i, i < s.size → nmC (bt s i) = true)
theorem name_yes {s : ByteArray} (h0 : 0 < s.size) (h : ∀ i, i < s.size → nmC (bt s i) = true) : nameB s = true := decide_eq_true ⟨h0, h⟩
theorem name_no {s : ByteArray} {k : Nat} (hk : k < s.size) (h : nmC (bt s k) = false) : nameB s = false := decide_eq_false fun hh => by
  rw [hh.2 k hk] at h
  cases h
theorem name_nil {s : ByteArray} (h : s.size = 0) : nameB s = false := decide_eq_false fun hh => by omega

set_option maxHeartbeats 400000 in
theorem cap_any (c : Int) (w : World) : Calls Tryd.prog 196 #[.int .u8 c] w fun e w' => e = .returned (.bool (capC c)) ∧ w = w' := by
  by_cases h1 : 65 ≤ c
  · by_cases h2 : c ≤ 90
    · have H : Hid (capC c = true) := decide_eq_true ⟨h1, h2⟩
      have d1 : decide (65 ≤ c) = true := by simpa using h1
      have d2 : decide (c ≤ 90) = true := by simpa using h2
      go_enter Tryd.func196, Tryd.ntmps196
      go_wp2
      go_ret
      exact ⟨by rw [H.out]; rfl, rfl⟩
    · have H : Hid (capC c = false) := decide_eq_false fun h => h2 h.2
      have d1 : decide (65 ≤ c) = true := by simpa using h1
      have d2 : decide (c ≤ 90) = false := by simpa using h2
      go_enter Tryd.func196, Tryd.ntmps196
      go_wp2
      go_ret
      exact ⟨by rw [H.out]; rfl, rfl⟩
  · have H : Hid (capC c = false) := decide_eq_false fun h => h1 h.1
    have d1 : decide (65 ≤ c) = false := by simpa using h1
    go_enter Tryd.func196, Tryd.ntmps196
    go_wp2
    go_ret
    exact ⟨by rw [H.out]; rfl, rfl⟩
theorem colon0 : ((⟨#[58]⟩ : ByteArray)[0]'(by decide)).toNat = 58 := by rfl
set_option maxHeartbeats 400000 in
theorem ofname_any (c : Int) (w : World) : Calls Tryd.prog 198 #[.int .u8 c] w fun e w' => e = .returned (.bool (nmC c)) ∧ w = w' := by
  have hx := colon0
  by_cases h1 : 33 ≤ c
  · have d1 : decide (33 ≤ c) = true := by simpa using h1
    by_cases h2 : c ≤ 126
    · have d2 : decide (c ≤ 126) = true := by simpa using h2
      by_cases h3 : c = 58
      · have H : Hid (nmC c = false) := decide_eq_false fun h => h.2.2.1 h3
        have d3 : (c != 58) = false := by simp [h3]
        clear h3
        go_enter Tryd.func198, Tryd.ntmps198
        go_wp2
        go_ret
        exact ⟨by rw [H.out]; rfl, rfl⟩
      · have d3 : (c != 58) = true := by simp [h3]
        have H : Hid (nmC c = !capC c) := by
          unfold nmC capC Hid
          by_cases h4 : 65 ≤ c ∧ c ≤ 90 <;> simp [h1, h2, h3, h4]
        obtain ⟨b, hb⟩ : ∃ b, capC c = b := ⟨_, rfl⟩
        rw [hb] at H
        have HB := hide hb
        clear h3 hb
        go_enter Tryd.func198, Tryd.ntmps198
        go_wp2_with (go_at_call 196; refine (cap_any _ _).mono ?_; rintro e w' ⟨rfl, rfl⟩; rw [HB.out])
        go_ret
        exact ⟨by rw [H.out]; rfl, rfl⟩
    · have d2 : decide (c ≤ 126) = false := by simpa using h2
      have H : Hid (nmC c = false) := decide_eq_false fun h => h2 h.2.1
      go_enter Tryd.func198, Tryd.ntmps198
      go_wp2
      go_ret
      exact ⟨by rw [H.out]; rfl, rfl⟩
  · have d1 : decide (33 ≤ c) = false := by simpa using h1
    have H : Hid (nmC c = false) := decide_eq_false fun h => h1 h.1
    go_enter Tryd.func198, Tryd.ntmps198
    go_wp2
    go_ret
    exact ⟨by rw [H.out]; rfl, rfl⟩
set_option maxHeartbeats 400000 in
theorem name_any (s : ByteArray) (w : World) (hs : s.size ≤ 9223372036854775807) : Calls Tryd.prog 193 #[.string s] w fun e w' => e = .returned (.bool (nameB s)) ∧ w = w' := by
  have Hs := hide hs
  go_enter Tryd.func193, Tryd.ntmps193
  go_wp2
  go_loop [3, 6] (fun _ i => ∃ k : Nat, k ≤ s.size ∧ i = .int .i64 k ∧ ∀ j, j < k → nmC (bt s j) = true) (fun _ i => s.size - (intOf i).toNat)
  case atStart => exact ⟨0, Nat.zero_le _, rfl, fun j hj => absurd hj (by omega)⟩
  case round =>
    obtain ⟨k, hk, rfl, hall⟩ := hrel
    have Hall := hide hall
    clear hall
    by_cases hlt : k < s.size
    · have hb := get_bt s k hlt
      by_cases hc : nmC (bt s k) = true
      · have Hall' : Hid (∀ j, j < k + 1 → nmC (bt s j) = true) := fun j hj => by
          by_cases e : j = k
          · subst e; exact hc
          · exact Hall.out j (by omega)
        have Hc := hide hc
        clear hc
        go_wp2_with (go_at_call 198; refine (ofname_any _ _).mono ?_; rintro e w' ⟨rfl, rfl⟩; rw [Hc.out])
        go_round
        case rel => exact ⟨k + 1, by omega, by go_num, Hall'.out⟩
        case measure => simp [intOf]; omega
      · have hc' : nmC (bt s k) = false := by simpa using hc
        have Hn : Hid (nameB s = false) := name_no hlt hc'
        have Hc := hide hc'
        clear hc hc'
        go_wp2_with (go_at_call 198; refine (ofname_any _ _).mono ?_; rintro e w' ⟨rfl, rfl⟩; rw [Hc.out])
        go_ret
        exact ⟨by rw [Hn.out]; rfl, rfl⟩
    · obtain rfl : k = s.size := by omega
      by_cases h0 : s.size = 0
      · have Hn : Hid (nameB s = false) := name_nil h0
        have t1 : (!s.toList.isEmpty) = false := by
          have : s.toList = [] := by rw [ByteArray.toList_eq]; exact List.eq_nil_of_length_eq_zero (by simpa using h0)
          simp [this]
        clear h0
        go_wp2
        go_ret
        exact ⟨by rw [Hn.out]; rfl, rfl⟩
      · have Hn : Hid (nameB s = true) := name_yes (by omega) Hall.out
        have t1 : (!s.toList.isEmpty) = true := by
          have : s.toList ≠ [] := fun e => h0 (by
            rw [ByteArray.toList_eq] at e
            have : s.data.toList.length = 0 := by rw [e]; rfl
            simpa using this)
          simpa using this
        clear h0
        go_wp2
        go_ret
        exact ⟨by rw [Hn.out]; rfl, rfl⟩
end

section
open Go.RowKit Go.PlainAid

theorem size_extract1 (s : ByteArray) : (s.extract 1 s.size).size = s.size - 1 := by
  rw [ByteArray.size_extract]
  omega
theorem bt_extract1 (s : ByteArray) (i : Nat) : bt (s.extract 1 s.size) i = bt s (i + 1) := by
  rw [bt_list, bt_list, Lib.extract_data, List.getElem?_take]
  by_cases h : i < s.size - 1
  · rw [if_pos h, List.getElem?_drop, Nat.add_comm]
  · rw [if_neg h, List.getElem?_eq_none (by have : s.data.toList.length = s.size := by simp
                                            omega)]
/-- Whether a text begins with a colon. -/
theorem colon_front {s : ByteArray} (h : 0 < s.size) : ((s.extract 0 1).toList == [58]) = decide (bt s 0 = 58) := by
  rw [Lib.extract_toList, bt_list]
  have hl : s.data.toList.length = s.size := by simp
  cases hs : s.data.toList with
  | nil => rw [hs] at hl; simp at hl; omega
  | cons c l =>
    by_cases hc : c = 58
    · subst hc
      rfl
    · have h3 : ¬ ((c.toNat : Int) = 58) := fun h => hc (by
        apply UInt8.toNat_inj.1
        show c.toNat = 58
        omega)
      simp [hc, h3]
def pseB (s : ByteArray) : Bool := decide (0 < s.size ∧ bt s 0 = 58) && nameB (s.extract 1 s.size)

set_option maxHeartbeats 400000 in
theorem hasprefix_colon (s : ByteArray) (w : World) : Calls Tryd.prog 126 #[.string s, .string ⟨#[58]⟩] w fun e w' => e = .returned (.bool (decide (0 < s.size ∧ bt s 0 = 58))) ∧ w = w' := by
  have hz : (⟨#[58]⟩ : ByteArray).size = 1 := rfl
  by_cases h0 : 0 < s.size
  · have hc := colon_front h0
    have hd : decide ((1 : Int) ≤ (s.size : Int)) = true := by simp; omega
    have hd2 : 1 ≤ s.size := h0
    have H : Hid (decide (0 < s.size ∧ bt s 0 = 58) = decide (bt s 0 = 58)) := by simp [Hid, h0]
    obtain ⟨b, hb⟩ : ∃ b, decide (bt s 0 = 58) = b := ⟨_, rfl⟩
    rw [hb] at hc H
    clear hb
    go_enter Tryd.func126, Tryd.ntmps126
    go_wp2
    go_ret
    exact ⟨by rw [H.out]; rfl, rfl⟩
  · have hd : decide ((1 : Int) ≤ (s.size : Int)) = false := by simp; omega
    have H : Hid (decide (0 < s.size ∧ bt s 0 = 58) = false) := decide_eq_false fun h => h0 h.1
    have hd2 : ¬ 1 ≤ s.size := h0
    have hd3 : s.size = 0 := by omega
    go_enter Tryd.func126, Tryd.ntmps126
    go_wp2
    go_ret
    exact ⟨by rw [H.out]; rfl, rfl⟩
theorem cutprefix_yes (s : ByteArray) (w : World) (h0 : 0 < s.size) (h : bt s 0 = 58) : Calls Tryd.prog 79 #[.string s, .string ⟨#[58]⟩] w fun e w' => e = .returned (.tuple #[.string (s.extract 1 s.size), .bool true]) ∧ w = w' := by
  have hz : (⟨#[58]⟩ : ByteArray).size = 1 := rfl
  have hd2 : 1 ≤ s.size := h0
  have H : Hid (decide (0 < s.size ∧ bt s 0 = 58) = true) := decide_eq_true ⟨h0, h⟩
  clear h
  have hin : ∀ w, Calls Tryd.prog 104 #[.string s, .string ⟨#[58]⟩] w fun e w' => e = .returned (.tuple #[.string (s.extract 1 s.size), .bool true]) ∧ w = w' := by
    intro w
    go_enter Tryd.func104, Tryd.ntmps104
    go_wp2_with (go_at_call 126; refine (hasprefix_colon s _).mono ?_; rintro e w' ⟨rfl, rfl⟩; rw [H.out])
    go_ret2
    exact ⟨rfl, rfl⟩
  go_enter Tryd.func79, Tryd.ntmps79
  go_wp2_with (go_at_call 104; refine (hin _).mono ?_; rintro e w' ⟨rfl, rfl⟩)
  go_ret2
  exact ⟨rfl, rfl⟩
theorem cutprefix_no (s : ByteArray) (w : World) (h : ¬ (0 < s.size ∧ bt s 0 = 58)) : Calls Tryd.prog 79 #[.string s, .string ⟨#[58]⟩] w fun e w' => e = .returned (.tuple #[.string s, .bool false]) ∧ w = w' := by
  have H : Hid (decide (0 < s.size ∧ bt s 0 = 58) = false) := decide_eq_false h
  clear h
  have hin : ∀ w, Calls Tryd.prog 104 #[.string s, .string ⟨#[58]⟩] w fun e w' => e = .returned (.tuple #[.string s, .bool false]) ∧ w = w' := by
    intro w
    go_enter Tryd.func104, Tryd.ntmps104
    go_wp2_with (go_at_call 126; refine (hasprefix_colon s _).mono ?_; rintro e w' ⟨rfl, rfl⟩; rw [H.out])
    go_ret2
    exact ⟨rfl, rfl⟩
  go_enter Tryd.func79, Tryd.ntmps79
  go_wp2_with (go_at_call 104; refine (hin _).mono ?_; rintro e w' ⟨rfl, rfl⟩)
  go_ret2
  exact ⟨rfl, rfl⟩
theorem pseudo_any (s : ByteArray) (w : World) (hs : s.size ≤ 9223372036854775807) : Calls Tryd.prog 194 #[.string s] w fun e w' => e = .returned (.bool (pseB s)) ∧ w = w' := by
  have hs2 : (s.extract 1 s.size).size ≤ 9223372036854775807 := by rw [size_extract1]; omega
  by_cases h : 0 < s.size ∧ bt s 0 = 58
  · have H : Hid (pseB s = nameB (s.extract 1 s.size)) := by simp [Hid, pseB, h]
    obtain ⟨h1, h2⟩ := h
    have H2 := hide h2
    clear h2
    go_enter Tryd.func194, Tryd.ntmps194
    go_wp2_with fail
    refine (cutprefix_yes s _ h1 H2.out).mono ?_
    rintro e w' ⟨rfl, rfl⟩
    generalize s.extract 1 s.size = u at *
    go_wp2_with fail
    refine (name_any u _ hs2).mono ?_
    rintro e w' ⟨rfl, rfl⟩
    rw [← H.out]
    go_wp2_with fail
    go_ret
    exact ⟨rfl, rfl⟩
  · have H : Hid (pseB s = false) := by simp [Hid, pseB, h]
    have Hn := hide h
    clear h
    go_enter Tryd.func194, Tryd.ntmps194
    go_wp2_with (go_at_call 79; refine (cutprefix_no s _ Hn.out).mono ?_; rintro e w' ⟨rfl, rfl⟩)
    go_ret
    exact ⟨by rw [H.out]; rfl, rfl⟩
end

section
open Go.RowKit Go.PlainAid

/-! ### values -/
def okV (c : Int) (k n : Nat) : Prop := c ≠ 0 ∧ c ≠ 10 ∧ c ≠ 13 ∧ ((c = 9 ∨ c = 32) → k ≠ 0 ∧ k + 1 ≠ n)
instance (c : Int) (k n : Nat) : Decidable (okV c k n) := by unfold okV; exact inferInstance
def valB (s : ByteArray) : Bool := decide (∀ i, i < s.size → okV (bt s i) i s.size)
theorem val_yes {s : ByteArray} (h : ∀ i, i < s.size → okV (bt s i) i s.size) : valB s = true := decide_eq_true h
theorem val_no {s : ByteArray} {k : Nat} (hk : k < s.size) (h : ¬ okV (bt s k) k s.size) : valB s = false := decide_eq_false fun hh => h (hh k hk)
set_option maxHeartbeats 1000000 in
theorem value_any (s : ByteArray) (w : World) (hs : s.size ≤ 9223372036854775807) : Calls Tryd.prog 195 #[.string s] w fun e w' => e = .returned (.bool (valB s)) ∧ w = w' := by
  have Hs := hide hs
  go_enter Tryd.func195, Tryd.ntmps195
  go_wp2
  go_loop [3, 6] (fun _ i => ∃ k : Nat, k ≤ s.size ∧ i = .int .i64 k ∧ ∀ j, j < k → okV (bt s j) j s.size) (fun _ i => s.size - (intOf i).toNat)
  case atStart => exact ⟨0, Nat.zero_le _, rfl, fun j hj => absurd hj (by omega)⟩
  case round =>
    obtain ⟨k, hk, rfl, hall⟩ := hrel
    have Hall := hide hall
    clear hall
    by_cases hlt : k < s.size
    · have hb := get_bt s k hlt
      have Hy : Hid (okV (bt s k) k s.size → ∀ j, j < k + 1 → okV (bt s j) j s.size) := fun hc j hj => by
        by_cases e : j = k
        · subst e; exact hc
        · exact Hall.out j (by omega)
      have Hn : Hid (¬ okV (bt s k) k s.size → valB s = false) := fun hc => val_no hlt hc
      generalize bt s k = c at hb Hy Hn
      go_wp2
      all_goals first
        | (refine ⟨⟨k + 1, by omega, by go_num, Hy.out ?_⟩, by simp [intOf]; omega⟩
           unfold okV
           (try simp only [beq_iff_eq, beq_eq_false_iff_ne, ne_eq] at *)
           omega)
        | (go_ret
           refine ⟨?_, rfl⟩
           rw [Hn.out (by unfold okV; (try simp only [beq_iff_eq, beq_eq_false_iff_ne, ne_eq] at *); omega)]
           rfl)
    · obtain rfl : k = s.size := by omega
      have Hn : Hid (valB s = true) := val_yes Hall.out
      go_wp2
      go_ret
      exact ⟨by rw [Hn.out]; rfl, rfl⟩
end

section
open Go.RowKit Go.PlainAid

def edB (c : Int) : Bool := decide (c = 9 ∨ c = 32)
def fieldB (n v : ByteArray) : Bool := (nameB n || pseB n) && valB v
set_option maxHeartbeats 400000 in
theorem field_any (n v : ByteArray) (b : Bool) (w : World) (hn : n.size ≤ 9223372036854775807) (hv : v.size ≤ 9223372036854775807) : Calls Tryd.prog 183 #[.agg #[.string n, .string v, .bool b]] w fun e w' => e = .returned (.bool (fieldB n v)) ∧ w' = w.alloc (.cells #[.string n, .string v, .bool b] 60) := by
  obtain ⟨b1, hb1⟩ : ∃ x, nameB n = x := ⟨_, rfl⟩
  obtain ⟨b2, hb2⟩ : ∃ x, pseB n = x := ⟨_, rfl⟩
  obtain ⟨b3, hb3⟩ : ∃ x, valB v = x := ⟨_, rfl⟩
  have H : Hid (fieldB n v = ((b1 || b2) && b3)) := by unfold Hid fieldB; rw [hb1, hb2, hb3]
  have H1 := hide hb1
  have H2 := hide hb2
  have H3 := hide hb3
  clear hb1 hb2 hb3
  go_enter Tryd.func183, Tryd.ntmps183
  cases b1 <;> cases b2 <;> cases b3
  all_goals
    go_wp2_with (first
      | (go_at_call 193; refine (name_any _ _ hn).mono ?_; rintro e w' ⟨rfl, rfl⟩; rw [H1.out])
      | (go_at_call 194; refine (pseudo_any _ _ hn).mono ?_; rintro e w' ⟨rfl, rfl⟩; rw [H2.out])
      | (go_at_call 195; refine (value_any _ _ hv).mono ?_; rintro e w' ⟨rfl, rfl⟩; rw [H3.out]))
    go_ret
    exact ⟨by rw [H.out]; rfl, rfl⟩
end

section
open Go.RowKit Go.PlainAid

theorem name_pse {s : ByteArray} (h : nameB s = true) : pseB s = false := by
  have h1 := of_decide_eq_true h
  have h2 := h1.2 0 h1.1
  have h3 := of_decide_eq_true h2
  simp only [pseB]
  rw [show decide (0 < s.size ∧ bt s 0 = 58) = false from decide_eq_false fun hh => h3.2.2.1 hh.2]
  rfl
theorem ex_host : nameB ⟨#[72, 111, 115, 116]⟩ = false := name_no (k := 0) (by decide) (by decide +kernel)
theorem ex_ab : valB ⟨#[97, 32, 98]⟩ = true := by decide +kernel
theorem ex_a : valB ⟨#[97, 32]⟩ = false := by decide +kernel
theorem row3 {w : World} {b : Nat} {T : TypeId} {v0 v1 v2 : Value} (h : w.heap[b]? = some (.cells #[v0, v1, v2] T (0, 0))) : w.cell? ⟨b, 0, none⟩ = some v0 ∧ w.cell? ⟨b, 1, none⟩ = some v1 ∧ w.cell? ⟨b, 2, none⟩ = some v2 := by
  refine ⟨?_, ?_, ?_⟩
  · rw [cell_of_row w b 0 _ _ _ h]; rfl
  · rw [cell_of_row w b 1 _ _ _ h]; rfl
  · rw [cell_of_row w b 2 _ _ _ h]; rfl
end
end Go.Proofs.YtpohgehojmeodaaDoor
