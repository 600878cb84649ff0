/- Layer 3: the program's Read, whole, as far as the names of types ask. -/
import Derived.Test.YtminoofghdpomaaDoorKn3
namespace Go.Proofs.YtminoofghdpomaaDoor
set_option linter.unusedVariables false
set_option linter.unusedSimpArgs false
open Go.RowKit Go.PlainAid

theorem at48 {b : ByteArray} (hb : 0 < b.size) : (bt b 0 = 48 → (bt b 0 == 48) = true) ∧ (bt b 0 ≠ 48 → (bt b 0 == 48) = false) := ⟨fun h => by simp [h], fun h => by simpa using h⟩
set_option maxRecDepth 20000 in
set_option maxHeartbeats 800000 in
theorem read03_e_true (s body : ByteArray) (w : World) (hq : ∀ u : Nat, 10 ≤ u → u ≤ 255 → s ≠ decS u) (hb : body.size = 0) (hcut : ∀ W, Calls Tryd.prog 41 #[.string s, .string ⟨#[45]⟩] W fun e w' => e = .returned (.tuple #[.string body, .bool true]) ∧ w' = W) : Calls Tryd.prog 25 #[.string s] w (ReadE s w) := by
  have HC := hide hcut
  clear hcut
  have HQ := hide hq
  have t1 := isEmpty_yes hb
  clear hq hb
  go_enter Tryd.func25, Tryd.ntmps25
  go_wp2_with fail
  refine (HC.out _).mono ?_
  rintro e w1 ⟨rfl, rfl⟩
  go_wp2_with fail
  go_ret2
  exact ⟨0, false, rfl, ReadQ.no HQ.out _ _ fun h => (by cases h), Below.refl _ _⟩
set_option maxRecDepth 20000 in
set_option maxHeartbeats 800000 in
theorem read03_z_true (s body : ByteArray) (w : World) (hq : ∀ u : Nat, 10 ≤ u → u ≤ 255 → s ≠ decS u) (hb : body.size ≠ 0) (h48 : bt body 0 = 48) (hs : (s.toList == [48]) = false) (hcut : ∀ W, Calls Tryd.prog 41 #[.string s, .string ⟨#[45]⟩] W fun e w' => e = .returned (.tuple #[.string body, .bool true]) ∧ w' = W) : Calls Tryd.prog 25 #[.string s] w (ReadE s w) := by
  have HC := hide hcut
  clear hcut
  have HQ := hide hq
  have t1 := isEmpty_no hb
  have hb0 : 0 < body.size := by omega
  have hgb := get_bt body 0 hb0
  have t3 : (bt body 0 == 48) = true := by simpa using h48
  have t4 : decide (0 < body.size) = true := decide_eq_true hb0
  clear hq hb h48
  go_enter Tryd.func25, Tryd.ntmps25
  go_wp2_with fail
  refine (HC.out _).mono ?_
  rintro e w1 ⟨rfl, rfl⟩
  go_wp2_with fail
  go_ret2
  exact ⟨0, false, rfl, ReadQ.no HQ.out _ _ fun h => (by cases h), Below.refl _ _⟩
set_option maxRecDepth 20000 in
set_option maxHeartbeats 800000 in
theorem read03_e_false (s body : ByteArray) (w : World) (hq : ∀ u : Nat, 10 ≤ u → u ≤ 255 → s ≠ decS u) (hb : body.size = 0) (hcut : ∀ W, Calls Tryd.prog 41 #[.string s, .string ⟨#[45]⟩] W fun e w' => e = .returned (.tuple #[.string body, .bool false]) ∧ w' = W) : Calls Tryd.prog 25 #[.string s] w (ReadE s w) := by
  have HC := hide hcut
  clear hcut
  have HQ := hide hq
  have t1 := isEmpty_yes hb
  clear hq hb
  go_enter Tryd.func25, Tryd.ntmps25
  go_wp2_with fail
  refine (HC.out _).mono ?_
  rintro e w1 ⟨rfl, rfl⟩
  go_wp2_with fail
  go_ret2
  exact ⟨0, false, rfl, ReadQ.no HQ.out _ _ fun h => (by cases h), Below.refl _ _⟩
set_option maxRecDepth 20000 in
set_option maxHeartbeats 800000 in
theorem read03_z_false (s body : ByteArray) (w : World) (hq : ∀ u : Nat, 10 ≤ u → u ≤ 255 → s ≠ decS u) (hb : body.size ≠ 0) (h48 : bt body 0 = 48) (hs : (s.toList == [48]) = false) (hcut : ∀ W, Calls Tryd.prog 41 #[.string s, .string ⟨#[45]⟩] W fun e w' => e = .returned (.tuple #[.string body, .bool false]) ∧ w' = W) : Calls Tryd.prog 25 #[.string s] w (ReadE s w) := by
  have HC := hide hcut
  clear hcut
  have HQ := hide hq
  have t1 := isEmpty_no hb
  have hb0 : 0 < body.size := by omega
  have hgb := get_bt body 0 hb0
  have t3 : (bt body 0 == 48) = true := by simpa using h48
  have t4 : decide (0 < body.size) = true := decide_eq_true hb0
  clear hq hb h48
  go_enter Tryd.func25, Tryd.ntmps25
  go_wp2_with fail
  refine (HC.out _).mono ?_
  rintro e w1 ⟨rfl, rfl⟩
  go_wp2_with fail
  go_ret2
  exact ⟨0, false, rfl, ReadQ.no HQ.out _ _ fun h => (by cases h), Below.refl _ _⟩
set_option maxRecDepth 20000 in
set_option maxHeartbeats 800000 in
theorem read03_o (s body : ByteArray) (w : World) (hN : ReadQ s (natN body 9223372036854775807) (natB body 9223372036854775807)) (hb : body.size ≠ 0) (hsz : body.size ≤ 9223372036854775807) (h48 : bt body 0 = 48) (hs : (s.toList == [48]) = true) (hcut : ∀ W, Calls Tryd.prog 41 #[.string s, .string ⟨#[45]⟩] W fun e w' => e = .returned (.tuple #[.string body, .bool false]) ∧ w' = W) : Calls Tryd.prog 25 #[.string s] w (ReadE s w) := by
  have HC := hide hcut
  clear hcut
  have HN := hide hN
  have t1 := isEmpty_no hb
  have hb0 : 0 < body.size := by omega
  have hgb := get_bt body 0 hb0
  have t3 : (bt body 0 == 48) = true := by simpa using h48
  have t4 : decide (0 < body.size) = true := decide_eq_true hb0
  have Hsz := hide hsz
  clear hN hb h48
  go_enter Tryd.func25, Tryd.ntmps25
  go_wp2_with fail
  refine (HC.out _).mono ?_
  rintro e w1 ⟨rfl, rfl⟩
  go_wp2_with fail
  refine (natural_any body 9223372036854775807 _ Hsz.out (by omega) (by omega)).mono ?_
  rintro e w1 ⟨rfl, hb1⟩
  have HB := hide hb1
  clear hb1
  go_wp2_with fail
  go_ret2
  exact ⟨_, _, rfl, HN.out, HB.out⟩
set_option maxRecDepth 20000 in
set_option maxHeartbeats 800000 in
theorem read03_n (s body : ByteArray) (w : World) (hN : ReadQ s (natN body 9223372036854775807) (natB body 9223372036854775807)) (hb : body.size ≠ 0) (hsz : body.size ≤ 9223372036854775807) (h48 : bt body 0 ≠ 48) (hcut : ∀ W, Calls Tryd.prog 41 #[.string s, .string ⟨#[45]⟩] W fun e w' => e = .returned (.tuple #[.string body, .bool false]) ∧ w' = W) : Calls Tryd.prog 25 #[.string s] w (ReadE s w) := by
  have HC := hide hcut
  clear hcut
  have HN := hide hN
  have t1 := isEmpty_no hb
  have hb0 : 0 < body.size := by omega
  have hgb := get_bt body 0 hb0
  have t3 : (bt body 0 == 48) = false := by simpa using h48
  have t4 : decide (0 < body.size) = true := decide_eq_true hb0
  have Hsz := hide hsz
  clear hN hb h48
  go_enter Tryd.func25, Tryd.ntmps25
  go_wp2_with fail
  refine (HC.out _).mono ?_
  rintro e w1 ⟨rfl, rfl⟩
  go_wp2_with fail
  refine (natural_any body 9223372036854775807 _ Hsz.out (by omega) (by omega)).mono ?_
  rintro e w1 ⟨rfl, hb1⟩
  have HB := hide hb1
  clear hb1
  go_wp2_with fail
  go_ret2
  exact ⟨_, _, rfl, HN.out, HB.out⟩
theorem toList_data (s : ByteArray) : s.toList = s.data.toList := ByteArray.toList_eq s
theorem read03 (s : ByteArray) (w : World) (hs : s.size ≤ 9223372036854775807) : Calls Tryd.prog 25 #[.string s] w (ReadE s w) := by
  have hc := fun W => Tryd.strings_CutPrefix s ⟨#[45]⟩ W
  change ∀ W, Calls Tryd.prog 41 #[.string s, .string ⟨#[45]⟩] W fun e w' => e = .returned (.tuple #[.string ⟨(Lib.trimPrefix s.data.toList [45]).toArray⟩, .bool (Lib.hasPrefix s.data.toList [45])]) ∧ w' = W at hc
  cases hp : Lib.hasPrefix s.data.toList [45] with
  | true =>
    rw [hp] at hc
    obtain ⟨body, hbody⟩ : ∃ b : ByteArray, (⟨(Lib.trimPrefix s.data.toList [45]).toArray⟩ : ByteArray) = b := ⟨_, rfl⟩
    have hbs : body.size ≤ s.size := by
      rw [← hbody]
      show (Lib.trimPrefix s.data.toList [45]).toArray.size ≤ s.data.size
      unfold Lib.trimPrefix
      rw [if_pos hp]
      simp
    rw [hbody] at hc
    have hq : ∀ u : Nat, 10 ≤ u → u ≤ 255 → s ≠ decS u := fun u _ _ => read_minus hp u
    have hs48 : (s.toList == [48]) = false := by
      rw [toList_data]
      cases hl : s.data.toList with
      | nil => rfl
      | cons c r =>
        rw [hl] at hp
        have : c = 45 := by
          unfold Lib.hasPrefix at hp
          simp [List.isPrefixOf] at hp
          exact hp.symm
        subst this
        rfl
    by_cases hb : body.size = 0
    · exact read03_e_true s body w hq hb hc
    · by_cases h48 : bt body 0 = 48
      · exact read03_z_true s body w hq hb h48 hs48 hc
      · exact read_below03 s body w hq hb h48 (by omega) hc
  | false =>
    rw [hp] at hc
    have e : (⟨(Lib.trimPrefix s.data.toList [45]).toArray⟩ : ByteArray) = s := by
      unfold Lib.trimPrefix
      rw [hp]
      exact data_toArray s
    rw [e] at hc
    by_cases hb : s.size = 0
    · exact read03_e_false s s w (fun u _ _ => decS_ne hb) hb hc
    · by_cases h48 : bt s 0 = 48
      · cases hs48 : s.toList == [48] with
        | true =>
          have : s = ⟨#[48]⟩ := by
            have h2 := eq_of_beq hs48
            rw [toList_data] at h2
            rw [← data_toArray s, h2]
          subst this
          exact read03_o _ _ w read_zero hb hs h48 hs48 hc
        | false => exact read03_z_false s s w (fun u h _ => read_nought h48 u h) hb h48 hs48 hc
      · exact read03_n s s w (read_natural h48) hb hs h48 hc
end Go.Proofs.YtminoofghdpomaaDoor
