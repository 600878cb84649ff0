/- Layer 3: the program's Read, whole. -/
import Derived.Test.YtminoofghdpomaaDoorRd3
import Derived.Test.YtminoofghdpomaaDoorShlf
namespace Go.Proofs.YtminoofghdpomaaDoor
set_option linter.unusedVariables false
set_option linter.unusedSimpArgs false
open Go.RowKit Go.PlainAid

theorem at48R {b : ByteArray} (hb : 0 < b.size) : (bt b 0 = 48 → (bt b 0 == 48) = true) ∧ (bt b 0 ≠ 48 → (bt b 0 == 48) = false) := ⟨fun h => by simp [h], fun h => by simpa using h⟩
set_option maxRecDepth 20000 in
set_option maxHeartbeats 800000 in
theorem kr03_e_true (s body : ByteArray) (w : World) (hq : ReadR s 0 false) (hb : body.size = 0) (hcut : ∀ W, Calls Tryd.prog 41 #[.string s, .string ⟨#[45]⟩] W fun e w' => e = .returned (.tuple #[.string body, .bool true]) ∧ w' = W) : Calls Tryd.prog 25 #[.string s] w (ReadRE s w) := by
  have HC := hide hcut
  clear hcut
  have HQ := hide hq
  have t1 := isEmpty_yes hb
  clear hq hb
  go_enter Tryd.func25, Tryd.ntmps25
  go_wp2_with fail
  refine (HC.out _).mono ?_
  rintro e w1 ⟨rfl, rfl⟩
  go_wp2_with fail
  go_ret2
  exact ⟨0, false, rfl, HQ.out, Below.refl _ _⟩
set_option maxRecDepth 20000 in
set_option maxHeartbeats 800000 in
theorem kr03_z_true (s body : ByteArray) (w : World) (hq : ReadR s 0 false) (hb : body.size ≠ 0) (h48 : bt body 0 = 48) (hs : (s.toList == [48]) = false) (hcut : ∀ W, Calls Tryd.prog 41 #[.string s, .string ⟨#[45]⟩] W fun e w' => e = .returned (.tuple #[.string body, .bool true]) ∧ w' = W) : Calls Tryd.prog 25 #[.string s] w (ReadRE s w) := by
  have HC := hide hcut
  clear hcut
  have HQ := hide hq
  have t1 := isEmpty_no hb
  have hb0 : 0 < body.size := by omega
  have hgb := get_bt body 0 hb0
  have t3 : (bt body 0 == 48) = true := by simpa using h48
  have t4 : decide (0 < body.size) = true := decide_eq_true hb0
  clear hq hb h48
  go_enter Tryd.func25, Tryd.ntmps25
  go_wp2_with fail
  refine (HC.out _).mono ?_
  rintro e w1 ⟨rfl, rfl⟩
  go_wp2_with fail
  go_ret2
  exact ⟨0, false, rfl, HQ.out, Below.refl _ _⟩
set_option maxRecDepth 20000 in
set_option maxHeartbeats 800000 in
theorem kr03_e_false (s body : ByteArray) (w : World) (hq : ReadR s 0 false) (hb : body.size = 0) (hcut : ∀ W, Calls Tryd.prog 41 #[.string s, .string ⟨#[45]⟩] W fun e w' => e = .returned (.tuple #[.string body, .bool false]) ∧ w' = W) : Calls Tryd.prog 25 #[.string s] w (ReadRE s w) := by
  have HC := hide hcut
  clear hcut
  have HQ := hide hq
  have t1 := isEmpty_yes hb
  clear hq hb
  go_enter Tryd.func25, Tryd.ntmps25
  go_wp2_with fail
  refine (HC.out _).mono ?_
  rintro e w1 ⟨rfl, rfl⟩
  go_wp2_with fail
  go_ret2
  exact ⟨0, false, rfl, HQ.out, Below.refl _ _⟩
set_option maxRecDepth 20000 in
set_option maxHeartbeats 800000 in
theorem kr03_z_false (s body : ByteArray) (w : World) (hq : ReadR s 0 false) (hb : body.size ≠ 0) (h48 : bt body 0 = 48) (hs : (s.toList == [48]) = false) (hcut : ∀ W, Calls Tryd.prog 41 #[.string s, .string ⟨#[45]⟩] W fun e w' => e = .returned (.tuple #[.string body, .bool false]) ∧ w' = W) : Calls Tryd.prog 25 #[.string s] w (ReadRE s w) := by
  have HC := hide hcut
  clear hcut
  have HQ := hide hq
  have t1 := isEmpty_no hb
  have hb0 : 0 < body.size := by omega
  have hgb := get_bt body 0 hb0
  have t3 : (bt body 0 == 48) = true := by simpa using h48
  have t4 : decide (0 < body.size) = true := decide_eq_true hb0
  clear hq hb h48
  go_enter Tryd.func25, Tryd.ntmps25
  go_wp2_with fail
  refine (HC.out _).mono ?_
  rintro e w1 ⟨rfl, rfl⟩
  go_wp2_with fail
  go_ret2
  exact ⟨0, false, rfl, HQ.out, Below.refl _ _⟩
set_option maxRecDepth 20000 in
set_option maxHeartbeats 800000 in
theorem kr03_o (s body : ByteArray) (w : World) (hN : ReadR s (natN body 9223372036854775807) (natB body 9223372036854775807)) (hb : body.size ≠ 0) (hsz : body.size ≤ 9223372036854775807) (h48 : bt body 0 = 48) (hs : (s.toList == [48]) = true) (hcut : ∀ W, Calls Tryd.prog 41 #[.string s, .string ⟨#[45]⟩] W fun e w' => e = .returned (.tuple #[.string body, .bool false]) ∧ w' = W) : Calls Tryd.prog 25 #[.string s] w (ReadRE s w) := by
  have HC := hide hcut
  clear hcut
  have HN := hide hN
  have t1 := isEmpty_no hb
  have hb0 : 0 < body.size := by omega
  have hgb := get_bt body 0 hb0
  have t3 : (bt body 0 == 48) = true := by simpa using h48
  have t4 : decide (0 < body.size) = true := decide_eq_true hb0
  have Hsz := hide hsz
  clear hN hb h48
  go_enter Tryd.func25, Tryd.ntmps25
  go_wp2_with fail
  refine (HC.out _).mono ?_
  rintro e w1 ⟨rfl, rfl⟩
  go_wp2_with fail
  refine (natural_any body 9223372036854775807 _ Hsz.out (by omega) (by omega)).mono ?_
  rintro e w1 ⟨rfl, hb1⟩
  have HB := hide hb1
  clear hb1
  go_wp2_with fail
  go_ret2
  exact ⟨_, _, rfl, HN.out, HB.out⟩
set_option maxRecDepth 20000 in
set_option maxHeartbeats 800000 in
theorem kr03_n (s body : ByteArray) (w : World) (hN : ReadR s (natN body 9223372036854775807) (natB body 9223372036854775807)) (hb : body.size ≠ 0) (hsz : body.size ≤ 9223372036854775807) (h48 : bt body 0 ≠ 48) (hcut : ∀ W, Calls Tryd.prog 41 #[.string s, .string ⟨#[45]⟩] W fun e w' => e = .returned (.tuple #[.string body, .bool false]) ∧ w' = W) : Calls Tryd.prog 25 #[.string s] w (ReadRE s w) := by
  have HC := hide hcut
  clear hcut
  have HN := hide hN
  have t1 := isEmpty_no hb
  have hb0 : 0 < body.size := by omega
  have hgb := get_bt body 0 hb0
  have t3 : (bt body 0 == 48) = false := by simpa using h48
  have t4 : decide (0 < body.size) = true := decide_eq_true hb0
  have Hsz := hide hsz
  clear hN hb h48
  go_enter Tryd.func25, Tryd.ntmps25
  go_wp2_with fail
  refine (HC.out _).mono ?_
  rintro e w1 ⟨rfl, rfl⟩
  go_wp2_with fail
  refine (natural_any body 9223372036854775807 _ Hsz.out (by omega) (by omega)).mono ?_
  rintro e w1 ⟨rfl, hb1⟩
  have HB := hide hb1
  clear hb1
  go_wp2_with fail
  go_ret2
  exact ⟨_, _, rfl, HN.out, HB.out⟩
theorem head45 {s : ByteArray} (h : Lib.hasPrefix s.data.toList [45] = true) : ∃ r, s.data.toList = 45 :: r := by
  cases hl : s.data.toList with
  | nil => rw [hl] at h; cases h
  | cons c r =>
    rw [hl] at h
    have : c = 45 := by
      unfold Lib.hasPrefix at h
      simp [List.isPrefixOf] at h
      exact h.symm
    exact ⟨r, by rw [this]⟩
theorem negS_data (m : Nat) : (negS m).data.toList = 45 :: decL m := rfl
theorem data_eq {a b : ByteArray} (h : a.data.toList = b.data.toList) : a = b := by rw [← data_back a, h, data_back]
theorem decS_dat (m : Nat) : (decS m).data.toList = decL m := rfl
theorem decS_bt0 {m : Nat} (h : 1 ≤ m) : bt (decS m) 0 ≠ 48 := fun hb => by
  have h1 := decL_head m h
  have h3 := (decL_len (m + 1) m (by omega) (Nat.lt_of_lt_of_le (Nat.lt_pow_self (by decide)) (Nat.pow_le_pow_right (by decide) (by omega)))).2
  cases hl : decL m with
  | nil => rw [hl] at h3; simp at h3
  | cons c r =>
    have e : bt (decS m) 0 = (c.toNat : Int) := by
      unfold decS
      rw [bt_dec, hl]
      rfl
    rw [e] at hb
    have : c = 48 := by
      have e2 : c = UInt8.ofNat c.toNat := by simp
      rw [e2, show c.toNat = 48 by omega]
      rfl
    exact h1 (by rw [hl, this]; rfl)
/-- With no minus ahead: no number below 0. -/
theorem no_neg {s : ByteArray} (hp : Lib.hasPrefix s.data.toList [45] = false) {u : Int} (e : s = intS u) : 0 ≤ u ∧ s = decS u.toNat := by
  by_cases h : u < 0
  · unfold intS at e
    rw [if_pos h] at e
    rw [e, negS_data] at hp
    cases hp
  · unfold intS at e
    rw [if_neg h] at e
    exact ⟨by omega, e⟩
theorem no_pos {s : ByteArray} (hp : Lib.hasPrefix s.data.toList [45] = true) {u : Int} (e : s = intS u) : u < 0 ∧ s = negS (-u).toNat := by
  by_cases h : u < 0
  · unfold intS at e
    rw [if_pos h] at e
    exact ⟨h, e⟩
  · unfold intS at e
    rw [if_neg h] at e
    obtain ⟨r, hr⟩ := head45 hp
    rw [e, decS_dat] at hr
    have := decL_dig u.toNat 45 (by rw [hr]; exact List.mem_cons_self ..)
    exact absurd this.1 (by decide)
theorem natural_dec {s : ByteArray} {most : Int} (h : natB s most = true) (h48 : bt s 0 ≠ 48) : 1 ≤ natN s most ∧ s = decS (natN s most).toNat := by
  by_cases h0 : s.size = 0
  · rw [(nat_empty _ h0).2] at h; cases h
  cases hg : natG (bt s) most s.size with
  | none => rw [(nat_no (Nat.le_refl _) hg).2] at h; cases h
  | some N =>
    rw [(nat_yes (by omega) hg).1]
    obtain ⟨k, hk⟩ : ∃ k, s.size = k + 1 := ⟨s.size - 1, by omega⟩
    rw [hk] at hg
    have hsl : s.data.toList.length = s.size := by rw [Array.length_toList]; rfl
    have := canonL s.data.toList most (by rw [data_back]; exact h48) k N (by omega) (by rw [data_back]; exact hg)
    refine ⟨this.1, ?_⟩
    have h2 := this.2
    rw [List.take_of_length_le (by omega)] at h2
    unfold decS
    rw [← h2, data_back]
theorem kread03 (s : ByteArray) (w : World) (hs : s.size ≤ 9223372036854775807) : Calls Tryd.prog 25 #[.string s] w (ReadRE s w) := by
  have hc := fun W => Tryd.strings_CutPrefix s ⟨#[45]⟩ W
  change ∀ W, Calls Tryd.prog 41 #[.string s, .string ⟨#[45]⟩] W fun e w' => e = .returned (.tuple #[.string ⟨(Lib.trimPrefix s.data.toList [45]).toArray⟩, .bool (Lib.hasPrefix s.data.toList [45])]) ∧ w' = W at hc
  cases hp : Lib.hasPrefix s.data.toList [45] with
  | true =>
    obtain ⟨r, hr⟩ := head45 hp
    have e : Lib.trimPrefix s.data.toList [45] = r := by
      unfold Lib.trimPrefix
      rw [if_pos hp, hr]
      rfl
    rw [hp, e] at hc
    obtain ⟨body, hbody⟩ : ∃ b : ByteArray, (⟨r.toArray⟩ : ByteArray) = b := ⟨_, rfl⟩
    have hbd : body.data.toList = r := by rw [← hbody]
    rw [hbody] at hc
    have hlen : s.size = body.size + 1 := by
      have e1 : body.size = r.length := by rw [← hbd, Array.length_toList]; rfl
      have e2 : s.size = s.data.toList.length := by rw [Array.length_toList]; rfl
      rw [e1, e2, hr, List.length_cons]
    have hs48 : (s.toList == [48]) = false := by
      rw [tl_data, hr]
      rfl
    have hneg : ∀ m, s = negS m ↔ body = decS m := fun m => by
      constructor
      · intro h
        have : 45 :: r = 45 :: decL m := by rw [← hr, h, negS_data]
        exact data_eq (by rw [hbd, decS_dat]; exact (List.cons.inj this).2)
      · intro h
        exact data_eq (by rw [hr, negS_data, ← hbd, h, decS_dat])
    by_cases hb : body.size = 0
    · refine kr03_e_true s body w (.inr ⟨rfl, rfl, fun u a b e => ?_⟩) hb hc
      have h2 := (hneg _).1 (no_pos hp e).2
      rw [h2] at hb
      have e4 := decS_len (-u).toNat
      have e5 := (decL_len ((-u).toNat + 1) (-u).toNat (by omega) (Nat.lt_of_lt_of_le (Nat.lt_pow_self (by decide)) (Nat.pow_le_pow_right (by decide) (by omega)))).2
      omega
    · by_cases h48 : bt body 0 = 48
      · refine kr03_z_true s body w (.inr ⟨rfl, rfl, fun u a b e => ?_⟩) hb h48 hs48 hc
        have h1 := no_pos hp e
        have h2 := (hneg _).1 h1.2
        rw [h2] at h48
        exact decS_bt0 (by omega) h48
      · refine read_belowR s body w (fun h => ?_) (fun h => ?_) hb h48 (by omega) hc
        · obtain ⟨h1, h2⟩ := natural_dec h h48
          have h3 := (natN_63 body).2
          have hP : P63 = 9223372036854775808 := rfl
          refine .inl ⟨rfl, by omega, by omega, ?_⟩
          have h4 := (hneg _).2 h2
          unfold intS
          rw [if_pos (by omega), Int.neg_neg]
          exact h4
        · refine .inr ⟨rfl, rfl, fun u a b e => ?_⟩
          have h2 := (hneg _).1 (no_pos hp e).2
          have := (dec_natM (most := P63) (n := (-u).toNat) (by unfold P63; omega)).2
          rw [← h2, h] at this
          cases this
  | false =>
    rw [hp] at hc
    have e : (⟨(Lib.trimPrefix s.data.toList [45]).toArray⟩ : ByteArray) = s := by
      unfold Lib.trimPrefix
      rw [hp]
      exact data_back s
    rw [e] at hc
    have hyes : natB s 9223372036854775807 = true → s = decS (natN s 9223372036854775807).toNat → ReadR s (natN s 9223372036854775807) true := fun h h2 => by
      have := nat_some h
      refine .inl ⟨rfl, by omega, by omega, ?_⟩
      unfold intS
      rw [if_neg (by omega)]
      exact h2
    have hno : natB s 9223372036854775807 = false → ReadR s (natN s 9223372036854775807) false := fun h => by
      refine .inr ⟨rfl, natN_zero h, fun u a b e => ?_⟩
      have h2 := no_neg hp e
      have := (dec_natM (most := 9223372036854775807) (n := u.toNat) (by omega)).2
      rw [← h2.2, h] at this
      cases this
    by_cases hb : s.size = 0
    · refine kr03_e_false s s w (.inr ⟨rfl, rfl, fun u a b e => ?_⟩) hb hc
      have := (intS_size a b).1
      rw [← e] at this
      omega
    · by_cases h48 : bt s 0 = 48
      · cases hs48 : s.toList == [48] with
        | true =>
          have h1 : s = ⟨#[48]⟩ := by
            have h2 := eq_of_beq hs48
            rw [tl_data] at h2
            rw [← data_back s, h2]
          have h2 : natB s 9223372036854775807 = true ∧ natN s 9223372036854775807 = 0 := by
            rw [h1]
            decide +kernel
          have h3 := hyes h2.1 (by rw [h2.2, h1]; show _ = decS 0; unfold decS; rw [decL_small (by decide)]; rfl)
          exact kr03_o s s w (by rw [h2.1]; exact h3) hb hs h48 hs48 hc
        | false =>
          refine kr03_z_false s s w (.inr ⟨rfl, rfl, fun u a b e => ?_⟩) hb h48 hs48 hc
          have h2 := no_neg hp e
          by_cases h0 : u = 0
          · subst h0
            have h5 : s = ⟨#[48]⟩ := by
              rw [h2.2]
              show decS 0 = _
              unfold decS
              rw [decL_small (by decide)]
              rfl
            rw [h5, tl_data] at hs48
            cases hs48
          · rw [h2.2] at h48
            exact decS_bt0 (by omega) h48
      · refine kr03_n s s w ?_ hb hs h48 hc
        cases h : natB s 9223372036854775807 with
        | true => exact hyes h (natural_dec h h48).2
        | false => exact hno h
end Go.Proofs.YtminoofghdpomaaDoor
