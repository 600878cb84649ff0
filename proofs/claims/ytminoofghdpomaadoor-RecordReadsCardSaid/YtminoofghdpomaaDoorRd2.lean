/- Layer 3: the document's Read, whole. -/
import Derived.Test.YtminoofghdpomaaDoorRd1
namespace Go.Proofs.YtminoofghdpomaaDoor
set_option linter.unusedVariables false
set_option linter.unusedSimpArgs false
open Go.RowKit Go.PlainAid

theorem data_back (s : ByteArray) : (⟨s.data.toList.toArray⟩ : ByteArray) = s := by
  obtain ⟨⟨l⟩⟩ := s
  rfl
theorem tl_data (s : ByteArray) : s.toList = s.data.toList := ByteArray.toList_eq s
theorem str_neq {a b : ByteArray} (h : a ≠ b) : (a.toList == b.toList) = false := by
  cases hx : a.toList == b.toList with
  | false => rfl
  | true =>
    have h2 := eq_of_beq hx
    rw [tl_data, tl_data] at h2
    exact absurd (by rw [← data_back a, h2, data_back]) h
theorem intS_size {u : Int} (h0 : -9223372036854775808 ≤ u) (h1 : u ≤ 9223372036854775807) : 0 < (intS u).size ∧ (intS u).size ≤ 20 := by
  unfold intS
  by_cases h : u < 0
  · rw [if_pos h]
    have := negS_20 (n := (-u).toNat) (by omega)
    rw [negS_len] at this ⊢
    omega
  · rw [if_neg h]
    have e := decS_len u.toNat
    have := decL_len 19 u.toNat (by omega) (by omega)
    omega
theorem bt_neg (m : Nat) : bt (negS m) 0 = 45 := by
  unfold negS
  rw [bt_dec]
  rfl
theorem bt_pos (m : Nat) : bt (decS m) 0 ≠ 45 := by
  have h := dec_bt m 0 (by
    rw [decS_len]
    exact (decL_len (m + 1) m (by omega) (Nat.lt_of_lt_of_le (Nat.lt_pow_self (by decide)) (Nat.pow_le_pow_right (by decide) (by omega)))).2)
  omega
theorem neg_cut (m : Nat) : (negS m).extract 1 (negS m).size = decS m := by
  have h : (negS m).size = (decL m).length + 1 := negS_len m
  rw [h]
  unfold negS decS
  apply ByteArray.ext
  rw [ByteArray.data_extract]
  simp
def ReadR (s : ByteArray) (t : Int) (ok : Bool) : Prop :=
  (ok = true ∧ -9223372036854775808 ≤ t ∧ t ≤ 9223372036854775807 ∧ s = intS t) ∨ (ok = false ∧ t = 0 ∧ ∀ u, -9223372036854775808 ≤ u → u ≤ 9223372036854775807 → s ≠ intS u)
def ReadRE (s : ByteArray) (w : World) (e : Ending) (w' : World) : Prop := ∃ (t : Int) (ok : Bool), e = .returned (.tuple #[.int .i64 t, .bool ok]) ∧ ReadR s t ok ∧ Below w.heap.size w w'
/-- Behind a minus: what is read is the number, if one. -/
theorem neg_read {s : ByteArray} (h : bt s 0 = 45) {u : Int} (h0 : -9223372036854775808 ≤ u) (e : s = intS u) : natB (s.extract 1 s.size) P63 = true ∧ -(natN (s.extract 1 s.size) P63) = u := by
  subst e
  unfold intS at h ⊢
  by_cases hu : u < 0
  · rw [if_pos hu] at h ⊢
    rw [neg_cut]
    have := dec_natM (most := P63) (n := (-u).toNat) (by unfold P63; omega)
    refine ⟨this.2, ?_⟩
    rw [this.1]
    omega
  · rw [if_neg hu] at h
    exact absurd h (bt_pos _)
theorem pos_read {s : ByteArray} (h : bt s 0 ≠ 45) {u : Int} (h1 : u ≤ 9223372036854775807) (e : s = intS u) : natB s P63 = true ∧ natN s P63 = u := by
  subst e
  unfold intS at h ⊢
  by_cases hu : u < 0
  · rw [if_pos hu] at h
    exact absurd (bt_neg _) h
  · rw [if_neg hu]
    have := dec_natM (most := P63) (n := u.toNat) (by unfold P63; omega)
    refine ⟨this.2, ?_⟩
    rw [this.1]
    omega
theorem natN_63 (s : ByteArray) : 0 ≤ natN s P63 ∧ natN s P63 ≤ P63 := by
  cases h : natB s P63 with
  | true => exact nat_some h
  | false => rw [natN_zero h]; unfold P63; omega
set_option maxRecDepth 20000 in
set_option maxHeartbeats 3200000 in
theorem rread03 (s : ByteArray) (w : World) (hs : s.size ≤ 9223372036854775807) : Calls Tryd.prog 33 #[.string s] w (ReadRE s w) := by
  by_cases hbig : 20 < s.size
  · have t1 : decide (20 < s.size) = true := decide_eq_true hbig
    have t2 : decide ((20 : Int) < (s.size : Int)) = true := decide_eq_true (by omega)
    have HQ : Hid (∀ u, -9223372036854775808 ≤ u → u ≤ 9223372036854775807 → s ≠ intS u) := fun u a b e => by
      have := intS_size a b
      rw [← e] at this
      omega
    go_enter Tryd.func33, Tryd.ntmps33
    go_wp2_with fail
    go_ret2
    exact ⟨0, false, rfl, .inr ⟨rfl, rfl, HQ.out⟩, Below.refl _ _⟩
  have t1 : decide (20 < s.size) = false := decide_eq_false hbig
  have t2 : decide ((20 : Int) < (s.size : Int)) = false := decide_eq_false (by omega)
  by_cases hz : s.size = 0
  · have t3 : ((s.size : Int) == 0) = true := by simpa using hz
    have t4 : (s.size == 0) = true := by simpa using hz
    have HQ : Hid (∀ u, -9223372036854775808 ≤ u → u ≤ 9223372036854775807 → s ≠ intS u) := fun u a b e => by
      have := intS_size a b
      rw [← e] at this
      omega
    clear hz
    go_enter Tryd.func33, Tryd.ntmps33
    go_wp2_with fail
    go_ret2
    exact ⟨0, false, rfl, .inr ⟨rfl, rfl, HQ.out⟩, Below.refl _ _⟩
  have t3 : ((s.size : Int) == 0) = false := by simpa using hz
  have t4 : (s.size == 0) = false := by simpa using hz
  have hp : 0 < s.size := by omega
  have hb := get_bt s 0 hp
  have hex : (s.extract 1 s.size).size ≤ 9223372036854775807 := by
    have : (s.extract 1 s.size).size ≤ s.size := by simp
    omega
  by_cases hm : bt s 0 = 45
  · have q1 : (bt s 0 == 45) = true := by simpa using hm
    have HM : Hid (∀ u, -9223372036854775808 ≤ u → u ≤ 9223372036854775807 → s = intS u → natB (s.extract 1 s.size) P63 = true ∧ -(natN (s.extract 1 s.size) P63) = u) := fun u a _ e => neg_read hm a e
    have hv := hide (fun W => rval03 (s.extract 1 s.size) W hex)
    obtain ⟨a0, a1⟩ := natN_63 (s.extract 1 s.size)
    have hle : 1 ≤ s.size := hp
    obtain ⟨t, ht⟩ : ∃ t, -(natN (s.extract 1 s.size) P63) = t := ⟨_, rfl⟩
    have hP : P63 = 9223372036854775808 := rfl
    have b0 : -9223372036854775808 ≤ t := by omega
    have b1 : t ≤ 0 := by omega
    obtain ⟨ok, hok⟩ : ∃ b, natB (s.extract 1 s.size) P63 = b := ⟨_, rfl⟩
    rw [ht, hok] at HM hv
    clear ht hok a0 a1 hm hex hz hbig hP
    go_enter Tryd.func33, Tryd.ntmps33
    go_wp2_with fail
    refine (hv.out _).mono ?_
    rintro e w1 ⟨rfl, rfl⟩
    cases ok with
    | false =>
      have HQ : Hid (∀ u, -9223372036854775808 ≤ u → u ≤ 9223372036854775807 → s ≠ intS u) := fun u a b e => by
        have := (HM.out u a b e).1
        cases this
      go_wp2_with fail
      go_ret2
      exact ⟨0, false, rfl, .inr ⟨rfl, rfl, HQ.out⟩, Below.refl _ _⟩
    | true =>
      go_wp2_with fail
      refine (rtextI t b0 (by omega) _).mono ?_
      rintro e w2 ⟨rfl, m2, rfl⟩
      by_cases he : intS t = s
      · have q2 : ((intS t).toList == s.toList) = true := by rw [he]; exact beq_self_eq_true _
        have HE := hide he.symm
        obtain ⟨n, hn⟩ : ∃ n, intS t = n := ⟨_, rfl⟩
        rw [hn] at q2 ⊢
        clear he hn
        go_wp2_with fail
        go_ret2
        exact ⟨t, true, rfl, .inl ⟨rfl, b0, by omega, HE.out⟩, ⟨rfl, rfl, rfl, Nat.le_refl _, fun _ _ => rfl⟩⟩
      · have q2 : ((intS t).toList == s.toList) = false := str_neq he
        have HQ : Hid (∀ u, -9223372036854775808 ≤ u → u ≤ 9223372036854775807 → s ≠ intS u) := fun u a b e => by
          have := (HM.out u a b e).2
          rw [this] at he
          exact he e.symm
        generalize intS t = n at *
        clear he
        go_wp2_with fail
        go_ret2
        exact ⟨0, false, rfl, .inr ⟨rfl, rfl, HQ.out⟩, ⟨rfl, rfl, rfl, Nat.le_refl _, fun _ _ => rfl⟩⟩
  · have q1 : (bt s 0 == 45) = false := by simpa using hm
    have HM : Hid (∀ u, -9223372036854775808 ≤ u → u ≤ 9223372036854775807 → s = intS u → natB s P63 = true ∧ natN s P63 = u) := fun u _ b e => pos_read hm b e
    have hv := hide (fun W => rval03 s W hs)
    obtain ⟨a0, a1⟩ := natN_63 s
    have hP : P63 = 9223372036854775808 := rfl
    obtain ⟨t, ht⟩ : ∃ t, natN s P63 = t := ⟨_, rfl⟩
    obtain ⟨ok, hok⟩ : ∃ b, natB s P63 = b := ⟨_, rfl⟩
    rw [ht] at a0 a1
    rw [hP] at a1
    rw [ht, hok] at HM hv
    clear ht hok hm hex hz hbig hP
    by_cases hmin : t = 9223372036854775808
    · have HQ : Hid (∀ u, -9223372036854775808 ≤ u → u ≤ 9223372036854775807 → s ≠ intS u) := fun u a b e => by
        have := (HM.out u a b e).2
        omega
      subst hmin
      have hneg : -(9223372036854775808 : Int) = -9223372036854775808 := rfl
      rw [hneg] at hv
      clear a0 a1
      go_enter Tryd.func33, Tryd.ntmps33
      go_wp2_with fail
      refine (hv.out _).mono ?_
      rintro e w1 ⟨rfl, rfl⟩
      go_wp2_with fail
      go_ret2
      exact ⟨0, false, rfl, .inr ⟨rfl, rfl, HQ.out⟩, Below.refl _ _⟩
    obtain ⟨v, hvv⟩ : ∃ v : Int, -t = v := ⟨_, rfl⟩
    rw [hvv] at hv
    have q3 : (v == -9223372036854775808) = false := by simp; omega
    have q4 : IntKind.i64.wrap (-v) = t := by rw [show -v = t by omega]; exact IntWalk.i64_in _ (by omega)
    have q5 : -v = t := by omega
    have q6 : IntKind.i64.wrap t = t := IntWalk.i64_in _ (by omega)
    have b0 : -9223372036854775808 ≤ t := by omega
    have b1 : t ≤ 9223372036854775807 := by omega
    clear hvv hmin
    go_enter Tryd.func33, Tryd.ntmps33
    go_wp2_with fail
    refine (hv.out _).mono ?_
    rintro e w1 ⟨rfl, rfl⟩
    cases ok with
    | false =>
      have HQ : Hid (∀ u, -9223372036854775808 ≤ u → u ≤ 9223372036854775807 → s ≠ intS u) := fun u a b e => by
        have := (HM.out u a b e).1
        cases this
      go_wp2_with fail
      go_ret2
      exact ⟨0, false, rfl, .inr ⟨rfl, rfl, HQ.out⟩, Below.refl _ _⟩
    | true =>
      go_wp2_with fail
      refine (rtextI t b0 b1 _).mono ?_
      rintro e w2 ⟨rfl, m2, rfl⟩
      by_cases he : intS t = s
      · have q2 : ((intS t).toList == s.toList) = true := by rw [he]; exact beq_self_eq_true _
        have HE := hide he.symm
        obtain ⟨n, hn⟩ : ∃ n, intS t = n := ⟨_, rfl⟩
        rw [hn] at q2 ⊢
        clear he hn
        go_wp2_with fail
        go_ret2
        exact ⟨t, true, rfl, .inl ⟨rfl, b0, b1, HE.out⟩, ⟨rfl, rfl, rfl, Nat.le_refl _, fun _ _ => rfl⟩⟩
      · have q2 : ((intS t).toList == s.toList) = false := str_neq he
        have HQ : Hid (∀ u, -9223372036854775808 ≤ u → u ≤ 9223372036854775807 → s ≠ intS u) := fun u a b e => by
          have := (HM.out u a b e).2
          rw [this] at he
          exact he e.symm
        generalize intS t = n at *
        clear he
        go_wp2_with fail
        go_ret2
        exact ⟨0, false, rfl, .inr ⟨rfl, rfl, HQ.out⟩, ⟨rfl, rfl, rfl, Nat.le_refl _, fun _ _ => rfl⟩⟩
end Go.Proofs.YtminoofghdpomaaDoor
