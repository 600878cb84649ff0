/- The walks of layer 1's other three laws. -/
import Derived.Test.YtgjnmjakpiceiaaOctW
namespace Go.Proofs.Ytgjnmjakpiceiaa
open Go.RowKit

theorem getE_ok {n : Nat} {size : Int} (h : getE n size = 0) : 1 ≤ size ∧ size ≤ 4 ∧ size ≤ n := by
  unfold getE at h
  split at h
  · omega
  · split at h <;> omega

set_option maxHeartbeats 400000 in
theorem gets_walk (A : Option Addr) (n c : Nat) (size : Int) (f : Nat → Int) (w : World) (ha : Rd .u8 w A n c f) (hb : Byt n f) :
    Calls Try.prog 4 #[.slice A n c, .int .i64 size] w (Yes w) := by
  have Ha := hide ha
  have Hb := hide hb
  clear ha hb
  by_cases hn : (1000 : Int) < (n : Int)
  · go_enter Try.func4, Try.ntmps4
    go_wp2_with (go_at_call 10; refine (alive1 _).mono ?_; rintro e w' ⟨rfl, hb⟩)
    go_ret
    exact ⟨rfl, hb⟩
  by_cases he : getE n size = 0
  · obtain ⟨h1, h2, h3⟩ := getE_ok he
    clear he
    go_enter Try.func4, Try.ntmps4
    go_wp2_with fail
    refine (get_okI A n c size f _ Ha.out Hb.out h1 h2 h3).mono ?_
    rintro e w1 ⟨rfl, rfl⟩
    go_wp2_with fail
    refine (rget_okI A n c size f _ Ha.out Hb.out h1 h2 h3).mono ?_
    rintro e w2 ⟨rfl, hd⟩
    have hb3 := drawn_below hd w.heap.size
    go_wp2_with fail
    refine (alive1 _).mono ?_
    rintro e w4 ⟨rfl, hb4⟩
    go_wp2_with fail
    go_ret
    exact ⟨rfl, hb3.of hb4⟩
  · go_enter Try.func4, Try.ntmps4
    go_wp2_with fail
    refine (get_bad A n c size _ (by omega) he).mono ?_
    rintro e w1 ⟨rfl, rfl⟩
    go_wp2_with fail
    refine (rget_bad A n c size _ (by omega) he).mono ?_
    rintro e w2 ⟨rfl, rfl⟩
    go_wp2_with fail
    refine (alive1 _).mono ?_
    rintro e w4 ⟨rfl, hb4⟩
    go_wp2_with fail
    go_ret
    exact ⟨rfl, hb4⟩

/-! ### there and back -/
theorem byteAt_byt (v : Int) (s n : Nat) (f : Nat → Int) : Byt (0 + s) (putF 0 f s v) := by
  intro i _
  simp only [putF, catF, Nat.not_lt_zero, if_false, byteAt]
  omega
theorem num_put (v size : Int) (f : Nat → Int) (h1 : 1 ≤ size) (h2 : size ≤ 4) (h3 : 0 ≤ v) (h4 : v < pw size) : num (putF 0 f size.toNat v) size.toNat = v := by
  rcases pw_cases h1 h2 with ⟨rfl, hp⟩ | ⟨rfl, hp⟩ | ⟨rfl, hp⟩ | ⟨rfl, hp⟩
  all_goals
    rw [hp] at h4
    simp [num, putF, catF, byteAt]
    omega
theorem num_pw (size : Int) (n : Nat) (f : Nat → Int) (hb : Byt n f) (h1 : 1 ≤ size) (h2 : size ≤ 4) (h3 : size ≤ n) : 0 ≤ num f size.toNat ∧ num f size.toNat < pw size := by
  rcases pw_cases h1 h2 with ⟨rfl, hp⟩ | ⟨rfl, hp⟩ | ⟨rfl, hp⟩ | ⟨rfl, hp⟩
  all_goals
    rw [hp]
    have := num_bd hb (Int.toNat _) (show _ ≤ n from by simp; omega) (by decide)
    simpa using this
theorem put_num (size : Int) (n : Nat) (f g : Nat → Int) (hb : Byt n f) (h1 : 1 ≤ size) (h2 : size ≤ 4) (h3 : size ≤ n) : ∀ i, i < 0 + size.toNat → putF 0 g size.toNat (num f size.toNat) i = f i := by
  intro i hi
  have b0 := hb 0
  have b1 := hb 1
  have b2 := hb 2
  have b3 := hb 3
  rcases pw_cases h1 h2 with ⟨rfl, _⟩ | ⟨rfl, _⟩ | ⟨rfl, _⟩ | ⟨rfl, _⟩
  all_goals
    simp at hi
    have hi' : i = 0 ∨ i = 1 ∨ i = 2 ∨ i = 3 := by omega
    rcases hi' with rfl | rfl | rfl | rfl
    all_goals first | omega | (simp [num, putF, catF, byteAt]; omega)

theorem num_putN (v : Int) (s : Nat) (f : Nat → Int) (h1 : 1 ≤ s) (h2 : s ≤ 4) (h3 : 0 ≤ v) (h4 : v < pw s) : num (putF 0 f s v) s = v := by
  have := num_put v s f (by omega) (by omega) h3 h4
  simpa using this
theorem putE_ok {v size : Int} (h : putE v size = 0) : ∃ s : Nat, size = s ∧ 1 ≤ s ∧ s ≤ 4 ∧ 0 ≤ v ∧ v < pw s := by
  unfold putE at h
  split at h
  · omega
  · split at h
    · omega
    · exact ⟨size.toNat, by omega, by omega, by omega, by omega, by rw [show ((size.toNat : Nat) : Int) = size by omega]; omega⟩
theorem put_nil (s : Nat) (v : Int) (w : World) (h1 : 1 ≤ s) (h2 : s ≤ 4) (h3 : 0 ≤ v) (h4 : v < pw s) :
    Calls Try.prog 11 #[.slice none 0 0, .int .i64 v, .int .i64 (s : Int)] w (Gave w s (putF 0 (oneF 0) s v)) := by
  have h := put_ok none 0 0 s v (oneF 0) w (Rd.nil _ _ _) (by omega) h1 h2 h3 h4
  rw [Nat.zero_add] at h
  exact h
/-- The second half, behind the Get of the bytes: they are put again as they were. -/
theorem put_back (s n : Nat) (f : Nat → Int) (w : World) (hb : Byt n f) (h1 : 1 ≤ s) (h2 : s ≤ 4) (h3 : s ≤ n) :
    Calls Try.prog 11 #[.slice none 0 0, .int .i64 (num f s), .int .i64 (s : Int)] w (Gave w s f) := by
  have hp := num_pw s n f hb (by omega) (by omega) (by omega)
  simp only [Int.toNat_natCast] at hp
  refine (put_nil s (num f s) w h1 h2 hp.1 hp.2).mono fun _ _ h => h.congr fun i hi => ?_
  have := put_num s n f (oneF 0) hb (by omega) (by omega) (by omega) i (by simpa using hi)
  simpa using this
theorem get_badN (A : Option Addr) (n c s : Nat) (w : World) (hn : n ≤ 9223372036854775807) (h1 : 1 ≤ s) (h2 : s ≤ 4) (h3 : n < s) :
    Calls Try.prog 14 #[.slice A n c, .int .i64 (s : Int)] w fun e w' => e = .returned (.tuple #[.int .i64 0, .int .i64 3]) ∧ w = w' := by
  have e : getE n s = 3 := by unfold getE; rw [if_neg (by omega), if_pos (by omega)]
  have h := get_bad A n c s w hn (by rw [e]; decide)
  rw [e] at h
  exact h

set_option maxHeartbeats 800000 in
theorem back_walk (v size : Int) (A : Option Addr) (n c : Nat) (f : Nat → Int) (w : World) (ha : Rd .u8 w A n c f) (hb : Byt n f) :
    Calls Try.prog 5 #[.int .i64 v, .int .i64 size, .slice A n c] w (Yes w) := by
  have Ha := hide ha
  have Hb := hide hb
  have hnc := ha.1
  have hcm := ha.2.1
  simp only [maxLen] at hcm
  clear ha hb
  by_cases hn : (1000 : Int) < (n : Int)
  · go_enter Try.func5, Try.ntmps5
    go_wp2_with (go_at_call 10; refine (alive1 _).mono ?_; rintro e w' ⟨rfl, hb⟩)
    go_ret
    exact ⟨rfl, hb⟩
  by_cases he : putE v size = 0
  · obtain ⟨s, rfl, h1, h2, h3, h4⟩ := putE_ok he
    have H4 := hide h4
    have Hnum := hide (num_putN v s (oneF 0) h1 h2 h3 h4)
    have Hbyt := hide (byteAt_byt v s 0 (oneF 0))
    rw [Nat.zero_add] at Hbyt
    clear he h4
    by_cases hg : n < s
    · go_enter Try.func5, Try.ntmps5
      go_wp2_with fail
      refine (put_nil s v _ h1 h2 h3 H4.out).mono ?_
      rintro e w1 ⟨A1, c1, rfl, hr1, hb1⟩
      have Hr1 := hide hr1
      clear hr1
      go_wp2_with fail
      refine (get_ok A1 _ c1 s _ _ Hr1.out Hbyt.out h1 h2 (Nat.le_refl _)).mono ?_
      rintro e w2 ⟨rfl, rfl⟩
      rw [Hnum.out]
      go_wp2_with fail
      refine (get_badN A n c s _ (by omega) h1 h2 hg).mono ?_
      rintro e w2 ⟨rfl, rfl⟩
      go_wp2_with fail
      refine (alive1 _).mono ?_
      rintro e w4 ⟨rfl, hb4⟩
      go_wp2_with fail
      go_ret
      exact ⟨rfl, hb1.of hb4⟩
    · go_enter Try.func5, Try.ntmps5
      go_wp2_with fail
      refine (put_nil s v _ h1 h2 h3 H4.out).mono ?_
      rintro e w1 ⟨A1, c1, rfl, hr1, hb1⟩
      have Hr1 := hide hr1
      clear hr1
      go_wp2_with fail
      refine (get_ok A1 _ c1 s _ _ Hr1.out Hbyt.out h1 h2 (Nat.le_refl _)).mono ?_
      rintro e w2 ⟨rfl, rfl⟩
      rw [Hnum.out]
      go_wp2_with fail
      refine (get_ok A n c s f _ (Ha.out.below hb1) Hb.out h1 h2 (by omega)).mono ?_
      rintro e w2 ⟨rfl, rfl⟩
      go_wp2_with fail
      refine (put_back s n f _ Hb.out h1 h2 (by omega)).mono ?_
      rintro e w2 ⟨A2, c2, rfl, hr2, hb2⟩
      have Hr2 := hide hr2
      clear hr2
      go_wp2_with fail
      refine (rsame_yes _ _ _ _ _ f f _ Hr2.out (((Ha.out.below hb1).below hb2).take (by omega)) (fun _ _ => rfl)).mono ?_
      rintro e w3 ⟨rfl, hd3⟩
      have hb3 := drawn_below hd3 w2.heap.size
      go_wp2_with fail
      refine (alive1 _).mono ?_
      rintro e w4 ⟨rfl, hb4⟩
      go_wp2_with fail
      go_ret
      exact ⟨rfl, (hb1.of hb2).of (hb3.of hb4)⟩
  · by_cases hg : getE n size = 0
    · obtain ⟨g1, g2, g3⟩ := getE_ok hg
      obtain ⟨s, rfl⟩ := Int.eq_ofNat_of_zero_le (show 0 ≤ size by omega)
      have He : Hid (putE v s ≠ 0) := he
      have He2 : (putE v s == 0) = false := by simpa using he
      clear hg he
      go_enter Try.func5, Try.ntmps5
      go_wp2_with fail
      refine (put_bad none 0 0 v s _ He.out).mono ?_
      rintro e w1 ⟨rfl, rfl⟩
      go_wp2_with fail
      refine (get_ok A n c s f _ Ha.out Hb.out (by omega) (by omega) (by omega)).mono ?_
      rintro e w2 ⟨rfl, rfl⟩
      go_wp2_with fail
      refine (put_back s n f _ Hb.out (by omega) (by omega) (by omega)).mono ?_
      rintro e w2 ⟨A2, c2, rfl, hr2, hb2⟩
      have Hr2 := hide hr2
      clear hr2
      go_wp2_with fail
      refine (rsame_yes _ _ _ _ _ f f _ Hr2.out ((Ha.out.below hb2).take (by omega)) (fun _ _ => rfl)).mono ?_
      rintro e w3 ⟨rfl, hd3⟩
      have hb3 := drawn_below hd3 w2.heap.size
      go_wp2_with fail
      refine (alive1 _).mono ?_
      rintro e w4 ⟨rfl, hb4⟩
      go_wp2_with fail
      go_ret
      exact ⟨rfl, hb2.of (hb3.of hb4)⟩
    · have He2 : (putE v size == 0) = false := by simpa using he
      have Hg2 : (getE n size != 0) = true := by simpa using hg
      have He : Hid (putE v size ≠ 0) := he
      have Hg : Hid (getE n size ≠ 0) := hg
      clear hg he
      go_enter Try.func5, Try.ntmps5
      go_wp2_with fail
      refine (put_bad none 0 0 v size _ He.out).mono ?_
      rintro e w1 ⟨rfl, rfl⟩
      go_wp2_with fail
      refine (get_bad A n c size _ (by omega) Hg.out).mono ?_
      rintro e w2 ⟨rfl, rfl⟩
      go_wp2_with fail
      refine (alive1 _).mono ?_
      rintro e w4 ⟨rfl, hb4⟩
      go_wp2_with fail
      go_ret
      exact ⟨rfl, hb4⟩

/-! ### the highest bit -/
theorem low_bd (n : Int) : 0 ≤ lowN n ∧ lowN n < 2147483648 := by unfold lowN; split <;> (try split) <;> omega
theorem low_back (n : Int) (h0 : 0 ≤ n) (h1 : n < 4294967296) : (if lowB n = true then lowN n + 2147483648 else lowN n) = n := by
  unfold lowB lowN
  rw [if_neg (show ¬ (n < 0 ∨ 4294967296 ≤ n) by omega)]
  by_cases h : n < 2147483648
  · rw [if_pos h, if_neg (by simp; omega)]
  · rw [if_neg h, if_pos (by simp; omega)]
    omega
set_option maxHeartbeats 1600000 in
theorem low_walk (v : Int) (A C : Option Addr) (n m c d : Nat) (f g : Nat → Int) (w : World) (ha : Rd .u8 w A n c f) (hb : Byt n f) (hc : Rd .u8 w C m d g) (hd : Byt m g) :
    Calls Try.prog 6 #[.int .i64 v, .slice A n c, .slice C m d] w (Yes w) := by
  have Ha := hide ha
  have Hb := hide hb
  have Hc := hide hc
  have Hd := hide hd
  clear ha hb hc hd
  by_cases hn : (1000 : Int) < (n : Int)
  · have hdn : decide ((1000 : Int) < (n : Int)) = true := by simpa using hn
    go_enter Try.func6, Try.ntmps6
    go_wp2_with (go_at_call 10; refine (alive1 _).mono ?_; rintro e w' ⟨rfl, hb⟩)
    go_ret
    exact ⟨rfl, hb⟩
  have hdn : decide ((1000 : Int) < (n : Int)) = false := by simpa using hn
  by_cases hm : (1000 : Int) < (m : Int)
  · have hdm : decide ((1000 : Int) < (m : Int)) = true := by simpa using hm
    go_enter Try.func6, Try.ntmps6
    go_wp2_with (go_at_call 10; refine (alive1 _).mono ?_; rintro e w' ⟨rfl, hb⟩)
    go_ret
    exact ⟨rfl, hb⟩
  have hdm : decide ((1000 : Int) < (m : Int)) = false := by simpa using hm
  obtain ⟨l0, l1⟩ := low_bd v
  have Hs : Hid (sameB n n f f = true) := sameB_yes rfl fun _ _ => rfl
  by_cases h0 : 0 ≤ v ∧ v < 4294967296
  · obtain ⟨q0, q1⟩ := h0
    have Hlow := hide (low_back v q0 q1)
    have t0 : decide (0 ≤ v) = true := by simpa using q0
    have t1 : decide (v < 4294967296) = true := by simpa using q1
    by_cases h2 : v < 2147483648
    · have t2 : decide (v < 0) = false := by simpa using q0
      have t3 : decide (2147483647 < v) = false := by simp; omega
      go_enter Try.func6, Try.ntmps6
      go_wp2_with fail
      refine (low_any v _).mono ?_
      rintro e w1 ⟨rfl, rfl⟩
      go_wp2_with fail
      refine (rlow_any v _).mono ?_
      rintro e w1 ⟨rfl, rfl⟩
      go_wp2_with fail
      refine (osame_any _ _ _ _ _ _ f g _ Ha.out Hc.out Hb.out Hd.out).mono ?_
      rintro e w1 ⟨rfl, rfl⟩
      go_wp2_with fail
      refine (rsame_any _ _ _ _ _ _ f g _ Ha.out Hc.out).mono ?_
      rintro e w1 ⟨rfl, hd1⟩
      have hb1 := drawn_below hd1 w.heap.size
      go_wp2_with fail
      refine (osame_any _ _ _ _ _ _ f f _ (Ha.out.below hb1) (Ha.out.below hb1) Hb.out Hb.out).mono ?_
      rintro e w2 ⟨rfl, rfl⟩
      rw [Hs.out]
      go_wp2_with fail
      refine (with_ok _ _ _ l0 l1).mono ?_
      rintro e w2 ⟨rfl, rfl⟩
      rw [Hlow.out]
      go_wp2_with fail
      refine (with_ok _ _ _ q0 h2).mono ?_
      rintro e w2 ⟨rfl, rfl⟩
      rw [if_neg (by decide)]
      go_wp2_with fail
      refine (alive1 _).mono ?_
      rintro e w4 ⟨rfl, hb4⟩
      go_wp2_with fail
      go_ret
      exact ⟨rfl, hb1.of hb4⟩
    · have t2 : decide (v < 0) = false := by simpa using q0
      have t3 : decide (2147483647 < v) = true := by simp; omega
      go_enter Try.func6, Try.ntmps6
      go_wp2_with fail
      refine (low_any v _).mono ?_
      rintro e w1 ⟨rfl, rfl⟩
      go_wp2_with fail
      refine (rlow_any v _).mono ?_
      rintro e w1 ⟨rfl, rfl⟩
      go_wp2_with fail
      refine (osame_any _ _ _ _ _ _ f g _ Ha.out Hc.out Hb.out Hd.out).mono ?_
      rintro e w1 ⟨rfl, rfl⟩
      go_wp2_with fail
      refine (rsame_any _ _ _ _ _ _ f g _ Ha.out Hc.out).mono ?_
      rintro e w1 ⟨rfl, hd1⟩
      have hb1 := drawn_below hd1 w.heap.size
      go_wp2_with fail
      refine (osame_any _ _ _ _ _ _ f f _ (Ha.out.below hb1) (Ha.out.below hb1) Hb.out Hb.out).mono ?_
      rintro e w2 ⟨rfl, rfl⟩
      rw [Hs.out]
      go_wp2_with fail
      refine (with_ok _ _ _ l0 l1).mono ?_
      rintro e w2 ⟨rfl, rfl⟩
      rw [Hlow.out]
      go_wp2_with fail
      refine (with_bad _ _ _ (by omega)).mono ?_
      rintro e w2 ⟨rfl, rfl⟩
      go_wp2_with fail
      refine (alive1 _).mono ?_
      rintro e w4 ⟨rfl, hb4⟩
      go_wp2_with fail
      go_ret
      exact ⟨rfl, hb1.of hb4⟩
  · have hlow0 : lowN v = 0 := by unfold lowN; rw [if_pos (by omega)]
    have Hif : Hid ((if lowB v = true then lowN v + 2147483648 else lowN v) = lowN v) := by
      have e : lowB v = false := by unfold lowB; simp; omega
      rw [e]
      exact if_neg (by decide)
    clear hlow0
    by_cases h1 : v < 0
    · have t2 : decide (v < 0) = true := by simpa using h1
      have t0 : decide (0 ≤ v) = false := by simpa using h1
      go_enter Try.func6, Try.ntmps6
      go_wp2_with fail
      refine (low_any v _).mono ?_
      rintro e w1 ⟨rfl, rfl⟩
      go_wp2_with fail
      refine (rlow_any v _).mono ?_
      rintro e w1 ⟨rfl, rfl⟩
      go_wp2_with fail
      refine (osame_any _ _ _ _ _ _ f g _ Ha.out Hc.out Hb.out Hd.out).mono ?_
      rintro e w1 ⟨rfl, rfl⟩
      go_wp2_with fail
      refine (rsame_any _ _ _ _ _ _ f g _ Ha.out Hc.out).mono ?_
      rintro e w1 ⟨rfl, hd1⟩
      have hb1 := drawn_below hd1 w.heap.size
      go_wp2_with fail
      refine (osame_any _ _ _ _ _ _ f f _ (Ha.out.below hb1) (Ha.out.below hb1) Hb.out Hb.out).mono ?_
      rintro e w2 ⟨rfl, rfl⟩
      rw [Hs.out]
      go_wp2_with fail
      refine (with_ok _ _ _ l0 l1).mono ?_
      rintro e w2 ⟨rfl, rfl⟩
      rw [Hif.out]
      go_wp2_with fail
      refine (with_bad _ _ _ (by omega)).mono ?_
      rintro e w2 ⟨rfl, rfl⟩
      go_wp2_with fail
      refine (alive1 _).mono ?_
      rintro e w4 ⟨rfl, hb4⟩
      go_wp2_with fail
      go_ret
      exact ⟨rfl, hb1.of hb4⟩
    · have t2 : decide (v < 0) = false := by simpa using h1
      have t3 : decide (2147483647 < v) = true := by simp; omega
      have t0 : decide (0 ≤ v) = true := by simp; omega
      have t1 : decide (v < 4294967296) = false := by simp; omega
      go_enter Try.func6, Try.ntmps6
      go_wp2_with fail
      refine (low_any v _).mono ?_
      rintro e w1 ⟨rfl, rfl⟩
      go_wp2_with fail
      refine (rlow_any v _).mono ?_
      rintro e w1 ⟨rfl, rfl⟩
      go_wp2_with fail
      refine (osame_any _ _ _ _ _ _ f g _ Ha.out Hc.out Hb.out Hd.out).mono ?_
      rintro e w1 ⟨rfl, rfl⟩
      go_wp2_with fail
      refine (rsame_any _ _ _ _ _ _ f g _ Ha.out Hc.out).mono ?_
      rintro e w1 ⟨rfl, hd1⟩
      have hb1 := drawn_below hd1 w.heap.size
      go_wp2_with fail
      refine (osame_any _ _ _ _ _ _ f f _ (Ha.out.below hb1) (Ha.out.below hb1) Hb.out Hb.out).mono ?_
      rintro e w2 ⟨rfl, rfl⟩
      rw [Hs.out]
      go_wp2_with fail
      refine (with_ok _ _ _ l0 l1).mono ?_
      rintro e w2 ⟨rfl, rfl⟩
      rw [Hif.out]
      go_wp2_with fail
      refine (with_bad _ _ _ (by omega)).mono ?_
      rintro e w2 ⟨rfl, rfl⟩
      go_wp2_with fail
      refine (alive1 _).mono ?_
      rintro e w4 ⟨rfl, hb4⟩
      go_wp2_with fail
      go_ret
      exact ⟨rfl, hb1.of hb4⟩
end Go.Proofs.Ytgjnmjakpiceiaa
