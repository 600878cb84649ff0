/- The contracts of layer 5's row: bits of a number more, how many there are, their bytes. -/
import Derived.Test.YteijpklepgenbaaBit5
namespace Go.Proofs.Yteijpklepgenbaa
open Go.RowKit

/-- The s bits of a number. -/
def bitsOf (v : Int) (s : Nat) : Nat → Int := fun i => v / 2 ^ (s - 1 - i) % 2
def rowE (v s : Int) : Int := if s < 0 ∨ 32 < s then 1 else if v < 0 ∨ 2 ^ s.toNat ≤ v then 5 else 0
theorem rowE_ok {v s : Int} (h : rowE v s = 0) : ∃ n : Nat, s = n ∧ n ≤ 32 ∧ 0 ≤ v ∧ v < 2 ^ n := by
  unfold rowE at h
  split at h
  · omega
  · split at h
    · omega
    · exact ⟨s.toNat, by omega, by omega, by omega, by omega⟩
theorem pow32 {s : Nat} (h : s ≤ 32) : (1 : Int) ≤ 2 ^ s ∧ (2 : Int) ^ s ≤ 4294967296 := by
  have h1 : (2 : Nat) ^ s ≤ 2 ^ 32 := Nat.pow_le_pow_right (by omega) h
  have h2 : (1 : Nat) ≤ 2 ^ s := Nat.one_le_two_pow
  have e1 : ((2 ^ s : Nat) : Int) = (2 : Int) ^ s := by simp
  have e2 : (2 : Nat) ^ 32 = 4294967296 := by decide
  omega
theorem setF_self (g : Nat → Int) (j : Nat) : setF g j (g j) = g := by
  funext i
  unfold setF
  by_cases h : i = j
  · rw [if_pos h, h]
  · rw [if_neg h]
theorem Row.congr {B : Nat} {w : World} {p t : Nat} {g h : Nat → Int} (hr : Row B w p t g) (e : ∀ i, i < t → g i = h i) : Row B w p t h := by
  obtain ⟨v, hh, ho, h2⟩ := hr
  refine ⟨v, hh, ho.congr fun i hi => bnum_congr fun k hk => ?_, h2⟩
  by_cases h3 : 8 * i + k < t
  · simp only [h3, if_true]; exact e _ h3
  · simp only [h3, if_false]

theorem rowPutNil (v s : Int) (w : World) : Calls Try.prog 21 #[.pointer none, .int .i64 v, .int .i64 s] w fun e w' => e = .returned (.int .i64 2) ∧ w = w' := by
  go_enter Try.func21, Try.ntmps21
  go_wp2
  go_ret
  exact ⟨rfl, rfl⟩

set_option maxRecDepth 20000 in
set_option maxHeartbeats 400000 in
theorem rowPut_bad (b : Nat) (v s : Int) (w : World) (h : rowE v s ≠ 0) :
    Calls Try.prog 21 #[.pointer (some ⟨b, 0, none⟩), .int .i64 v, .int .i64 s] w fun e w' => e = .returned (.int .i64 (rowE v s)) ∧ w = w' := by
  by_cases h1 : s < 0 ∨ 32 < s
  · have H : Hid (rowE v s = 1) := by simp [rowE, h1, Hid]
    have H1 := hide h1
    clear h h1
    go_enter Try.func21, Try.ntmps21
    go_wp2_with (go_at_call 40; refine (count_no _ _ H1.out).mono ?_; rintro e w' ⟨rfl, rfl⟩)
    go_ret
    exact ⟨by rw [H.out]; rfl, rfl⟩
  · obtain ⟨n, rfl⟩ := Int.eq_ofNat_of_zero_le (show 0 ≤ s by omega)
    have hn : n ≤ 32 := by omega
    obtain ⟨p1, p2⟩ := pow32 hn
    by_cases h2 : v < 0
    · have H : Hid (rowE v n = 5) := by simp [rowE, h1, h2, Hid]
      have hd : decide (v < 0) = true := by simpa using h2
      clear h h1
      go_enter Try.func21, Try.ntmps21
      go_wp2_with (go_at_call 40; refine (count_yes _ _ (by omega) (by omega)).mono ?_; rintro e w' ⟨rfl, rfl⟩)
      go_ret
      exact ⟨by rw [H.out]; rfl, rfl⟩
    · have h3 : 2 ^ n ≤ v := by
        rcases Classical.em ((2 : Int) ^ n ≤ v) with h3 | h3
        · exact h3
        · exact absurd (by simp [rowE, h1, h2, h3]) h
      have H : Hid (rowE v n = 5) := by simp [rowE, h1, h2, h3, Hid]
      have hd : decide (v < 0) = false := by simpa using h2
      have hd2 : decide ((2 : Int) ^ n ≤ v) = true := by simpa using h3
      clear h h1
      go_enter Try.func21, Try.ntmps21
      go_wp2_with (go_at_call 40; refine (count_yes _ _ (by omega) (by omega)).mono ?_; rintro e w' ⟨rfl, rfl⟩)
      go_ret
      exact ⟨by rw [H.out]; rfl, rfl⟩

theorem and1' {x : Int} {n : Nat} (h0 : 0 ≤ x) (h1 : x ≤ 4294967296) : bits .and .i64 (x / 2 ^ n) 1 = x / 2 ^ n % 2 := by
  have hp : (0 : Int) < 2 ^ n := Int.pow_pos (by decide)
  exact and1 (Int.ediv_nonneg h0 (by omega)) (Int.le_trans (Int.ediv_le_self _ h0) (by omega))

set_option maxRecDepth 20000 in
set_option maxHeartbeats 1000000 in
theorem rowPut_ok (B p t s : Nat) (v : Int) (g : Nat → Int) (w : World) (h : Row B w p t g) (hB : B ≤ p) (hg : ∀ i, i < t → 0 ≤ g i ∧ g i ≤ 1) (hs : s ≤ 32) (h0 : 0 ≤ v) (h1 : v < 2 ^ s) (ht : t + s ≤ 100000) :
    Calls Try.prog 21 #[.pointer (some ⟨p, 0, none⟩), .int .i64 v, .int .i64 (s : Int)] w fun e w' =>
      e = .returned (.int .i64 0) ∧ Row B w' p (t + s) (catF t g (bitsOf v s)) ∧ Below B w w' ∧ KeepR w w' := by
  obtain ⟨p1, p2⟩ := pow32 hs
  have hd : decide (v < 0) = false := by simpa using h0
  have hd2 : decide ((2 : Int) ^ s ≤ v) = false := by simpa using h1
  have hv : v ≤ 4294967296 := by omega
  have hg2 : ∀ i, i < t + s → 0 ≤ catF t g (bitsOf v s) i ∧ catF t g (bitsOf v s) i ≤ 1 := by
    intro i hi
    unfold catF bitsOf
    by_cases h : i < t
    · rw [if_pos h]; exact hg i h
    · rw [if_neg h]; omega
  obtain ⟨G, hG⟩ : ∃ G, G = catF t g (bitsOf v s) := ⟨_, rfl⟩
  have H : Row B w p t G := h.congr fun i hi => by rw [hG]; simp [catF, hi]
  rw [← hG] at hg2 ⊢
  have HG := hide hG
  have Hg2 := hide hg2
  have Hr := hide H
  clear h hg hG H hg2
  go_enter Try.func21, Try.ntmps21
  go_wp2_with (go_at_call 40; refine (count_yes _ _ (by omega) (by omega)).mono ?_; rintro e w' ⟨rfl, rfl⟩)
  go_loopw [22] (fun i wr => ∃ k : Nat, k ≤ s ∧ i = .int .i64 k ∧ Row B wr p (t + k) G ∧ Below B w wr ∧ KeepR w wr) (fun i _ => s - (intOf i).toNat)
  case atStart => exact ⟨0, Nat.zero_le _, rfl, Hr.out, Below.refl _ _, KeepR.refl _⟩
  case round =>
    obtain ⟨k, hk, rfl, hr, hb, hkt⟩ := hrel
    have Hrk := hide hr
    clear hr
    by_cases hlt : k < s
    · have hx : G (t + k) = bits .and .i64 (v / 2 ^ (s - 1 - k)) 1 := by
        rw [and1' h0 hv, HG.out]
        have hnk : ¬ t + k < t := by omega
        simp [catF, bitsOf, hnk]
      have Hx := hide hx
      have H01 : Hid (G (t + k) = 0 ∨ G (t + k) = 1) := by have := Hg2.out (t + k) (by omega); unfold Hid; omega
      clear hx
      go_wp2_with fail
      rw [← Hx.out]
      refine (add_any B p (t + k) G _ _ Hrk.out hB (fun i hi => Hg2.out i (by omega)) H01.out (by omega)).mono ?_
      rintro e w2 ⟨rfl, hr2, hb2, hk2⟩
      rw [setF_self] at hr2
      have Hr2 := hide hr2
      clear hr2
      go_wp2_with fail
      go_roundw
      case rel => exact ⟨k + 1, by omega, by go_num, Hr2.out, hb.trans hb2, hkt.trans hk2⟩
      case measure => simp [intOf]; omega
    · obtain rfl : k = s := by omega
      go_wp2_with fail
      go_ret
      exact ⟨rfl, Hrk.out, hb, hkt⟩

theorem rowBytes (B p t : Nat) (g : Nat → Int) (w : World) (h : Row B w p t g) : Calls Try.prog 23 #[.pointer (some ⟨p, 0, none⟩)] w (Cloned w ((t + 7) / 8) (byF g t)) := by
  obtain ⟨v, hh, hown, h1⟩ := h
  obtain ⟨A, c, rfl, hr, _⟩ := hown.rd
  have c0 := cell_of_row w p 0 _ _ _ hh
  simp at c0
  have Hr := hide hr
  clear hh hown hr
  go_enter Try.func23, Try.ntmps23
  go_wp2_with fail
  refine (clone_any _ _ _ _ _ Hr.out (by omega)).mono ?_
  rintro e w1 ⟨v, rfl, ho, hb⟩
  have Ho := hide ho
  clear ho
  go_wp2_with fail
  go_ret
  exact ⟨_, rfl, Ho.out, hb⟩
theorem rowBytesNil (w : World) : Calls Try.prog 23 #[.pointer none] w fun e w' => e = .returned (.slice none 0 0) ∧ w = w' := by
  go_enter Try.func23, Try.ntmps23
  go_wp2
  go_ret
  exact ⟨rfl, rfl⟩
end Go.Proofs.Yteijpklepgenbaa
