/- The contracts of layer 5's reference for the row: powers, bits more, the bytes of bits. -/
import Derived.Test.YteijpklepgenbaaBit6
namespace Go.Proofs.Yteijpklepgenbaa
open Go.RowKit

set_option maxRecDepth 20000 in
set_option maxHeartbeats 400000 in
theorem pow2_any (s : Nat) (w : World) (hs : s ≤ 32) : Calls Try.prog 44 #[.int .i64 (s : Int)] w fun e w' => e = .returned (.int .i64 (2 ^ s)) ∧ w = w' := by
  go_enter Try.func44, Try.ntmps44
  go_wp2
  go_loop [3, 4] (fun v i => ∃ k : Nat, k ≤ s ∧ i = .int .i64 k ∧ v = .int .i64 (2 ^ k)) (fun _ i => s - (intOf i).toNat)
  case atStart => exact ⟨0, Nat.zero_le _, rfl, rfl⟩
  case round =>
    obtain ⟨k, hk, rfl, rfl⟩ := hrel
    obtain ⟨p1, p2⟩ := pow32 (s := k) (by omega)
    by_cases hlt : k < s
    · have He : Hid ((2 : Int) * 2 ^ k = 2 ^ (k + 1)) := by unfold Hid; rw [Int.pow_succ]; omega
      go_wp2
      go_round
      case rel => exact ⟨k + 1, by omega, by go_num, by rw [← He.out]⟩
      case measure => simp [intOf]; omega
    · obtain rfl : k = s := by omega
      go_wp2
      go_ret
      exact ⟨rfl, rfl⟩

set_option maxRecDepth 20000 in
set_option maxHeartbeats 400000 in
theorem rrow_bad (A : Option Addr) (t c : Nat) (v s : Int) (w : World) (h : rowE v s ≠ 0) :
    Calls Try.prog 27 #[.slice A t c, .int .i64 v, .int .i64 s] w fun e w' => e = .returned (.tuple #[.slice A t c, .int .i64 (rowE v s)]) ∧ w = w' := by
  by_cases h1 : s < 0
  · have H : Hid (rowE v s = 1) := by simp [rowE, h1, Hid]
    have hd : decide (s < 0) = true := by simpa using h1
    clear h
    go_enter Try.func27, Try.ntmps27
    go_wp2
    go_ret2
    exact ⟨by rw [H.out]; rfl, rfl⟩
  have hd1 : decide (s < 0) = false := by simpa using h1
  by_cases h2 : 32 < s
  · have H : Hid (rowE v s = 1) := by simp [rowE, h2, Hid]
    have hd : decide (32 < s) = true := by simpa using h2
    clear h
    go_enter Try.func27, Try.ntmps27
    go_wp2
    go_ret2
    exact ⟨by rw [H.out]; rfl, rfl⟩
  have hd2 : decide (32 < s) = false := by simpa using h2
  obtain ⟨n, rfl⟩ := Int.eq_ofNat_of_zero_le (show 0 ≤ s by omega)
  have hn : n ≤ 32 := by omega
  by_cases h3 : v < 0
  · have H : Hid (rowE v n = 5) := by simp [rowE, h1, h2, h3, Hid]
    have hd3 : decide (v < 0) = true := by simpa using h3
    clear h
    go_enter Try.func27, Try.ntmps27
    go_wp2
    go_ret2
    exact ⟨by rw [H.out]; rfl, rfl⟩
  · have h4 : 2 ^ n ≤ v := by
      rcases Classical.em ((2 : Int) ^ n ≤ v) with h4 | h4
      · exact h4
      · exact absurd (by simp [rowE, h1, h2, h3, h4]) h
    have H : Hid (rowE v n = 5) := by simp [rowE, h1, h2, h4, Hid]
    have hd3 : decide (v < 0) = false := by simpa using h3
    have hd4 : decide ((2 : Int) ^ n ≤ v) = true := by simpa using h4
    clear h
    go_enter Try.func27, Try.ntmps27
    go_wp2_with (go_at_call 44; refine (pow2_any _ _ hn).mono ?_; rintro e w' ⟨rfl, rfl⟩)
    go_ret2
    exact ⟨by rw [H.out]; rfl, rfl⟩

set_option maxRecDepth 20000 in
set_option maxHeartbeats 1000000 in
theorem rrow_ok (A : Option Addr) (t c s : Nat) (v : Int) (g : Nat → Int) (w : World) (ha : Rd .i64 w A t c g) (hs : s ≤ 32) (h0 : 0 ≤ v) (h1 : v < 2 ^ s) (ht : t ≤ 100000) :
    Calls Try.prog 27 #[.slice A t c, .int .i64 v, .int .i64 (s : Int)] w fun e w' =>
      ∃ u, e = .returned (.tuple #[u, .int .i64 0]) ∧ Own .i64 3 w.heap.size w' u (t + s) (catF t g (bitsOf v s)) ∧ Below w.heap.size w w' := by
  obtain ⟨i0, hi, hz0, hz1, hz2⟩ := info_parts i64_info
  obtain ⟨p1, p2⟩ := pow32 hs
  have hd1 : decide ((s : Int) < 0) = false := by simp
  have hd2 : decide (32 < (s : Int)) = false := by simp; omega
  have hd3 : decide (v < 0) = false := by simp; omega
  have hd4 : decide ((2 : Int) ^ s ≤ v) = false := by simpa using h1
  have hv : v < 4294967296 := by omega
  have Ha := hide ha
  clear ha h1
  go_enter Try.func27, Try.ntmps27
  go_wp2_with (first
    | (go_at_call 44; refine (pow2_any _ _ hs).mono ?_; rintro e w' ⟨rfl, rfl⟩)
    | (at_builtin; refine wp_app rfl (.tmp 26) (.tmp 27) _ rfl i0 0 8 Try.underlying52 hi hz0 hz1 hz2 w.heap.size _ 0 (oneF 0) rfl (Own.lit .i64 3 w.heap.size w (oneF 0) #[] 0 (Nat.le_refl _) (by simp [maxLen]) rfl) A t c g rfl (Ha.out.alloc _) (by simp only [maxLen]; omega) (by omega) (by simp) ?_; intro v1 w1 hown1 hg1))
  have hb1 : Below w.heap.size w w1 := ((Below.refl _ _).alloc (Nat.le_refl _) _).grown hg1 (by simp) (fun _ e => by cases e; exact Nat.le_refl _)
  clear hg1
  go_loopw [8, 9] (fun sl i wr => ∃ k : Nat, k ≤ s ∧ i = .int .i64 ((s : Int) - 1 - k) ∧ Own .i64 3 w.heap.size wr sl (t + k) (catF t g (bitsOf v s)) ∧ Below w.heap.size w wr) (fun _ i _ => ((intOf i) + 1).toNat)
  case atStart => exact ⟨0, Nat.zero_le _, by simp, Own.congr (n := t + 0) (f := catF 0 (oneF 0) g) (by simpa using hown1) (fun i hi => by
    have hi' : i < t := by omega
    simp [catF, hi']), hb1⟩
  case round =>
    obtain ⟨k, hk, rfl, hown, hb⟩ := hrel
    clear hown1 hb1
    by_cases hlt : k < s
    · obtain ⟨m, hm⟩ : ∃ m : Nat, m = s - 1 - k := ⟨_, rfl⟩
      have hcs : (s : Int) - 1 - (k : Int) = (m : Int) := by omega
      have hm32 : m ≤ 32 := by omega
      obtain ⟨q1, q2⟩ := pow32 hm32
      have hq : 0 ≤ v / 2 ^ m := Int.ediv_nonneg h0 (by omega)
      have hq2 : v / 2 ^ m ≤ 4294967296 := Int.le_trans (Int.ediv_le_self _ h0) (by omega)
      have Hb : Hid (v / 2 ^ m % 2 = bitsOf v s k) := by unfold Hid bitsOf; rw [hm]
      have Hm := hide hm
      have Hown := hide hown
      have hsz := hb.size
      have Hcs := hide hcs
      have hst : (s : Int) - 1 - ((k + 1 : Nat) : Int) = (m : Int) - 1 := by omega
      have Hst := hide hst
      rw [hcs]
      clear hown hm hcs hst
      go_wp2_with (first
        | (go_at_call 44; refine (pow2_any _ _ hm32).mono ?_; rintro e w' ⟨rfl, rfl⟩)
        | (at_builtin; refine wp_app rfl (.tmp 35) (.tmp 41) _ rfl i0 0 8 Try.underlying52 hi hz0 hz1 hz2 w.heap.size _ (t + k) (catF t g (bitsOf v s)) rfl (Hown.out.alloc _) _ 1 1 _ rfl (Rd.one .i64 3 _ _) (by simp only [maxLen]; omega) (by omega) (by simp; omega) ?_; intro v2 w2 hown2 hg2))
      have hb2 : Below w.heap.size w w2 := (hb.alloc hb.size _).grown hg2 (by simp; omega) (fun j e => (World.ownsRow.lt Hown.out j e).1)
      go_roundw
      case rel => exact ⟨k + 1, by omega, by rw [Hst.out], hown2.congr (fun i hi => by
        by_cases h : i < t + k
        · simp [catF, h]
        · have e : i = t + k := by omega
          subst e
          have hn : ¬ t + k < t := by omega
          simp only [catF, oneF, Nat.lt_irrefl, if_false, hn]
          rw [show t + k - t = k by omega]
          exact Hb.out), hb2⟩
      case measure => first | (simp [intOf]; done) | (simp [intOf]; omega)
    · obtain rfl : k = s := by omega
      have Hown := hide hown
      clear hown
      go_wp2
      go_ret2
      exact ⟨_, rfl, Hown.out, hb⟩

/-! ### the bytes of bits -/
theorem byF_part (g : Nat → Int) (t i : Nat) : byF g t i = bnum (rbit g t i) 8 := rfl

set_option maxRecDepth 20000 in
set_option maxHeartbeats 1000000 in
theorem rbytes_any (A : Option Addr) (t c : Nat) (g : Nat → Int) (w : World) (ha : Rd .i64 w A t c g) (hg : ∀ i, i < t → 0 ≤ g i ∧ g i ≤ 1) (ht : t ≤ 100000) :
    Calls Try.prog 29 #[.slice A t c] w (Cloned w ((t + 7) / 8) (byF g t)) := by
  obtain ⟨i0, hi, hz0, hz1, hz2⟩ := info_parts c8_info
  have Ha := hide ha
  have Hg := hide hg
  clear ha hg
  go_enter Try.func29, Try.ntmps29
  go_wp2
  go_loopw [3, 4] (fun sl i wr => ∃ k : Nat, k ≤ (t + 7) / 8 ∧ i = .int .i64 ((8 * k : Nat) : Int) ∧ Own .u8 5 w.heap.size wr sl k (byF g t) ∧ Below w.heap.size w wr) (fun _ i _ => (t + 8) - (intOf i).toNat)
  case atStart => exact ⟨0, Nat.zero_le _, rfl, Own.nil _ _ _ _ _, Below.refl _ _⟩
  case round =>
    obtain ⟨k, hk, rfl, hown, hb⟩ := hrel
    have Hown := hide hown
    clear hown
    by_cases hlt : 8 * k < t
    · go_wp2
      go_loop [5, 6] (fun v i => ∃ j : Nat, j ≤ 8 ∧ i = .int .i64 j ∧ v = .int .i64 (bnum (rbit g t k) j)) (fun _ i => 8 - (intOf i).toNat)
      case atStart => exact ⟨0, by omega, rfl, rfl⟩
      case round =>
        obtain ⟨j, hj, rfl, rfl⟩ := hrel
        obtain ⟨q1, q2⟩ := bnum_lt (g := rbit g t k) (n := 8) (fun i _ => rbit_bd Hg.out k i) j hj (by omega)
        by_cases hlj : j < 8
        · by_cases hin : 8 * k + j < t
          · obtain ⟨b, off, rfl, hcell⟩ := (Ha.out.below hb).at_ hin
            obtain ⟨r1, r2⟩ := Hg.out _ hin
            have Hr : Hid (rbit g t k j = g (8 * k + j)) := by unfold Hid rbit; rw [if_pos hin]
            go_wp2
            go_round
            case rel => exact ⟨j + 1, by omega, by go_num, by simp only [bnum]; rw [Hr.out]⟩
            case measure => simp [intOf]; omega
          · have Hr : Hid (rbit g t k j = 1) := by unfold Hid rbit; rw [if_neg hin]
            go_wp2
            go_round
            case rel => exact ⟨j + 1, by omega, by go_num, by simp only [bnum]; rw [Hr.out]⟩
            case measure => simp [intOf]; omega
        · obtain rfl : j = 8 := by omega
          obtain ⟨z1, z2⟩ := bnum8_bd (h := rbit g t k) (fun i _ => rbit_bd Hg.out k i)
          have hsz := hb.size
          go_wp2_with (at_builtin; refine wp_app rfl (.tmp 35) (.tmp 38) _ rfl i0 0 1 Try.underlying24 hi hz0 hz1 hz2 w.heap.size _ k (byF g t) rfl (Hown.out.alloc _) _ 1 1 _ rfl (Rd.one .u8 5 _ _) (by simp only [maxLen]; omega) (by omega) (by simp; omega) ?_; intro v2 w2 hown2 hg2)
          have hb2 : Below w.heap.size w w2 := (hb.alloc hb.size _).grown hg2 (by simp; omega) (fun j e => (World.ownsRow.lt Hown.out j e).1)
          go_roundw
          case rel => exact ⟨k + 1, by omega, by go_num, hown2.congr (fun i hi => by
            by_cases h : i < k
            · simp [catF, h]
            · have e : i = k := by omega
              subst e
              simp only [catF, oneF, Nat.lt_irrefl, if_false]
              rfl), hb2⟩
          case measure => simp [intOf]; omega
    · have hke : k = (t + 7) / 8 := by omega
      have Hke := hide hke
      clear hke
      go_wp2
      go_ret
      exact ⟨_, rfl, by rw [← Hke.out]; exact Hown.out, hb⟩
end Go.Proofs.Yteijpklepgenbaa
