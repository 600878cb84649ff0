/- Layer 18: the contracts of the reference's digits and Put. -/
import Derived.Test.YteijpklepgenbaaPfx3
import Derived.Test.YteijpklepgenbaaClone
namespace Go.Proofs.Yteijpklepgenbaa
open Go.RowKit

set_option maxHeartbeats 1600000 in
theorem digits_any (k : Nat) : ∀ (n : Nat) (z : Int) (w : World), z = n → n < 128 ^ (k + 1) → n ≤ 2147483647 → k ≤ 10 →
    Calls Try.prog 31 #[.int .i64 z] w (Cloned w (dgN k n) (dgF k n)) := by
  obtain ⟨i0, hi, hz0, hz1, hz2⟩ := info_parts u8_info
  induction k with
  | zero =>
    intro n z w hz hn hm hk
    have hn : n < 128 := by simpa using hn
    obtain ⟨e1, e2⟩ := dg_small 0 n hn
    rw [e1, e2]
    subst hz
    clear e1 e2
    have h9 : (n : Int) < 128 := by omega
    have d7 : decide ((n : Int) < 128) = true := by simp; omega
    go_enter Try.func31, Try.ntmps31
    go_wp2_with fail
    go_ret
    exact ⟨_, rfl, Own.lit .u8 5 w.heap.size w (oneF n) #[.int .u8 n] 1 (Nat.le_refl _) (by simp [maxLen]) rfl, (Below.refl _ _).alloc (Nat.le_refl _) _⟩
  | succ k ih =>
    intro n z w hz hn hm hk
    by_cases hs : n < 128
    · obtain ⟨e1, e2⟩ := dg_small (k + 1) n hs
      rw [e1, e2]
      subst hz
      clear e1 e2 ih hn
      have h9 : (n : Int) < 128 := by omega
      have d7 : decide ((n : Int) < 128) = true := by simp; omega
      go_enter Try.func31, Try.ntmps31
      go_wp2_with fail
      go_ret
      exact ⟨_, rfl, Own.lit .u8 5 w.heap.size w (oneF n) #[.int .u8 n] 1 (Nat.le_refl _) (by simp [maxLen]) rfl, (Below.refl _ _).alloc (Nat.le_refl _) _⟩
    · obtain ⟨e1, e2⟩ := dg_big k n (by omega)
      rw [e1, e2]
      have hpw : 128 ^ (k + 1 + 1) = 128 ^ (k + 1) * 128 := Nat.pow_succ ..
      have hm2 : n / 128 < 128 ^ (k + 1) := Nat.div_lt_of_lt_mul (by rw [Nat.mul_comm]; omega)
      subst hz
      clear e1 e2 hpw hn
      have hbd := dgN_bd k (n / 128)
      have d7 : decide ((n : Int) < 128) = false := by simp; omega
      have h9 : 128 + (n : Int) % 128 ≤ 255 := by omega
      have h10 : 0 ≤ 128 + (n : Int) % 128 := by omega
      have HB := hide ((Below.refl w.heap.size w).alloc (Nat.le_refl _) (.cells #[.int .u8 (128 + (n : Int) % 128)] 5))
      have HO := hide (Own.lit .u8 5 w.heap.size w (oneF (128 + (n : Int) % 128)) #[.int .u8 (128 + (n : Int) % 128)] 1 (Nat.le_refl _) (by simp [maxLen]) rfl)
      have Ih := hide ih
      clear ih
      go_enter Try.func31, Try.ntmps31
      go_wp2_with fail
      refine (Ih.out (n / 128) _ _ (by omega) hm2 (by omega) (by omega)).mono ?_
      rintro e w2 ⟨v2, rfl, ho2, hb2⟩
      obtain ⟨A2, c2, rfl, hr2, _⟩ := ho2.rd
      have Hr2 := hide hr2
      have HB2 := hide (HB.out.of hb2)
      have HO2 := hide (HO.out.below hb2)
      have hs2 := HB2.out.size
      clear ho2 hr2 hb2
      go_wp2_with (at_builtin; refine wp_app rfl (.tmp 12) (.tmp 15) _ rfl i0 0 1 Try.underlying24 hi hz0 hz1 hz2 w.heap.size _ 1 _ rfl HO2.out _ _ _ _ rfl Hr2.out (by simp only [maxLen]; omega) (by omega) (by omega) ?_; intro v3 w3 hown3 hg3)
      have HB3 := hide (HB2.out.grown hg3 hs2 (fun j e => (World.ownsRow.lt HO2.out j e).1))
      have Hown := hide hown3
      clear hown3 hg3
      go_ret
      exact ⟨_, rfl, Hown.out, HB3.out⟩

set_option maxHeartbeats 1600000 in
theorem rpput_arg (first b n : Int) (w : World) (h : b < 1 ∨ 8 < b ∨ first < 0 ∨ 255 < first ∨ first % p8 b ≠ 0) :
    Calls Try.prog 15 #[.int .i64 first, .int .i64 b, .int .i64 n] w fun e w' => e = .returned (.tuple #[.slice none 0 0, .int .i64 1]) ∧ w = w' := by
  by_cases hb : b < 1
  · have d0 : decide (b < 1) = true := by simpa using hb
    go_enter Try.func15, Try.ntmps15
    go_wp2_with fail
    go_ret2
    exact ⟨rfl, rfl⟩
  have d0 : decide (b < 1) = false := by simpa using hb
  by_cases hb' : 8 < b
  · have d00 : decide (8 < b) = true := by simpa using hb'
    go_enter Try.func15, Try.ntmps15
    go_wp2_with fail
    go_ret2
    exact ⟨rfl, rfl⟩
  have d00 : decide (8 < b) = false := by simpa using hb'
  have h1 : 1 ≤ b := by omega
  have h2 : b ≤ 8 := by omega
  by_cases hf : first < 0
  · have d1 : decide (first < 0) = true := by simpa using hf
    go_enter Try.func15, Try.ntmps15
    go_wp2_with fail
    go_ret2
    exact ⟨rfl, rfl⟩
  have d1 : decide (first < 0) = false := by simpa using hf
  by_cases hg : 255 < first
  · have d2 : decide (255 < first) = true := by simpa using hg
    go_enter Try.func15, Try.ntmps15
    go_wp2_with fail
    go_ret2
    exact ⟨rfl, rfl⟩
  have d2 : decide (255 < first) = false := by simpa using hg
  have hm : first % p8 b ≠ 0 := by
    rcases h with h | h | h | h | h
    · omega
    · omega
    · omega
    · omega
    · exact h
  have d3 : (first % p8 b != 0) = true := by simpa using hm
  have hb8 := p8_bd h1 h2
  have hp0 : 0 ≤ first := by omega
  have hp1 : first ≤ 255 := by omega
  have hp2 : 2 ≤ p8 b := hb8.1
  have hp3 : p8 b ≤ 256 := hb8.2
  clear h hm
  go_enter Try.func15, Try.ntmps15
  go_wp2_with fail
  refine (rpow8 b _ h1 h2).mono ?_
  rintro e w' ⟨rfl, rfl⟩
  go_wp2_with fail
  go_ret2
  exact ⟨rfl, rfl⟩

set_option maxHeartbeats 1600000 in
theorem rpput_range (first b n : Int) (w : World) (h1 : 1 ≤ b) (h2 : b ≤ 8) (h3 : 0 ≤ first) (h4 : first ≤ 255) (h5 : first % p8 b = 0) (h : n < 0 ∨ 2147483647 < n) :
    Calls Try.prog 15 #[.int .i64 first, .int .i64 b, .int .i64 n] w fun e w' => e = .returned (.tuple #[.slice none 0 0, .int .i64 5]) ∧ w = w' := by
  have d0 : decide (b < 1) = false := by simp; omega
  have d00 : decide (8 < b) = false := by simp; omega
  have d1 : decide (first < 0) = false := by simp; omega
  have d2 : decide (255 < first) = false := by simp; omega
  have d3 : (first % p8 b != 0) = false := by rw [h5]; rfl
  have hb8 := p8_bd h1 h2
  have hp2 : 2 ≤ p8 b := hb8.1
  have hp3 : p8 b ≤ 256 := hb8.2
  clear h5
  rcases h with h | h
  · have d4 : decide (n < 0) = true := by simpa using h
    go_enter Try.func15, Try.ntmps15
    go_wp2_with fail
    refine (rpow8 b _ h1 h2).mono ?_
    rintro e w' ⟨rfl, rfl⟩
    go_wp2_with fail
    go_ret2
    exact ⟨rfl, rfl⟩
  · have d4 : decide (n < 0) = false := by simp; omega
    have d5 : decide (2147483647 < n) = true := by simpa using h
    go_enter Try.func15, Try.ntmps15
    go_wp2_with fail
    refine (rpow8 b _ h1 h2).mono ?_
    rintro e w' ⟨rfl, rfl⟩
    go_wp2_with fail
    go_ret2
    exact ⟨rfl, rfl⟩

set_option maxHeartbeats 1600000 in
theorem rpput_small (first b n : Int) (w : World) (h1 : 1 ≤ b) (h2 : b ≤ 8) (h3 : 0 ≤ first) (h4 : first ≤ 255) (h5 : first % p8 b = 0) (h6 : 0 ≤ n) (h7 : n < p8 b - 1) :
    Calls Try.prog 15 #[.int .i64 first, .int .i64 b, .int .i64 n] w (GaveO w 1 (oneF (first + n))) := by
  have d0 : decide (b < 1) = false := by simp; omega
  have d00 : decide (8 < b) = false := by simp; omega
  have d1 : decide (first < 0) = false := by simp; omega
  have d2 : decide (255 < first) = false := by simp; omega
  have d3 : (first % p8 b != 0) = false := by rw [h5]; rfl
  have hb8 := p8_bd h1 h2
  have hp2 : 2 ≤ p8 b := hb8.1
  have hp3 : p8 b ≤ 256 := hb8.2
  have d4 : decide (n < 0) = false := by simp; omega
  have d5 : decide (2147483647 < n) = false := by simp; omega
  have d6 : decide (n < p8 b - 1) = true := by simpa using h7
  have hroom := p8_room h4 h1 h2 h5 (show n < p8 b by omega)
  have hpos : 0 ≤ first + n := by omega
  clear h5
  go_enter Try.func15, Try.ntmps15
  go_wp2_with fail
  refine (rpow8 b _ h1 h2).mono ?_
  rintro e w' ⟨rfl, rfl⟩
  go_wp2_with fail
  refine (rpow8 b _ h1 h2).mono ?_
  rintro e w' ⟨rfl, rfl⟩
  go_wp2_with fail
  go_ret2
  exact ⟨_, _, rfl, Own.lit .u8 5 w.heap.size w (oneF (first + n)) #[.int .u8 (first + n)] 1 (Nat.le_refl _) (by simp [maxLen]) rfl, (Below.refl _ _).alloc (Nat.le_refl _) _⟩

set_option maxHeartbeats 1600000 in
theorem rpput_large (first b n : Int) (M : Nat) (w : World) (h1 : 1 ≤ b) (h2 : b ≤ 8) (h3 : 0 ≤ first) (h4 : first ≤ 255) (h5 : first % p8 b = 0) (hM : n = p8 b - 1 + M) (h6 : M ≤ 2147483647) (h7 : n ≤ 2147483647) :
    Calls Try.prog 15 #[.int .i64 first, .int .i64 b, .int .i64 n] w (GaveO w (1 + dgN 4 M) (catF 1 (oneF (first + (p8 b - 1))) (dgF 4 M))) := by
  obtain ⟨i0, hi, hz0, hz1, hz2⟩ := info_parts u8_info
  have d0 : decide (b < 1) = false := by simp; omega
  have d00 : decide (8 < b) = false := by simp; omega
  have d1 : decide (first < 0) = false := by simp; omega
  have d2 : decide (255 < first) = false := by simp; omega
  have d3 : (first % p8 b != 0) = false := by rw [h5]; rfl
  have hb8 := p8_bd h1 h2
  have hp2 : 2 ≤ p8 b := hb8.1
  have hp3 : p8 b ≤ 256 := hb8.2
  have d4 : decide (n < 0) = false := by simp; omega
  have d5 : decide (2147483647 < n) = false := by simp; omega
  have d6 : decide (n < p8 b - 1) = false := by simp; omega
  have hroom := p8_room h4 h1 h2 h5 (show p8 b - 1 < p8 b by omega)
  have hpos : 0 ≤ first + (p8 b - 1) := by omega
  have hM0 : 0 ≤ n - (p8 b - 1) := by omega
  have hM1 : n - (p8 b - 1) ≤ 2147483647 := by omega
  have HM := hide (show n - (p8 b - 1) = (M : Int) by omega)
  have HB := hide ((Below.refl w.heap.size w).alloc (Nat.le_refl _) (.cells #[.int .u8 (first + (p8 b - 1))] 5))
  have HO := hide (Own.lit .u8 5 w.heap.size w (oneF (first + (p8 b - 1))) #[.int .u8 (first + (p8 b - 1))] 1 (Nat.le_refl _) (by simp [maxLen]) rfl)
  have hbd := dgN_bd 4 M
  clear h5 hM
  go_enter Try.func15, Try.ntmps15
  go_wp2_with fail
  refine (rpow8 b _ h1 h2).mono ?_
  rintro e w' ⟨rfl, rfl⟩
  go_wp2_with fail
  refine (rpow8 b _ h1 h2).mono ?_
  rintro e w' ⟨rfl, rfl⟩
  go_wp2_with fail
  refine (digits_any 4 M _ _ HM.out (by omega) h6 (by omega)).mono ?_
  rintro e w2 ⟨v2, rfl, ho2, hb2⟩
  obtain ⟨A2, c2, rfl, hr2, _⟩ := ho2.rd
  have Hr2 := hide hr2
  have HB2 := hide (HB.out.of hb2)
  have HO2 := hide (HO.out.below hb2)
  have hs2 := HB2.out.size
  clear ho2 hr2 hb2
  go_wp2_with (at_builtin; refine wp_app rfl (.tmp 51) (.tmp 55) _ rfl i0 0 1 Try.underlying24 hi hz0 hz1 hz2 w.heap.size _ 1 _ rfl HO2.out _ _ _ _ rfl Hr2.out (by simp only [maxLen]; omega) (by omega) (by omega) ?_; intro v3 w3 hown3 hg3)
  have HB3 := hide (HB2.out.grown hg3 hs2 (fun j e => (World.ownsRow.lt HO2.out j e).1))
  obtain ⟨A3, c3, rfl, _, _⟩ := hown3.rd
  have Hown := hide hown3
  clear hown3 hg3
  go_ret2
  exact ⟨_, _, rfl, Hown.out, HB3.out⟩
end Go.Proofs.Yteijpklepgenbaa
