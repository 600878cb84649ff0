/- Layer 18: the contract of 'prefix.Put' where the number goes on behind its first byte; digits; the reference. -/
import Derived.Test.YteijpklepgenbaaPfx2
namespace Go.Proofs.Yteijpklepgenbaa
open Go.RowKit

theorem dg_small (k m : Nat) (h : m < 128) : dgN k m = 1 ∧ dgF k m = oneF m := by
  rcases k with _ | k <;> simp [dgN, dgF, h]
theorem dg_big (k m : Nat) (h : 128 ≤ m) : dgN (k + 1) m = 1 + dgN k (m / 128) ∧ dgF (k + 1) m = catF 1 (oneF (128 + (m : Int) % 128)) (dgF k (m / 128)) := by
  have : ¬ m < 128 := by omega
  simp [dgN, dgF, this]
/-- What holds at the label: j bytes are there, the digits of m lack. -/
def JPut (W0 : World) (N : Nat) (D : Nat → Int) (a' : Act) (w' : World) : Prop :=
  ∃ (k m j : Nat) (z : Int) (f : Nat → Int) (v u0 u1 u3 u4 u5 u6 u7 u9 u10 u11 u12 u13 u14 u15 u16 u17 u18 u19 u20 u21 u22 u23 u24 u25 u26 u27 u28 u29 u30 u31 u32 u33 u34 u35 u36 u37 u38 u39 u40 u41 u42 u43 u44 u45 u46 u47 u48 u49 u50 u51 u52 u53 u54 u55 u56 u57 u58 u59 u60 u61 u62 u63 u64 u65 u66 u67 : Value), a' = { tmps := #[u0, u1, .int .i64 z, u3, u4, u5, u6, u7, v, u9, u10, u11, u12, u13, u14, u15, u16, u17, u18, u19, u20, u21, u22, u23, u24, u25, u26, u27, u28, u29, u30, u31, u32, u33, u34, u35, u36, u37, u38, u39, u40, u41, u42, u43, u44, u45, u46, u47, u48, u49, u50, u51, u52, u53, u54, u55, u56, u57, u58, u59, u60, u61, u62, u63, u64, u65, u66, u67], defers := [] } ∧ z = (m : Int) ∧ Own .u8 5 W0.heap.size w' v j f ∧ Below W0.heap.size W0 w' ∧ m < 128 ^ (k + 1) ∧ j + dgN k m = N ∧ (∀ i, i < N → catF j f (dgF k m) i = D i) ∧ N ≤ 10 ∧ k ≤ 4 ∧ m ≤ 2147483647

set_option maxRecDepth 100000 in
set_option maxHeartbeats 3200000 in
theorem pput_large (first b n : Int) (M : Nat) (w : World) (h1 : 1 ≤ b) (h2 : b ≤ 8) (h3 : 0 ≤ first) (h4 : first ≤ 255) (h5 : first % p8 b = 0) (hM : n = p8 b - 1 + M) (h6 : M ≤ 2147483647) (h7 : n ≤ 2147483647) :
    Calls Try.prog 13 #[.int .i64 first, .int .i64 b, .int .i64 n] w (GaveO w (1 + dgN 4 M) (catF 1 (oneF (first + (p8 b - 1))) (dgF 4 M))) := by
  obtain ⟨i0, hi, hz0, hz1, hz2⟩ := info_parts u8_info
  have d1 : decide (first < 0) = false := by simp; omega
  have d2 : decide (255 < first) = false := by simp; omega
  have d3 : (bits .and .i64 first (p8 b - 1) != 0) = false := by
    rw [and_p8 h3 h4 h1 h2, h5]
    rfl
  have hb8 := p8_bd h1 h2
  have d4 : decide (n < 0) = false := by simp; omega
  have d5 : decide (2147483647 < n) = false := by simp; omega
  have d6 : decide (n < p8 b - 1) = false := by simp; omega
  have hor := or_p8 h3 h4 h1 h2 h5 (show 0 ≤ p8 b - 1 by omega) (show p8 b - 1 < p8 b by omega)
  have hroom := p8_room h4 h1 h2 h5 (show p8 b - 1 < p8 b by omega)
  have hpos : 0 ≤ first + (p8 b - 1) := by omega
  have hM0 : 0 ≤ n - (p8 b - 1) := by omega
  have HM := hide (show n - (p8 b - 1) = (M : Int) by omega)
  have HO := hide (Own.lit .u8 5 w.heap.size w (oneF (first + (p8 b - 1))) #[.int .u8 (first + (p8 b - 1))] 1 (Nat.le_refl _) (by simp [maxLen]) rfl)
  clear h5 hM
  go_enter Try.func13, Try.ntmps13
  go_wp2
  refine wp_scope_jumps 0 (JPut w (1 + dgN 4 M) (catF 1 (oneF (first + (p8 b - 1))) (dgF 4 M))) (fun a' _ => (intOf (a'.tmps.getD 2 undef)).toNat) rfl ?_ ?_
  · go_wp2_with fail
    refine (wid_yes b _ h1 h2).mono ?_
    rintro e w' ⟨rfl, rfl⟩
    go_wp2_with fail
    refine (full_any b _ h1 h2).mono ?_
    rintro e w' ⟨rfl, rfl⟩
    go_wp2_with fail
    refine (full_any b _ h1 h2).mono ?_
    rintro e w' ⟨rfl, rfl⟩
    go_wp2_with fail
    refine (full_any b _ h1 h2).mono ?_
    rintro e w' ⟨rfl, rfl⟩
    go_wp2_with fail
    refine (full_any b _ h1 h2).mono ?_
    rintro e w' ⟨rfl, rfl⟩
    go_wp2_with fail
    go_step3
    rw [HM.out]
    clear d1 d2 d3 d4 d5 d6 hor hM0
    have HB := hide ((Below.refl w.heap.size w).alloc (Nat.le_refl _) (.cells #[.int .u8 (first + (p8 b - 1))] 5))
    generalize w.alloc (.cells #[.int .u8 (first + (p8 b - 1))] 5) = W1 at *
    generalize Value.slice (some ⟨w.heap.size, 0, none⟩) 1 1 = vb at *
    have hsz := HB.out.size
    by_cases hs : M < 128
    · have d7 : decide ((M : Int) < 128) = true := by simp; omega
      have h9 : (M : Int) < 128 := by omega
      obtain ⟨e1, e2⟩ := dg_small 4 M hs
      have E1 := hide e1
      have E2 := hide e2
      clear e1 e2
      go_wp2_with (at_builtin; refine wp_app rfl (.tmp 54) (.tmp 57) _ rfl i0 0 1 Try.underlying24 hi hz0 hz1 hz2 w.heap.size _ 1 _ rfl (HO.out.alloc _) _ 1 1 _ rfl (Rd.one .u8 5 _ _) (by simp only [maxLen]; omega) (by omega) (by simp; omega) ?_; intro v1 w1 hown1 hg1)
      simp only [Exit.jump]
      obtain ⟨A1, c1, rfl, _, _⟩ := hown1.rd
      have HB1 := hide ((HB.out.alloc hsz _).grown hg1 (by simp; omega) (fun j e => (World.ownsRow.lt HO.out j e).1))
      have Hown := hide hown1
      clear hown1 hg1
      go_ret2
      rw [E1.out, E2.out]
      exact ⟨_, _, rfl, Hown.out, HB1.out⟩
    · have d7 : decide ((M : Int) < 128) = false := by simp; omega
      have h9 : (M : Int) % 128 + 128 ≤ 255 := by omega
      have h10 : 0 ≤ (M : Int) % 128 + 128 := by omega
      obtain ⟨e1, e2⟩ := dg_big 3 M (by omega)
      have e1 : dgN 4 M = 1 + dgN 3 (M / 128) := e1
      have e2 : dgF 4 M = catF 1 (oneF (128 + (M : Int) % 128)) (dgF 3 (M / 128)) := e2
      have hbd := dgN_bd 3 (M / 128)
      have E1 := hide (show 1 + 1 + dgN 3 (M / 128) = 1 + dgN 4 M by omega)
      have E2 := hide e2
      have hN10 : 1 + dgN 4 M ≤ 10 := by omega
      clear e1 e2
      go_wp2_with (at_builtin; refine wp_app rfl (.tmp 59) (.tmp 64) _ rfl i0 0 1 Try.underlying24 hi hz0 hz1 hz2 w.heap.size _ 1 _ rfl (HO.out.alloc _) _ 1 1 _ rfl (Rd.one .u8 5 _ _) (by simp only [maxLen]; omega) (by omega) (by simp; omega) ?_; intro v1 w1 hown1 hg1)
      go_step3
      refine ⟨rfl, 3, M / 128, 1 + 1, _, _, v1, _, _, _, _, _, _, _, _, _, _, _, _, _, _, _, _, _, _, _, _, _, _, _, _, _, _, _, _, _, _, _, _, _, _, _, _, _, _, _, _, _, _, _, _, _, _, _, _, _, _, _, _, _, _, _, _, _, _, _, _, _, _, _, _, _, _, rfl, by omega, hown1, (HB.out.alloc hsz _).grown hg1 (by simp; omega) (fun j e => (World.ownsRow.lt HO.out j e).1), by omega, E1.out, fun i _ => ?_, hN10, by omega, by omega⟩
      rw [catF_assoc, E2.out, Int.add_comm 128]
  · rintro a' w' ⟨k, m, j, z, f, v, u0, u1, u3, u4, u5, u6, u7, u9, u10, u11, u12, u13, u14, u15, u16, u17, u18, u19, u20, u21, u22, u23, u24, u25, u26, u27, u28, u29, u30, u31, u32, u33, u34, u35, u36, u37, u38, u39, u40, u41, u42, u43, u44, u45, u46, u47, u48, u49, u50, u51, u52, u53, u54, u55, u56, u57, u58, u59, u60, u61, u62, u63, u64, u65, u66, u67, rfl, rfl, hown, hB, hm, hN, hD, hN10, hk, hmx⟩
    have HO1 := hide hown
    have HB := hide hB
    have HD := hide hD
    have HN := hide hN
    have hj : j ≤ 10 := by omega
    have hsz := hB.size
    clear hown hB hD hN HO d1 d2 d3 d4 d5 d6 hor hM0 HM hroom hpos
    by_cases hs : m < 128
    · have d7 : decide ((m : Int) < 128) = true := by simp; omega
      have h9 : (m : Int) < 128 := by omega
      obtain ⟨e1, e2⟩ := dg_small k m hs
      have E1 := hide e1
      have E2 := hide e2
      clear e1 e2
      go_wp2_with (at_builtin; refine wp_app rfl (.tmp 54) (.tmp 57) _ rfl i0 0 1 Try.underlying24 hi hz0 hz1 hz2 w.heap.size _ j _ rfl (HO1.out.alloc _) _ 1 1 _ rfl (Rd.one .u8 5 _ _) (by simp only [maxLen]; omega) (by omega) (by simp; omega) ?_; intro v1 w1 hown1 hg1)
      simp only [Exit.jump]
      obtain ⟨A1, c1, rfl, _, _⟩ := hown1.rd
      have HB1 := hide ((HB.out.alloc hsz _).grown hg1 (by simp; omega) (fun j e => (World.ownsRow.lt HO1.out j e).1))
      have Hown := hide hown1
      clear hown1 hg1
      have hj1 : j + 1 = 1 + dgN 4 M := by have := HN.out; have := E1.out; omega
      go_ret2
      rw [E2.out] at HD
      rw [← hj1] at HD ⊢
      exact ⟨_, _, rfl, Hown.out.congr HD.out, HB1.out⟩
    · have d7 : decide ((m : Int) < 128) = false := by simp; omega
      have h9 : (m : Int) % 128 + 128 ≤ 255 := by omega
      have h10 : 0 ≤ (m : Int) % 128 + 128 := by omega
      rcases k with _ | k
      · exact absurd hm (by simp; omega)
      obtain ⟨e1, e2⟩ := dg_big k m (by omega)
      have E1 : Hid (j + 1 + dgN k (m / 128) = 1 + dgN 4 M) := by
        have := HN.out
        show _ = _
        omega
      have E2 := hide e2
      clear e1 e2
      have hpw : 128 ^ (k + 1 + 1) = 128 ^ (k + 1) * 128 := Nat.pow_succ ..
      have hm2 : m / 128 < 128 ^ (k + 1) := Nat.div_lt_of_lt_mul (by rw [Nat.mul_comm]; omega)
      clear hpw hm
      go_wp2_with (at_builtin; refine wp_app rfl (.tmp 59) (.tmp 64) _ rfl i0 0 1 Try.underlying24 hi hz0 hz1 hz2 w.heap.size _ j _ rfl (HO1.out.alloc _) _ 1 1 _ rfl (Rd.one .u8 5 _ _) (by simp only [maxLen]; omega) (by omega) (by simp; omega) ?_; intro v1 w1 hown1 hg1)
      go_step3
      refine ⟨rfl, ⟨k, m / 128, j + 1, _, _, v1, _, _, _, _, _, _, _, _, _, _, _, _, _, _, _, _, _, _, _, _, _, _, _, _, _, _, _, _, _, _, _, _, _, _, _, _, _, _, _, _, _, _, _, _, _, _, _, _, _, _, _, _, _, _, _, _, _, _, _, _, _, _, _, _, _, _, rfl, by omega, hown1, (HB.out.alloc hsz _).grown hg1 (by simp; omega) (fun j e => (World.ownsRow.lt HO1.out j e).1), hm2, E1.out, fun i hi => ?_, hN10, by omega, by omega⟩, ?_⟩
      · rw [← HD.out i hi, E2.out, catF_assoc, Int.add_comm 128]
      · show Int.toNat ((m : Int) / 128) < Int.toNat (m : Int)
        omega
end Go.Proofs.Yteijpklepgenbaa
