/- Layer 16: the contracts of the reference's Codes and Find, and of 'Find'. -/
import Derived.Test.YteijpklepgenbaaCb7
namespace Go.Proofs.Yteijpklepgenbaa
open Go.RowKit

/-! ### the codes -/
theorem len_ord_bd (i : Nat) (hi : i < 257) : 5 ≤ len (ord i) ∧ len (ord i) ≤ 30 := len_bd _ (ord_bd i hi).1
set_option maxRecDepth 100000 in
set_option maxHeartbeats 6400000 in
theorem codes_any (w : World) : Calls Try.prog 26 #[] w (Ints w 257 (fun s => (cd (rnk s) : Int))) := by
  obtain ⟨i0, hi, hz0, hz1, hz2⟩ := info_parts int_info
  go_enter Try.func26, Try.ntmps26
  go_wp2_with fail
  refine (lens_any _).mono ?_
  rintro e w1 ⟨v1, rfl, ho1, hb1⟩
  obtain ⟨A1, c1, rfl, hr1, _⟩ := ho1.rd
  obtain ⟨lb, lo, rfl, _⟩ := hr1.at_ (i := 0) (by omega)
  have Hr1 := hide hr1
  have HB1 := hide hb1
  clear ho1 hr1 hb1
  go_wp2_with fail
  refine (rorder_any _).mono ?_
  rintro e w2 ⟨v2, rfl, ho2, hb2⟩
  obtain ⟨A2, c2, rfl, hr2, _⟩ := ho2.rd
  obtain ⟨ob, oo, rfl, _⟩ := hr2.at_ (i := 0) (by omega)
  have Hr2 := hide hr2
  have Hr1' := hide (Hr1.out.below hb2)
  have HB2 := hide (HB1.out.of hb2)
  have hs2 := HB2.out.size
  clear ho2 hr2 hb2 Hr1 HB1
  go_wp2_with (at_make; refine wp_mk rfl _ _ _ rfl i0 0 8 Try.underlying52 hi hz0 hz1 hz2 w2.heap.size _ _ _ _ 257 rfl rfl rfl rfl (by omega) (by simp [maxLen]) (Nat.le_refl _) ?_; intro w3 hown3 hg3 _)
  have hb3 : Below w2.heap.size w2 w3 := (Below.refl _ _).grown hg3 (Nat.le_refl _) (fun _ e => by cases e)
  have Hown3 := hide hown3
  have HB3 := hide hb3
  clear hown3 hg3 hb3
  go_loopw [4, 5] (fun c i wr => ∃ (k : Nat) (z : Nat), k ≤ 257 ∧ i = .int .i64 k ∧ c = .int .i64 z ∧ (0 < k → z = cd (k - 1)) ∧ (k = 0 → z = 0) ∧ Own .i64 3 w2.heap.size wr (.slice (some ⟨w2.heap.size, 0, none⟩) 257 257) 257 (b4 k) ∧ Below w2.heap.size w2 wr) (fun _ i _ => 257 - (intOf i).toNat)
  case atStart => exact ⟨0, 0, Nat.zero_le _, rfl, rfl, fun h => absurd h (by omega), fun _ => rfl, Hown3.out.congr (fun i _ => by simp [b4, oneF]), HB3.out⟩
  case round =>
    obtain ⟨k, z, hk, rfl, rfl, hz1', hz2', hown, hb⟩ := hrel
    have Hown := hide hown
    have HB := hide hb
    clear hown hb Hown3 HB3
    by_cases hlt : k < 257
    · have hd : decide ((k : Int) < 257) = true := by simp; omega
      have hd' : decide (k < 257) = true := by simpa using hlt
      have hRo := Hr2.out.below HB.out
      have hRl := Hr1'.out.below HB.out
      obtain ⟨b', o', e1, hoc⟩ := hRo.at_ (i := k) hlt
      obtain ⟨rfl, rfl⟩ : ob = b' ∧ oo = o' := by simpa using e1
      have hob := ord_bd k hlt
      obtain ⟨S, hS⟩ : ∃ S, ord k = S := ⟨_, rfl⟩
      have hcd := cd_of k hlt
      have hLb := len_ord_bd k hlt
      rw [hS] at hob hcd hoc hLb
      obtain ⟨b', o', e2, hlc⟩ := hRl.at_ (i := S) hob.1
      obtain ⟨rfl, rfl⟩ : lb = b' ∧ lo = o' := by simpa using e2
      have hk0 : (0 : Int) ≤ (k : Int) := by omega
      have hk1 : (k : Int) < 257 := by omega
      have hS0 : (0 : Int) ≤ (S : Int) := by omega
      have hS1 : (S : Int) < 257 := by omega
      have hcell := Hown.out.cell hob.1
      have hfz := Hown.out.frozen S
      have HO' : Hid (Own .i64 3 w2.heap.size (wr.setCell ⟨w2.heap.size, S, none⟩ (.int .i64 (cd k : Int))) (.slice (some ⟨w2.heap.size, 0, none⟩) 257 257) 257 (b4 (k + 1))) :=
        (Hown.out.set S (cd k : Int)).congr (b4_succ k hlt S hS)
      have HB' : Hid (Below w2.heap.size w2 (wr.setCell ⟨w2.heap.size, S, none⟩ (.int .i64 (cd k : Int)))) := HB.out.setCell (Nat.le_refl _) _
      obtain ⟨L, hL⟩ : ∃ L, len S = L := ⟨_, rfl⟩
      rw [hL] at hcd hlc hLb
      clear e1 e2 hRo hRl
      by_cases hk00 : k = 0
      · have hz0' := hz2' hk00
        have hcz : cd k = 0 := by rw [hk00]; decide +kernel
        rw [hcz] at HO' HB'
        subst hz0'
        subst hk00
        have HcD := hide hcz
        rw [Nat.add_zero] at hoc
        clear hz1' hz2' hcd hcz hS hL
        go_wp2_with fail
        go_roundw
        case rel => exact ⟨1, 0, by omega, rfl, rfl, fun _ => by have := HcD.out; simpa using this.symm, fun h => absurd h (by omega), HO'.out, HB'.out⟩
        case measure => simp [intOf]
      · have hpos : decide ((0 : Int) < (k : Int)) = true := by simp; omega
        have hpos' : decide (0 < k) = true := by simp; omega
        obtain ⟨j, rfl⟩ : ∃ j, k = j + 1 := ⟨k - 1, by omega⟩
        have hzj := hz1' (by omega)
        rw [Nat.add_sub_cancel] at hzj
        obtain ⟨b', o', e1, hoj⟩ := (Hr2.out.below HB.out).at_ (i := j) (by omega)
        obtain ⟨rfl, rfl⟩ : ob = b' ∧ oo = o' := by simpa using e1
        have hbj := ord_bd j (by omega)
        have hLj := len_ord_bd j (by omega)
        obtain ⟨T, hT⟩ : ∃ T, ord j = T := ⟨_, rfl⟩
        rw [hT] at hbj hoj hLj
        obtain ⟨b', o', e2, hlj⟩ := (Hr1'.out.below HB.out).at_ (i := T) hbj.1
        obtain ⟨rfl, rfl⟩ : lb = b' ∧ lo = o' := by simpa using e2
        have hah : ah (j + 1) = len T := by unfold ah; rw [if_neg (by omega), Nat.add_sub_cancel, hT]
        have hpc : pc (j + 1) = z + 1 := by unfold pc; rw [if_neg (by omega), Nat.add_sub_cancel, hzj]
        rw [hah, hpc] at hcd
        obtain ⟨a, ha⟩ : ∃ a, len T = a := ⟨_, rfl⟩
        rw [ha] at hcd hlj hLj
        obtain ⟨hal, hpm, hcl⟩ := hcd
        have hT0 : (0 : Int) ≤ (T : Int) := by omega
        have hT1 : (T : Int) < 257 := by omega
        have hz30 : z + 1 ≤ 1073741824 := by
          have h1 : 1 ≤ 2 ^ (L - a) := Nat.one_le_two_pow
          have h2 : z + 1 ≤ (z + 1) * 2 ^ (L - a) := Nat.le_mul_of_pos_right _ h1
          omega
        have hj1 : ((j + 1 : Nat) : Int) - 1 = (j : Int) := by omega
        have hj0 : (0 : Int) ≤ (j : Int) := by omega
        have hj2 : (j : Int) < 257 := by omega
        have HPM := hide hpm
        clear hz1' hz2' hzj hS hL hah hpc hT ha e1 e2 hpm hk00
        go_wp2_with fail
        go_loop [4, 6] (fun c n => ∃ d y : Nat, a + d ≤ L ∧ n = .int .i64 ((a + d : Nat) : Int) ∧ c = .int .i64 (y : Int) ∧ y = (z + 1) * 2 ^ d) (fun _ n => L - (intOf n).toNat)
        case atStart => exact ⟨0, z + 1, by omega, by simp, by simp, by simp⟩
        case round =>
          obtain ⟨d, y, hdL, rfl, rfl, hy⟩ := hrel
          have Hy := hide hy
          have hyb : y ≤ 1073741824 := by
            have h1 : 2 ^ d ≤ 2 ^ (L - a) := Nat.pow_le_pow_right (by omega) (by omega)
            have h2 : (z + 1) * 2 ^ d ≤ (z + 1) * 2 ^ (L - a) := Nat.mul_le_mul_left _ h1
            have := HPM.out
            omega
          clear hy
          by_cases hdl : a + d < L
          · have dt : decide (((a + d : Nat) : Int) < (L : Int)) = true := by simp; omega
            have dt' : decide (a + d < L) = true := by simpa using hdl
            have Hy2 : Hid (2 * y = (z + 1) * 2 ^ (d + 1)) := by
              show _ = _
              rw [Hy.out, Nat.pow_succ, Nat.mul_comm 2, Nat.mul_assoc]
            generalize hm : a + d = m at *
            have Hm := hide hm
            clear hm
            go_wp2_with fail
            go_round
            case rel => exact ⟨d + 1, 2 * y, by have := Hm.out; omega, by have := Hm.out; rw [show a + (d + 1) = m + 1 by omega]; simp, by simp, Hy2.out⟩
            case measure => simp [intOf]; omega
          · have dt : decide (((a + d : Nat) : Int) < (L : Int)) = false := by simp; omega
            have dt' : decide (a + d < L) = false := by simpa using hdl
            have Hye : Hid (y = cd (j + 1)) := by
              show _ = _
              rw [Hy.out, ← HPM.out, show d = L - a by omega]
            generalize hm : a + d = m at *
            clear hm
            have HO2 := hide HO'.out
            have HB2' := hide HB'.out
            rw [← Hye.out] at HO2 HB2'
            clear HO' HB'
            go_wp2_with fail
            go_roundw
            case rel => exact ⟨j + 1 + 1, y, by omega, by go_num, rfl, fun _ => by rw [Hye.out, Nat.add_sub_cancel], fun h => absurd h (by omega), HO2.out, HB2'.out⟩
            case measure => simp [intOf]; omega
    · obtain rfl : k = 257 := by omega
      have hd : decide ((257 : Int) < 257) = false := by decide
      go_wp2_with fail
      go_ret
      exact ⟨_, rfl, (Hown.out.congr (fun i hi' => by unfold b4; rw [if_pos (rnk_bd i hi').1])).baseB hs2, HB2.out.of HB.out⟩
end Go.Proofs.Yteijpklepgenbaa
