/- Layer 6: the walk of PairTotal. -/
import Derived.Test.YtfgifdgbhikegaaPaiT
namespace Go.Proofs.Ytfgifdgbhikegaa
open Go.RowKit

def VV (F G : Nat → Int) (i : Nat) : Value := .complex .f64 (floatOfInt .f64 (F i)) (floatOfInt .f64 (G i))
def Far (a : Int) : Prop := -1152921504606846976 ≤ a ∧ a ≤ 1152921504606846976
theorem elt_int {F G : Nat → Int} {i : Nat} (hf : Far (F i)) (hg : Far (G i)) : Elt (VV F G i) (KK F G i) := by
  unfold Far at hf hg
  by_cases h : AmP (F i) ∧ AmP (G i)
  · rw [show KK F G i = some (F i, G i) from if_pos h]
    exact pv_of h.1 h.2
  · rw [show KK F G i = none from if_neg h]
    exact ⟨⟨_, _, rfl⟩, fun w => isPair_int h (by omega) (by omega) (by omega) (by omega) w⟩
theorem cx_info : (Try.prog.info? 24).map (fun i => (i.zero, i.size, i.bytes)) = some (some (.complex .f64 0 0), 1, 16) := by kernel_rfl
theorem RdV.litC (w : World) (x y : Nat) : RdV 1 (w.alloc (.cells #[.complex .f64 x y] 24)) (some ⟨w.heap.size, 0, none⟩) 1 1 (fun _ => .complex .f64 x y) :=
  (OwnV.lit 1 24 0 w (fun _ => .complex .f64 x y) #[.complex .f64 x y] 1 (Nat.zero_le _) (by simp [maxLen]) rfl).rdS2
theorem vv_app {F G : Nat → Int} {k x y : Nat} (hx : floatOfInt .f64 (F k) = x) (hy : floatOfInt .f64 (G k) = y) : ∀ i, i < (k + 1) * 1 → catV (k * 1) (VV F G) (fun _ => .complex .f64 x y) i = VV F G i := by
  intro i hi
  by_cases h : i < k
  · simp [catV, h]
  · obtain rfl : i = k := by omega
    simp [catV, VV, hx, hy]
theorem OwnV.ltB1 {s : Nat} {e : TypeId} {B : Nat} {w : World} {v : Value} {n : Nat} {F : Nat → Value} (h : OwnV s e B w v n F) : ∀ j, v.ownBlock = some j → B ≤ j := fun j e => (World.ownsRow.lt h j e).1

/-! ### the fixed examples -/
theorem isP_half1 (y : Nat) (w : World) : Calls Try.prog 56 #[.complex .f64 4602678819172646912 y] w fun e w' => e = .returned (.bool false) ∧ w = w' := isPair_no1 (isAm_small small_half) w
theorem isP_quarter (w : World) : Calls Try.prog 56 #[.complex .f64 0 4598175219545276416] w fun e w' => e = .returned (.bool false) ∧ w = w' := isPair_no2 ⟨val_zero, am0⟩ (isAm_small small_quarter) w
theorem isP_big (w : World) : Calls Try.prog 56 #[.complex .f64 0 4845873199050653696] w fun e w' => e = .returned (.bool false) ∧ w = w' := isPair_no2 ⟨val_zero, am0⟩ (isAm_no (by decide)) w
theorem am1 : AmP 1 := by unfold AmP; omega
theorem one_word : floatOfInt .f64 1 = 4607182418800017408 := by decide
def litV (i : Nat) : Value := if i = 0 then .complex .f64 4607182418800017408 4607182418800017408 else .complex .f64 0 4598175219545276416
def litK (i : Nat) : Option (Int × Int) := if i = 0 then some (1, 1) else none
theorem lit_elt : ∀ i, i < 2 → Elt (litV i) (litK i) := by
  intro i hi
  have : i = 0 ∨ i = 1 := by omega
  rcases this with rfl | rfl
  · have h := pv_of am1 am1
    rw [one_word] at h
    exact h
  · exact ⟨⟨_, _, rfl⟩, isP_quarter⟩
theorem lit_tst : tst litK 2 = (0, 0, 4) := by
  have h1 : tst litK 1 = (0 + 1, 0 + 1, 0) := tst_ok (K := litK) (k := 0) (p := (1, 1)) rfl rfl (by decide)
  exact tst_none (K := litK) (k := 1) h1 rfl
theorem total_lit (w : World) {b : Nat} (hb : b = w.heap.size) : Calls Try.prog 21 #[.slice (some ⟨b, 0, none⟩) 2 2] (w.alloc (.cells #[.complex .f64 4607182418800017408 4607182418800017408, .complex .f64 0 4598175219545276416] 24)) fun e w' =>
    e = .returned (.tuple #[.complex .f64 0 0, .int .i64 4]) ∧ (w.alloc (.cells #[.complex .f64 4607182418800017408 4607182418800017408, .complex .f64 0 4598175219545276416] 24)) = w' := by
  subst hb
  have hr := (OwnV.lit 1 24 0 w litV #[.complex .f64 4607182418800017408 4607182418800017408, .complex .f64 0 4598175219545276416] 2 (Nat.zero_le _) (by simp [maxLen]) rfl).rdS2
  have h := total_any _ 2 2 litV litK _ hr lit_elt (by omega)
  rw [lit_tst] at h
  refine h.mono ?_
  rintro e w' ⟨v, hv, he, hw⟩
  rcases hv with ⟨h0, _⟩ | ⟨_, rfl⟩
  · exact absurd h0 (by decide)
  · exact ⟨he, hw⟩

theorem order00u : FloatKind.f64.format.order 0 0 = some .eq := by decide
set_option maxRecDepth 100000 in
set_option maxHeartbeats 6400000 in
theorem ptotal_walk (A : Option Addr) (n c : Nat) (F G : Nat → Int) (hv : Bool) (w : World) (ha : Rd2 w A n c F G) : Calls Try.prog 4 #[.slice A n c, .bool hv] w (B6 w true) := by
  have Ha := hide ha
  clear ha
  by_cases hl : 60 < n
  · have hd : decide ((60 : Int) < (n : Int)) = true := by simp; omega
    go_enter Try.func4, Try.ntmps4
    go_wp2_with fail
    refine (alive6 _).mono ?_
    rintro e w4 ⟨rfl, hb4⟩
    go_wp2_with fail
    go_ret
    exact ⟨rfl, hb4⟩
  have hd : decide ((60 : Int) < (n : Int)) = false := by simp; omega
  obtain ⟨i0, hi, hz0, hz1, hz2⟩ := info_parts cx_info
  have z := order00u
  go_enter Try.func4, Try.ntmps4
  go_wp2_with fail
  go_loopw [5, 26] (fun v i wr => ∃ k : Nat, k ≤ n ∧ i = .int .i64 k ∧ (∀ j, j < k → Far (F j) ∧ Far (G j)) ∧ OwnV 1 24 w.heap.size wr v k (VV F G) ∧ Below w.heap.size w wr) (fun _ i _ => n - (intOf i).toNat)
  case atStart => exact ⟨0, Nat.zero_le _, rfl, fun j hj => absurd hj (by omega), OwnV.nil _ _ _ _ _, Below.refl _ _⟩
  case round =>
    obtain ⟨k, hk, rfl, hfar, hown, hB⟩ := hrel
    have Hfar := hide hfar
    have Hown := hide hown
    have HB := hide hB
    have hsz := hB.size
    clear hfar hown hB
    by_cases hlt : k < n
    · obtain ⟨b0, off, rfl, hc0, hc1⟩ := (Ha.out.below HB.out).at_ hlt
      have hkn : (k : Int) < (n : Int) := by omega
      have HBb := hide (HB.out.alloc hsz (.cells #[.int .i64 (F k), .int .i64 (G k)] 29))
      have Hob := hide (Hown.out.alloc (.cells #[.int .i64 (F k), .int .i64 (G k)] 29))
      have key : (decide ((1152921504606846976 : Int) < F k) = true ∧ hv = hv) ∨ (decide ((1152921504606846976 : Int) < F k) = false ∧ decide (F k < -1152921504606846976) = true) ∨ (decide ((1152921504606846976 : Int) < F k) = false ∧ decide (F k < -1152921504606846976) = false ∧ decide ((1152921504606846976 : Int) < G k) = true) ∨
          (decide ((1152921504606846976 : Int) < F k) = false ∧ decide (F k < -1152921504606846976) = false ∧ decide ((1152921504606846976 : Int) < G k) = false ∧ decide (G k < -1152921504606846976) = true) ∨
          (decide ((1152921504606846976 : Int) < F k) = false ∧ decide (F k < -1152921504606846976) = false ∧ decide ((1152921504606846976 : Int) < G k) = false ∧ decide (G k < -1152921504606846976) = false) := by
        simp only [decide_eq_true_eq, decide_eq_false_iff_not, and_true]
        omega
      rcases key with ⟨k1, _⟩ | ⟨k1, k2⟩ | ⟨k1, k2, k3⟩ | ⟨k1, k2, k3, k4⟩ | ⟨k1, k2, k3, k4⟩
      case inr.inr.inr.inr =>
        have hF : Far (F k) ∧ Far (G k) := by
          simp only [decide_eq_false_iff_not] at k1 k2 k3 k4
          unfold Far
          omega
        have HF := hide hF
        have c1 := fun w => run_convert_int_float (P := Try.prog) w 3 40 .i64 .f64 (F k) (by kernel_rfl) (by kernel_rfl)
        have c2 := fun w => run_convert_int_float (P := Try.prog) w 3 40 .i64 .f64 (G k) (by kernel_rfl) (by kernel_rfl)
        obtain ⟨x, hx⟩ : ∃ x, floatOfInt .f64 (F k) = x := ⟨_, rfl⟩
        obtain ⟨y, hy⟩ : ∃ y, floatOfInt .f64 (G k) = y := ⟨_, rfl⟩
        rw [hx] at c1
        rw [hy] at c2
        have HX := hide hx
        have HY := hide hy
        have hs1 := HBb.out.size
        clear hx hy hF
        have hbase : w.heap.size ≤ ((wr.alloc (.cells #[.int .i64 (F k), .int .i64 (G k)] 29)).alloc (.cells #[.complex .f64 x y] 24)).heap.size := by simp; omega
        have Hoc := hide (Hob.out.alloc (.cells #[.complex .f64 x y] 24))
        have Hrc : Hid (RdV 1 ((wr.alloc (.cells #[.int .i64 (F k), .int .i64 (G k)] 29)).alloc (.cells #[.complex .f64 x y] 24)) (some ⟨wr.heap.size + 1, 0, none⟩) 1 1 (fun _ => .complex .f64 x y)) := by
          have h := RdV.litC (wr.alloc (.cells #[.int .i64 (F k), .int .i64 (G k)] 29)) x y
          rw [show (wr.alloc (.cells #[.int .i64 (F k), .int .i64 (G k)] 29)).heap.size = wr.heap.size + 1 by simp] at h
          exact h
        go_wp2_with (at_builtin; refine wp_appV rfl (.tmp 49) (.tmp 57) _ rfl 1 i0 _ 16 Try.underlying39 hi hz0 hz1 hz2 rfl (by omega) w.heap.size _ k _ rfl Hoc.out _ 1 1 _ rfl Hrc.out (fun _ _ => rfl) (by simp only [maxLen]; omega) (by omega) hbase ?_; intro v3 w3 hown3 hg3 _)
        have HB3 := hide ((HBb.out.alloc hs1 _).grown hg3 (by simp; omega) Hob.out.ltB1)
        have Ho3 := hide (hown3.congr (vv_app HX.out HY.out))
        clear hown3 hg3
        go_roundw
        case rel => exact ⟨k + 1, by omega, by go_num, fun j hj => (by
          by_cases h : j = k
          · subst h; exact HF.out
          · exact Hfar.out j (by omega)), Ho3.out, HB3.out⟩
        case measure => simp [intOf]; omega
      all_goals
        go_wp2_with fail
        refine (alive6 _).mono ?_
        rintro e w4 ⟨rfl, hb4⟩
        go_wp2_with fail
        go_ret
        exact ⟨rfl, HBb.out.of hb4⟩
    · obtain rfl : k = n := by omega
      obtain ⟨A2, c2, rfl, hr2, _⟩ := Hown.out.rd
      have Hr2 := hide hr2
      have Helt : Hid (∀ i, i < k → Elt (VV F G i) (KK F G i)) := fun i hi => elt_int (Hfar.out i hi).1 (Hfar.out i hi).2
      clear hr2
      obtain ⟨T, hT⟩ : ∃ T, tst (KK F G) k = T := ⟨_, rfl⟩
      have HT := hide hT
      clear hT
      obtain ⟨ta, tb, te⟩ := T
      go_wp2_with fail
      refine (total_any A2 k c2 _ _ _ Hr2.out Helt.out (by omega)).mono ?_
      rintro e w1 ⟨v, htv, rfl, rfl⟩
      rw [HT.out] at htv ⊢
      have hkk : (te != te) = false := by simp
      go_wp2_with fail
      refine (rtotal_any A k c F G _ (Ha.out.below HB.out) (by omega)).mono ?_
      rintro e w2 ⟨rfl, hb2⟩
      rw [HT.out]
      have HB2 := hide (HB.out.of hb2)
      have hs2 := HB2.out.size
      clear hb2
      have sd := hide (side_form (.complex .f64 4602678819172646912 4607182418800017408) 0 (.inl rfl) (isP_half1 _))
      have sw := hide (swap_form (.complex .f64 0 4845873199050653696) isP_big)
      have mv := hide (move_form (.complex .f64 4602678819172646912 0) 1 1 (.inr rfl) (isP_half1 _))
      rcases htv with ⟨h0, hp⟩ | ⟨h0, rfl⟩
      · have h0' : te = 0 := h0
        subst h0'
        have iy := is_yes hp
        clear h0 hp hkk
        go_wp2_with fail
        refine (iy _).mono ?_
        rintro e w3 ⟨rfl, hb3⟩
        have HB3 := hide ((HB2.out.alloc hs2 _).of hb3)
        have hs3 := HB3.out.size
        clear hb3 iy
        cases hv with
        | false =>
          go_wp2_with fail
          refine (alive6 _).mono ?_
          rintro e w4 ⟨rfl, hb4⟩
          go_wp2_with fail
          go_ret
          exact ⟨rfl, HB3.out.of hb4⟩
        | true =>
          go_wp2_with fail
          refine (sd.out _).mono ?_
          rintro e w4 ⟨rfl, rfl⟩
          go_wp2_with fail
          refine (total_lit _ (by simp)).mono ?_
          rintro e w4 ⟨rfl, rfl⟩
          go_wp2_with fail
          refine (sw.out _).mono ?_
          rintro e w4 ⟨rfl, rfl⟩
          go_wp2_with fail
          refine (mv.out _).mono ?_
          rintro e w4 ⟨rfl, rfl⟩
          go_wp2_with fail
          refine (alive6 _).mono ?_
          rintro e w4 ⟨rfl, hb4⟩
          go_wp2_with fail
          go_ret
          exact ⟨rfl, (HB3.out.alloc hs3 _).of hb4⟩
      · have h1 : (te == 0) = false := by simpa using h0
        have h2 : (te != 0) = true := by simpa using h0
        have HB3 := hide (HB2.out.alloc hs2 (.cells #[.int .i64 ta, .int .i64 tb] 29))
        have hs3 := HB3.out.size
        clear h0
        cases hv with
        | false =>
          go_wp2_with fail
          refine (alive6 _).mono ?_
          rintro e w4 ⟨rfl, hb4⟩
          go_wp2_with fail
          go_ret
          exact ⟨rfl, HB3.out.of hb4⟩
        | true =>
          go_wp2_with fail
          refine (sd.out _).mono ?_
          rintro e w4 ⟨rfl, rfl⟩
          go_wp2_with fail
          refine (total_lit _ (by simp)).mono ?_
          rintro e w4 ⟨rfl, rfl⟩
          go_wp2_with fail
          refine (sw.out _).mono ?_
          rintro e w4 ⟨rfl, rfl⟩
          go_wp2_with fail
          refine (mv.out _).mono ?_
          rintro e w4 ⟨rfl, rfl⟩
          go_wp2_with fail
          refine (alive6 _).mono ?_
          rintro e w4 ⟨rfl, hb4⟩
          go_wp2_with fail
          go_ret
          exact ⟨rfl, (HB3.out.alloc hs3 _).of hb4⟩
end Go.Proofs.Ytfgifdgbhikegaa
