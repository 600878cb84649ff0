/- Layer 31: what is taken and given, the reference's side. -/
import Derived.Test.YtopgcimjdlhclaaWi3
import Derived.Test.YtopgcimjdlhclaaAw1
namespace Go.Proofs.Ytopgcimjdlhclaa
open Go.RowKit

theorem zeroP (w : World) (a b : Int) : Below w.heap.size w ((w.alloc (.cells #[.int .i64 a, .int .i64 b] 54)).alloc (.cells #[.int .i64 0, .int .i64 0] 54)) := ((Below.refl _ _).alloc (Nat.le_refl _) _).alloc (by simp) _
theorem zeroPR (w : World) (a b : Int) : ((w.alloc (.cells #[.int .i64 a, .int .i64 b] 54)).alloc (.cells #[.int .i64 0, .int .i64 0] 54)).heap[w.heap.size + 1]? = some (.cells #[.int .i64 0, .int .i64 0] 54 (0, 0)) := heap_alloc_newW _ _ (by simp)
theorem zeroPV (w : World) (a b : Int) : ((w.alloc (.cells #[.int .i64 a, .int .i64 b] 54)).alloc (.cells #[.int .i64 0, .int .i64 0] 54)).heap[w.heap.size]? = some (.cells #[.int .i64 a, .int .i64 b] 54 (0, 0)) := keepRow (heap_alloc_new w _) ((Below.refl _ _).alloc (Nat.le_refl _) _)
set_option maxHeartbeats 1600000 in
theorem rtake_ok {a b : Int} (s n i : Int) (ha : AmP a) (hb : AmP b) (hk : TkOk a b s n i) (w : World) :
    Calls Try.prog 72 #[.agg #[.int .i64 a, .int .i64 b], .int .i64 s, .int .i64 n, .int .i64 i] w fun e w' => e = .returned (.tuple #[.agg #[.int .i64 (nA a s (-n)), .int .i64 (nB b s (-n))], .bool true]) ∧ Below w.heap.size w w' := by
  obtain ⟨hv, h0, hr, hm⟩ := hk
  have hs := sideN_am s ha hb
  have HZ := hide (zeroP w a b)
  have RZ := hide (zeroPR w a b)
  have RV := hide (zeroPV w a b)
  have hm0 := fun W => rmay31 s i W
  have h1 := fun W => rRoom_any s i ha hb W
  have h2 := fun W => rmove_yes s (-n) ha hb (vlB_yes hv).1 hm W
  rw [hv] at hm0
  rw [show roomF a b s i = i + sideN a b s by unfold roomF; rw [if_pos hv]] at h1
  obtain ⟨_, hi1, hi2⟩ := vlB_yes hv
  have hrng : -4503599627370496 ≤ i + sideN a b s ∧ i + sideN a b s ≤ 4503601774854143 := by unfold AmP at hs; omega
  have hn63 : n ≤ 4503601774854143 := by
    have hm1 := hm.1
    unfold AmP at hm1
    omega
  have hwn : IntKind.i64.wrap (-n) = -n := IntWalk.i64_in _ (by omega)
  generalize i + sideN a b s = r at *
  generalize nA a s (-n) = p at *
  generalize nB b s (-n) = q at *
  have d1 : decide (n < 0) = false := by simp; omega
  by_cases hn0 : 0 < n
  · have d2 : decide (0 < n) = true := by simpa using hn0
    have d3 : decide (r < n) = false := by have := hr hn0; simp; omega
    clear ha hb hv h0 hr hm hs hi1 hi2 hrng hn63 hn0
    go_enter Try.func72, Try.ntmps72
    obtain ⟨v0, v1⟩ := row2 RV.out
    go_wp2_with fail
    refine (hm0 _).mono ?_
    rintro e w0 ⟨rfl, rfl⟩
    go_wp2_with fail
    refine (h1 _).mono ?_
    rintro e w1 ⟨rfl, hb1⟩
    have HB1 := hide (HZ.out.of hb1)
    have R1 := hide (keepRow RZ.out hb1)
    have V1 := hide (keepRow RV.out hb1)
    clear hb1 v0 v1
    obtain ⟨v0, v1⟩ := row2 V1.out
    go_wp2_with fail
    refine (h2 _).mono ?_
    rintro e w2 ⟨rfl, hb2⟩
    have HB2 := hide (HB1.out.of hb2)
    have R2 := hide (keepRow R1.out hb2)
    have l2 := rowLt R2.out
    have R3 := keepRow R2.out ((Below.refl _ _).alloc (Nat.le_refl _) (.cells #[.int .i64 p, .int .i64 q] 54))
    have S1 := setRow _ _ 0 (.int .i64 p) R2.out
    have S2 := setRow _ _ 1 (.int .i64 q) S1
    simp only [List.setIfInBounds_toArray, List.set_cons_zero, List.set_cons_succ] at S1 S2
    have T1 := keepRow S1 ((Below.refl _ _).alloc (Nat.le_refl _) (.cells #[.int .i64 p, .int .i64 q] 54))
    have R4 := hide (keepRow S2 ((Below.refl _ _).alloc (Nat.le_refl _) (.cells #[.int .i64 p, .int .i64 q] 54)))
    have c0 := (row2 R3).1
    have f0 := frozenRow R3 0
    have c1 := (row2 T1).2
    have f1 := frozenRow T1 1
    have HB4 := hide ((below2 HB2.out (p := w.heap.size + 1) (by omega) (.int .i64 p) (.int .i64 q)).alloc (by have := HB2.out.size; simp [World.setCell]; omega) (.cells #[.int .i64 p, .int .i64 q] 54))
    clear R3 S1 S2 T1
    clear hb2 v0 v1
    go_wp2_with fail
    obtain ⟨d0, d1⟩ := row2 R4.out
    refine bodyPost_ret (v := .tuple #[.agg #[.int .i64 p, .int .i64 q], .bool true]) ?_ rfl ⟨rfl, HB4.out⟩
    rw [results_cell_tmp rfl]
    go_simp
  · have d2 : decide (0 < n) = false := by simpa using hn0
    clear ha hb hv h0 hr hm hs hi1 hi2 hrng hn63 hn0
    go_enter Try.func72, Try.ntmps72
    obtain ⟨v0, v1⟩ := row2 RV.out
    go_wp2_with fail
    refine (hm0 _).mono ?_
    rintro e w0 ⟨rfl, rfl⟩
    have HB1 := HZ
    have R1 := RZ
    have V1 := RV
    go_wp2_with fail
    refine (h2 _).mono ?_
    rintro e w2 ⟨rfl, hb2⟩
    have HB2 := hide (HB1.out.of hb2)
    have R2 := hide (keepRow R1.out hb2)
    have l2 := rowLt R2.out
    have R3 := keepRow R2.out ((Below.refl _ _).alloc (Nat.le_refl _) (.cells #[.int .i64 p, .int .i64 q] 54))
    have S1 := setRow _ _ 0 (.int .i64 p) R2.out
    have S2 := setRow _ _ 1 (.int .i64 q) S1
    simp only [List.setIfInBounds_toArray, List.set_cons_zero, List.set_cons_succ] at S1 S2
    have T1 := keepRow S1 ((Below.refl _ _).alloc (Nat.le_refl _) (.cells #[.int .i64 p, .int .i64 q] 54))
    have R4 := hide (keepRow S2 ((Below.refl _ _).alloc (Nat.le_refl _) (.cells #[.int .i64 p, .int .i64 q] 54)))
    have c0 := (row2 R3).1
    have f0 := frozenRow R3 0
    have c1 := (row2 T1).2
    have f1 := frozenRow T1 1
    have HB4 := hide ((below2 HB2.out (p := w.heap.size + 1) (by omega) (.int .i64 p) (.int .i64 q)).alloc (by have := HB2.out.size; simp [World.setCell]; omega) (.cells #[.int .i64 p, .int .i64 q] 54))
    clear R3 S1 S2 T1
    clear hb2 v0 v1
    go_wp2_with fail
    obtain ⟨d0, d1⟩ := row2 R4.out
    refine bodyPost_ret (v := .tuple #[.agg #[.int .i64 p, .int .i64 q], .bool true]) ?_ rfl ⟨rfl, HB4.out⟩
    rw [results_cell_tmp rfl]
    go_simp
set_option maxHeartbeats 1600000 in
theorem rtake_no {a b : Int} (s n i : Int) (ha : AmP a) (hb : AmP b) (hk : ¬ TkOk a b s n i) (hn1 : -9223372036854775808 ≤ n) (hn2 : n ≤ 9223372036854775807) (w : World) :
    Calls Try.prog 72 #[.agg #[.int .i64 a, .int .i64 b], .int .i64 s, .int .i64 n, .int .i64 i] w fun e w' => e = .returned (.tuple #[.agg #[.int .i64 0, .int .i64 0], .bool false]) ∧ Below w.heap.size w w' := by
  have hs := sideN_am s ha hb
  have HZ := hide (zeroP w a b)
  have RZ := hide (zeroPR w a b)
  have RV := hide (zeroPV w a b)
  have hm0 := fun W => rmay31 s i W
  have h1 := fun W => rRoom_any s i ha hb W
  cases hv : vlB s i with
  | false =>
    rw [hv] at hm0
    clear ha hb hs hk hv h1
    go_enter Try.func72, Try.ntmps72
    obtain ⟨v0, v1⟩ := row2 RV.out
    go_wp2_with fail
    refine (hm0 _).mono ?_
    rintro e w0 ⟨rfl, rfl⟩
    go_wp2_with fail
    refine bodyPost_ret (v := .tuple #[.agg #[.int .i64 0, .int .i64 0], .bool false]) ?_ rfl ⟨rfl, ?_⟩
    · rw [results_cell_tmp rfl]
      go_simp
    · exact HZ.out
  | true =>
    rw [hv] at hm0
    rw [show roomF a b s i = i + sideN a b s by unfold roomF; rw [if_pos hv]] at h1
    obtain ⟨hs1, hi1, hi2⟩ := vlB_yes hv
    have hrng : -4503599627370496 ≤ i + sideN a b s ∧ i + sideN a b s ≤ 4503601774854143 := by unfold AmP at hs; omega
    by_cases h0 : n < 0
    · have d1 : decide (n < 0) = true := by simpa using h0
      clear ha hb hs hk hv hs1 hi1 hi2 hrng h0 h1
      go_enter Try.func72, Try.ntmps72
      obtain ⟨v0, v1⟩ := row2 RV.out
      go_wp2_with fail
      refine (hm0 _).mono ?_
      rintro e w0 ⟨rfl, rfl⟩
      go_wp2_with fail
      refine bodyPost_ret (v := .tuple #[.agg #[.int .i64 0, .int .i64 0], .bool false]) ?_ rfl ⟨rfl, ?_⟩
      · rw [results_cell_tmp rfl]
        go_simp
      · exact HZ.out
    have d1 : decide (n < 0) = false := by simpa using h0
    have hwn : IntKind.i64.wrap (-n) = -n := IntWalk.i64_in _ (by omega)
    by_cases hn0 : 0 < n ∧ i + sideN a b s < n
    · have d2 : decide (0 < n) = true := by simpa using hn0.1
      have d3 : decide (i + sideN a b s < n) = true := by simpa using hn0.2
      generalize i + sideN a b s = r at *
      clear ha hb hs hk hv hs1 hi1 hi2 hrng h0 hn0
      go_enter Try.func72, Try.ntmps72
      obtain ⟨v0, v1⟩ := row2 RV.out
      go_wp2_with fail
      refine (hm0 _).mono ?_
      rintro e w0 ⟨rfl, rfl⟩
      go_wp2_with fail
      refine (h1 _).mono ?_
      rintro e w1 ⟨rfl, hb1⟩
      obtain ⟨⟨c0, f0⟩, ⟨c1, f1⟩, r4⟩ := store2 (keepRow RZ.out hb1) (.int .i64 0) (.int .i64 0)
      have HB4 := hide (below2 (HZ.out.of hb1) (p := w.heap.size + 1) (by omega) (.int .i64 0) (.int .i64 0))
      have R4 := hide r4
      clear r4 hb1
      go_wp2_with fail
      obtain ⟨d0, d1⟩ := row2 R4.out
      refine bodyPost_ret (v := .tuple #[.agg #[.int .i64 0, .int .i64 0], .bool false]) ?_ rfl ⟨rfl, HB4.out⟩
      rw [results_cell_tmp rfl]
      go_simp
    have hm : ¬ MvOk a b s (-n) := fun hm => hk ⟨hv, by omega, fun h => by omega, hm⟩
    have h2 := fun W => rmove_not s (-n) ha hb hs1 hm W
    by_cases hp0 : 0 < n
    · have d2 : decide (0 < n) = true := by simpa using hp0
      have d3 : decide (i + sideN a b s < n) = false := by simp; omega
      generalize i + sideN a b s = r at *
      clear ha hb hs hk hv hs1 hi1 hi2 hrng h0 hn0 hm hp0
      go_enter Try.func72, Try.ntmps72
      obtain ⟨v0, v1⟩ := row2 RV.out
      go_wp2_with fail
      refine (hm0 _).mono ?_
      rintro e w0 ⟨rfl, rfl⟩
      go_wp2_with fail
      refine (h1 _).mono ?_
      rintro e w1 ⟨rfl, hb1⟩
      have HB1 := hide (HZ.out.of hb1)
      have R1 := hide (keepRow RZ.out hb1)
      have V1 := hide (keepRow RV.out hb1)
      clear hb1 v0 v1
      obtain ⟨v0, v1⟩ := row2 V1.out
      go_wp2_with fail
      refine (h2 _).mono ?_
      rintro e w2 ⟨rfl, hb2⟩
      have HB2 := hide (HB1.out.of hb2)
      have R2 := hide (keepRow R1.out hb2)
      have l2 := rowLt R2.out
      have R3 := keepRow R2.out ((Below.refl _ _).alloc (Nat.le_refl _) (.cells #[.int .i64 0, .int .i64 0] 54))
      have S1 := setRow _ _ 0 (.int .i64 0) R2.out
      have S2 := setRow _ _ 1 (.int .i64 0) S1
      simp only [List.setIfInBounds_toArray, List.set_cons_zero, List.set_cons_succ] at S1 S2
      have T1 := keepRow S1 ((Below.refl _ _).alloc (Nat.le_refl _) (.cells #[.int .i64 0, .int .i64 0] 54))
      have R4 := hide (keepRow S2 ((Below.refl _ _).alloc (Nat.le_refl _) (.cells #[.int .i64 0, .int .i64 0] 54)))
      have c0 := (row2 R3).1
      have f0 := frozenRow R3 0
      have c1 := (row2 T1).2
      have f1 := frozenRow T1 1
      have HB4 := hide ((below2 HB2.out (p := w.heap.size + 1) (by omega) (.int .i64 0) (.int .i64 0)).alloc (by have := HB2.out.size; simp [World.setCell]; omega) (.cells #[.int .i64 0, .int .i64 0] 54))
      clear R3 S1 S2 T1
      clear hb2 v0 v1
      go_wp2_with fail
      obtain ⟨d0, d1⟩ := row2 R4.out
      refine bodyPost_ret (v := .tuple #[.agg #[.int .i64 0, .int .i64 0], .bool false]) ?_ rfl ⟨rfl, HB4.out⟩
      rw [results_cell_tmp rfl]
      go_simp
    · have d2 : decide (0 < n) = false := by simpa using hp0
      generalize i + sideN a b s = r at *
      clear ha hb hs hk hv hs1 hi1 hi2 hrng h0 hn0 hm hp0
      go_enter Try.func72, Try.ntmps72
      obtain ⟨v0, v1⟩ := row2 RV.out
      go_wp2_with fail
      refine (hm0 _).mono ?_
      rintro e w0 ⟨rfl, rfl⟩
      have HB1 := HZ
      have R1 := RZ
      have V1 := RV
      go_wp2_with fail
      refine (h2 _).mono ?_
      rintro e w2 ⟨rfl, hb2⟩
      have HB2 := hide (HB1.out.of hb2)
      have R2 := hide (keepRow R1.out hb2)
      have l2 := rowLt R2.out
      have R3 := keepRow R2.out ((Below.refl _ _).alloc (Nat.le_refl _) (.cells #[.int .i64 0, .int .i64 0] 54))
      have S1 := setRow _ _ 0 (.int .i64 0) R2.out
      have S2 := setRow _ _ 1 (.int .i64 0) S1
      simp only [List.setIfInBounds_toArray, List.set_cons_zero, List.set_cons_succ] at S1 S2
      have T1 := keepRow S1 ((Below.refl _ _).alloc (Nat.le_refl _) (.cells #[.int .i64 0, .int .i64 0] 54))
      have R4 := hide (keepRow S2 ((Below.refl _ _).alloc (Nat.le_refl _) (.cells #[.int .i64 0, .int .i64 0] 54)))
      have c0 := (row2 R3).1
      have f0 := frozenRow R3 0
      have c1 := (row2 T1).2
      have f1 := frozenRow T1 1
      have HB4 := hide ((below2 HB2.out (p := w.heap.size + 1) (by omega) (.int .i64 0) (.int .i64 0)).alloc (by have := HB2.out.size; simp [World.setCell]; omega) (.cells #[.int .i64 0, .int .i64 0] 54))
      clear R3 S1 S2 T1
      clear hb2 v0 v1
      go_wp2_with fail
      obtain ⟨d0, d1⟩ := row2 R4.out
      refine bodyPost_ret (v := .tuple #[.agg #[.int .i64 0, .int .i64 0], .bool false]) ?_ rfl ⟨rfl, HB4.out⟩
      rw [results_cell_tmp rfl]
      go_simp
set_option maxHeartbeats 1600000 in
theorem rgive_ok {a b : Int} (s n i : Int) (ha : AmP a) (hb : AmP b) (hk : GvOk a b s n i) (w : World) :
    Calls Try.prog 71 #[.agg #[.int .i64 a, .int .i64 b], .int .i64 s, .int .i64 n, .int .i64 i] w fun e w' => e = .returned (.tuple #[.agg #[.int .i64 (nA a s n), .int .i64 (nB b s n)], .bool true]) ∧ Below w.heap.size w w' := by
  obtain ⟨hv, h0, hr, hm⟩ := hk
  have hs := sideN_am s ha hb
  have HZ := hide (zeroP w a b)
  have RZ := hide (zeroPR w a b)
  have RV := hide (zeroPV w a b)
  have hm0 := fun W => rmay31 s i W
  have h1 := fun W => rRoom_any s i ha hb W
  have h2 := fun W => rmove_yes s n ha hb (vlB_yes hv).1 hm W
  rw [hv] at hm0
  rw [show roomF a b s i = i + sideN a b s by unfold roomF; rw [if_pos hv]] at h1
  obtain ⟨_, hi1, hi2⟩ := vlB_yes hv
  have hrng : -4503599627370496 ≤ i + sideN a b s ∧ i + sideN a b s ≤ 4503601774854143 := by unfold AmP at hs; omega
  have hn63 : n ≤ 4503601774854143 := by
    have hm1 := hm.1
    unfold AmP at hm1
    omega
  have hwn : IntKind.i64.wrap (2147483647 - (i + sideN a b s)) = 2147483647 - (i + sideN a b s) := IntWalk.i64_in _ (by omega)
  generalize i + sideN a b s = r at *
  generalize nA a s n = p at *
  generalize nB b s n = q at *
  have d1 : decide (n < 0) = false := by simp; omega
  have d3 : decide (2147483647 - r < n) = false := by simp; omega
  clear ha hb hv h0 hr hm hs hi1 hi2 hrng hn63
  go_enter Try.func71, Try.ntmps71
  obtain ⟨v0, v1⟩ := row2 RV.out
  go_wp2_with fail
  refine (hm0 _).mono ?_
  rintro e w0 ⟨rfl, rfl⟩
  go_wp2_with fail
  refine (h1 _).mono ?_
  rintro e w1 ⟨rfl, hb1⟩
  have HB1 := hide (HZ.out.of hb1)
  have R1 := hide (keepRow RZ.out hb1)
  have V1 := hide (keepRow RV.out hb1)
  clear hb1 v0 v1
  obtain ⟨v0, v1⟩ := row2 V1.out
  go_wp2_with fail
  refine (h2 _).mono ?_
  rintro e w2 ⟨rfl, hb2⟩
  have HB2 := hide (HB1.out.of hb2)
  have R2 := hide (keepRow R1.out hb2)
  have l2 := rowLt R2.out
  have R3 := keepRow R2.out ((Below.refl _ _).alloc (Nat.le_refl _) (.cells #[.int .i64 p, .int .i64 q] 54))
  have S1 := setRow _ _ 0 (.int .i64 p) R2.out
  have S2 := setRow _ _ 1 (.int .i64 q) S1
  simp only [List.setIfInBounds_toArray, List.set_cons_zero, List.set_cons_succ] at S1 S2
  have T1 := keepRow S1 ((Below.refl _ _).alloc (Nat.le_refl _) (.cells #[.int .i64 p, .int .i64 q] 54))
  have R4 := hide (keepRow S2 ((Below.refl _ _).alloc (Nat.le_refl _) (.cells #[.int .i64 p, .int .i64 q] 54)))
  have c0 := (row2 R3).1
  have f0 := frozenRow R3 0
  have c1 := (row2 T1).2
  have f1 := frozenRow T1 1
  have HB4 := hide ((below2 HB2.out (p := w.heap.size + 1) (by omega) (.int .i64 p) (.int .i64 q)).alloc (by have := HB2.out.size; simp [World.setCell]; omega) (.cells #[.int .i64 p, .int .i64 q] 54))
  clear R3 S1 S2 T1
  clear hb2 v0 v1
  go_wp2_with fail
  obtain ⟨d0, d1⟩ := row2 R4.out
  refine bodyPost_ret (v := .tuple #[.agg #[.int .i64 p, .int .i64 q], .bool true]) ?_ rfl ⟨rfl, HB4.out⟩
  rw [results_cell_tmp rfl]
  go_simp
set_option maxHeartbeats 1600000 in
theorem rgive_no {a b : Int} (s n i : Int) (ha : AmP a) (hb : AmP b) (hk : ¬ GvOk a b s n i) (hn1 : -9223372036854775808 ≤ n) (hn2 : n ≤ 9223372036854775807) (w : World) :
    Calls Try.prog 71 #[.agg #[.int .i64 a, .int .i64 b], .int .i64 s, .int .i64 n, .int .i64 i] w fun e w' => e = .returned (.tuple #[.agg #[.int .i64 0, .int .i64 0], .bool false]) ∧ Below w.heap.size w w' := by
  have hs := sideN_am s ha hb
  have HZ := hide (zeroP w a b)
  have RZ := hide (zeroPR w a b)
  have RV := hide (zeroPV w a b)
  have hm0 := fun W => rmay31 s i W
  have h1 := fun W => rRoom_any s i ha hb W
  cases hv : vlB s i with
  | false =>
    rw [hv] at hm0
    clear ha hb hs hk hv h1
    go_enter Try.func71, Try.ntmps71
    obtain ⟨v0, v1⟩ := row2 RV.out
    go_wp2_with fail
    refine (hm0 _).mono ?_
    rintro e w0 ⟨rfl, rfl⟩
    go_wp2_with fail
    refine bodyPost_ret (v := .tuple #[.agg #[.int .i64 0, .int .i64 0], .bool false]) ?_ rfl ⟨rfl, ?_⟩
    · rw [results_cell_tmp rfl]
      go_simp
    · exact HZ.out
  | true =>
    rw [hv] at hm0
    rw [show roomF a b s i = i + sideN a b s by unfold roomF; rw [if_pos hv]] at h1
    obtain ⟨hs1, hi1, hi2⟩ := vlB_yes hv
    have hrng : -4503599627370496 ≤ i + sideN a b s ∧ i + sideN a b s ≤ 4503601774854143 := by unfold AmP at hs; omega
    by_cases h0 : n < 0
    · have d1 : decide (n < 0) = true := by simpa using h0
      clear ha hb hs hk hv hs1 hi1 hi2 hrng h0 h1
      go_enter Try.func71, Try.ntmps71
      obtain ⟨v0, v1⟩ := row2 RV.out
      go_wp2_with fail
      refine (hm0 _).mono ?_
      rintro e w0 ⟨rfl, rfl⟩
      go_wp2_with fail
      refine bodyPost_ret (v := .tuple #[.agg #[.int .i64 0, .int .i64 0], .bool false]) ?_ rfl ⟨rfl, ?_⟩
      · rw [results_cell_tmp rfl]
        go_simp
      · exact HZ.out
    have d1 : decide (n < 0) = false := by simpa using h0
    have hwn : IntKind.i64.wrap (2147483647 - (i + sideN a b s)) = 2147483647 - (i + sideN a b s) := IntWalk.i64_in _ (by omega)
    by_cases hn0 : 2147483647 - (i + sideN a b s) < n
    · have d3 : decide (2147483647 - (i + sideN a b s) < n) = true := by simpa using hn0
      generalize i + sideN a b s = r at *
      clear ha hb hs hk hv hs1 hi1 hi2 hrng h0 hn0
      go_enter Try.func71, Try.ntmps71
      obtain ⟨v0, v1⟩ := row2 RV.out
      go_wp2_with fail
      refine (hm0 _).mono ?_
      rintro e w0 ⟨rfl, rfl⟩
      go_wp2_with fail
      refine (h1 _).mono ?_
      rintro e w1 ⟨rfl, hb1⟩
      obtain ⟨⟨c0, f0⟩, ⟨c1, f1⟩, r4⟩ := store2 (keepRow RZ.out hb1) (.int .i64 0) (.int .i64 0)
      have HB4 := hide (below2 (HZ.out.of hb1) (p := w.heap.size + 1) (by omega) (.int .i64 0) (.int .i64 0))
      have R4 := hide r4
      clear r4 hb1
      go_wp2_with fail
      obtain ⟨d0, d1⟩ := row2 R4.out
      refine bodyPost_ret (v := .tuple #[.agg #[.int .i64 0, .int .i64 0], .bool false]) ?_ rfl ⟨rfl, HB4.out⟩
      rw [results_cell_tmp rfl]
      go_simp
    have d3 : decide (2147483647 - (i + sideN a b s) < n) = false := by simpa using hn0
    have hm : ¬ MvOk a b s n := fun hm => hk ⟨hv, by omega, by omega, hm⟩
    have h2 := fun W => rmove_not s n ha hb hs1 hm W
    generalize i + sideN a b s = r at *
    clear ha hb hs hk hv hs1 hi1 hi2 hrng h0 hn0 hm
    go_enter Try.func71, Try.ntmps71
    obtain ⟨v0, v1⟩ := row2 RV.out
    go_wp2_with fail
    refine (hm0 _).mono ?_
    rintro e w0 ⟨rfl, rfl⟩
    go_wp2_with fail
    refine (h1 _).mono ?_
    rintro e w1 ⟨rfl, hb1⟩
    have HB1 := hide (HZ.out.of hb1)
    have R1 := hide (keepRow RZ.out hb1)
    have V1 := hide (keepRow RV.out hb1)
    clear hb1 v0 v1
    obtain ⟨v0, v1⟩ := row2 V1.out
    go_wp2_with fail
    refine (h2 _).mono ?_
    rintro e w2 ⟨rfl, hb2⟩
    have HB2 := hide (HB1.out.of hb2)
    have R2 := hide (keepRow R1.out hb2)
    have l2 := rowLt R2.out
    have R3 := keepRow R2.out ((Below.refl _ _).alloc (Nat.le_refl _) (.cells #[.int .i64 0, .int .i64 0] 54))
    have S1 := setRow _ _ 0 (.int .i64 0) R2.out
    have S2 := setRow _ _ 1 (.int .i64 0) S1
    simp only [List.setIfInBounds_toArray, List.set_cons_zero, List.set_cons_succ] at S1 S2
    have T1 := keepRow S1 ((Below.refl _ _).alloc (Nat.le_refl _) (.cells #[.int .i64 0, .int .i64 0] 54))
    have R4 := hide (keepRow S2 ((Below.refl _ _).alloc (Nat.le_refl _) (.cells #[.int .i64 0, .int .i64 0] 54)))
    have c0 := (row2 R3).1
    have f0 := frozenRow R3 0
    have c1 := (row2 T1).2
    have f1 := frozenRow T1 1
    have HB4 := hide ((below2 HB2.out (p := w.heap.size + 1) (by omega) (.int .i64 0) (.int .i64 0)).alloc (by have := HB2.out.size; simp [World.setCell]; omega) (.cells #[.int .i64 0, .int .i64 0] 54))
    clear R3 S1 S2 T1
    clear hb2 v0 v1
    go_wp2_with fail
    obtain ⟨d0, d1⟩ := row2 R4.out
    refine bodyPost_ret (v := .tuple #[.agg #[.int .i64 0, .int .i64 0], .bool false]) ?_ rfl ⟨rfl, HB4.out⟩
    rw [results_cell_tmp rfl]
    go_simp
end Go.Proofs.Ytopgcimjdlhclaa
