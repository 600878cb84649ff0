/- Layer 31: what is taken and given, the program's side. -/
import Derived.Test.YtopgcimjdlhclaaWi2
namespace Go.Proofs.Ytopgcimjdlhclaa
open Go.RowKit

def TkOk (a b s n i : Int) : Prop := vlB s i = true ∧ 0 ≤ n ∧ (0 < n → n ≤ i + sideN a b s) ∧ MvOk a b s (-n)
def GvOk (a b s n i : Int) : Prop := vlB s i = true ∧ 0 ≤ n ∧ n ≤ 2147483647 - (i + sideN a b s) ∧ MvOk a b s n
theorem pv0 : PV (.complex .f64 0 0) 0 0 := by
  have h := pv_of am0 am0
  have e : floatOfInt .f64 0 = 0 := by decide
  rw [e] at h
  exact h
theorem zeroW (w : World) (v : Value) : Below w.heap.size w ((w.alloc (.cells #[v] 52)).alloc (.cells #[.complex .f64 0 0] 52)) := ((Below.refl _ _).alloc (Nat.le_refl _) _).alloc (by simp) _
theorem zeroR (w : World) (v : Value) : ((w.alloc (.cells #[v] 52)).alloc (.cells #[.complex .f64 0 0] 52)).heap[w.heap.size + 1]? = some (.cells #[.complex .f64 0 0] 52 (0, 0)) := heap_alloc_newW _ _ (by simp)
theorem zeroV (w : World) (v : Value) : ((w.alloc (.cells #[v] 52)).alloc (.cells #[.complex .f64 0 0] 52)).heap[w.heap.size]? = some (.cells #[v] 52 (0, 0)) := keepRow (heap_alloc_new w _) ((Below.refl _ _).alloc (Nat.le_refl _) _)
set_option maxHeartbeats 1600000 in
theorem take_ok {v : Value} {a b : Int} (s n i : Int) (h : PV v a b) (hk : TkOk a b s n i) (w : World) :
    Calls Try.prog 69 #[.agg #[v], .int .i64 s, .int .i64 n, .int .i64 i] w fun e w' => ∃ v', PV v' (nA a s (-n)) (nB b s (-n)) ∧ e = .returned (.tuple #[.agg #[v'], .bool true]) ∧ Below w.heap.size w w' := by
  obtain ⟨ha, hb⟩ := h.amW
  obtain ⟨hv, h0, hr, hm⟩ := hk
  have h1 := fun W => wroom_yes s i h ha hb hv W
  have h2 := fun W => wmove_ok s (-n) h (vlB_yes hv).1 hm W
  have hs := sideN_am s ha hb
  have hst := fun (W : World) (x y : Nat) => run_store Try.prog W ⟨w.heap.size + 1, 0, none⟩ (.complex .f64 x y) .plain rfl
  have HZ := hide (zeroW w v)
  have RZ := hide (zeroR w v)
  have RV := hide (zeroV w v)
  obtain ⟨_, hi1, hi2⟩ := vlB_yes hv
  have hrng : -4503599627370496 ≤ i + sideN a b s ∧ i + sideN a b s ≤ 4503601774854143 := by unfold AmP at hs; omega
  have hn63 : n ≤ 4503601774854143 := by
    have hm1 := hm.1
    unfold AmP at hm1
    omega
  have hwn : IntKind.i64.wrap (-n) = -n := IntWalk.i64_in _ (by omega)
  generalize i + sideN a b s = r at *
  generalize nA a s (-n) = p at *
  generalize nB b s (-n) = q at *
  have d1 : decide (n < 0) = false := by simp; omega
  by_cases hn0 : 0 < n
  · have d2 : decide (0 < n) = true := by simpa using hn0
    have d3 : decide (r < n) = false := by have := hr hn0; simp; omega
    clear ha hb hv h0 hr hm h hs hi1 hi2 hrng hn63 hn0
    go_enter Try.func69, Try.ntmps69
    go_wp2_with fail
    refine (h1 _).mono ?_
    rintro e w1 ⟨rfl, hb1⟩
    have HB1 := hide (HZ.out.of hb1)
    have R1 := hide (keepRow RZ.out hb1)
    have V1 := hide (keepRow RV.out hb1)
    have l1 := rowLt R1.out
    have c1 := row1W V1.out
    clear hb1
    go_wp2_with fail
    refine (h2 _).mono ?_
    rintro e w2 ⟨v', hv', rfl, hb2⟩
    obtain ⟨x', y', rfl, hx', hy'⟩ := hv'
    have Hv : Hid (PV (.complex .f64 x' y') p q) := ⟨x', y', rfl, hx', hy'⟩
    have HB2 := hide (HB1.out.of hb2)
    obtain ⟨⟨c0, f0⟩, r2⟩ := store1 (keepRow R1.out hb2) (.complex .f64 x' y')
    have R2 := hide r2
    have HB3 := hide (HB2.out.setCell (show w.heap.size ≤ (⟨w.heap.size + 1, 0, none⟩ : Addr).block by simp) (.complex .f64 x' y'))
    clear hx' hy' hb2 r2 c1
    go_wp2_with fail
    have d0 := row1W R2.out
    refine bodyPost_ret (v := .tuple #[.agg #[.complex .f64 x' y'], .bool true]) ?_ rfl ⟨_, Hv.out, rfl, HB3.out⟩
    rw [results_cell_tmp rfl]
    go_simp
  · have d2 : decide (0 < n) = false := by simpa using hn0
    clear ha hb hv h0 hr hm h hs hi1 hi2 hrng hn63 hn0
    go_enter Try.func69, Try.ntmps69
    go_wp2_with fail
    refine (h1 _).mono ?_
    rintro e w1 ⟨rfl, hb1⟩
    have HB1 := hide (HZ.out.of hb1)
    have R1 := hide (keepRow RZ.out hb1)
    have V1 := hide (keepRow RV.out hb1)
    have l1 := rowLt R1.out
    have c1 := row1W V1.out
    clear hb1
    go_wp2_with fail
    refine (h2 _).mono ?_
    rintro e w2 ⟨v', hv', rfl, hb2⟩
    obtain ⟨x', y', rfl, hx', hy'⟩ := hv'
    have Hv : Hid (PV (.complex .f64 x' y') p q) := ⟨x', y', rfl, hx', hy'⟩
    have HB2 := hide (HB1.out.of hb2)
    obtain ⟨⟨c0, f0⟩, r2⟩ := store1 (keepRow R1.out hb2) (.complex .f64 x' y')
    have R2 := hide r2
    have HB3 := hide (HB2.out.setCell (show w.heap.size ≤ (⟨w.heap.size + 1, 0, none⟩ : Addr).block by simp) (.complex .f64 x' y'))
    clear hx' hy' hb2 r2 c1
    go_wp2_with fail
    have d0 := row1W R2.out
    refine bodyPost_ret (v := .tuple #[.agg #[.complex .f64 x' y'], .bool true]) ?_ rfl ⟨_, Hv.out, rfl, HB3.out⟩
    rw [results_cell_tmp rfl]
    go_simp
set_option maxHeartbeats 1600000 in
theorem take_no {v : Value} {a b : Int} (s n i : Int) (h : PV v a b) (hk : ¬ TkOk a b s n i) (hn1 : -9223372036854775808 ≤ n) (hn2 : n ≤ 9223372036854775807) (w : World) :
    Calls Try.prog 69 #[.agg #[v], .int .i64 s, .int .i64 n, .int .i64 i] w fun e w' => e = .returned (.tuple #[.agg #[.complex .f64 0 0], .bool false]) ∧ Below w.heap.size w w' := by
  obtain ⟨ha, hb⟩ := h.amW
  have hs := sideN_am s ha hb
  have hst := fun (W : World) (x y : Nat) => run_store Try.prog W ⟨w.heap.size + 1, 0, none⟩ (.complex .f64 x y) .plain rfl
  have HZ := hide (zeroW w v)
  have RZ := hide (zeroR w v)
  have RV := hide (zeroV w v)
  cases hv : vlB s i with
  | false =>
    have h1 := fun W => wroom_no s i h hv W
    clear h ha hb hs hk hv
    go_enter Try.func69, Try.ntmps69
    go_wp2_with fail
    refine (h1 _).mono ?_
    rintro e w1 ⟨rfl, hb1⟩
    obtain ⟨⟨c0, f0⟩, r2⟩ := store1 (keepRow RZ.out hb1) (.complex .f64 0 0)
    have R2 := hide r2
    have HB3 := hide ((HZ.out.of hb1).setCell (show w.heap.size ≤ (⟨w.heap.size + 1, 0, none⟩ : Addr).block by simp) (.complex .f64 0 0))
    clear r2 hb1
    go_wp2_with fail
    have d0 := row1W R2.out
    refine bodyPost_ret (v := .tuple #[.agg #[.complex .f64 0 0], .bool false]) ?_ rfl ⟨rfl, HB3.out⟩
    rw [results_cell_tmp rfl]
    go_simp
  | true =>
    have h1 := fun W => wroom_yes s i h ha hb hv W
    obtain ⟨hs1, hi1, hi2⟩ := vlB_yes hv
    have hrng : -4503599627370496 ≤ i + sideN a b s ∧ i + sideN a b s ≤ 4503601774854143 := by unfold AmP at hs; omega
    by_cases h0 : n < 0
    · have d1 : decide (n < 0) = true := by simpa using h0
      generalize i + sideN a b s = r at *
      clear h ha hb hs hk hv hs1 hi1 hi2 hrng h0
      go_enter Try.func69, Try.ntmps69
      go_wp2_with fail
      refine (h1 _).mono ?_
      rintro e w1 ⟨rfl, hb1⟩
      obtain ⟨⟨c0, f0⟩, r2⟩ := store1 (keepRow RZ.out hb1) (.complex .f64 0 0)
      have R2 := hide r2
      have HB3 := hide ((HZ.out.of hb1).setCell (show w.heap.size ≤ (⟨w.heap.size + 1, 0, none⟩ : Addr).block by simp) (.complex .f64 0 0))
      clear r2 hb1
      go_wp2_with fail
      have d0 := row1W R2.out
      refine bodyPost_ret (v := .tuple #[.agg #[.complex .f64 0 0], .bool false]) ?_ rfl ⟨rfl, HB3.out⟩
      rw [results_cell_tmp rfl]
      go_simp
    have d1 : decide (n < 0) = false := by simpa using h0
    have hwn : IntKind.i64.wrap (-n) = -n := IntWalk.i64_in _ (by omega)
    by_cases hn0 : 0 < n ∧ i + sideN a b s < n
    · have d2 : decide (0 < n) = true := by simpa using hn0.1
      have d3 : decide (i + sideN a b s < n) = true := by simpa using hn0.2
      generalize i + sideN a b s = r at *
      clear h ha hb hs hk hv hs1 hi1 hi2 hrng h0 hn0
      go_enter Try.func69, Try.ntmps69
      go_wp2_with fail
      refine (h1 _).mono ?_
      rintro e w1 ⟨rfl, hb1⟩
      obtain ⟨⟨c0, f0⟩, r2⟩ := store1 (keepRow RZ.out hb1) (.complex .f64 0 0)
      have R2 := hide r2
      have HB3 := hide ((HZ.out.of hb1).setCell (show w.heap.size ≤ (⟨w.heap.size + 1, 0, none⟩ : Addr).block by simp) (.complex .f64 0 0))
      clear r2 hb1
      go_wp2_with fail
      have d0 := row1W R2.out
      refine bodyPost_ret (v := .tuple #[.agg #[.complex .f64 0 0], .bool false]) ?_ rfl ⟨rfl, HB3.out⟩
      rw [results_cell_tmp rfl]
      go_simp
    have hm : ¬ MvOk a b s (-n) := fun hm => hk ⟨hv, by omega, fun h => by omega, hm⟩
    have h2 := fun W => wmove_no s (-n) h hs1 hm (by omega) (by omega) W
    by_cases hp0 : 0 < n
    · have d2 : decide (0 < n) = true := by simpa using hp0
      have d3 : decide (i + sideN a b s < n) = false := by simp; omega
      generalize i + sideN a b s = r at *
      clear h ha hb hs hk hv hs1 hi1 hi2 hrng h0 hn0 hm hp0
      go_enter Try.func69, Try.ntmps69
      go_wp2_with fail
      refine (h1 _).mono ?_
      rintro e w1 ⟨rfl, hb1⟩
      have HB1 := hide (HZ.out.of hb1)
      have R1 := hide (keepRow RZ.out hb1)
      have V1 := hide (keepRow RV.out hb1)
      have l1 := rowLt R1.out
      have c1 := row1W V1.out
      clear hb1
      go_wp2_with fail
      refine (h2 _).mono ?_
      rintro e w2 ⟨rfl, hb2⟩
      have HB2 := hide (HB1.out.of hb2)
      obtain ⟨⟨c0, f0⟩, r2⟩ := store1 (keepRow R1.out hb2) (.complex .f64 0 0)
      have R2 := hide r2
      have HB3 := hide (HB2.out.setCell (show w.heap.size ≤ (⟨w.heap.size + 1, 0, none⟩ : Addr).block by simp) (.complex .f64 0 0))
      clear hb2 r2 c1
      go_wp2_with fail
      have d0 := row1W R2.out
      refine bodyPost_ret (v := .tuple #[.agg #[.complex .f64 0 0], .bool false]) ?_ rfl ⟨rfl, HB3.out⟩
      rw [results_cell_tmp rfl]
      go_simp
    · have d2 : decide (0 < n) = false := by simpa using hp0
      generalize i + sideN a b s = r at *
      clear h ha hb hs hk hv hs1 hi1 hi2 hrng h0 hn0 hm hp0
      go_enter Try.func69, Try.ntmps69
      go_wp2_with fail
      refine (h1 _).mono ?_
      rintro e w1 ⟨rfl, hb1⟩
      have HB1 := hide (HZ.out.of hb1)
      have R1 := hide (keepRow RZ.out hb1)
      have V1 := hide (keepRow RV.out hb1)
      have l1 := rowLt R1.out
      have c1 := row1W V1.out
      clear hb1
      go_wp2_with fail
      refine (h2 _).mono ?_
      rintro e w2 ⟨rfl, hb2⟩
      have HB2 := hide (HB1.out.of hb2)
      obtain ⟨⟨c0, f0⟩, r2⟩ := store1 (keepRow R1.out hb2) (.complex .f64 0 0)
      have R2 := hide r2
      have HB3 := hide (HB2.out.setCell (show w.heap.size ≤ (⟨w.heap.size + 1, 0, none⟩ : Addr).block by simp) (.complex .f64 0 0))
      clear hb2 r2 c1
      go_wp2_with fail
      have d0 := row1W R2.out
      refine bodyPost_ret (v := .tuple #[.agg #[.complex .f64 0 0], .bool false]) ?_ rfl ⟨rfl, HB3.out⟩
      rw [results_cell_tmp rfl]
      go_simp
set_option maxHeartbeats 1600000 in
theorem give_ok {v : Value} {a b : Int} (s n i : Int) (h : PV v a b) (hk : GvOk a b s n i) (w : World) :
    Calls Try.prog 70 #[.agg #[v], .int .i64 s, .int .i64 n, .int .i64 i] w fun e w' => ∃ v', PV v' (nA a s n) (nB b s n) ∧ e = .returned (.tuple #[.agg #[v'], .bool true]) ∧ Below w.heap.size w w' := by
  obtain ⟨ha, hb⟩ := h.amW
  obtain ⟨hv, h0, hr, hm⟩ := hk
  have h1 := fun W => wroom_yes s i h ha hb hv W
  have h2 := fun W => wmove_ok s n h (vlB_yes hv).1 hm W
  have hs := sideN_am s ha hb
  have hst := fun (W : World) (x y : Nat) => run_store Try.prog W ⟨w.heap.size + 1, 0, none⟩ (.complex .f64 x y) .plain rfl
  have HZ := hide (zeroW w v)
  have RZ := hide (zeroR w v)
  have RV := hide (zeroV w v)
  obtain ⟨_, hi1, hi2⟩ := vlB_yes hv
  have hrng : -4503599627370496 ≤ i + sideN a b s ∧ i + sideN a b s ≤ 4503601774854143 := by unfold AmP at hs; omega
  have hn63 : n ≤ 4503601774854143 := by
    have hm1 := hm.1
    unfold AmP at hm1
    omega
  have hwn : IntKind.i64.wrap (2147483647 - (i + sideN a b s)) = 2147483647 - (i + sideN a b s) := IntWalk.i64_in _ (by omega)
  generalize i + sideN a b s = r at *
  generalize nA a s n = p at *
  generalize nB b s n = q at *
  have d1 : decide (n < 0) = false := by simp; omega
  have d3 : decide (2147483647 - r < n) = false := by simp; omega
  clear ha hb hv h0 hr hm h hs hi1 hi2 hrng hn63
  go_enter Try.func70, Try.ntmps70
  go_wp2_with fail
  refine (h1 _).mono ?_
  rintro e w1 ⟨rfl, hb1⟩
  have HB1 := hide (HZ.out.of hb1)
  have R1 := hide (keepRow RZ.out hb1)
  have V1 := hide (keepRow RV.out hb1)
  have l1 := rowLt R1.out
  have c1 := row1W V1.out
  clear hb1
  go_wp2_with fail
  refine (h2 _).mono ?_
  rintro e w2 ⟨v', hv', rfl, hb2⟩
  obtain ⟨x', y', rfl, hx', hy'⟩ := hv'
  have Hv : Hid (PV (.complex .f64 x' y') p q) := ⟨x', y', rfl, hx', hy'⟩
  have HB2 := hide (HB1.out.of hb2)
  obtain ⟨⟨c0, f0⟩, r2⟩ := store1 (keepRow R1.out hb2) (.complex .f64 x' y')
  have R2 := hide r2
  have HB3 := hide (HB2.out.setCell (show w.heap.size ≤ (⟨w.heap.size + 1, 0, none⟩ : Addr).block by simp) (.complex .f64 x' y'))
  clear hx' hy' hb2 r2 c1
  go_wp2_with fail
  have d0 := row1W R2.out
  refine bodyPost_ret (v := .tuple #[.agg #[.complex .f64 x' y'], .bool true]) ?_ rfl ⟨_, Hv.out, rfl, HB3.out⟩
  rw [results_cell_tmp rfl]
  go_simp
set_option maxHeartbeats 1600000 in
theorem give_no {v : Value} {a b : Int} (s n i : Int) (h : PV v a b) (hk : ¬ GvOk a b s n i) (hn1 : -9223372036854775808 ≤ n) (hn2 : n ≤ 9223372036854775807) (w : World) :
    Calls Try.prog 70 #[.agg #[v], .int .i64 s, .int .i64 n, .int .i64 i] w fun e w' => e = .returned (.tuple #[.agg #[.complex .f64 0 0], .bool false]) ∧ Below w.heap.size w w' := by
  obtain ⟨ha, hb⟩ := h.amW
  have hs := sideN_am s ha hb
  have hst := fun (W : World) (x y : Nat) => run_store Try.prog W ⟨w.heap.size + 1, 0, none⟩ (.complex .f64 x y) .plain rfl
  have HZ := hide (zeroW w v)
  have RZ := hide (zeroR w v)
  have RV := hide (zeroV w v)
  cases hv : vlB s i with
  | false =>
    have h1 := fun W => wroom_no s i h hv W
    clear h ha hb hs hk hv
    go_enter Try.func70, Try.ntmps70
    go_wp2_with fail
    refine (h1 _).mono ?_
    rintro e w1 ⟨rfl, hb1⟩
    obtain ⟨⟨c0, f0⟩, r2⟩ := store1 (keepRow RZ.out hb1) (.complex .f64 0 0)
    have R2 := hide r2
    have HB3 := hide ((HZ.out.of hb1).setCell (show w.heap.size ≤ (⟨w.heap.size + 1, 0, none⟩ : Addr).block by simp) (.complex .f64 0 0))
    clear r2 hb1
    go_wp2_with fail
    have d0 := row1W R2.out
    refine bodyPost_ret (v := .tuple #[.agg #[.complex .f64 0 0], .bool false]) ?_ rfl ⟨rfl, HB3.out⟩
    rw [results_cell_tmp rfl]
    go_simp
  | true =>
    have h1 := fun W => wroom_yes s i h ha hb hv W
    obtain ⟨hs1, hi1, hi2⟩ := vlB_yes hv
    have hrng : -4503599627370496 ≤ i + sideN a b s ∧ i + sideN a b s ≤ 4503601774854143 := by unfold AmP at hs; omega
    by_cases h0 : n < 0
    · have d1 : decide (n < 0) = true := by simpa using h0
      generalize i + sideN a b s = r at *
      clear h ha hb hs hk hv hs1 hi1 hi2 hrng h0
      go_enter Try.func70, Try.ntmps70
      go_wp2_with fail
      refine (h1 _).mono ?_
      rintro e w1 ⟨rfl, hb1⟩
      obtain ⟨⟨c0, f0⟩, r2⟩ := store1 (keepRow RZ.out hb1) (.complex .f64 0 0)
      have R2 := hide r2
      have HB3 := hide ((HZ.out.of hb1).setCell (show w.heap.size ≤ (⟨w.heap.size + 1, 0, none⟩ : Addr).block by simp) (.complex .f64 0 0))
      clear r2 hb1
      go_wp2_with fail
      have d0 := row1W R2.out
      refine bodyPost_ret (v := .tuple #[.agg #[.complex .f64 0 0], .bool false]) ?_ rfl ⟨rfl, HB3.out⟩
      rw [results_cell_tmp rfl]
      go_simp
    have d1 : decide (n < 0) = false := by simpa using h0
    have hwn : IntKind.i64.wrap (2147483647 - (i + sideN a b s)) = 2147483647 - (i + sideN a b s) := IntWalk.i64_in _ (by omega)
    by_cases hn0 : 2147483647 - (i + sideN a b s) < n
    · have d3 : decide (2147483647 - (i + sideN a b s) < n) = true := by simpa using hn0
      generalize i + sideN a b s = r at *
      clear h ha hb hs hk hv hs1 hi1 hi2 hrng h0 hn0
      go_enter Try.func70, Try.ntmps70
      go_wp2_with fail
      refine (h1 _).mono ?_
      rintro e w1 ⟨rfl, hb1⟩
      obtain ⟨⟨c0, f0⟩, r2⟩ := store1 (keepRow RZ.out hb1) (.complex .f64 0 0)
      have R2 := hide r2
      have HB3 := hide ((HZ.out.of hb1).setCell (show w.heap.size ≤ (⟨w.heap.size + 1, 0, none⟩ : Addr).block by simp) (.complex .f64 0 0))
      clear r2 hb1
      go_wp2_with fail
      have d0 := row1W R2.out
      refine bodyPost_ret (v := .tuple #[.agg #[.complex .f64 0 0], .bool false]) ?_ rfl ⟨rfl, HB3.out⟩
      rw [results_cell_tmp rfl]
      go_simp
    have d3 : decide (2147483647 - (i + sideN a b s) < n) = false := by simpa using hn0
    have hm : ¬ MvOk a b s n := fun hm => hk ⟨hv, by omega, by omega, hm⟩
    have h2 := fun W => wmove_no s n h hs1 hm (by omega) (by omega) W
    generalize i + sideN a b s = r at *
    clear h ha hb hs hk hv hs1 hi1 hi2 hrng h0 hn0 hm
    go_enter Try.func70, Try.ntmps70
    go_wp2_with fail
    refine (h1 _).mono ?_
    rintro e w1 ⟨rfl, hb1⟩
    have HB1 := hide (HZ.out.of hb1)
    have R1 := hide (keepRow RZ.out hb1)
    have V1 := hide (keepRow RV.out hb1)
    have l1 := rowLt R1.out
    have c1 := row1W V1.out
    clear hb1
    go_wp2_with fail
    refine (h2 _).mono ?_
    rintro e w2 ⟨rfl, hb2⟩
    have HB2 := hide (HB1.out.of hb2)
    obtain ⟨⟨c0, f0⟩, r2⟩ := store1 (keepRow R1.out hb2) (.complex .f64 0 0)
    have R2 := hide r2
    have HB3 := hide (HB2.out.setCell (show w.heap.size ≤ (⟨w.heap.size + 1, 0, none⟩ : Addr).block by simp) (.complex .f64 0 0))
    clear hb2 r2 c1
    go_wp2_with fail
    have d0 := row1W R2.out
    refine bodyPost_ret (v := .tuple #[.agg #[.complex .f64 0 0], .bool false]) ?_ rfl ⟨rfl, HB3.out⟩
    rw [results_cell_tmp rfl]
    go_simp
end Go.Proofs.Ytopgcimjdlhclaa
