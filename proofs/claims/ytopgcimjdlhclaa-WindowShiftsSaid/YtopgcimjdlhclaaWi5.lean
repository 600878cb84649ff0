/- Layer 31: a step, on both sides; the example. -/
import Derived.Test.YtopgcimjdlhclaaWi4
namespace Go.Proofs.Ytopgcimjdlhclaa
open Go.RowKit

def StOk (g : Bool) (a b s n i : Int) : Prop := match g with | true => GvOk a b s n i | false => TkOk a b s n i
def stN (g : Bool) (n : Int) : Int := match g with | true => n | false => -n
theorem row4W {w : World} {b : Nat} {T : TypeId} {v0 v1 v2 v3 : Value} (h : w.heap[b]? = some (.cells #[v0, v1, v2, v3] T (0, 0))) : w.cell? ⟨b, 0, none⟩ = some v0 ∧ w.cell? ⟨b, 1, none⟩ = some v1 ∧ w.cell? ⟨b, 2, none⟩ = some v2 ∧ w.cell? ⟨b, 3, none⟩ = some v3 := by
  refine ⟨?_, ?_, ?_, ?_⟩
  · rw [cell_of_row w b 0 _ _ _ h]; rfl
  · rw [cell_of_row w b 1 _ _ _ h]; rfl
  · rw [cell_of_row w b 2 _ _ _ h]; rfl
  · rw [cell_of_row w b 3 _ _ _ h]; rfl
abbrev StC (g : Bool) (s n i : Int) : Array Value := #[.bool g, .int .i64 s, .int .i64 n, .int .i64 i]
theorem st3B (w : World) (c1 c2 c3 : Array Value) (t1 t2 t3 : TypeId) : Below w.heap.size w (((w.alloc (.cells c1 t1)).alloc (.cells c2 t2)).alloc (.cells c3 t3)) := (((Below.refl _ _).alloc (Nat.le_refl _) _).alloc (by simp) _).alloc (by simp; omega) _
theorem st3R (w : World) (c1 c2 c3 : Array Value) (t1 t2 t3 : TypeId) : (((w.alloc (.cells c1 t1)).alloc (.cells c2 t2)).alloc (.cells c3 t3)).heap[w.heap.size + 2]? = some (.cells c3 t3 (0, 0)) := heap_alloc_newW _ _ (by simp)
theorem st3P (w : World) (c1 c2 c3 : Array Value) (t1 t2 t3 : TypeId) : (((w.alloc (.cells c1 t1)).alloc (.cells c2 t2)).alloc (.cells c3 t3)).heap[w.heap.size]? = some (.cells c1 t1 (0, 0)) := keepRow (keepRow (heap_alloc_new w _) ((Below.refl _ _).alloc (Nat.le_refl _) _)) ((Below.refl _ _).alloc (Nat.le_refl _) _)
theorem st3Q (w : World) (c1 c2 c3 : Array Value) (t1 t2 t3 : TypeId) : (((w.alloc (.cells c1 t1)).alloc (.cells c2 t2)).alloc (.cells c3 t3)).heap[w.heap.size + 1]? = some (.cells c2 t2 (0, 0)) := keepRow (heap_alloc_newW _ _ (by simp)) ((Below.refl _ _).alloc (Nat.le_refl _) _)
set_option maxHeartbeats 1600000 in
theorem step_ok {v : Value} {a b : Int} (g : Bool) (s n i : Int) (h : PV v a b) (hk : StOk g a b s n i) (hn1 : -9223372036854775808 ≤ n) (hn2 : n ≤ 9223372036854775807) (w : World) :
    Calls Try.prog 32 #[.agg #[v], .agg (StC g s n i)] w fun e w' => ∃ v', PV v' (nA a s (stN g n)) (nB b s (stN g n)) ∧ e = .returned (.tuple #[.agg #[v'], .bool true]) ∧ Below w.heap.size w w' := by
  have hst := fun (W : World) (x y : Nat) => run_store Try.prog W ⟨w.heap.size + 2, 0, none⟩ (.complex .f64 x y) .plain rfl
  unfold StC
  cases g
  case false =>
    have hc := fun W => take_ok s n i h hk W
    have HZ := hide (st3B w #[v] #[.bool false, .int .i64 s, .int .i64 n, .int .i64 i] #[.complex .f64 0 0] 52 56 52)
    have RZ := hide (st3R w #[v] #[.bool false, .int .i64 s, .int .i64 n, .int .i64 i] #[.complex .f64 0 0] 52 56 52)
    have RP := hide (st3P w #[v] #[.bool false, .int .i64 s, .int .i64 n, .int .i64 i] #[.complex .f64 0 0] 52 56 52)
    have RQ := hide (st3Q w #[v] #[.bool false, .int .i64 s, .int .i64 n, .int .i64 i] #[.complex .f64 0 0] 52 56 52)
    have p0 := row1W RP.out
    obtain ⟨q0, q1, q2, q3⟩ := row4W RQ.out
    clear h hk hn1 hn2
    show Calls _ _ _ _ fun e w' => ∃ v', PV v' (nA a s (-n)) (nB b s (-n)) ∧ e = .returned (.tuple #[.agg #[v'], .bool true]) ∧ Below w.heap.size w w'
    generalize nA a s (-n) = p at *
    generalize nB b s (-n) = q at *
    go_enter Try.func32, Try.ntmps32
    go_wp2_with fail
    refine (hc _).mono ?_
    rintro e w1 ⟨v', hv', rfl, hb1⟩
    obtain ⟨x', y', rfl, hx', hy'⟩ := hv'
    have Hv : Hid (PV (.complex .f64 x' y') p q) := ⟨x', y', rfl, hx', hy'⟩
    clear hx' hy'
    obtain ⟨⟨c0, f0⟩, r2⟩ := store1 (keepRow RZ.out hb1) (.complex .f64 x' y')
    have R2 := hide r2
    have HB3 := hide ((HZ.out.of hb1).setCell (show w.heap.size ≤ (⟨w.heap.size + 2, 0, none⟩ : Addr).block by simp) (.complex .f64 x' y'))
    clear hb1 r2 p0 q0 q1 q2 q3
    go_wp2_with fail
    have d0 := row1W R2.out
    refine bodyPost_ret (v := .tuple #[.agg #[.complex .f64 x' y'], .bool true]) ?_ rfl ⟨_, Hv.out, rfl, HB3.out⟩
    rw [results_cell_tmp rfl]
    go_simp
  case true =>
    have hc := fun W => give_ok s n i h hk W
    have HZ := hide (st3B w #[v] #[.bool true, .int .i64 s, .int .i64 n, .int .i64 i] #[.complex .f64 0 0] 52 56 52)
    have RZ := hide (st3R w #[v] #[.bool true, .int .i64 s, .int .i64 n, .int .i64 i] #[.complex .f64 0 0] 52 56 52)
    have RP := hide (st3P w #[v] #[.bool true, .int .i64 s, .int .i64 n, .int .i64 i] #[.complex .f64 0 0] 52 56 52)
    have RQ := hide (st3Q w #[v] #[.bool true, .int .i64 s, .int .i64 n, .int .i64 i] #[.complex .f64 0 0] 52 56 52)
    have p0 := row1W RP.out
    obtain ⟨q0, q1, q2, q3⟩ := row4W RQ.out
    clear h hk hn1 hn2
    show Calls _ _ _ _ fun e w' => ∃ v', PV v' (nA a s n) (nB b s n) ∧ e = .returned (.tuple #[.agg #[v'], .bool true]) ∧ Below w.heap.size w w'
    generalize nA a s n = p at *
    generalize nB b s n = q at *
    go_enter Try.func32, Try.ntmps32
    go_wp2_with fail
    refine (hc _).mono ?_
    rintro e w1 ⟨v', hv', rfl, hb1⟩
    obtain ⟨x', y', rfl, hx', hy'⟩ := hv'
    have Hv : Hid (PV (.complex .f64 x' y') p q) := ⟨x', y', rfl, hx', hy'⟩
    clear hx' hy'
    obtain ⟨⟨c0, f0⟩, r2⟩ := store1 (keepRow RZ.out hb1) (.complex .f64 x' y')
    have R2 := hide r2
    have HB3 := hide ((HZ.out.of hb1).setCell (show w.heap.size ≤ (⟨w.heap.size + 2, 0, none⟩ : Addr).block by simp) (.complex .f64 x' y'))
    clear hb1 r2 p0 q0 q1 q2 q3
    go_wp2_with fail
    have d0 := row1W R2.out
    refine bodyPost_ret (v := .tuple #[.agg #[.complex .f64 x' y'], .bool true]) ?_ rfl ⟨_, Hv.out, rfl, HB3.out⟩
    rw [results_cell_tmp rfl]
    go_simp
set_option maxHeartbeats 1600000 in
theorem step_no {v : Value} {a b : Int} (g : Bool) (s n i : Int) (h : PV v a b) (hk : ¬ StOk g a b s n i) (hn1 : -9223372036854775808 ≤ n) (hn2 : n ≤ 9223372036854775807) (w : World) :
    Calls Try.prog 32 #[.agg #[v], .agg (StC g s n i)] w fun e w' => e = .returned (.tuple #[.agg #[.complex .f64 0 0], .bool false]) ∧ Below w.heap.size w w' := by
  have hst := fun (W : World) (x y : Nat) => run_store Try.prog W ⟨w.heap.size + 2, 0, none⟩ (.complex .f64 x y) .plain rfl
  unfold StC
  cases g
  case false =>
    have hc := fun W => take_no s n i h hk hn1 hn2 W
    have HZ := hide (st3B w #[v] #[.bool false, .int .i64 s, .int .i64 n, .int .i64 i] #[.complex .f64 0 0] 52 56 52)
    have RZ := hide (st3R w #[v] #[.bool false, .int .i64 s, .int .i64 n, .int .i64 i] #[.complex .f64 0 0] 52 56 52)
    have RP := hide (st3P w #[v] #[.bool false, .int .i64 s, .int .i64 n, .int .i64 i] #[.complex .f64 0 0] 52 56 52)
    have RQ := hide (st3Q w #[v] #[.bool false, .int .i64 s, .int .i64 n, .int .i64 i] #[.complex .f64 0 0] 52 56 52)
    have p0 := row1W RP.out
    obtain ⟨q0, q1, q2, q3⟩ := row4W RQ.out
    clear h hk hn1 hn2
    go_enter Try.func32, Try.ntmps32
    go_wp2_with fail
    refine (hc _).mono ?_
    rintro e w1 ⟨rfl, hb1⟩
    obtain ⟨⟨c0, f0⟩, r2⟩ := store1 (keepRow RZ.out hb1) (.complex .f64 0 0)
    have R2 := hide r2
    have HB3 := hide ((HZ.out.of hb1).setCell (show w.heap.size ≤ (⟨w.heap.size + 2, 0, none⟩ : Addr).block by simp) (.complex .f64 0 0))
    clear hb1 r2 p0 q0 q1 q2 q3
    go_wp2_with fail
    have d0 := row1W R2.out
    refine bodyPost_ret (v := .tuple #[.agg #[.complex .f64 0 0], .bool false]) ?_ rfl ⟨rfl, HB3.out⟩
    rw [results_cell_tmp rfl]
    go_simp
  case true =>
    have hc := fun W => give_no s n i h hk hn1 hn2 W
    have HZ := hide (st3B w #[v] #[.bool true, .int .i64 s, .int .i64 n, .int .i64 i] #[.complex .f64 0 0] 52 56 52)
    have RZ := hide (st3R w #[v] #[.bool true, .int .i64 s, .int .i64 n, .int .i64 i] #[.complex .f64 0 0] 52 56 52)
    have RP := hide (st3P w #[v] #[.bool true, .int .i64 s, .int .i64 n, .int .i64 i] #[.complex .f64 0 0] 52 56 52)
    have RQ := hide (st3Q w #[v] #[.bool true, .int .i64 s, .int .i64 n, .int .i64 i] #[.complex .f64 0 0] 52 56 52)
    have p0 := row1W RP.out
    obtain ⟨q0, q1, q2, q3⟩ := row4W RQ.out
    clear h hk hn1 hn2
    go_enter Try.func32, Try.ntmps32
    go_wp2_with fail
    refine (hc _).mono ?_
    rintro e w1 ⟨rfl, hb1⟩
    obtain ⟨⟨c0, f0⟩, r2⟩ := store1 (keepRow RZ.out hb1) (.complex .f64 0 0)
    have R2 := hide r2
    have HB3 := hide ((HZ.out.of hb1).setCell (show w.heap.size ≤ (⟨w.heap.size + 2, 0, none⟩ : Addr).block by simp) (.complex .f64 0 0))
    clear hb1 r2 p0 q0 q1 q2 q3
    go_wp2_with fail
    have d0 := row1W R2.out
    refine bodyPost_ret (v := .tuple #[.agg #[.complex .f64 0 0], .bool false]) ?_ rfl ⟨rfl, HB3.out⟩
    rw [results_cell_tmp rfl]
    go_simp
set_option maxHeartbeats 1600000 in
theorem want_ok {a b : Int} (g : Bool) (s n i : Int) (ha : AmP a) (hb : AmP b) (hk : StOk g a b s n i) (hn1 : -9223372036854775808 ≤ n) (hn2 : n ≤ 9223372036854775807) (w : World) :
    Calls Try.prog 33 #[.agg #[.int .i64 a, .int .i64 b], .agg (StC g s n i)] w fun e w' => e = .returned (.tuple #[.agg #[.int .i64 (nA a s (stN g n)), .int .i64 (nB b s (stN g n))], .bool true]) ∧ Below w.heap.size w w' := by
  unfold StC
  cases g
  case false =>
    have hc := fun W => rtake_ok s n i ha hb hk W
    have HZ := hide (st3B w #[.int .i64 a, .int .i64 b] #[.bool false, .int .i64 s, .int .i64 n, .int .i64 i] #[.int .i64 0, .int .i64 0] 54 56 54)
    have RZ := hide (st3R w #[.int .i64 a, .int .i64 b] #[.bool false, .int .i64 s, .int .i64 n, .int .i64 i] #[.int .i64 0, .int .i64 0] 54 56 54)
    have RP := hide (st3P w #[.int .i64 a, .int .i64 b] #[.bool false, .int .i64 s, .int .i64 n, .int .i64 i] #[.int .i64 0, .int .i64 0] 54 56 54)
    have RQ := hide (st3Q w #[.int .i64 a, .int .i64 b] #[.bool false, .int .i64 s, .int .i64 n, .int .i64 i] #[.int .i64 0, .int .i64 0] 54 56 54)
    obtain ⟨p0, p1⟩ := row2 RP.out
    obtain ⟨q0, q1, q2, q3⟩ := row4W RQ.out
    clear ha hb hk hn1 hn2
    show Calls _ _ _ _ fun e w' => e = .returned (.tuple #[.agg #[.int .i64 (nA a s (-n)), .int .i64 (nB b s (-n))], .bool true]) ∧ Below w.heap.size w w'
    generalize nA a s (-n) = p at *
    generalize nB b s (-n) = q at *
    go_enter Try.func33, Try.ntmps33
    go_wp2_with fail
    refine (hc _).mono ?_
    rintro e w1 ⟨rfl, hb1⟩
    obtain ⟨⟨c0, f0⟩, ⟨c1, f1⟩, r2⟩ := store2 (keepRow RZ.out hb1) (.int .i64 p) (.int .i64 q)
    have R2 := hide r2
    have HB3 := hide (below2 (HZ.out.of hb1) (p := w.heap.size + 2) (by omega) (.int .i64 p) (.int .i64 q))
    clear hb1 r2 p0 p1 q0 q1 q2 q3
    go_wp2_with fail
    obtain ⟨d0, d1⟩ := row2 R2.out
    refine bodyPost_ret (v := .tuple #[.agg #[.int .i64 p, .int .i64 q], .bool true]) ?_ rfl ⟨rfl, HB3.out⟩
    rw [results_cell_tmp rfl]
    go_simp
  case true =>
    have hc := fun W => rgive_ok s n i ha hb hk W
    have HZ := hide (st3B w #[.int .i64 a, .int .i64 b] #[.bool true, .int .i64 s, .int .i64 n, .int .i64 i] #[.int .i64 0, .int .i64 0] 54 56 54)
    have RZ := hide (st3R w #[.int .i64 a, .int .i64 b] #[.bool true, .int .i64 s, .int .i64 n, .int .i64 i] #[.int .i64 0, .int .i64 0] 54 56 54)
    have RP := hide (st3P w #[.int .i64 a, .int .i64 b] #[.bool true, .int .i64 s, .int .i64 n, .int .i64 i] #[.int .i64 0, .int .i64 0] 54 56 54)
    have RQ := hide (st3Q w #[.int .i64 a, .int .i64 b] #[.bool true, .int .i64 s, .int .i64 n, .int .i64 i] #[.int .i64 0, .int .i64 0] 54 56 54)
    obtain ⟨p0, p1⟩ := row2 RP.out
    obtain ⟨q0, q1, q2, q3⟩ := row4W RQ.out
    clear ha hb hk hn1 hn2
    show Calls _ _ _ _ fun e w' => e = .returned (.tuple #[.agg #[.int .i64 (nA a s n), .int .i64 (nB b s n)], .bool true]) ∧ Below w.heap.size w w'
    generalize nA a s n = p at *
    generalize nB b s n = q at *
    go_enter Try.func33, Try.ntmps33
    go_wp2_with fail
    refine (hc _).mono ?_
    rintro e w1 ⟨rfl, hb1⟩
    obtain ⟨⟨c0, f0⟩, ⟨c1, f1⟩, r2⟩ := store2 (keepRow RZ.out hb1) (.int .i64 p) (.int .i64 q)
    have R2 := hide r2
    have HB3 := hide (below2 (HZ.out.of hb1) (p := w.heap.size + 2) (by omega) (.int .i64 p) (.int .i64 q))
    clear hb1 r2 p0 p1 q0 q1 q2 q3
    go_wp2_with fail
    obtain ⟨d0, d1⟩ := row2 R2.out
    refine bodyPost_ret (v := .tuple #[.agg #[.int .i64 p, .int .i64 q], .bool true]) ?_ rfl ⟨rfl, HB3.out⟩
    rw [results_cell_tmp rfl]
    go_simp
set_option maxHeartbeats 1600000 in
theorem want_no {a b : Int} (g : Bool) (s n i : Int) (ha : AmP a) (hb : AmP b) (hk : ¬ StOk g a b s n i) (hn1 : -9223372036854775808 ≤ n) (hn2 : n ≤ 9223372036854775807) (w : World) :
    Calls Try.prog 33 #[.agg #[.int .i64 a, .int .i64 b], .agg (StC g s n i)] w fun e w' => e = .returned (.tuple #[.agg #[.int .i64 0, .int .i64 0], .bool false]) ∧ Below w.heap.size w w' := by
  unfold StC
  cases g
  case false =>
    have hc := fun W => rtake_no s n i ha hb hk hn1 hn2 W
    have HZ := hide (st3B w #[.int .i64 a, .int .i64 b] #[.bool false, .int .i64 s, .int .i64 n, .int .i64 i] #[.int .i64 0, .int .i64 0] 54 56 54)
    have RZ := hide (st3R w #[.int .i64 a, .int .i64 b] #[.bool false, .int .i64 s, .int .i64 n, .int .i64 i] #[.int .i64 0, .int .i64 0] 54 56 54)
    have RP := hide (st3P w #[.int .i64 a, .int .i64 b] #[.bool false, .int .i64 s, .int .i64 n, .int .i64 i] #[.int .i64 0, .int .i64 0] 54 56 54)
    have RQ := hide (st3Q w #[.int .i64 a, .int .i64 b] #[.bool false, .int .i64 s, .int .i64 n, .int .i64 i] #[.int .i64 0, .int .i64 0] 54 56 54)
    obtain ⟨p0, p1⟩ := row2 RP.out
    obtain ⟨q0, q1, q2, q3⟩ := row4W RQ.out
    clear ha hb hk hn1 hn2
    go_enter Try.func33, Try.ntmps33
    go_wp2_with fail
    refine (hc _).mono ?_
    rintro e w1 ⟨rfl, hb1⟩
    obtain ⟨⟨c0, f0⟩, ⟨c1, f1⟩, r2⟩ := store2 (keepRow RZ.out hb1) (.int .i64 0) (.int .i64 0)
    have R2 := hide r2
    have HB3 := hide (below2 (HZ.out.of hb1) (p := w.heap.size + 2) (by omega) (.int .i64 0) (.int .i64 0))
    clear hb1 r2 p0 p1 q0 q1 q2 q3
    go_wp2_with fail
    obtain ⟨d0, d1⟩ := row2 R2.out
    refine bodyPost_ret (v := .tuple #[.agg #[.int .i64 0, .int .i64 0], .bool false]) ?_ rfl ⟨rfl, HB3.out⟩
    rw [results_cell_tmp rfl]
    go_simp
  case true =>
    have hc := fun W => rgive_no s n i ha hb hk hn1 hn2 W
    have HZ := hide (st3B w #[.int .i64 a, .int .i64 b] #[.bool true, .int .i64 s, .int .i64 n, .int .i64 i] #[.int .i64 0, .int .i64 0] 54 56 54)
    have RZ := hide (st3R w #[.int .i64 a, .int .i64 b] #[.bool true, .int .i64 s, .int .i64 n, .int .i64 i] #[.int .i64 0, .int .i64 0] 54 56 54)
    have RP := hide (st3P w #[.int .i64 a, .int .i64 b] #[.bool true, .int .i64 s, .int .i64 n, .int .i64 i] #[.int .i64 0, .int .i64 0] 54 56 54)
    have RQ := hide (st3Q w #[.int .i64 a, .int .i64 b] #[.bool true, .int .i64 s, .int .i64 n, .int .i64 i] #[.int .i64 0, .int .i64 0] 54 56 54)
    obtain ⟨p0, p1⟩ := row2 RP.out
    obtain ⟨q0, q1, q2, q3⟩ := row4W RQ.out
    clear ha hb hk hn1 hn2
    go_enter Try.func33, Try.ntmps33
    go_wp2_with fail
    refine (hc _).mono ?_
    rintro e w1 ⟨rfl, hb1⟩
    obtain ⟨⟨c0, f0⟩, ⟨c1, f1⟩, r2⟩ := store2 (keepRow RZ.out hb1) (.int .i64 0) (.int .i64 0)
    have R2 := hide r2
    have HB3 := hide (below2 (HZ.out.of hb1) (p := w.heap.size + 2) (by omega) (.int .i64 0) (.int .i64 0))
    clear hb1 r2 p0 p1 q0 q1 q2 q3
    go_wp2_with fail
    obtain ⟨d0, d1⟩ := row2 R2.out
    refine bodyPost_ret (v := .tuple #[.agg #[.int .i64 0, .int .i64 0], .bool false]) ?_ rfl ⟨rfl, HB3.out⟩
    rw [results_cell_tmp rfl]
    go_simp
end Go.Proofs.Ytopgcimjdlhclaa
