/- Layer 31: what is taken and given, on both sides. -/
import Derived.Test.YtopgcimjdlhclaaWi1
import Derived.Laws.ResultCell
namespace Go.Proofs.Ytopgcimjdlhclaa
open Go.RowKit

theorem PV.amW {v : Value} {a b : Int} (h : PV v a b) : AmP a ∧ AmP b := by
  obtain ⟨x, y, _, h1, h2⟩ := h
  exact ⟨h1.2, h2.2⟩
def nA (a s n : Int) : Int := if s = 0 then a + n else a
def nB (b s n : Int) : Int := if s = 0 then b else b + n
def MvOk (a b s n : Int) : Prop := AmP n ∧ AmP (sideN a b s + n)
instance (a b s n : Int) : Decidable (MvOk a b s n) := inferInstanceAs (Decidable (_ ∧ _))
theorem pmove_ok {v : Value} {a b : Int} (s n : Int) (h : PV v a b) (hs : s = 0 ∨ s = 1) (hm : MvOk a b s n) (w : World) :
    Calls Try.prog 101 #[v, .int .i64 s, .int .i64 n] w fun e w' => ∃ v', PV v' (nA a s n) (nB b s n) ∧ e = .returned (.tuple #[v', .int .i64 0]) ∧ w = w' := by
  obtain ⟨ha, hb⟩ := h.amW
  obtain ⟨hn, hp⟩ := hm
  rcases hs with rfl | rfl
  · obtain ⟨v', k, hv, hc⟩ := move0_any n h hn w
    rcases hv with ⟨_, _, h5, rfl⟩ | ⟨h3, _, _⟩
    · exact hc.mono fun e w' ⟨he, hw⟩ => ⟨v', h5, he, hw⟩
    · exact absurd ⟨hp, hb⟩ h3
  · obtain ⟨v', k, hv, hc⟩ := move1_any n h hn w
    rcases hv with ⟨_, _, h5, rfl⟩ | ⟨h3, _, _⟩
    · exact hc.mono fun e w' ⟨he, hw⟩ => ⟨v', h5, he, hw⟩
    · exact absurd ⟨ha, hp⟩ h3
theorem pmove_no {v : Value} {a b : Int} (s n : Int) (h : PV v a b) (hs : s = 0 ∨ s = 1) (hm : ¬ MvOk a b s n) (h1 : -9223372036854775808 ≤ n) (h2 : n ≤ 9223372036854775807) (w : World) :
    Calls Try.prog 101 #[v, .int .i64 s, .int .i64 n] w fun e w' => e = .returned (.tuple #[.complex .f64 0 0, .int .i64 5]) ∧ w = w' := by
  by_cases hn : AmP n
  · rcases hs with rfl | rfl
    · obtain ⟨v', k, hv, hc⟩ := move0_any n h hn w
      rcases hv with ⟨h3, _, _, _⟩ | ⟨_, rfl, rfl⟩
      · exact absurd ⟨hn, h3⟩ hm
      · exact hc
    · obtain ⟨v', k, hv, hc⟩ := move1_any n h hn w
      rcases hv with ⟨_, h3, _, _⟩ | ⟨_, rfl, rfl⟩
      · exact absurd ⟨hn, h3⟩ hm
      · exact hc
  · rcases hs with rfl | rfl
    · exact move0_far n h hn h1 h2 w
    · exact move1_far n h hn h1 h2 w
theorem rmove_yes {a b : Int} (s n : Int) (ha : AmP a) (hb : AmP b) (hs : s = 0 ∨ s = 1) (hm : MvOk a b s n) (w : World) :
    Calls Try.prog 91 #[.agg #[.int .i64 a, .int .i64 b], .int .i64 s, .int .i64 n] w fun e w' => e = .returned (.tuple #[.agg #[.int .i64 (nA a s n), .int .i64 (nB b s n)], .int .i64 0]) ∧ Below w.heap.size w w' := by
  obtain ⟨hn, hp⟩ := hm
  rcases hs with rfl | rfl
  · exact rmove_ok0 n hn hp ha hb w
  · exact rmove_ok1 n hn hp ha hb w
theorem rmove_not {a b : Int} (s n : Int) (ha : AmP a) (hb : AmP b) (hs : s = 0 ∨ s = 1) (hm : ¬ MvOk a b s n) (w : World) :
    Calls Try.prog 91 #[.agg #[.int .i64 a, .int .i64 b], .int .i64 s, .int .i64 n] w fun e w' => e = .returned (.tuple #[.agg #[.int .i64 0, .int .i64 0], .int .i64 5]) ∧ Below w.heap.size w w' := by
  by_cases hn : AmP n
  · rcases hs with rfl | rfl
    · exact rmove_over0 n hn (fun h => hm ⟨hn, h⟩) ha hb w
    · exact rmove_over1 n hn (fun h => hm ⟨hn, h⟩) ha hb w
  · rcases hs with rfl | rfl
    · exact rmove_far0 n hn ha hb w
    · exact rmove_far1 n hn ha hb w
/-- A struct of one cell is stored. -/
theorem store1 {w : World} {p : Nat} {T : TypeId} {a0 : Value} (h : w.heap[p]? = some (.cells #[a0] T (0, 0))) (b0 : Value) :
    (w.cell? ⟨p, 0, none⟩ = some a0 ∧ w.frozen? ⟨p, 0, none⟩ = false) ∧ (w.setCell ⟨p, 0, none⟩ b0).heap[p]? = some (.cells #[b0] T (0, 0)) := by
  have h1 := setRow w p 0 b0 h
  simp only [List.setIfInBounds_toArray, List.set_cons_zero] at h1
  refine ⟨⟨?_, frozenRow h 0⟩, h1⟩
  rw [cell_of_row w p 0 _ _ _ h]
  rfl
theorem row1W {w : World} {b : Nat} {T : TypeId} {v0 : Value} (h : w.heap[b]? = some (.cells #[v0] T (0, 0))) : w.cell? ⟨b, 0, none⟩ = some v0 := by
  rw [cell_of_row w b 0 _ _ _ h]; rfl
theorem heap_alloc_newW {n : Nat} (w : World) (o : Obj) (h : n = w.heap.size) : (w.alloc o).heap[n]? = some o := by subst h; exact heap_alloc_new w o
theorem wmove_ok {v : Value} {a b : Int} (s n : Int) (h : PV v a b) (hs : s = 0 ∨ s = 1) (hm : MvOk a b s n) (w : World) :
    Calls Try.prog 90 #[.agg #[v], .int .i64 s, .int .i64 n] w fun e w' => ∃ v', PV v' (nA a s n) (nB b s n) ∧ e = .returned (.tuple #[.agg #[v'], .bool true]) ∧ Below w.heap.size w w' := by
  have hc := fun W => pmove_ok s n h hs hm W
  clear h hs hm
  generalize nA a s n = p at *
  generalize nB b s n = q at *
  go_enter Try.func90, Try.ntmps90
  go_wp2_with fail
  refine (hc _).mono ?_
  rintro e w1 ⟨v', hv', rfl, rfl⟩
  obtain ⟨x', y', rfl, hx', hy'⟩ := hv'
  have Hv : Hid (PV (.complex .f64 x' y') p q) := ⟨x', y', rfl, hx', hy'⟩
  clear hx' hy'
  obtain ⟨⟨c0, f0⟩, r1⟩ := store1 (heap_alloc_newW (n := w.heap.size + 1) (w.alloc (.cells #[v] 52)) (.cells #[.complex .f64 0 0] 52) (by simp)) (.complex .f64 x' y')
  have HB1 := hide ((((Below.refl w.heap.size w).alloc (Nat.le_refl _) (.cells #[v] 52)).alloc (by simp) (.cells #[.complex .f64 0 0] 52)).setCell (show w.heap.size ≤ (⟨w.heap.size + 1, 0, none⟩ : Addr).block by simp) (.complex .f64 x' y'))
  have R1 := hide r1
  clear r1
  have hst := fun (W : World) (x y : Nat) => run_store Try.prog W ⟨w.heap.size + 1, 0, none⟩ (.complex .f64 x y) .plain rfl
  go_wp2_with fail
  refine bodyPost_ret (v := .tuple #[.agg #[.complex .f64 x' y'], .bool true]) ?_ rfl ⟨_, Hv.out, rfl, ?_⟩
  · rw [results_cell_tmp rfl]
    go_simp
  · go_grown
theorem wmove_no {v : Value} {a b : Int} (s n : Int) (h : PV v a b) (hs : s = 0 ∨ s = 1) (hm : ¬ MvOk a b s n) (h1 : -9223372036854775808 ≤ n) (h2 : n ≤ 9223372036854775807) (w : World) :
    Calls Try.prog 90 #[.agg #[v], .int .i64 s, .int .i64 n] w fun e w' => e = .returned (.tuple #[.agg #[.complex .f64 0 0], .bool false]) ∧ Below w.heap.size w w' := by
  have hc := fun W => pmove_no s n h hs hm h1 h2 W
  clear h hs hm h1 h2
  go_enter Try.func90, Try.ntmps90
  go_wp2_with fail
  refine (hc _).mono ?_
  rintro e w1 ⟨rfl, rfl⟩
  obtain ⟨⟨c0, f0⟩, r1⟩ := store1 (heap_alloc_newW (n := w.heap.size + 1) (w.alloc (.cells #[v] 52)) (.cells #[.complex .f64 0 0] 52) (by simp)) (.complex .f64 0 0)
  have HB1 := hide ((((Below.refl w.heap.size w).alloc (Nat.le_refl _) (.cells #[v] 52)).alloc (by simp) (.cells #[.complex .f64 0 0] 52)).setCell (show w.heap.size ≤ (⟨w.heap.size + 1, 0, none⟩ : Addr).block by simp) (.complex .f64 0 0))
  have R1 := hide r1
  clear r1
  have hst := fun (W : World) (x y : Nat) => run_store Try.prog W ⟨w.heap.size + 1, 0, none⟩ (.complex .f64 x y) .plain rfl
  go_wp2_with fail
  refine bodyPost_ret (v := .tuple #[.agg #[.complex .f64 0 0], .bool false]) ?_ rfl ⟨rfl, ?_⟩
  · rw [results_cell_tmp rfl]
    go_simp
  · go_grown
end Go.Proofs.Ytopgcimjdlhclaa
