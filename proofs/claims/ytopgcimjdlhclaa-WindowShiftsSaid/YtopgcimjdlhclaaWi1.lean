/- Layer 31: how much room a side has, on both sides. -/
import Derived.Test.YtopgcimjdlhclaaMQ
import Derived.Test.YtopgcimjdlhclaaVal
import Derived.Test.YtopgcimjdlhclaaMA
import Derived.RegionTactic
import Derived.ChangeAlike
import Derived.Deep.RegionHeld3
namespace Go.Proofs.Ytopgcimjdlhclaa
open Go.RowKit

def vlB (s i : Int) : Bool := (s == 0 || s == 1) && decide (0 ≤ i) && decide (i ≤ 2147483647)
theorem vlB_yes {s i : Int} (h : vlB s i = true) : (s = 0 ∨ s = 1) ∧ 0 ≤ i ∧ i ≤ 2147483647 := by unfold vlB at h; simpa [and_assoc] using h
theorem rmay31 (s i : Int) (w : World) : Calls Try.prog 74 #[.int .i64 s, .int .i64 i] w fun e w' => e = .returned (.bool (vlB s i)) ∧ w = w' := by
  unfold vlB
  go_enter Try.func74, Try.ntmps74
  go_wp2
  all_goals (go_ret; refine ⟨?_, rfl⟩; (try simp_all))
  all_goals (first | done | omega | (rw [Bool.eq_iff_iff]; simp; omega))
theorem sideN_am {a b : Int} (s : Int) (ha : AmP a) (hb : AmP b) : AmP (sideN a b s) := by
  unfold sideN
  split
  · exact ha
  split
  · exact hb
  · exact am0
def roomF (a b s i : Int) : Int := if vlB s i = true then i + sideN a b s else 0
theorem wroom_yes {v : Value} {a b : Int} (s i : Int) (h : PV v a b) (ha : AmP a) (hb : AmP b) (hv : vlB s i = true) (w : World) : Calls Try.prog 73 #[.agg #[v], .int .i64 s, .int .i64 i] w fun e w' => e = .returned (.tuple #[.int .i64 (i + sideN a b s), .bool true]) ∧ Below w.heap.size w w' := by
  obtain ⟨h1, h2, h3⟩ := vlB_yes hv
  have hc := fun W => side_any s h W
  rw [show sideE s = 0 by unfold sideE; rcases h1 with rfl | rfl <;> rfl] at hc
  have hs := sideN_am s ha hb
  have hw : IntKind.i64.wrap (i + sideN a b s) = i + sideN a b s := IntWalk.i64_in _ (by unfold AmP at hs; omega)
  generalize sideN a b s = p at *
  have d1 : decide (i < 0) = false := by simp; omega
  have d2 : decide (2147483647 < i) = false := by simp; omega
  clear h1 h2 h3 hv h ha hb hs
  go_enter Try.func73, Try.ntmps73
  go_wp2_with (go_at_call 92; refine (hc _).mono ?_; rintro e w1 ⟨rfl, rfl⟩)
  go_ret2
  exact ⟨rfl, by go_grown⟩
theorem wroom_no {v : Value} {a b : Int} (s i : Int) (h : PV v a b) (hv : vlB s i = false) (w : World) : Calls Try.prog 73 #[.agg #[v], .int .i64 s, .int .i64 i] w fun e w' => e = .returned (.tuple #[.int .i64 0, .bool false]) ∧ Below w.heap.size w w' := by
  have hc := fun W => side_any s h W
  by_cases hs : s = 0 ∨ s = 1
  · rw [show sideE s = 0 by unfold sideE; rcases hs with rfl | rfl <;> rfl] at hc
    have hi : i < 0 ∨ 2147483647 < i := by
      unfold vlB at hv
      rcases hs with rfl | rfl <;> (simp at hv; omega)
    generalize sideN a b s = p at *
    clear hs hv h
    by_cases h1 : i < 0
    · have d1 : decide (i < 0) = true := by simpa using h1
      clear hi h1
      go_enter Try.func73, Try.ntmps73
      go_wp2_with (go_at_call 92; refine (hc _).mono ?_; rintro e w1 ⟨rfl, rfl⟩)
      go_ret2
      exact ⟨rfl, by go_grown⟩
    · have d1 : decide (i < 0) = false := by simp; omega
      have d2 : decide (2147483647 < i) = true := by simp; omega
      clear hi h1
      go_enter Try.func73, Try.ntmps73
      go_wp2_with (go_at_call 92; refine (hc _).mono ?_; rintro e w1 ⟨rfl, rfl⟩)
      go_ret2
      exact ⟨rfl, by go_grown⟩
  · rw [show sideE s = 1 by unfold sideE; rw [if_neg (by omega), if_neg (by omega)]] at hc
    generalize sideN a b s = p at *
    clear hs hv h
    go_enter Try.func73, Try.ntmps73
    go_wp2_with (go_at_call 92; refine (hc _).mono ?_; rintro e w1 ⟨rfl, rfl⟩)
    go_ret2
    exact ⟨rfl, by go_grown⟩
theorem wRoom_any {v : Value} {a b : Int} (s i : Int) (h : PV v a b) (ha : AmP a) (hb : AmP b) (w : World) : Calls Try.prog 34 #[.agg #[v], .int .i64 s, .int .i64 i] w fun e w' => e = .returned (.int .i64 (roomF a b s i)) ∧ Below w.heap.size w w' := by
  unfold roomF
  cases hv : vlB s i with
  | true =>
    have hc := fun W => wroom_yes s i h ha hb hv W
    rw [if_pos rfl]
    generalize i + sideN a b s = p at *
    clear h hv ha hb
    have E0 := hide ((Below.refl w.heap.size w).alloc (Nat.le_refl _) (.cells #[v] 52))
    go_enter Try.func34, Try.ntmps34
    go_wp2_with (go_at_call 73; refine (hc _).mono ?_; rintro e w1 ⟨rfl, hb1⟩)
    go_ret
    exact ⟨rfl, E0.out.of hb1⟩
  | false =>
    have hc := fun W => wroom_no s i h hv W
    rw [if_neg (by simp)]
    clear h hv ha hb
    have E0 := hide ((Below.refl w.heap.size w).alloc (Nat.le_refl _) (.cells #[v] 52))
    go_enter Try.func34, Try.ntmps34
    go_wp2_with (go_at_call 73; refine (hc _).mono ?_; rintro e w1 ⟨rfl, hb1⟩)
    go_ret
    exact ⟨rfl, E0.out.of hb1⟩
theorem rRoom_any {a b : Int} (s i : Int) (ha : AmP a) (hb : AmP b) (w : World) : Calls Try.prog 35 #[.agg #[.int .i64 a, .int .i64 b], .int .i64 s, .int .i64 i] w fun e w' => e = .returned (.int .i64 (roomF a b s i)) ∧ Below w.heap.size w w' := by
  unfold roomF
  have hm := fun W => rmay31 s i W
  have hc := fun W => rside_any s ha hb W
  have E0 := hide ((Below.refl w.heap.size w).alloc (Nat.le_refl _) (.cells #[.int .i64 a, .int .i64 b] 54))
  cases hv : vlB s i with
  | true =>
    rw [hv] at hm
    rw [if_pos rfl]
    obtain ⟨h1, h2, h3⟩ := vlB_yes hv
    have hs := sideN_am s ha hb
    have hw : IntKind.i64.wrap (i + sideN a b s) = i + sideN a b s := IntWalk.i64_in _ (by unfold AmP at hs; omega)
    generalize sideN a b s = p at *
    generalize sideE s = q at *
    clear ha hb hs h1 h2 h3 hv
    go_enter Try.func35, Try.ntmps35
    go_wp2_with (first
      | (go_at_call 74; refine (hm _).mono ?_; rintro e w1 ⟨rfl, rfl⟩)
      | (go_at_call 75; refine (hc _).mono ?_; rintro e w2 ⟨rfl, hb2⟩))
    go_ret
    exact ⟨rfl, E0.out.of hb2⟩
  | false =>
    rw [hv] at hm
    rw [if_neg (by simp)]
    clear ha hb hv hc
    go_enter Try.func35, Try.ntmps35
    go_wp2_with (go_at_call 74; refine (hm _).mono ?_; rintro e w1 ⟨rfl, rfl⟩)
    go_ret
    exact ⟨rfl, E0.out⟩
end Go.Proofs.Ytopgcimjdlhclaa
