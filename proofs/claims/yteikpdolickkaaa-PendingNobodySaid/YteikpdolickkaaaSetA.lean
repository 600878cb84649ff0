/- Layer 13: the contracts of 'setting.Apply' and of the reference's last value. -/
import Derived.Test.YteikpdolickkaaaSet3
namespace Go.Proofs.Yteikpdolickkaaa
open Go.RowKit

/-- The last value of an id among the first k, or what there was. -/
def lsv (F G : Nat → Int) (id was : Int) : Nat → Int
  | 0 => was
  | k + 1 => if F k = id then G k else lsv F G id was k
set_option maxHeartbeats 800000 in
theorem last_any (A : Option Addr) (n c : Nat) (F G : Nat → Int) (id was : Int) (w : World) (ha : Rd2 w A n c F G) (hn : n ≤ 100000) :
    Calls Try.prog 153 #[.slice A n c, .int .i64 id, .int .i64 was] w fun e w' => e = .returned (.int .i64 (lsv F G id was n)) ∧ w = w' := by
  have Ha := hide ha
  clear ha
  obtain ⟨L, hL⟩ : ∃ L, lsv F G id was n = L := ⟨_, rfl⟩
  have HL := hide hL
  rw [hL]
  clear hL
  go_enter Try.func153, Try.ntmps153
  go_wp2
  go_loop [7] (fun s => ∃ (k : Nat) (i : Int), k ≤ n ∧ s = .int .i64 i ∧ i = (k : Int) - 1 ∧ lsv F G id was k = L) (fun s => (intOf s + 1).toNat)
  case atStart => exact ⟨n, _, Nat.le_refl _, rfl, rfl, HL.out⟩
  case round =>
    obtain ⟨k, i, hk, rfl, hi, hl⟩ := hrel
    have Hl := hide hl
    have Hi := hide hi
    have h1 : -1 ≤ i := by omega
    have h2 : i < 100000 := by omega
    rcases Nat.eq_zero_or_pos k with h0 | h0
    · have hd : decide (0 ≤ i) = false := by simp; omega
      have Hr : Hid (was = L) := by show _ = _; rw [← Hl.out, h0]; rfl
      clear hl hi h0
      go_wp2
      go_ret
      exact ⟨by rw [← Hr.out]; rfl, rfl⟩
    · obtain ⟨j, rfl⟩ : ∃ j, k = j + 1 := ⟨k - 1, by omega⟩
      obtain rfl : i = (j : Int) := by omega
      have hd : decide ((0 : Int) ≤ (j : Int)) = true := by simp
      obtain ⟨b0, off, rfl, hc0, hc1⟩ := Ha.out.at_ (i := j) (by omega)
      have hjn : (j : Int) < (n : Int) := by omega
      clear hl hi
      by_cases hf : F j = id
      · have ht : (F j == id) = true := by simpa using hf
        have Hr : Hid (G j = L) := by show _ = _; rw [← Hl.out]; simp [lsv, hf]
        clear hf
        go_wp2
        go_ret
        exact ⟨by rw [← Hr.out]; rfl, rfl⟩
      · have ht : (F j == id) = false := by simpa using hf
        have Hr : Hid (lsv F G id was j = L) := by show _ = _; rw [← Hl.out]; simp [lsv, hf]
        clear hf
        go_wp2
        go_round
        case rel => exact ⟨j, _, by omega, rfl, rfl, Hr.out⟩
        case measure => simp [intOf]

set_option maxRecDepth 20000 in
set_option maxHeartbeats 6400000 in
theorem apply_any (A : Option Addr) (n c : Nat) (F G : Nat → Int) (v0 v1 v2 v3 v4 v5 : Int) (w : World) (ha : Rd2 w A n c F G) (hn : n ≤ 100000) :
    Calls Try.prog 115 #[.agg #[.int .i64 v0, .int .i64 v1, .int .i64 v2, .int .i64 v3, .int .i64 v4, .int .i64 v5], .slice A n c] w fun e w' => e = .returned (.agg #[.int .i64 (lsv F G 1 v0 n), .int .i64 (lsv F G 2 v1 n), .int .i64 (lsv F G 3 v2 n), .int .i64 (lsv F G 4 v3 n), .int .i64 (lsv F G 5 v4 n), .int .i64 (lsv F G 6 v5 n)]) ∧ Below w.heap.size w w' := by
  have Ha := hide ha
  clear ha
  obtain ⟨W0, hW0⟩ : ∃ W0, W0 = (w.alloc (.cells #[.int .i64 v0, .int .i64 v1, .int .i64 v2, .int .i64 v3, .int .i64 v4, .int .i64 v5] 113)).alloc (.cells #[.int .i64 0, .int .i64 0, .int .i64 0, .int .i64 0, .int .i64 0, .int .i64 0] 113) := ⟨_, rfl⟩
  have R2 : Hid (W0.heap[w.heap.size]? = some (.cells #[.int .i64 (lsv F G 1 v0 0), .int .i64 (lsv F G 2 v1 0), .int .i64 (lsv F G 3 v2 0), .int .i64 (lsv F G 4 v3 0), .int .i64 (lsv F G 5 v4 0), .int .i64 (lsv F G 6 v5 0)] 113 (0, 0))) := by
    rw [hW0]
    exact keepRow (heap_alloc_new w _) ((Below.refl _ _).alloc (Nat.le_refl _) _)
  have R4 : Hid (W0.heap[w.heap.size + 1]? = some (.cells #[.int .i64 0, .int .i64 0, .int .i64 0, .int .i64 0, .int .i64 0, .int .i64 0] 113 (0, 0))) := by
    rw [hW0]
    have := heap_alloc_new (w.alloc (.cells #[.int .i64 v0, .int .i64 v1, .int .i64 v2, .int .i64 v3, .int .i64 v4, .int .i64 v5] 113)) (.cells #[.int .i64 0, .int .i64 0, .int .i64 0, .int .i64 0, .int .i64 0, .int .i64 0] 113)
    rw [show (w.alloc (.cells #[.int .i64 v0, .int .i64 v1, .int .i64 v2, .int .i64 v3, .int .i64 v4, .int .i64 v5] 113)).heap.size = w.heap.size + 1 by simp] at this
    exact this
  have B0 : Hid (Below w.heap.size w W0) := by
    rw [hW0]
    exact ((Below.refl _ _).alloc (Nat.le_refl _) _).alloc (by simp) _
  have HW0 := hide hW0
  clear hW0
  go_enter Try.func115, Try.ntmps115
  go_wp2
  rw [← HW0.out]
  go_loopw [9] (fun i wr => ∃ k : Nat, k ≤ n ∧ i = .int .i64 k ∧ wr.heap[w.heap.size]? = some (.cells #[.int .i64 (lsv F G 1 v0 k), .int .i64 (lsv F G 2 v1 k), .int .i64 (lsv F G 3 v2 k), .int .i64 (lsv F G 4 v3 k), .int .i64 (lsv F G 5 v4 k), .int .i64 (lsv F G 6 v5 k)] 113 (0, 0)) ∧ wr.heap[w.heap.size + 1]? = some (.cells #[.int .i64 0, .int .i64 0, .int .i64 0, .int .i64 0, .int .i64 0, .int .i64 0] 113 (0, 0)) ∧ Below w.heap.size w wr) (fun i _ => n - (intOf i).toNat)
  case atStart => exact ⟨0, Nat.zero_le _, rfl, R2.out, R4.out, B0.out⟩
  case round =>
    obtain ⟨k, hk, rfl, hR2, hR4, hB⟩ := hrel
    have H2 := hide hR2
    have H4 := hide hR4
    have HB := hide hB
    have hsz := hB.size
    have hl4 := rowLt hR4
    clear hR2 hR4 hB R2 R4 B0
    by_cases hlt : k < n
    · obtain ⟨b0, off, rfl, hc0, hc1⟩ := (Ha.out.below HB.out).at_ hlt
      have hkn : (k : Int) < (n : Int) := by omega
      obtain ⟨q0, q1, q2, q3, q4, q5⟩ := row6 H2.out
      have z0 := frozenRow (keepRow H2.out ((Below.refl _ _).alloc (Nat.le_refl _) (.cells #[.int .i64 (F k), .int .i64 (G k)] 195))) 0
      have z1 := frozenRow (keepRow H2.out ((Below.refl _ _).alloc (Nat.le_refl _) (.cells #[.int .i64 (F k), .int .i64 (G k)] 195))) 1
      have z2 := frozenRow (keepRow H2.out ((Below.refl _ _).alloc (Nat.le_refl _) (.cells #[.int .i64 (F k), .int .i64 (G k)] 195))) 2
      have z3 := frozenRow (keepRow H2.out ((Below.refl _ _).alloc (Nat.le_refl _) (.cells #[.int .i64 (F k), .int .i64 (G k)] 195))) 3
      have z4 := frozenRow (keepRow H2.out ((Below.refl _ _).alloc (Nat.le_refl _) (.cells #[.int .i64 (F k), .int .i64 (G k)] 195))) 4
      have z5 := frozenRow (keepRow H2.out ((Below.refl _ _).alloc (Nat.le_refl _) (.cells #[.int .i64 (F k), .int .i64 (G k)] 195))) 5
      have hne : w.heap.size ≠ wr.heap.size := by omega
      obtain ⟨p0, p1, p2, p3, p4, p5⟩ := row6 (keepRow H2.out ((Below.refl _ _).alloc (Nat.le_refl _) (.cells #[.int .i64 (F k), .int .i64 (G k)] 195)))
      have key : F k = 1 ∨ F k = 2 ∨ F k = 3 ∨ F k = 4 ∨ F k = 5 ∨ F k = 6 ∨ (F k ≠ 1 ∧ F k ≠ 2 ∧ F k ≠ 3 ∧ F k ≠ 4 ∧ F k ≠ 5 ∧ F k ≠ 6) := by omega
      rcases key with hF | hF | hF | hF | hF | hF | ⟨g1, g2, g3, g4, g5, g6⟩
      · have HF := hide hF
        have e1 : (F k == 1) = true := by rw [hF]; rfl
        clear hF
        go_wp2_with fail
        refine ⟨?_, ?_⟩
        · refine ⟨k + 1, by omega, by simp, ?_⟩
          first
            | exact ⟨by have h := setRow (wr.alloc (.cells #[.int .i64 (F k), .int .i64 (G k)] 195)) w.heap.size 0 (.int .i64 (G k)) (keepRow H2.out ((Below.refl _ _).alloc (Nat.le_refl _) (.cells #[.int .i64 (F k), .int .i64 (G k)] 195))); simpa [lsv, HF.out] using h, keepOne (keepRow H4.out ((Below.refl _ _).alloc (Nat.le_refl _) _)) (grown_set _ _ 0 _) (by omega), (HB.out.alloc hsz _).setCell (by simp) _⟩
            | exact ⟨by have h := keepRow (setRow wr w.heap.size 0 (.int .i64 (G k)) H2.out) ((Below.refl _ _).alloc (Nat.le_refl _) (.cells #[.int .i64 (F k), .int .i64 (G k)] 195)); simpa [lsv, HF.out] using h, keepRow (keepOne (p := w.heap.size) H4.out (grown_set _ _ 0 _) (by omega)) ((Below.refl _ _).alloc (Nat.le_refl _) _), (HB.out.setCell (by simp) _).alloc (by simp [World.setCell, hsz]) _⟩
        · simp [intOf]; omega
      · have HF := hide hF
        have e1 : (F k == 1) = false := by rw [hF]; rfl
        have e2 : (F k == 2) = true := by rw [hF]; rfl
        clear hF
        go_wp2_with fail
        refine ⟨?_, ?_⟩
        · refine ⟨k + 1, by omega, by simp, ?_⟩
          first
            | exact ⟨by have h := setRow (wr.alloc (.cells #[.int .i64 (F k), .int .i64 (G k)] 195)) w.heap.size 1 (.int .i64 (G k)) (keepRow H2.out ((Below.refl _ _).alloc (Nat.le_refl _) (.cells #[.int .i64 (F k), .int .i64 (G k)] 195))); simpa [lsv, HF.out] using h, keepOne (keepRow H4.out ((Below.refl _ _).alloc (Nat.le_refl _) _)) (grown_set _ _ 1 _) (by omega), (HB.out.alloc hsz _).setCell (by simp) _⟩
            | exact ⟨by have h := keepRow (setRow wr w.heap.size 1 (.int .i64 (G k)) H2.out) ((Below.refl _ _).alloc (Nat.le_refl _) (.cells #[.int .i64 (F k), .int .i64 (G k)] 195)); simpa [lsv, HF.out] using h, keepRow (keepOne (p := w.heap.size) H4.out (grown_set _ _ 1 _) (by omega)) ((Below.refl _ _).alloc (Nat.le_refl _) _), (HB.out.setCell (by simp) _).alloc (by simp [World.setCell, hsz]) _⟩
        · simp [intOf]; omega
      · have HF := hide hF
        have e1 : (F k == 1) = false := by rw [hF]; rfl
        have e2 : (F k == 2) = false := by rw [hF]; rfl
        have e3 : (F k == 3) = true := by rw [hF]; rfl
        clear hF
        go_wp2_with fail
        refine ⟨?_, ?_⟩
        · refine ⟨k + 1, by omega, by simp, ?_⟩
          first
            | exact ⟨by have h := setRow (wr.alloc (.cells #[.int .i64 (F k), .int .i64 (G k)] 195)) w.heap.size 2 (.int .i64 (G k)) (keepRow H2.out ((Below.refl _ _).alloc (Nat.le_refl _) (.cells #[.int .i64 (F k), .int .i64 (G k)] 195))); simpa [lsv, HF.out] using h, keepOne (keepRow H4.out ((Below.refl _ _).alloc (Nat.le_refl _) _)) (grown_set _ _ 2 _) (by omega), (HB.out.alloc hsz _).setCell (by simp) _⟩
            | exact ⟨by have h := keepRow (setRow wr w.heap.size 2 (.int .i64 (G k)) H2.out) ((Below.refl _ _).alloc (Nat.le_refl _) (.cells #[.int .i64 (F k), .int .i64 (G k)] 195)); simpa [lsv, HF.out] using h, keepRow (keepOne (p := w.heap.size) H4.out (grown_set _ _ 2 _) (by omega)) ((Below.refl _ _).alloc (Nat.le_refl _) _), (HB.out.setCell (by simp) _).alloc (by simp [World.setCell, hsz]) _⟩
        · simp [intOf]; omega
      · have HF := hide hF
        have e1 : (F k == 1) = false := by rw [hF]; rfl
        have e2 : (F k == 2) = false := by rw [hF]; rfl
        have e3 : (F k == 3) = false := by rw [hF]; rfl
        have e4 : (F k == 4) = true := by rw [hF]; rfl
        clear hF
        go_wp2_with fail
        refine ⟨?_, ?_⟩
        · refine ⟨k + 1, by omega, by simp, ?_⟩
          first
            | exact ⟨by have h := setRow (wr.alloc (.cells #[.int .i64 (F k), .int .i64 (G k)] 195)) w.heap.size 3 (.int .i64 (G k)) (keepRow H2.out ((Below.refl _ _).alloc (Nat.le_refl _) (.cells #[.int .i64 (F k), .int .i64 (G k)] 195))); simpa [lsv, HF.out] using h, keepOne (keepRow H4.out ((Below.refl _ _).alloc (Nat.le_refl _) _)) (grown_set _ _ 3 _) (by omega), (HB.out.alloc hsz _).setCell (by simp) _⟩
            | exact ⟨by have h := keepRow (setRow wr w.heap.size 3 (.int .i64 (G k)) H2.out) ((Below.refl _ _).alloc (Nat.le_refl _) (.cells #[.int .i64 (F k), .int .i64 (G k)] 195)); simpa [lsv, HF.out] using h, keepRow (keepOne (p := w.heap.size) H4.out (grown_set _ _ 3 _) (by omega)) ((Below.refl _ _).alloc (Nat.le_refl _) _), (HB.out.setCell (by simp) _).alloc (by simp [World.setCell, hsz]) _⟩
        · simp [intOf]; omega
      · have HF := hide hF
        have e1 : (F k == 1) = false := by rw [hF]; rfl
        have e2 : (F k == 2) = false := by rw [hF]; rfl
        have e3 : (F k == 3) = false := by rw [hF]; rfl
        have e4 : (F k == 4) = false := by rw [hF]; rfl
        have e5 : (F k == 5) = true := by rw [hF]; rfl
        clear hF
        go_wp2_with fail
        refine ⟨?_, ?_⟩
        · refine ⟨k + 1, by omega, by simp, ?_⟩
          first
            | exact ⟨by have h := setRow (wr.alloc (.cells #[.int .i64 (F k), .int .i64 (G k)] 195)) w.heap.size 4 (.int .i64 (G k)) (keepRow H2.out ((Below.refl _ _).alloc (Nat.le_refl _) (.cells #[.int .i64 (F k), .int .i64 (G k)] 195))); simpa [lsv, HF.out] using h, keepOne (keepRow H4.out ((Below.refl _ _).alloc (Nat.le_refl _) _)) (grown_set _ _ 4 _) (by omega), (HB.out.alloc hsz _).setCell (by simp) _⟩
            | exact ⟨by have h := keepRow (setRow wr w.heap.size 4 (.int .i64 (G k)) H2.out) ((Below.refl _ _).alloc (Nat.le_refl _) (.cells #[.int .i64 (F k), .int .i64 (G k)] 195)); simpa [lsv, HF.out] using h, keepRow (keepOne (p := w.heap.size) H4.out (grown_set _ _ 4 _) (by omega)) ((Below.refl _ _).alloc (Nat.le_refl _) _), (HB.out.setCell (by simp) _).alloc (by simp [World.setCell, hsz]) _⟩
        · simp [intOf]; omega
      · have HF := hide hF
        have e1 : (F k == 1) = false := by rw [hF]; rfl
        have e2 : (F k == 2) = false := by rw [hF]; rfl
        have e3 : (F k == 3) = false := by rw [hF]; rfl
        have e4 : (F k == 4) = false := by rw [hF]; rfl
        have e5 : (F k == 5) = false := by rw [hF]; rfl
        have e6 : (F k == 6) = true := by rw [hF]; rfl
        clear hF
        go_wp2_with fail
        refine ⟨?_, ?_⟩
        · refine ⟨k + 1, by omega, by simp, ?_⟩
          first
            | exact ⟨by have h := setRow (wr.alloc (.cells #[.int .i64 (F k), .int .i64 (G k)] 195)) w.heap.size 5 (.int .i64 (G k)) (keepRow H2.out ((Below.refl _ _).alloc (Nat.le_refl _) (.cells #[.int .i64 (F k), .int .i64 (G k)] 195))); simpa [lsv, HF.out] using h, keepOne (keepRow H4.out ((Below.refl _ _).alloc (Nat.le_refl _) _)) (grown_set _ _ 5 _) (by omega), (HB.out.alloc hsz _).setCell (by simp) _⟩
            | exact ⟨by have h := keepRow (setRow wr w.heap.size 5 (.int .i64 (G k)) H2.out) ((Below.refl _ _).alloc (Nat.le_refl _) (.cells #[.int .i64 (F k), .int .i64 (G k)] 195)); simpa [lsv, HF.out] using h, keepRow (keepOne (p := w.heap.size) H4.out (grown_set _ _ 5 _) (by omega)) ((Below.refl _ _).alloc (Nat.le_refl _) _), (HB.out.setCell (by simp) _).alloc (by simp [World.setCell, hsz]) _⟩
        · simp [intOf]; omega
      · have H6 := hide (And.intro g1 (And.intro g2 (And.intro g3 (And.intro g4 (And.intro g5 g6)))))
        have e1 : (F k == 1) = false := by simpa using g1
        have e2 : (F k == 2) = false := by simpa using g2
        have e3 : (F k == 3) = false := by simpa using g3
        have e4 : (F k == 4) = false := by simpa using g4
        have e5 : (F k == 5) = false := by simpa using g5
        have e6 : (F k == 6) = false := by simpa using g6
        clear g1 g2 g3 g4 g5 g6
        go_wp2_with fail
        refine ⟨?_, ?_⟩
        · refine ⟨k + 1, by omega, by simp, ?_, keepRow H4.out ((Below.refl _ _).alloc (Nat.le_refl _) _), HB.out.alloc hsz _⟩
          have h := keepRow H2.out ((Below.refl _ _).alloc (Nat.le_refl _) (.cells #[.int .i64 (F k), .int .i64 (G k)] 195))
          simpa [lsv, H6.out] using h
        · simp [intOf]; omega
    · obtain rfl : k = n := by omega
      obtain ⟨q0, q1, q2, q3, q4, q5⟩ := row6 H2.out
      obtain ⟨p0, p1, p2, p3, p4, p5⟩ := row6 H4.out
      have z0 := frozenRow H4.out 0
      have z1 := frozenRow H4.out 1
      have z2 := frozenRow H4.out 2
      have z3 := frozenRow H4.out 3
      have z4 := frozenRow H4.out 4
      have z5 := frozenRow H4.out 5
      go_wp2_with fail
      refine bodyPost_ret (v := .agg #[.int .i64 (lsv F G 1 v0 k), .int .i64 (lsv F G 2 v1 k), .int .i64 (lsv F G 3 v2 k), .int .i64 (lsv F G 4 v3 k), .int .i64 (lsv F G 5 v4 k), .int .i64 (lsv F G 6 v5 k)]) ?_ rfl ⟨rfl, ?_⟩
      · rw [results_cellS rfl]
        go_simp
      · exact (((((HB.out.setCell (by simp) _).setCell (by simp) _).setCell (by simp) _).setCell (by simp) _).setCell (by simp) _).setCell (by simp) _
end Go.Proofs.Yteikpdolickkaaa
