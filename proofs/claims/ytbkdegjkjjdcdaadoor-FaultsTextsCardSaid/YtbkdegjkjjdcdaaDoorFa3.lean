/- Layer 9: whether a fault may be; a row in which no two neighbours are the same is compact. -/
import Derived.Test.YtbkdegjkjjdcdaaDoorFa2
import Derived.Test.YtbkdegjkjjdcdaaDoorFcl
namespace Go.Proofs.YtbkdegjkjjdcdaaDoor
set_option linter.unusedVariables false
set_option linter.unusedSimpArgs false
open Go.RowKit Go.PlainAid

/-- May a fault be? -/
def rightB (s d : Int) : Bool := (decide (s = 1) || decide (s = 2)) && (decide (0 ≤ d) && decide (d ≤ 4294967295))
set_option maxRecDepth 20000 in
set_option maxHeartbeats 1600000 in
theorem right09 (s d : Int) (w : World) : Calls Tryd.prog 22 #[.agg #[.int .i64 s, .int .i64 d]] w fun e w' => e = .returned (.bool (rightB s d)) ∧ Below w.heap.size w w' := by
  have R0 := heap_alloc_new w (.cells #[.int .i64 s, .int .i64 d] 31)
  have B0 : Hid (Below w.heap.size w (w.alloc (.cells #[.int .i64 s, .int .i64 d] 31))) := (Below.refl _ _).alloc (Nat.le_refl _) _
  obtain ⟨r0, r1⟩ := row2 R0
  clear R0
  by_cases h1 : s = 1
  · have e1 : (s == 1) = true := by simpa using h1
    have hz : Hid (rightB s d = (decide (0 ≤ d) && decide (d ≤ 4294967295))) := by show _ = _; unfold rightB; rw [decide_eq_true h1]; simp
    generalize rightB s d = z at *
    clear h1
    go_enter Tryd.func22, Tryd.ntmps22
    go_wp2_with fail
    refine (iscode09 d _).mono ?_
    rintro e w1 ⟨rfl, rfl⟩
    go_wp2_with fail
    go_ret
    exact ⟨by rw [hz.out]; rfl, B0.out⟩
  · by_cases h2 : s = 2
    · have e1 : (s == 1) = false := by simpa using h1
      have e2 : (s == 2) = true := by simpa using h2
      have hz : Hid (rightB s d = (decide (0 ≤ d) && decide (d ≤ 4294967295))) := by show _ = _; unfold rightB; rw [decide_eq_true h2]; simp
      generalize rightB s d = z at *
      clear h1 h2
      go_enter Tryd.func22, Tryd.ntmps22
      go_wp2_with fail
      refine (iscode09 d _).mono ?_
      rintro e w1 ⟨rfl, rfl⟩
      go_wp2_with fail
      go_ret
      exact ⟨by rw [hz.out]; rfl, B0.out⟩
    · have e1 : (s == 1) = false := by simpa using h1
      have e2 : (s == 2) = false := by simpa using h2
      have hz : Hid (rightB s d = false) := by show _ = _; unfold rightB; rw [decide_eq_false h1, decide_eq_false h2]; rfl
      generalize rightB s d = z at *
      clear h1 h2
      go_enter Tryd.func22, Tryd.ntmps22
      go_wp2_with fail
      go_ret
      exact ⟨by rw [hz.out]; rfl, B0.out⟩
set_option maxRecDepth 20000 in
set_option maxHeartbeats 1600000 in
theorem compact09 (A : Option Addr) (n c : Nat) (f g : Nat → Int) (w : World) (h : Rd2 w A n c f g) (hne : ∀ i, i + 1 < n → ¬ (f (i + 1) = f i ∧ g (i + 1) = g i)) :
    Calls Tryd.prog 45 #[.slice A n c] w fun e w' => e = .returned (.slice A n c) ∧ Drawn w w' := by
  have hn : n ≤ 9223372036854775807 := by have h1 := h.1; have h2 := h.2.1; simp only [maxLen] at h2; omega
  have Ha := hide h
  have Hne := hide hne
  clear h hne
  by_cases h2 : n < 2
  · have t1 : decide ((n : Int) < 2) = true := decide_eq_true (by omega)
    clear h2
    go_enter Tryd.func45, Tryd.ntmps45
    go_wp2_with fail
    go_ret
    exact ⟨rfl, Drawn.refl _⟩
  have t1 : decide ((n : Int) < 2) = false := decide_eq_false (by omega)
  have hn2 : 2 ≤ n := by omega
  clear h2
  go_enter Tryd.func45, Tryd.ntmps45
  go_wp2_with fail
  go_loopw [3] (fun i wr => ∃ k : Nat, k + 1 ≤ n ∧ i = .int .i64 ((k : Int) + 1) ∧ Drawn w wr) (fun i _ => n - (intOf i).toNat)
  case atStart => exact ⟨0, by omega, rfl, Drawn.refl _⟩
  case round =>
    obtain ⟨k, hk, rfl, q, rfl⟩ := hrel
    by_cases hlt : k + 1 < n
    · obtain ⟨b, off, rfl, hc0, hc1⟩ := Ha.out.at_ (i := k) (by omega)
      obtain ⟨b', off', hb', hd0, hd1⟩ := Ha.out.at_ (i := k + 1) hlt
      cases hb'
      have d1 : decide ((k : Int) + 1 < (n : Int)) = true := decide_eq_true (by omega)
      have ew : IntKind.i64.wrap ((k : Int) + 1 - 1) = (k : Int) := by rw [show (k : Int) + 1 - 1 = k by omega]; exact IntWalk.i64_in _ (by omega)
      have ew2 : IntKind.i64.wrap ((k : Int) + 1 + 1) = ((k + 1 : Nat) : Int) + 1 := by rw [IntWalk.i64_in _ (by omega)]; omega
      have et : ((k : Int) + 1).toNat = k + 1 := by omega
      have l1 : (0 : Int) ≤ (k : Int) + 1 := by omega
      have l2 : k + 1 < n := hlt
      have l3 : k < n := by omega
      have hno := Hne.out k hlt
      by_cases h1 : f (k + 1) = f k
      · have e1 : (f (k + 1) == f k) = true := by simpa using h1
        have e2 : (g (k + 1) == g k) = false := by simpa using fun h => hno ⟨h1, h⟩
        clear h1 hno
        go_wp2
        go_quiet (fail)
        go_wp2
        go_roundw
        case rel => exact ⟨k + 1, by omega, by simp, _, rfl⟩
        case measure => simp [intOf]; omega
      · have e1 : (f (k + 1) == f k) = false := by simpa using h1
        clear h1 hno
        go_wp2
        go_quiet (fail)
        go_wp2
        go_roundw
        case rel => exact ⟨k + 1, by omega, by simp, _, rfl⟩
        case measure => simp [intOf]; omega
    · have hkn : n = k + 1 := by omega
      have d1 : decide ((k : Int) + 1 < (n : Int)) = false := decide_eq_false (by omega)
      clear hkn
      go_wp2
      go_ret
      exact ⟨rfl, _, rfl⟩
end Go.Proofs.YtbkdegjkjjdcdaaDoor
