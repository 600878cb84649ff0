/- Layer 9: whether a fault is among some, by the program and by the reference; layer 49: how an error is judged, a verdict's name. -/
import Derived.Test.YtbkdegjkjjdcdaaDoorMA
import Derived.Test.YtbkdegjkjjdcdaaDoorVal
namespace Go.Proofs.YtbkdegjkjjdcdaaDoor
set_option linter.unusedVariables false
set_option linter.unusedSimpArgs false
open Go.RowKit

def hasB (n : Nat) (f g : Nat → Int) (s d : Int) : Bool := decide (¬ ∀ i, i < n → ¬ (f i = s ∧ g i = d))
theorem hasB_yes {n i : Nat} {f g : Nat → Int} {s d : Int} (hi : i < n) (h1 : f i = s) (h2 : g i = d) : hasB n f g s d = true := decide_eq_true fun h => h i hi ⟨h1, h2⟩
theorem hasB_no {n : Nat} {f g : Nat → Int} {s d : Int} (h : ∀ i, i < n → ¬ (f i = s ∧ g i = d)) : hasB n f g s d = false := decide_eq_false fun k => k h
set_option maxHeartbeats 800000 in
theorem rhas09 (A : Option Addr) (n c : Nat) (f g : Nat → Int) (s d : Int) (w : World) (ha : Rd2 w A n c f g) :
    Calls Tryd.prog 21 #[.slice A n c, .agg #[.int .i64 s, .int .i64 d]] w fun e w' => e = .returned (.bool (hasB n f g s d)) ∧ Below w.heap.size w w' := by
  have hn : n ≤ 9223372036854775807 := by have h1 := ha.1; have h2 := ha.2.1; simp only [maxLen] at h2; omega
  have R0 := hide (heap_alloc_new w (.cells #[.int .i64 s, .int .i64 d] 31))
  have B0 : Hid (Below w.heap.size w (w.alloc (.cells #[.int .i64 s, .int .i64 d] 31))) := (Below.refl _ _).alloc (Nat.le_refl _) _
  have Ha := hide (ha.below ((Below.refl _ _).alloc (Nat.le_refl _) (.cells #[.int .i64 s, .int .i64 d] 31)))
  clear ha
  go_enter Tryd.func21, Tryd.ntmps21
  go_wp2
  generalize w.alloc (.cells #[.int .i64 s, .int .i64 d] 31) = W0 at *
  go_loopw [5] (fun i wr => ∃ k : Nat, k ≤ n ∧ i = .int .i64 k ∧ (∀ j, j < k → ¬ (f j = s ∧ g j = d)) ∧ Drawn W0 wr) (fun i _ => n - (intOf i).toNat)
  case atStart => exact ⟨0, Nat.zero_le _, rfl, fun j hj => absurd hj (by omega), Drawn.refl _⟩
  case round =>
    obtain ⟨k, hk, rfl, hno, q, rfl⟩ := hrel
    have Hno := hide hno
    clear hno
    by_cases hlt : k < n
    · obtain ⟨b, off, rfl, hc0, hc1⟩ := Ha.out.at_ hlt
      obtain ⟨r0, r1⟩ := row2 R0.out
      by_cases h1 : f k = s
      · have e1 : (f k == s) = true := by simpa using h1
        by_cases h2 : g k = d
        · have e2 : (g k == d) = true := by simpa using h2
          have HY := hide (hasB_yes (f := f) (g := g) hlt h1 h2)
          clear h1 h2
          go_wp2
          go_quiet (fail)
          go_wp2
          go_ret
          exact ⟨by rw [HY.out]; rfl, B0.out.trans (drawn_below (Drawn.more ⟨q, rfl⟩ _) _)⟩
        · have e2 : (g k == d) = false := by simpa using h2
          have H2 := hide h2
          clear h1 h2
          go_wp2
          go_quiet (fail)
          go_wp2
          go_roundw
          case rel => exact ⟨k + 1, by omega, by go_num, fun j hj => (by
            by_cases hjk : j = k
            · subst hjk; exact fun h => H2.out h.2
            · exact Hno.out j (by omega)), _, rfl⟩
          case measure => simp [intOf]; omega
      · have e1 : (f k == s) = false := by simpa using h1
        have H1 := hide h1
        clear h1
        go_wp2
        go_quiet (fail)
        go_wp2
        go_roundw
        case rel => exact ⟨k + 1, by omega, by go_num, fun j hj => (by
          by_cases hjk : j = k
          · subst hjk; exact fun h => H1.out h.1
          · exact Hno.out j (by omega)), _, rfl⟩
        case measure => simp [intOf]; omega
    · obtain rfl : k = n := by omega
      have HN := hide (hasB_no Hno.out)
      go_wp2
      go_ret
      exact ⟨by rw [HN.out]; rfl, B0.out.trans (drawn_below ⟨q, rfl⟩ _)⟩
set_option maxHeartbeats 800000 in
theorem index09 (A : Option Addr) (n c : Nat) (f g : Nat → Int) (s d : Int) (w : World) (ha : Rd2 w A n c f g) :
    Calls Tryd.prog 70 #[.slice A n c, .agg #[.int .i64 s, .int .i64 d]] w fun e w' => (∃ j : Int, e = .returned (.int .i64 j) ∧ -1 ≤ j ∧ decide (0 ≤ j) = hasB n f g s d) ∧ Below w.heap.size w w' := by
  have hn : n ≤ 9223372036854775807 := by have h1 := ha.1; have h2 := ha.2.1; simp only [maxLen] at h2; omega
  have R0 := hide (heap_alloc_new w (.cells #[.int .i64 s, .int .i64 d] 31))
  have B0 : Hid (Below w.heap.size w (w.alloc (.cells #[.int .i64 s, .int .i64 d] 31))) := (Below.refl _ _).alloc (Nat.le_refl _) _
  have Ha := hide (ha.below ((Below.refl _ _).alloc (Nat.le_refl _) (.cells #[.int .i64 s, .int .i64 d] 31)))
  clear ha
  go_enter Tryd.func70, Tryd.ntmps70
  go_wp2
  generalize w.alloc (.cells #[.int .i64 s, .int .i64 d] 31) = W0 at *
  go_loopw [8] (fun i wr => ∃ k : Nat, k ≤ n ∧ i = .int .i64 k ∧ (∀ j, j < k → ¬ (f j = s ∧ g j = d)) ∧ Drawn W0 wr) (fun i _ => n - (intOf i).toNat)
  case atStart => exact ⟨0, Nat.zero_le _, rfl, fun j hj => absurd hj (by omega), Drawn.refl _⟩
  case round =>
    obtain ⟨k, hk, rfl, hno, q, rfl⟩ := hrel
    have Hno := hide hno
    clear hno
    by_cases hlt : k < n
    · obtain ⟨b, off, rfl, hc0, hc1⟩ := Ha.out.at_ hlt
      obtain ⟨r0, r1⟩ := row2 R0.out
      by_cases h1 : f k = s
      · have e1 : (s == f k) = true := by simpa using h1.symm
        by_cases h2 : g k = d
        · have e2 : (d == g k) = true := by simpa using h2.symm
          have HY := hide (hasB_yes (f := f) (g := g) hlt h1 h2)
          clear h1 h2
          go_wp2
          go_quiet (fail)
          go_wp2
          go_ret
          exact ⟨⟨(k : Int), rfl, by omega, by rw [HY.out]; exact decide_eq_true (by omega)⟩, B0.out.trans (drawn_below (Drawn.more ⟨q, rfl⟩ _) _)⟩
        · have e2 : (d == g k) = false := by simpa using fun h => h2 h.symm
          have H2 := hide h2
          clear h1 h2
          go_wp2
          go_quiet (fail)
          go_wp2
          go_roundw
          case rel => exact ⟨k + 1, by omega, by go_num, fun j hj => (by
            by_cases hjk : j = k
            · subst hjk; exact fun h => H2.out h.2
            · exact Hno.out j (by omega)), _, rfl⟩
          case measure => simp [intOf]; omega
      · have e1 : (s == f k) = false := by simpa using fun h => h1 h.symm
        have H1 := hide h1
        clear h1
        go_wp2
        go_quiet (fail)
        go_wp2
        go_roundw
        case rel => exact ⟨k + 1, by omega, by go_num, fun j hj => (by
          by_cases hjk : j = k
          · subst hjk; exact fun h => H1.out h.1
          · exact Hno.out j (by omega)), _, rfl⟩
        case measure => simp [intOf]; omega
    · obtain rfl : k = n := by omega
      have HN := hide (hasB_no Hno.out)
      go_wp2
      go_ret
      exact ⟨⟨-1, rfl, by omega, by rw [HN.out]; rfl⟩, B0.out.trans (drawn_below ⟨q, rfl⟩ _)⟩
set_option maxHeartbeats 800000 in
theorem has09 (A : Option Addr) (n c : Nat) (f g : Nat → Int) (s d : Int) (w : World) (ha : Rd2 w A n c f g) :
    Calls Tryd.prog 20 #[.slice A n c, .agg #[.int .i64 s, .int .i64 d]] w fun e w' => e = .returned (.bool (hasB n f g s d)) ∧ Below w.heap.size w w' := by
  have hc : ∀ w, Rd2 w A n c f g → Calls Tryd.prog 47 #[.slice A n c, .agg #[.int .i64 s, .int .i64 d]] w fun e w' => e = .returned (.bool (hasB n f g s d)) ∧ Below w.heap.size w w' := fun w ha => by
    have R0 := hide (heap_alloc_new w (.cells #[.int .i64 s, .int .i64 d] 31))
    have B0 : Hid (Below w.heap.size w (w.alloc (.cells #[.int .i64 s, .int .i64 d] 31))) := (Below.refl _ _).alloc (Nat.le_refl _) _
    have Ha := hide (ha.below ((Below.refl _ _).alloc (Nat.le_refl _) (.cells #[.int .i64 s, .int .i64 d] 31)))
    obtain ⟨r0, r1⟩ := row2 R0.out
    clear ha
    go_enter Tryd.func47, Tryd.ntmps47
    go_wp2_with fail
    refine (index09 A n c f g s d _ Ha.out).mono ?_
    rintro e w1 ⟨⟨j, rfl, _, hj⟩, hb⟩
    have B1 := hide (B0.out.of hb)
    clear hb
    go_wp2_with fail
    go_ret
    exact ⟨by first | rfl | (rw [← hj]; rfl) | simp_all, B1.out⟩
  have R0 := hide (heap_alloc_new w (.cells #[.int .i64 s, .int .i64 d] 31))
  have B0 : Hid (Below w.heap.size w (w.alloc (.cells #[.int .i64 s, .int .i64 d] 31))) := (Below.refl _ _).alloc (Nat.le_refl _) _
  have Ha := hide (ha.below ((Below.refl _ _).alloc (Nat.le_refl _) (.cells #[.int .i64 s, .int .i64 d] 31)))
  obtain ⟨r0, r1⟩ := row2 R0.out
  clear ha
  go_enter Tryd.func20, Tryd.ntmps20
  go_wp2_with fail
  refine (hc _ Ha.out).mono ?_
  rintro e w1 ⟨rfl, hb⟩
  have B1 := hide (B0.out.of hb)
  clear hb
  go_wp2_with fail
  go_ret
  exact ⟨rfl, B1.out⟩
def judgeV (b h : Bool) : Int := if (b && h) = true then 1 else 2
def vdName (v : Int) : ByteArray := if v = 1 then ⟨#[112, 97, 115, 115, 101, 100]⟩ else if v = 2 then ⟨#[102, 97, 105, 108, 101, 100]⟩ else if v = 3 then ⟨#[118, 111, 105, 100]⟩ else if v = 4 then ⟨#[98, 114, 111, 107, 101, 110]⟩ else ⟨#[]⟩
theorem vdName_out {v : Int} (h : ¬ (1 ≤ v ∧ v ≤ 4)) : vdName v = ⟨#[]⟩ := by
  unfold vdName
  rw [if_neg (by omega), if_neg (by omega), if_neg (by omega), if_neg (by omega)]
end Go.Proofs.YtbkdegjkjjdcdaaDoor
