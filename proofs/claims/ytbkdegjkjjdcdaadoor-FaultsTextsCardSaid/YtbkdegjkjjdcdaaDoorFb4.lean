/- Layer 9: two rows are the same, both sides. -/
import Derived.Test.YtbkdegjkjjdcdaaDoorFb3
namespace Go.Proofs.YtbkdegjkjjdcdaaDoor
set_option linter.unusedVariables false
set_option linter.unusedSimpArgs false
open Go.RowKit Go.PlainAid

def sameL (n m : Nat) (f g p r : Nat → Int) : Bool := decide (lsF n f g = lsF m p r)
theorem sameL_len {n m : Nat} {f g p r : Nat → Int} (h : ¬ n = m) : sameL n m f g p r = false := decide_eq_false fun e => by
  have := congrArg List.length e
  rw [lsF_len, lsF_len] at this
  exact h this
theorem sameL_yes {n : Nat} {f g p r : Nat → Int} (h : ∀ j, j < n → f j = p j ∧ g j = r j) : sameL n n f g p r = true := decide_eq_true (by
  unfold lsF
  refine List.map_congr_left fun i hi => ?_
  have := h i (List.mem_range.1 hi)
  rw [this.1, this.2])
theorem sameL_no {n k : Nat} {f g p r : Nat → Int} (hk : k < n) (h : ¬ (f k = p k ∧ g k = r k)) : sameL n n f g p r = false := decide_eq_false fun e => by
  have a := lsF_get n f g k hk
  rw [e, lsF_get n p r k hk] at a
  have := Prod.mk.inj (Option.some.inj a)
  exact h ⟨this.1.symm, this.2.symm⟩
set_option maxRecDepth 20000 in
set_option maxHeartbeats 1600000 in
theorem rsame09 (A C : Option Addr) (n c m d : Nat) (f g p r : Nat → Int) (w : World) (ha : Rd2 w A n c f g) (hb : Rd2 w C m d p r) :
    Calls Tryd.prog 16 #[.slice A n c, .slice C m d] w fun e w' => e = .returned (.bool (sameL n m f g p r)) ∧ Drawn w w' := by
  have hn : n ≤ 9223372036854775807 := by have h1 := ha.1; have h2 := ha.2.1; simp only [maxLen] at h2; omega
  have hm : m ≤ 9223372036854775807 := by have h1 := hb.1; have h2 := hb.2.1; simp only [maxLen] at h2; omega
  have Ha := hide ha
  have Hb := hide hb
  clear ha hb
  by_cases hnm : n = m
  · subst hnm
    have q1 : ((n : Int) != (n : Int)) = false := by simp
    have q2 : (n != n) = false := by simp
    go_enter Tryd.func16, Tryd.ntmps16
    go_wp2_with fail
    go_loopw [5] (fun i wr => ∃ k : Nat, k ≤ n ∧ i = .int .i64 k ∧ (∀ j, j < k → f j = p j ∧ g j = r j) ∧ Drawn w wr) (fun i _ => n - (intOf i).toNat)
    case atStart => exact ⟨0, Nat.zero_le _, rfl, fun j hj => absurd hj (by omega), Drawn.refl _⟩
    case round =>
      obtain ⟨k, hk, rfl, hall, q, rfl⟩ := hrel
      have HA := hide hall
      clear hall
      by_cases hlt : k < n
      · obtain ⟨b, off, rfl, hc0, hc1⟩ := Ha.out.at_ hlt
        obtain ⟨b2, off2, rfl, hd0, hd1⟩ := Hb.out.at_ hlt
        have d1 : decide ((k : Int) < (n : Int)) = true := decide_eq_true (by omega)
        by_cases h1 : f k = p k
        · have e1 : (f k == p k) = true := by simpa using h1
          by_cases h2 : g k = r k
          · have e2 : (g k == r k) = true := by simpa using h2
            have HA2 : Hid (∀ j, j < k + 1 → f j = p j ∧ g j = r j) := fun j hj => by
              by_cases e : j = k
              · subst e
                exact ⟨h1, h2⟩
              · exact HA.out j (by omega)
            clear h1 h2
            go_wp2
            go_quiet (fail)
            go_wp2
            go_roundw
            case rel => exact ⟨k + 1, by omega, by simp, HA2.out, _, rfl⟩
            case measure => simp [intOf]; omega
          · have e2 : (g k == r k) = false := by simpa using h2
            have HF := hide (sameL_no (f := f) (p := p) hlt (fun e => h2 e.2))
            clear h1 h2
            go_wp2
            go_quiet (fail)
            go_wp2
            go_ret
            exact ⟨by rw [HF.out]; rfl, Drawn.more ⟨q, rfl⟩ _⟩
        · have e1 : (f k == p k) = false := by simpa using h1
          have HF := hide (sameL_no (g := g) (r := r) hlt (fun e => h1 e.1))
          clear h1
          go_wp2
          go_quiet (fail)
          go_wp2
          go_ret
          exact ⟨by rw [HF.out]; rfl, Drawn.more ⟨q, rfl⟩ _⟩
      · obtain rfl : k = n := by omega
        have HT := hide (sameL_yes HA.out)
        go_wp2
        go_ret
        exact ⟨by rw [HT.out]; rfl, _, rfl⟩
  · have q1 : ((n : Int) != (m : Int)) = true := by simp; omega
    have HF := hide (sameL_len (f := f) (g := g) (p := p) (r := r) hnm)
    clear hnm
    go_enter Tryd.func16, Tryd.ntmps16
    go_wp2_with fail
    go_ret
    exact ⟨by rw [HF.out]; rfl, Drawn.refl _⟩
set_option maxRecDepth 20000 in
set_option maxHeartbeats 1600000 in
theorem equal09 (A C : Option Addr) (n c m d : Nat) (f g p r : Nat → Int) (w : World) (ha : Rd2 w A n c f g) (hb : Rd2 w C m d p r) :
    Calls Tryd.prog 49 #[.slice A n c, .slice C m d] w fun e w' => e = .returned (.bool (sameL n m f g p r)) ∧ Drawn w w' := by
  have hn : n ≤ 9223372036854775807 := by have h1 := ha.1; have h2 := ha.2.1; simp only [maxLen] at h2; omega
  have hm : m ≤ 9223372036854775807 := by have h1 := hb.1; have h2 := hb.2.1; simp only [maxLen] at h2; omega
  have Ha := hide ha
  have Hb := hide hb
  clear ha hb
  by_cases hnm : n = m
  · subst hnm
    have q1 : ((n : Int) != (n : Int)) = false := by simp
    have q2 : (n != n) = false := by simp
    go_enter Tryd.func49, Tryd.ntmps49
    go_wp2_with fail
    go_loopw [5, 13] (fun _ i wr => ∃ k : Nat, k ≤ n ∧ i = .int .i64 k ∧ (∀ j, j < k → f j = p j ∧ g j = r j) ∧ Drawn w wr) (fun _ i _ => n - (intOf i).toNat)
    case atStart => exact ⟨0, Nat.zero_le _, rfl, fun j hj => absurd hj (by omega), Drawn.refl _⟩
    case round =>
      obtain ⟨k, hk, rfl, hall, q, rfl⟩ := hrel
      have HA := hide hall
      clear hall
      by_cases hlt : k < n
      · obtain ⟨b, off, rfl, hc0, hc1⟩ := Ha.out.at_ hlt
        obtain ⟨b2, off2, rfl, hd0, hd1⟩ := Hb.out.at_ hlt
        have d1 : decide ((k : Int) < (n : Int)) = true := decide_eq_true (by omega)
        by_cases h1 : f k = p k
        · have e1 : (f k == p k) = true := by simpa using h1
          by_cases h2 : g k = r k
          · have e2 : (g k == r k) = true := by simpa using h2
            have HA2 : Hid (∀ j, j < k + 1 → f j = p j ∧ g j = r j) := fun j hj => by
              by_cases e : j = k
              · subst e
                exact ⟨h1, h2⟩
              · exact HA.out j (by omega)
            clear h1 h2
            go_wp2
            go_quiet (fail)
            go_wp2
            go_roundw
            case rel => exact ⟨k + 1, by omega, by simp, HA2.out, _, rfl⟩
            case measure => simp [intOf]; omega
          · have e2 : (g k == r k) = false := by simpa using h2
            have HF := hide (sameL_no (f := f) (p := p) hlt (fun e => h2 e.2))
            clear h1 h2
            go_wp2
            go_quiet (fail)
            go_wp2
            go_ret
            exact ⟨by rw [HF.out]; rfl, Drawn.more ⟨q, rfl⟩ _⟩
        · have e1 : (f k == p k) = false := by simpa using h1
          have HF := hide (sameL_no (g := g) (r := r) hlt (fun e => h1 e.1))
          clear h1
          go_wp2
          go_quiet (fail)
          go_wp2
          go_ret
          exact ⟨by rw [HF.out]; rfl, Drawn.more ⟨q, rfl⟩ _⟩
      · obtain rfl : k = n := by omega
        have HT := hide (sameL_yes HA.out)
        go_wp2
        go_ret
        exact ⟨by rw [HT.out]; rfl, _, rfl⟩
  · have q1 : ((n : Int) != (m : Int)) = true := by simp; omega
    have HF := hide (sameL_len (f := f) (g := g) (p := p) (r := r) hnm)
    clear hnm
    go_enter Tryd.func49, Tryd.ntmps49
    go_wp2_with fail
    go_ret
    exact ⟨by rw [HF.out]; rfl, Drawn.refl _⟩
theorem same09 (A C : Option Addr) (n c m d : Nat) (f g p r : Nat → Int) (w : World) (ha : Rd2 w A n c f g) (hb : Rd2 w C m d p r) :
    Calls Tryd.prog 26 #[.slice A n c, .slice C m d] w fun e w' => e = .returned (.bool (sameL n m f g p r)) ∧ Drawn w w' := by
  have K := hide (equal09 A C n c m d f g p r w ha hb)
  clear ha hb
  generalize sameL n m f g p r = z at *
  go_enter Tryd.func26, Tryd.ntmps26
  go_wp2_with fail
  refine K.out.mono ?_
  rintro e w1 ⟨rfl, hd1⟩
  have HD := hide hd1
  clear hd1
  go_wp2_with fail
  go_ret
  exact ⟨rfl, HD.out⟩
end Go.Proofs.YtbkdegjkjjdcdaaDoor
