/- Comparing two slices of integers: the contract of the reference's Same (layer 3). -/
import Derived.Test.YtnkcbljhgcgpaaaDoorMA
namespace Go.Proofs.YtnkcbljhgcgpaaaDoor
set_option linter.unusedVariables false
set_option linter.unusedSimpArgs false
open Go.RowKit

set_option maxHeartbeats 400000 in
theorem rsame3_any (A C : Option Addr) (n m c d : Nat) (f g : Nat → Int) (w : World) (ha : Rd .i64 w A n c f) (hb : Rd .i64 w C m d g) :
    Calls Tryd.prog 16 #[.slice A n c, .slice C m d] w fun e w' => e = .returned (.bool (sameB n m f g)) ∧ Drawn w w' := by
  have hn : n ≤ 9223372036854775807 := by have h1 := ha.1; have h2 := ha.2.1; simp only [maxLen] at h2; omega
  by_cases hnm : n = m
  · subst hnm
    have Ha := hide ha
    have Hb := hide hb
    clear ha hb
    go_enter Tryd.func16, Tryd.ntmps16
    go_wp2
    go_loopw [5] (fun i wr => ∃ k : Nat, k ≤ n ∧ i = .int .i64 k ∧ (∀ j, j < k → f j = g j) ∧ Drawn w wr) (fun i _ => n - (intOf i).toNat)
    case atStart => exact ⟨0, Nat.zero_le _, rfl, fun j hj => absurd hj (by omega), Drawn.refl _⟩
    case round =>
      obtain ⟨k, hk, rfl, hfg, q, rfl⟩ := hrel
      have Hfg := hide hfg
      clear hfg
      by_cases hlt : k < n
      · obtain ⟨b, off, rfl, hca⟩ := Ha.out.at_ hlt
        obtain ⟨b', off', rfl, hcb⟩ := Hb.out.at_ hlt
        by_cases he : f k = g k
        · have het : (f k != g k) = false := by simp [he]
          have He := hide he
          clear he
          go_wp2
          go_quiet (fail)
          go_wp2
          go_roundw
          case rel => exact ⟨k + 1, by omega, by go_num, fun j hj => (by
            by_cases hjk : j = k
            · subst hjk; exact He.out
            · exact Hfg.out j (by omega)), _, rfl⟩
          case measure => simp [intOf]; omega
        · have het : (f k != g k) = true := by simp [he]
          have hs : sameB n n f g = false := sameB_no fun h => he (h.2 k hlt)
          have Hs := hide hs
          clear hs he
          go_wp2
          go_quiet (fail)
          go_wp2
          go_ret
          exact ⟨by rw [Hs.out]; rfl, Drawn.more ⟨q, rfl⟩ _⟩
      · obtain rfl : k = n := by omega
        have hs : sameB k k f g = true := sameB_yes rfl Hfg.out
        have Hs := hide hs
        clear hs
        go_wp2
        go_ret
        exact ⟨by rw [Hs.out]; rfl, _, rfl⟩
  · have hs : sameB n m f g = false := sameB_no fun h => hnm h.1
    have Hs := hide hs
    have h1 : ((n : Int) != (m : Int)) = true := by simp; omega
    clear hs hnm
    go_enter Tryd.func16, Tryd.ntmps16
    go_wp2
    go_ret
    exact ⟨by rw [Hs.out]; rfl, Drawn.refl _⟩
theorem rsame3_yes (A C : Option Addr) (n c d : Nat) (f g : Nat → Int) (w : World) (ha : Rd .i64 w A n c f) (hb : Rd .i64 w C n d g) (h : ∀ i, i < n → f i = g i) :
    Calls Tryd.prog 16 #[.slice A n c, .slice C n d] w fun e w' => e = .returned (.bool true) ∧ Drawn w w' :=
  (rsame3_any A C n n c d f g w ha hb).mono fun e w' hh => ⟨by rw [hh.1, sameB_yes rfl h], hh.2⟩
end Go.Proofs.YtnkcbljhgcgpaaaDoor
