/- The contracts of the two functions that compare bytes: 'sticklerref01.Same' and 'octet.Same', for whatever slices can be read. -/
import Derived.Test.YtfkjgjdbjmcioaaDoorProg
import Derived.Test.YtfkjgjdbjmcioaaDoorMem
import Derived.WalkLawsBesides
namespace Go.Proofs.YtfkjgjdbjmcioaaDoor
open Go.RowKit

/-- Have both slices the same numbers? -/
def sameB (n m : Nat) (f g : Nat → Int) : Bool := decide (n = m ∧ ∀ i, i < n → f i = g i)
theorem sameB_yes {n m : Nat} {f g : Nat → Int} (h : n = m) (hf : ∀ i, i < n → f i = g i) : sameB n m f g = true := decide_eq_true ⟨h, hf⟩
theorem sameB_no {n m : Nat} {f g : Nat → Int} (h : ¬ (n = m ∧ ∀ i, i < n → f i = g i)) : sameB n m f g = false := decide_eq_false h
theorem sameB_of {n m : Nat} {f g : Nat → Int} (h : sameB n m f g = true) : n = m ∧ ∀ i, i < n → f i = g i := of_decide_eq_true h

def Drawn (w w' : World) : Prop := ∃ q, w' = w.drewN q
theorem Drawn.refl (w : World) : Drawn w w := ⟨0, rfl⟩
theorem Drawn.trans {a b c : World} (h : Drawn a b) (k : Drawn b c) : Drawn a c := by
  obtain ⟨p, rfl⟩ := h
  obtain ⟨q, rfl⟩ := k
  exact ⟨p + q, by rw [World.drewN_drewN]⟩
theorem Drawn.of (w : World) (q : Nat) : Drawn w (w.drewN q) := ⟨q, rfl⟩
theorem drawn_below {w w' : World} (h : Drawn w w') (B : Nat) : Below B w w' := by
  obtain ⟨q, rfl⟩ := h
  exact ⟨rfl, rfl, rfl, Nat.le_refl _, fun _ _ => rfl⟩
theorem Rd.drawn {k : IntKind} {w w' : World} {A : Option Addr} {n c : Nat} {f : Nat → Int} (h : Rd k w A n c f) (hd : Drawn w w') : Rd k w' A n c f := h.below (drawn_below hd _)
theorem Drawn.more {w w1 : World} (h : Drawn w w1) (q : Nat) : Drawn w (w1.drewN q) := by
  obtain ⟨p, rfl⟩ := h
  exact ⟨p + q, by rw [World.drewN_drewN]⟩

set_option maxHeartbeats 400000 in
theorem rsame_any (A C : Option Addr) (n m c d : Nat) (f g : Nat → Int) (w : World) (ha : Rd .u8 w A n c f) (hb : Rd .u8 w C m d g) :
    Calls Tryd.prog 57 #[.slice A n c, .slice C m d] w fun e w' => e = .returned (.bool (sameB n m f g)) ∧ Drawn w w' := by
  have hn : n ≤ 9223372036854775807 := by have h1 := ha.1; have h2 := ha.2.1; simp only [maxLen] at h2; omega
  by_cases hnm : n = m
  · subst hnm
    have Ha := hide ha
    have Hb := hide hb
    clear ha hb
    go_enter Tryd.func57, Tryd.ntmps57
    go_wp2
    go_loopw [5] (fun i wr => ∃ k : Nat, k ≤ n ∧ i = .int .i64 k ∧ (∀ j, j < k → f j = g j) ∧ Drawn w wr) (fun i _ => n - (intOf i).toNat)
    case atStart => exact ⟨0, Nat.zero_le _, rfl, fun j hj => absurd hj (by omega), Drawn.refl _⟩
    case round =>
      obtain ⟨k, hk, rfl, hfg, q, rfl⟩ := hrel
      have Hfg := hide hfg
      clear hfg
      by_cases hlt : k < n
      · obtain ⟨b, off, rfl, hca⟩ := Ha.out.at_ hlt
        obtain ⟨b', off', rfl, hcb⟩ := Hb.out.at_ hlt
        by_cases he : f k = g k
        · have het : (f k != g k) = false := by simp [he]
          have He := hide he
          clear he
          go_wp2
          go_quiet (fail)
          go_wp2
          go_roundw
          case rel => exact ⟨k + 1, by omega, by go_num, fun j hj => (by
            by_cases hjk : j = k
            · subst hjk; exact He.out
            · exact Hfg.out j (by omega)), _, rfl⟩
          case measure => simp [intOf]; omega
        · have het : (f k != g k) = true := by simp [he]
          have hs : sameB n n f g = false := sameB_no fun h => he (h.2 k hlt)
          have Hs := hide hs
          clear hs he
          go_wp2
          go_quiet (fail)
          go_wp2
          go_ret
          exact ⟨by rw [Hs.out]; rfl, Drawn.more ⟨q, rfl⟩ _⟩
      · obtain rfl : k = n := by omega
        have hs : sameB k k f g = true := sameB_yes rfl Hfg.out
        have Hs := hide hs
        clear hs
        go_wp2
        go_ret
        exact ⟨by rw [Hs.out]; rfl, _, rfl⟩
  · have hs : sameB n m f g = false := sameB_no fun h => hnm h.1
    have Hs := hide hs
    have h1 : ((n : Int) != (m : Int)) = true := by simp; omega
    clear hs hnm
    go_enter Tryd.func57, Tryd.ntmps57
    go_wp2
    go_ret
    exact ⟨by rw [Hs.out]; rfl, Drawn.refl _⟩
end Go.Proofs.YtfkjgjdbjmcioaaDoor
