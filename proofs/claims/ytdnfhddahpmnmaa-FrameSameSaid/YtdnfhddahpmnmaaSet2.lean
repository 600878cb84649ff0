/- Layer 13: the reference's Parse and Same; the first values; alive. -/
import Derived.Test.YtdnfhddahpmnmaaSet1
namespace Go.Proofs.Ytdnfhddahpmnmaa
open Go.RowKit

theorem numS_congr {f g : Nat → Int} {k : Nat} (h : ∀ j, f j = g j) : num f k = num g k := by rw [funext h]
theorem RdV.lit2 (w : World) (x y : Int) : RdV 2 (w.alloc (.cells #[.int .i64 x, .int .i64 y] 145)) (some ⟨w.heap.size, 0, none⟩) 1 1 (pr (oneF x) (oneF y)) :=
  (OwnV.lit 2 145 0 w (pr (oneF x) (oneF y)) #[.int .i64 x, .int .i64 y] 1 (Nat.zero_le _) (by simp [maxLen]) rfl).rdS2
theorem OwnV.ltB {s : Nat} {e : TypeId} {B : Nat} {w : World} {v : Value} {n : Nat} {F : Nat → Value} (h : OwnV s e B w v n F) : ∀ j, v.ownBlock = some j → B ≤ j := fun j e => (World.ownsRow.lt h j e).1
def RSets (w : World) (n : Nat) (f : Nat → Int) (e : Ending) (w' : World) : Prop :=
  (∃ m, n = m * 6 ∧ Sets w m (sF f) (sG f) (.bool true) e w') ∨ (n % 6 ≠ 0 ∧ e = .returned (.tuple #[.slice none 0 0, .bool false]) ∧ Below w.heap.size w w')
theorem app_set {f : Nat → Int} {k : Nat} {x y : Int} (hx : sF f k = x) (hy : sG f k = y) : ∀ i, i < (k + 1) * 2 → catV (k * 2) (pr (sF f) (sG f)) (pr (oneF x) (oneF y)) i = pr (sF f) (sG f) i := by
  intro i hi
  rw [pr_cat]
  refine pr_congr (n := k + 1) (fun j hj => ?_) (fun j hj => ?_) i hi
  · by_cases h : j < k
    · simp [catF, h]
    · obtain rfl : j = k := by omega
      simp [catF, oneF, hx]
  · by_cases h : j < k
    · simp [catF, h]
    · obtain rfl : j = k := by omega
      simp [catF, oneF, hy]

/-! ### the reference's comparing -/
def same2B (n m : Nat) (f g f' g' : Nat → Int) : Bool := decide (n = m ∧ ∀ i, i < n → f i = f' i ∧ g i = g' i)
set_option maxHeartbeats 800000 in
theorem rsame2_any (A C : Option Addr) (n m c d : Nat) (f g f' g' : Nat → Int) (w : World) (ha : Rd2 w A n c f g) (hb : Rd2 w C m d f' g') :
    Calls Try.prog 67 #[.slice A n c, .slice C m d] w fun e w' => e = .returned (.bool (same2B n m f g f' g')) ∧ Drawn w w' := by
  have hn : n ≤ 9223372036854775807 := by have h1 := ha.1; have h2 := ha.2.1; simp only [maxLen] at h2; omega
  by_cases hnm : n = m
  · subst hnm
    have Ha := hide ha
    have Hb := hide hb
    clear ha hb
    go_enter Try.func67, Try.ntmps67
    go_wp2
    go_loopw [5] (fun i wr => ∃ k : Nat, k ≤ n ∧ i = .int .i64 k ∧ (∀ j, j < k → f j = f' j ∧ g j = g' j) ∧ Drawn w wr) (fun i _ => n - (intOf i).toNat)
    case atStart => exact ⟨0, Nat.zero_le _, rfl, fun j hj => absurd hj (by omega), Drawn.refl _⟩
    case round =>
      obtain ⟨k, hk, rfl, hfg, q, rfl⟩ := hrel
      have Hfg := hide hfg
      clear hfg
      by_cases hlt : k < n
      · obtain ⟨b, off, rfl, hc0, hc1⟩ := Ha.out.at_ hlt
        obtain ⟨b', off', rfl, hd0, hd1⟩ := Hb.out.at_ hlt
        by_cases he : f k = f' k ∧ g k = g' k
        · have He := hide he
          rw [← he.1] at hd0
          rw [← he.2] at hd1
          clear he
          go_wp2
          go_quiet (fail)
          go_wp2
          go_roundw
          case rel => exact ⟨k + 1, by omega, by go_num, fun j hj => (by
            by_cases hjk : j = k
            · subst hjk; exact He.out
            · exact Hfg.out j (by omega)), _, rfl⟩
          case measure => simp [intOf]; omega
        · have Hs : Hid (same2B n n f g f' g' = false) := decide_eq_false fun h => he (h.2 k hlt)
          by_cases h0 : f k = f' k
          · have t1 : (g k == g' k) = false := by simpa using fun h => he ⟨h0, h⟩
            rw [← h0] at hd0
            clear he h0
            go_wp2
            go_quiet (fail)
            go_wp2
            go_ret
            exact ⟨by rw [Hs.out]; rfl, Drawn.more ⟨q, rfl⟩ _⟩
          · have t1 : (f k == f' k) = false := by simpa using h0
            clear he h0
            go_wp2
            go_quiet (fail)
            go_wp2
            go_ret
            exact ⟨by rw [Hs.out]; rfl, Drawn.more ⟨q, rfl⟩ _⟩
      · obtain rfl : k = n := by omega
        have Hs : Hid (same2B k k f g f' g' = true) := decide_eq_true ⟨rfl, Hfg.out⟩
        go_wp2
        go_ret
        exact ⟨by rw [Hs.out]; rfl, _, rfl⟩
  · have Hs : Hid (same2B n m f g f' g' = false) := decide_eq_false fun h => hnm h.1
    have h1 : ((n : Int) != (m : Int)) = true := by simp; omega
    clear hnm
    go_enter Try.func67, Try.ntmps67
    go_wp2
    go_ret
    exact ⟨by rw [Hs.out]; rfl, Drawn.refl _⟩
theorem rsame2_yes (A C : Option Addr) (n c d : Nat) (f g f' g' : Nat → Int) (w : World) (ha : Rd2 w A n c f g) (hb : Rd2 w C n d f' g') (hf : ∀ i, i < n → f i = f' i) (hg : ∀ i, i < n → g i = g' i) :
    Calls Try.prog 67 #[.slice A n c, .slice C n d] w fun e w' => e = .returned (.bool true) ∧ Drawn w w' := by
  have h1 := rsame2_any A C n n c d f g f' g' w ha hb
  rw [show same2B n n f g f' g' = true from decide_eq_true ⟨rfl, fun i hi => ⟨hf i hi, hg i hi⟩⟩] at h1
  exact h1
end Go.Proofs.Ytdnfhddahpmnmaa
