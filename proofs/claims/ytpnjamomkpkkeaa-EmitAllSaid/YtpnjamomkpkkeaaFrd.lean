/- Layer 14: frames that are the same, by the program and by the reference. -/
import Derived.Test.YtpnjamomkpkkeaaMI
namespace Go.Proofs.Ytpnjamomkpkkeaa
set_option linter.unusedVariables false
set_option linter.unusedSimpArgs false
open Go.RowKit

theorem heap2f (w : World) (a1 a2 : Array Value) (T1 T2 : TypeId) : ((w.alloc (.cells a1 T1)).alloc (.cells a2 T2)).heap[w.heap.size]? = some (.cells a1 T1 (0, 0)) ∧ ((w.alloc (.cells a1 T1)).alloc (.cells a2 T2)).heap[w.heap.size + 1]? = some (.cells a2 T2 (0, 0)) ∧ Below w.heap.size w ((w.alloc (.cells a1 T1)).alloc (.cells a2 T2)) := by
  refine ⟨keepRow (heap_alloc_new w (.cells a1 T1)) ((Below.refl _ _).alloc (Nat.le_refl _) (.cells a2 T2)), ?_, ((Below.refl w.heap.size w).alloc (Nat.le_refl _) _).alloc (by simp) _⟩
  have h := heap_alloc_new (w.alloc (.cells a1 T1)) (.cells a2 T2)
  have e : (w.alloc (.cells a1 T1)).heap.size = w.heap.size + 1 := by simp
  rw [e] at h
  exact h
set_option maxHeartbeats 800000 in
theorem se14 (A C : Option Addr) (n m c d : Nat) (f g f' g' : Nat → Int) (w : World) (ha : Rd2 w A n c f g) (hb : Rd2 w C m d f' g') :
    Calls Try.prog 134 #[.slice A n c, .slice C m d] w fun e w' => e = .returned (.bool (same2B n m f g f' g')) ∧ Drawn w w' := by
  have hn : n ≤ 9223372036854775807 := by have h1 := ha.1; have h2 := ha.2.1; simp only [maxLen] at h2; omega
  by_cases hnm : n = m
  · subst hnm
    have Ha := hide ha
    have Hb := hide hb
    clear ha hb
    go_enter Try.func134, Try.ntmps134
    go_wp2
    go_loopw [13] (fun i wr => ∃ k : Nat, k ≤ n ∧ i = .int .i64 k ∧ (∀ j, j < k → f j = f' j ∧ g j = g' j) ∧ Drawn w wr) (fun i _ => n - (intOf i).toNat)
    case atStart => exact ⟨0, Nat.zero_le _, rfl, fun j hj => absurd hj (by omega), Drawn.refl _⟩
    case round =>
      obtain ⟨k, hk, rfl, hfg, q, rfl⟩ := hrel
      have Hfg := hide hfg
      clear hfg
      by_cases hlt : k < n
      · obtain ⟨b, off, rfl, hc0, hc1⟩ := Ha.out.at_ hlt
        obtain ⟨b', off', rfl, hd0, hd1⟩ := Hb.out.at_ hlt
        by_cases he : f k = f' k ∧ g k = g' k
        · have He := hide he
          rw [← he.1] at hd0
          rw [← he.2] at hd1
          clear he
          go_wp2
          go_quiet (fail)
          go_wp2
          go_roundw
          case rel => exact ⟨k + 1, by omega, by go_num, fun j hj => (by
            by_cases hjk : j = k
            · subst hjk; exact He.out
            · exact Hfg.out j (by omega)), _, rfl⟩
          case measure => simp [intOf]; omega
        · have Hs : Hid (same2B n n f g f' g' = false) := decide_eq_false fun h => he (h.2 k hlt)
          by_cases h0 : f k = f' k
          · have t1 : (g k == g' k) = false := by simpa using fun h => he ⟨h0, h⟩
            rw [← h0] at hd0
            clear he h0
            go_wp2
            go_quiet (fail)
            go_wp2
            go_ret
            exact ⟨by rw [Hs.out]; rfl, Drawn.more ⟨q, rfl⟩ _⟩
          · have t1 : (f k == f' k) = false := by simpa using h0
            clear he h0
            go_wp2
            go_quiet (fail)
            go_wp2
            go_ret
            exact ⟨by rw [Hs.out]; rfl, Drawn.more ⟨q, rfl⟩ _⟩
      · obtain rfl : k = n := by omega
        have Hs : Hid (same2B k k f g f' g' = true) := decide_eq_true ⟨rfl, Hfg.out⟩
        go_wp2
        go_ret
        exact ⟨by rw [Hs.out]; rfl, _, rfl⟩
  · have Hs : Hid (same2B n m f g f' g' = false) := decide_eq_false fun h => hnm h.1
    have h1 : ((n : Int) != (m : Int)) = true := by simp; omega
    clear hnm
    go_enter Try.func134, Try.ntmps134
    go_wp2
    go_ret
    exact ⟨by rw [Hs.out]; rfl, Drawn.refl _⟩
def smB (T fl st pd T' fl' st' pd' : Int) (n m : Nat) (f g : Nat → Int) (n2 m2 : Nat) (s1 t1 s2 t2 : Nat → Int) (wt pa pm la co sp wt' pa' pm' la' co' sp' : Int) (al al' : Bool) : Bool :=
  ((T == T') && ((fl == fl') && ((st == st') && ((pd == pd') && ((sameB n m f g) && ((same2B n2 m2 s1 t1 s2 t2) && ((wt == wt') && ((pa == pa') && ((al == al') && ((pm == pm') && ((la == la') && ((co == co') && (sp == sp')))))))))))))
end Go.Proofs.Ytpnjamomkpkkeaa
