/- Layer 25: the reference's names and pseudo-fields' names; values, the program's and the reference's; fields. -/
import Derived.Test.YtfkjgjdbjmcioaaDoorTok2
import Derived.Deep.RegionHeld3
namespace Go.Proofs.YtfkjgjdbjmcioaaDoor
open Go.RowKit Go.PlainAid

/-! ### values -/
def okV (c : Int) (k n : Nat) : Prop := c ≠ 0 ∧ c ≠ 10 ∧ c ≠ 13 ∧ ((c = 9 ∨ c = 32) → k ≠ 0 ∧ k + 1 ≠ n)
instance (c : Int) (k n : Nat) : Decidable (okV c k n) := by unfold okV; exact inferInstance
def valB (s : ByteArray) : Bool := decide (∀ i, i < s.size → okV (bt s i) i s.size)
theorem val_yes {s : ByteArray} (h : ∀ i, i < s.size → okV (bt s i) i s.size) : valB s = true := decide_eq_true h
theorem val_no {s : ByteArray} {k : Nat} (hk : k < s.size) (h : ¬ okV (bt s k) k s.size) : valB s = false := decide_eq_false fun hh => h (hh k hk)
set_option maxHeartbeats 1000000 in
theorem value_any (s : ByteArray) (w : World) (hs : s.size ≤ 9223372036854775807) : Calls Tryd.prog 75 #[.string s] w fun e w' => e = .returned (.bool (valB s)) ∧ w = w' := by
  have Hs := hide hs
  go_enter Tryd.func75, Tryd.ntmps75
  go_wp2
  go_loop [3, 6] (fun _ i => ∃ k : Nat, k ≤ s.size ∧ i = .int .i64 k ∧ ∀ j, j < k → okV (bt s j) j s.size) (fun _ i => s.size - (intOf i).toNat)
  case atStart => exact ⟨0, Nat.zero_le _, rfl, fun j hj => absurd hj (by omega)⟩
  case round =>
    obtain ⟨k, hk, rfl, hall⟩ := hrel
    have Hall := hide hall
    clear hall
    by_cases hlt : k < s.size
    · have hb := get_bt s k hlt
      have Hy : Hid (okV (bt s k) k s.size → ∀ j, j < k + 1 → okV (bt s j) j s.size) := fun hc j hj => by
        by_cases e : j = k
        · subst e; exact hc
        · exact Hall.out j (by omega)
      have Hn : Hid (¬ okV (bt s k) k s.size → valB s = false) := fun hc => val_no hlt hc
      generalize bt s k = c at hb Hy Hn
      go_wp2
      all_goals first
        | (refine ⟨⟨k + 1, by omega, by go_num, Hy.out ?_⟩, by simp [intOf]; omega⟩
           unfold okV
           (try simp only [beq_iff_eq, beq_eq_false_iff_ne, ne_eq] at *)
           omega)
        | (go_ret
           refine ⟨?_, rfl⟩
           rw [Hn.out (by unfold okV; (try simp only [beq_iff_eq, beq_eq_false_iff_ne, ne_eq] at *); omega)]
           rfl)
    · obtain rfl : k = s.size := by omega
      have Hn : Hid (valB s = true) := val_yes Hall.out
      go_wp2
      go_ret
      exact ⟨by rw [Hn.out]; rfl, rfl⟩
end Go.Proofs.YtfkjgjdbjmcioaaDoor
