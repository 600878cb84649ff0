/- Layer 8: the examples: Has, flagName and Flags at them; rows of texts. -/
import Derived.Test.YtfkjgjdbjmcioaaDoorKi1
namespace Go.Proofs.YtfkjgjdbjmcioaaDoor
open Go.RowKit Go.PlainAid

def stV1 (S : Nat → ByteArray) : Nat → Value := fun i => .string (S i)
theorem rdV_str (w : World) (s : ByteArray) (T : TypeId) : RdV 1 (w.alloc (.cells #[.string s] T)) (some ⟨w.heap.size, 0, none⟩) 1 1 (fun _ => .string s) :=
  (OwnV.lit 1 T 0 w (fun _ => .string s) #[.string s] 1 (Nat.zero_le _) (by simp [maxLen]) rfl).rdS2
theorem str_info : (Tryd.prog.info? 9).map (fun i => (i.zero, i.size, i.bytes)) = some (some (.string ⟨#[]⟩), 1, 16) := by kernel_rfl
theorem rdV_below {s : Nat} {w w' : World} {A : Option Addr} {n c : Nat} {F : Nat → Value} (h : RdV s w A n c F) (hb : Below w.heap.size w w') : RdV s w' A n c F :=
  ⟨h.1, h.2.1, h.2.2.1, fun hn => by
    obtain ⟨b, off, hA, hc⟩ := h.2.2.2 hn
    exact ⟨b, off, hA, fun i hi => (hb.cell (World.block_lt_of_cell? w _ (hc i hi))).trans (hc i hi)⟩⟩
set_option maxHeartbeats 400000 in
theorem strs_same (A C : Option Addr) (n c d : Nat) (S : Nat → ByteArray) (w : World) (ha : RdV 1 w A n c (stV1 S)) (hb : RdV 1 w C n d (stV1 S)) :
    Calls Tryd.prog 25 #[.slice A n c, .slice C n d] w fun e w' => e = .returned (.bool true) ∧ Drawn w w' := by
  have hn : n ≤ 9223372036854775807 := by have h1 := ha.1; have h2 := ha.2.1; simp only [maxLen] at h2; omega
  have Ha := hide ha
  have Hb := hide hb
  clear ha hb
  go_enter Tryd.func25, Tryd.ntmps25
  go_wp2
  go_loopw [5] (fun i wr => ∃ k : Nat, k ≤ n ∧ i = .int .i64 k ∧ Drawn w wr) (fun i _ => n - (intOf i).toNat)
  case atStart => exact ⟨0, Nat.zero_le _, rfl, Drawn.refl _⟩
  case round =>
    obtain ⟨k, hk, rfl, q, rfl⟩ := hrel
    by_cases hlt : k < n
    · obtain ⟨b, off, rfl, hca⟩ := Ha.out.2.2.2 (by omega)
      obtain ⟨b', off', rfl, hcb⟩ := Hb.out.2.2.2 (by omega)
      have ca := hca k (by omega)
      have cb := hcb k (by omega)
      clear hca hcb
      simp only [stV1] at ca cb
      generalize S k = s at ca cb
      go_wp2
      go_quiet (fail)
      go_wp2
      go_roundw
      case rel => exact ⟨k + 1, by omega, by go_num, _, rfl⟩
      case measure => simp [intOf]; omega
    · obtain rfl : k = n := by omega
      go_wp2
      go_ret
      exact ⟨rfl, q, rfl⟩
def hasC (t x : Int) : Bool := decide ((t = 1 ∧ (x = 1 ∨ x = 4)) ∨ (t = 4 ∧ x = 1))
set_option maxHeartbeats 3200000 in
theorem has_c (t fl x : Int) (w : World) (h : (t = 1 ∧ fl = 5) ∨ (t = 4 ∧ fl = 255)) (hx : x = 1 ∨ x = 2 ∨ x = 4 ∨ x = 8 ∨ x = 16 ∨ x = 32) : Calls Tryd.prog 23 #[.int .i64 t, .int .i64 fl, .int .i64 x] w fun e w' => e = .returned (.bool (hasC t x)) ∧ Drawn w w' := by
  have h1 := fun W => ones_c x W hx
  have h2 := fun W => used_c t W (h.imp (·.1) (·.1))
  have hw : IntKind.u64.wrap x = x := by
    rcases hx with rfl | rfl | rfl | rfl | rfl | rfl <;> rfl
  rcases h with ⟨rfl, rfl⟩ | ⟨rfl, rfl⟩ <;> rcases hx with rfl | rfl | rfl | rfl | rfl | rfl <;>
  · go_enter Tryd.func23, Tryd.ntmps23
    go_wp2_with (first
      | (go_at_call 73; refine (h1 _).mono ?_; rintro e w' ⟨rfl, rfl⟩)
      | (go_at_call 22; refine (h2 _).mono ?_; rintro e w' ⟨rfl, rfl⟩))
    go_ret
    exact ⟨by kernel_rfl, Drawn.refl _⟩
end Go.Proofs.YtfkjgjdbjmcioaaDoor
