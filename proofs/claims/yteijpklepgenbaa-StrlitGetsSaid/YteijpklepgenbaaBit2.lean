/- The contracts of layer 5's reader, more: the next bit, the number of the next ones; and of its reference: all bits, a number of the first ones. -/
import Derived.Test.YteijpklepgenbaaBit1
namespace Go.Proofs.Yteijpklepgenbaa
open Go.RowKit

theorem bitF_bd {f : Nat → Int} (i : Nat) : 0 ≤ bitF f i ∧ bitF f i ≤ 1 := by unfold bitF; omega
theorem bnum_bd {g : Nat → Int} {n : Nat} (hg : ∀ i, i < n → 0 ≤ g i ∧ g i ≤ 1) : ∀ k, k ≤ n → 0 ≤ bnum g k ∧ bnum g k < 2 ^ k
  | 0, _ => by simp [bnum]
  | k + 1, hk => by
    have h1 := bnum_bd hg k (by omega)
    have h2 := hg k (by omega)
    have h3 : (2 : Int) ^ (k + 1) = 2 ^ k * 2 := Int.pow_succ 2 k
    simp only [bnum]
    rw [h3]
    generalize (2 : Int) ^ k = z at *
    omega
theorem bnum_lt {g : Nat → Int} {n : Nat} (hg : ∀ i, i < n → 0 ≤ g i ∧ g i ≤ 1) (k : Nat) (hk : k ≤ n) (h32 : k ≤ 32) : 0 ≤ bnum g k ∧ bnum g k < 4294967296 := by
  have h := bnum_bd hg k hk
  have h2 : (2 : Int) ^ k ≤ 2 ^ 32 := by
    have : (2 : Nat) ^ k ≤ 2 ^ 32 := Nat.pow_le_pow_right (by omega) h32
    exact_mod_cast this
  have h3 : (2 : Int) ^ 32 = 4294967296 := by decide
  omega
theorem or_bit {v b : Int} (h0 : 0 ≤ v) (h1 : v < 4294967296) (h2 : 0 ≤ b) (h3 : b ≤ 1) : bits .or .i64 (v * 2) b = 2 * v + b := by
  obtain ⟨a, rfl⟩ := Int.eq_ofNat_of_zero_le h0
  obtain ⟨c, rfl⟩ := Int.eq_ofNat_of_zero_le h2
  have hn : a * 2 ||| c = a * 2 + c := by
    have : a * 2 = 2 ^ 1 * a := by omega
    rw [this, Nat.two_pow_add_eq_or_of_lt (by omega)]
  show IntKind.i64.wrap ((BitVec.ofInt 64 ((a : Int) * 2) ||| BitVec.ofInt 64 (c : Int)).toNat : Int) = _
  rw [show ((a : Int) * 2) = ((a * 2 : Nat) : Int) by omega, BitVec.toNat_or, BitVec.ofInt_natCast, BitVec.ofInt_natCast, BitVec.toNat_ofNat, BitVec.toNat_ofNat, Nat.mod_eq_of_lt (show a * 2 < 2 ^ 64 by omega), Nat.mod_eq_of_lt (show c < 2 ^ 64 by omega), hn, IntKind.wrap_i64]
  omega

theorem count_yes (s : Int) (w : World) (h1 : 0 ≤ s) (h2 : s ≤ 32) : Calls Try.prog 40 #[.int .i64 s] w fun e w' => e = .returned (.bool true) ∧ w = w' := by
  have hd : decide (s ≤ 32) = true := by simpa using h2
  have hd1 : decide (0 ≤ s) = true := by simpa using h1
  go_enter Try.func40, Try.ntmps40
  go_wp2
  go_ret
  exact ⟨rfl, rfl⟩
theorem count_no (s : Int) (w : World) (h : s < 0 ∨ 32 < s) : Calls Try.prog 40 #[.int .i64 s] w fun e w' => e = .returned (.bool false) ∧ w = w' := by
  rcases h with h | h
  · have hd : decide (0 ≤ s) = false := by simpa using h
    go_enter Try.func40, Try.ntmps40
    go_wp2
    go_ret
    exact ⟨rfl, rfl⟩
  · have hd : decide (s ≤ 32) = false := by simpa using h
    have hd1 : decide (0 ≤ s) = true := by simp; omega
    go_enter Try.func40, Try.ntmps40
    go_wp2
    go_ret
    exact ⟨rfl, rfl⟩

/-! ### Bit -/
theorem bitNil (w : World) : Calls Try.prog 34 #[.pointer none] w fun e w' => e = .returned (.tuple #[.int .i64 0, .bool false]) ∧ w = w' := by
  go_enter Try.func34, Try.ntmps34
  go_wp2_with (go_at_call 33; refine (bleftNil _).mono ?_; rintro e w' ⟨rfl, rfl⟩)
  go_ret2
  exact ⟨rfl, rfl⟩
theorem bit_none (p n : Nat) (f : Nat → Int) (w : World) (h : Rdr w p n f (8 * n)) :
    Calls Try.prog 34 #[.pointer (some ⟨p, 0, none⟩)] w fun e w' => e = .returned (.tuple #[.int .i64 0, .bool false]) ∧ Drawn w w' := by
  have H := hide h
  clear h
  go_enter Try.func34, Try.ntmps34
  go_wp2_with fail
  refine (bleft_any p n (8 * n) f _ H.out).mono ?_
  rintro e w1 ⟨rfl, hd⟩
  rw [Nat.sub_self]
  go_wp2_with fail
  go_ret2
  exact ⟨rfl, hd⟩
theorem bit_one (p n t : Nat) (f : Nat → Int) (w : World) (h : Rdr w p n f t) (hb : Byt n f) (ht : t < 8 * n) :
    Calls Try.prog 34 #[.pointer (some ⟨p, 0, none⟩)] w fun e w' => e = .returned (.tuple #[.int .i64 (bitF f t), .bool true]) ∧ Rdr w' p n f (t + 1) ∧ w.grownBy w' (some p) := by
  have H := hide h
  have Hb := hide hb
  clear h hb
  have hz2 : (((8 * n - t : Nat) : Int) == 0) = false := by simp; omega
  obtain ⟨q, hq⟩ : ∃ q, q = 8 * n - t := ⟨_, rfl⟩
  have Hq := hide hq
  rw [← hq] at hz2
  clear hq
  go_enter Try.func34, Try.ntmps34
  go_wp2_with fail
  refine (bleft_any p n t f _ H.out).mono ?_
  rintro e w1 ⟨rfl, hd⟩
  rw [← Hq.out]
  obtain ⟨m, rfl⟩ := hd
  go_wp2_with fail
  refine (bnext_any p n t f _ (H.out.drawn (Drawn.of _ _)) Hb.out ht).mono ?_
  rintro e w2 ⟨rfl, hr, hg⟩
  go_wp2_with fail
  go_ret2
  exact ⟨rfl, hr, ⟨hg.os, hg.tape, hg.output, hg.size, hg.block⟩⟩

/-! ### Bits -/
def bitsE (left : Nat) (s : Int) : Int := if s < 0 ∨ 32 < s then 1 else if (left : Int) < s then 3 else 0
theorem bitsE_ok {left : Nat} {s : Int} (h : bitsE left s = 0) : 0 ≤ s ∧ s ≤ 32 ∧ s ≤ left := by
  unfold bitsE at h
  split at h
  · omega
  · split at h <;> omega
theorem grown_trans {a b c : World} {row : Option Nat} (h : a.grownBy b row) (k : b.grownBy c row) : a.grownBy c row :=
  ⟨k.os.trans h.os, k.tape.trans h.tape, k.output.trans h.output, Nat.le_trans h.size k.size, fun i hi hne => (k.block i (Nat.lt_of_lt_of_le hi h.size) hne).trans (h.block i hi hne)⟩
theorem bdrawn_grown {w w' : World} (h : Drawn w w') (row : Option Nat) : w.grownBy w' row := by
  obtain ⟨q, rfl⟩ := h
  exact ⟨rfl, rfl, rfl, Nat.le_refl _, fun _ _ _ => rfl⟩

end Go.Proofs.Yteijpklepgenbaa
