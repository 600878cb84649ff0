/- The contracts of layer 5's reader, more: the next bit, the number of the next ones; and of its reference: all bits, a number of the first ones. -/
import Derived.Test.YtgjnmjakpiceiabBit1
namespace Go.Proofs.Ytgjnmjakpiceiab
open Go.RowKit

theorem bitF_bd {f : Nat → Int} (i : Nat) : 0 ≤ bitF f i ∧ bitF f i ≤ 1 := by unfold bitF; omega
theorem bnum_bd {g : Nat → Int} {n : Nat} (hg : ∀ i, i < n → 0 ≤ g i ∧ g i ≤ 1) : ∀ k, k ≤ n → 0 ≤ bnum g k ∧ bnum g k < 2 ^ k
  | 0, _ => by simp [bnum]
  | k + 1, hk => by
    have h1 := bnum_bd hg k (by omega)
    have h2 := hg k (by omega)
    have h3 : (2 : Int) ^ (k + 1) = 2 ^ k * 2 := Int.pow_succ 2 k
    simp only [bnum]
    rw [h3]
    generalize (2 : Int) ^ k = z at *
    omega
theorem bnum_lt {g : Nat → Int} {n : Nat} (hg : ∀ i, i < n → 0 ≤ g i ∧ g i ≤ 1) (k : Nat) (hk : k ≤ n) (h32 : k ≤ 32) : 0 ≤ bnum g k ∧ bnum g k < 4294967296 := by
  have h := bnum_bd hg k hk
  have h2 : (2 : Int) ^ k ≤ 2 ^ 32 := by
    have : (2 : Nat) ^ k ≤ 2 ^ 32 := Nat.pow_le_pow_right (by omega) h32
    exact_mod_cast this
  have h3 : (2 : Int) ^ 32 = 4294967296 := by decide
  omega
theorem or_bit {v b : Int} (h0 : 0 ≤ v) (h1 : v < 4294967296) (h2 : 0 ≤ b) (h3 : b ≤ 1) : bits .or .i64 (v * 2) b = 2 * v + b := by
  obtain ⟨a, rfl⟩ := Int.eq_ofNat_of_zero_le h0
  obtain ⟨c, rfl⟩ := Int.eq_ofNat_of_zero_le h2
  have hn : a * 2 ||| c = a * 2 + c := by
    have : a * 2 = 2 ^ 1 * a := by omega
    rw [this, Nat.two_pow_add_eq_or_of_lt (by omega)]
  show IntKind.i64.wrap ((BitVec.ofInt 64 ((a : Int) * 2) ||| BitVec.ofInt 64 (c : Int)).toNat : Int) = _
  rw [show ((a : Int) * 2) = ((a * 2 : Nat) : Int) by omega, BitVec.toNat_or, BitVec.ofInt_natCast, BitVec.ofInt_natCast, BitVec.toNat_ofNat, BitVec.toNat_ofNat, Nat.mod_eq_of_lt (show a * 2 < 2 ^ 64 by omega), Nat.mod_eq_of_lt (show c < 2 ^ 64 by omega), hn, IntKind.wrap_i64]
  omega

theorem count_yes (s : Int) (w : World) (h1 : 0 ≤ s) (h2 : s ≤ 32) : Calls Try.prog 35 #[.int .i64 s] w fun e w' => e = .returned (.bool true) ∧ w = w' := by
  have hd : decide (s ≤ 32) = true := by simpa using h2
  have hd1 : decide (0 ≤ s) = true := by simpa using h1
  go_enter Try.func35, Try.ntmps35
  go_wp2
  go_ret
  exact ⟨rfl, rfl⟩
theorem count_no (s : Int) (w : World) (h : s < 0 ∨ 32 < s) : Calls Try.prog 35 #[.int .i64 s] w fun e w' => e = .returned (.bool false) ∧ w = w' := by
  rcases h with h | h
  · have hd : decide (0 ≤ s) = false := by simpa using h
    go_enter Try.func35, Try.ntmps35
    go_wp2
    go_ret
    exact ⟨rfl, rfl⟩
  · have hd : decide (s ≤ 32) = false := by simpa using h
    have hd1 : decide (0 ≤ s) = true := by simp; omega
    go_enter Try.func35, Try.ntmps35
    go_wp2
    go_ret
    exact ⟨rfl, rfl⟩

/-! ### Bit -/
theorem bitNil (w : World) : Calls Try.prog 12 #[.pointer none] w fun e w' => e = .returned (.tuple #[.int .i64 0, .bool false]) ∧ w = w' := by
  go_enter Try.func12, Try.ntmps12
  go_wp2_with (go_at_call 15; refine (leftNil _).mono ?_; rintro e w' ⟨rfl, rfl⟩)
  go_ret2
  exact ⟨rfl, rfl⟩
theorem bit_none (p n : Nat) (f : Nat → Int) (w : World) (h : Rdr w p n f (8 * n)) :
    Calls Try.prog 12 #[.pointer (some ⟨p, 0, none⟩)] w fun e w' => e = .returned (.tuple #[.int .i64 0, .bool false]) ∧ Drawn w w' := by
  have H := hide h
  clear h
  go_enter Try.func12, Try.ntmps12
  go_wp2_with fail
  refine (left_any p n (8 * n) f _ H.out).mono ?_
  rintro e w1 ⟨rfl, hd⟩
  rw [Nat.sub_self]
  go_wp2_with fail
  go_ret2
  exact ⟨rfl, hd⟩
theorem bit_one (p n t : Nat) (f : Nat → Int) (w : World) (h : Rdr w p n f t) (hb : Byt n f) (ht : t < 8 * n) :
    Calls Try.prog 12 #[.pointer (some ⟨p, 0, none⟩)] w fun e w' => e = .returned (.tuple #[.int .i64 (bitF f t), .bool true]) ∧ Rdr w' p n f (t + 1) ∧ w.grownBy w' (some p) := by
  have H := hide h
  have Hb := hide hb
  clear h hb
  have hz2 : (((8 * n - t : Nat) : Int) == 0) = false := by simp; omega
  obtain ⟨q, hq⟩ : ∃ q, q = 8 * n - t := ⟨_, rfl⟩
  have Hq := hide hq
  rw [← hq] at hz2
  clear hq
  go_enter Try.func12, Try.ntmps12
  go_wp2_with fail
  refine (left_any p n t f _ H.out).mono ?_
  rintro e w1 ⟨rfl, hd⟩
  rw [← Hq.out]
  obtain ⟨m, rfl⟩ := hd
  go_wp2_with fail
  refine (next_any p n t f _ (H.out.drawn (Drawn.of _ _)) Hb.out ht).mono ?_
  rintro e w2 ⟨rfl, hr, hg⟩
  go_wp2_with fail
  go_ret2
  exact ⟨rfl, hr, ⟨hg.os, hg.tape, hg.output, hg.size, hg.block⟩⟩

/-! ### Bits -/
def bitsE (left : Nat) (s : Int) : Int := if s < 0 ∨ 32 < s then 1 else if (left : Int) < s then 3 else 0
theorem bitsE_ok {left : Nat} {s : Int} (h : bitsE left s = 0) : 0 ≤ s ∧ s ≤ 32 ∧ s ≤ left := by
  unfold bitsE at h
  split at h
  · omega
  · split at h <;> omega
set_option maxHeartbeats 400000 in
theorem bits_bad (p n t : Nat) (s : Int) (f : Nat → Int) (w : World) (h : Rdr w p n f t) (he : bitsE (8 * n - t) s ≠ 0) :
    Calls Try.prog 14 #[.pointer (some ⟨p, 0, none⟩), .int .i64 s] w fun e w' => e = .returned (.tuple #[.int .i64 0, .int .i64 (bitsE (8 * n - t) s)]) ∧ Drawn w w' := by
  have H := hide h
  clear h
  by_cases h1 : s < 0 ∨ 32 < s
  · have He : Hid (bitsE (8 * n - t) s = 1) := by simp [bitsE, h1, Hid]
    have H1 := hide h1
    clear he h1
    go_enter Try.func14, Try.ntmps14
    go_wp2_with (go_at_call 35; refine (count_no _ _ H1.out).mono ?_; rintro e w' ⟨rfl, rfl⟩)
    go_ret2
    exact ⟨by rw [He.out]; rfl, Drawn.refl _⟩
  · have h1a : 0 ≤ s := by omega
    have h1b : s ≤ 32 := by omega
    obtain ⟨q, hq⟩ : ∃ q, q = 8 * n - t := ⟨_, rfl⟩
    rw [← hq] at he ⊢
    have h3 : (q : Int) < s := by
      rcases Classical.em ((q : Int) < s) with h3 | h3
      · exact h3
      · exact absurd (by simp [bitsE, h1, h3]) he
    have He : Hid (bitsE q s = 3) := by simp [bitsE, h1, h3, Hid]
    have Hq := hide hq
    clear he h1 hq
    go_enter Try.func14, Try.ntmps14
    go_wp2_with fail
    refine (count_yes _ _ h1a h1b).mono ?_
    rintro e w' ⟨rfl, rfl⟩
    go_wp2_with fail
    refine (left_any p n t f _ H.out).mono ?_
    rintro e w1 ⟨rfl, hd⟩
    rw [← Hq.out]
    go_wp2_with fail
    go_ret2
    exact ⟨by rw [He.out]; rfl, hd⟩

theorem grown_trans {a b c : World} {row : Option Nat} (h : a.grownBy b row) (k : b.grownBy c row) : a.grownBy c row :=
  ⟨k.os.trans h.os, k.tape.trans h.tape, k.output.trans h.output, Nat.le_trans h.size k.size, fun i hi hne => (k.block i (Nat.lt_of_lt_of_le hi h.size) hne).trans (h.block i hi hne)⟩
theorem drawn_grown {w w' : World} (h : Drawn w w') (row : Option Nat) : w.grownBy w' row := by
  obtain ⟨q, rfl⟩ := h
  exact ⟨rfl, rfl, rfl, Nat.le_refl _, fun _ _ _ => rfl⟩

set_option maxHeartbeats 800000 in
theorem bits_ok (p n t s : Nat) (f : Nat → Int) (w : World) (h : Rdr w p n f t) (hb : Byt n f) (h2 : s ≤ 32) (h3 : t + s ≤ 8 * n) :
    Calls Try.prog 14 #[.pointer (some ⟨p, 0, none⟩), .int .i64 (s : Int)] w fun e w' =>
      e = .returned (.tuple #[.int .i64 (bnum (fun j => bitF f (t + j)) s), .int .i64 0]) ∧ Rdr w' p n f (t + s) ∧ w.grownBy w' (some p) := by
  have H := hide h
  have Hb := hide hb
  have hn : n ≤ 1000000 := by obtain ⟨_, _, _, _, _, _, h⟩ := h; exact h
  obtain ⟨q, hq⟩ : ∃ q, q = 8 * n - t := ⟨_, rfl⟩
  have hqs : s ≤ q := by omega
  have hqd : decide ((q : Int) < (s : Int)) = false := by simp; omega
  have hqd2 : decide (q < s) = false := by simp; omega
  have Hq := hide hq
  have Hgb : Hid (∀ i, i < s → 0 ≤ (fun j => bitF f (t + j)) i ∧ (fun j => bitF f (t + j)) i ≤ 1) := fun i _ => bitF_bd _
  obtain ⟨g, hg⟩ : ∃ g : Nat → Int, g = fun j => bitF f (t + j) := ⟨_, rfl⟩
  rw [← hg] at Hgb ⊢
  have Hg := hide hg
  clear h hb hq hg
  go_enter Try.func14, Try.ntmps14
  go_wp2_with fail
  refine (count_yes _ _ (by omega) (by omega)).mono ?_
  rintro e w' ⟨rfl, rfl⟩
  go_wp2_with fail
  refine (left_any p n t f _ H.out).mono ?_
  rintro e w1 ⟨rfl, hd⟩
  rw [← Hq.out]
  go_wp2_with fail
  go_loopw [6, 15] (fun v i wr => ∃ k : Nat, k ≤ s ∧ i = .int .i64 k ∧ v = .int .i64 (bnum g k) ∧ Rdr wr p n f (t + k) ∧ w.grownBy wr (some p)) (fun _ i _ => s - (intOf i).toNat)
  case atStart => exact ⟨0, Nat.zero_le _, rfl, rfl, H.out.drawn hd, drawn_grown hd _⟩
  case round =>
    obtain ⟨k, hk, rfl, rfl, hr, hgr⟩ := hrel
    have Hr := hide hr
    clear hr hd
    by_cases hlt : k < s
    · obtain ⟨q1, q2⟩ := bnum_lt Hgb.out k hk (by omega)
      obtain ⟨q3, q4⟩ := Hgb.out k hlt
      have Hor := hide (or_bit q1 q2 q3 q4)
      go_wp2_with fail
      refine (next_any p n (t + k) f _ Hr.out Hb.out (by omega)).mono ?_
      rintro e w2 ⟨rfl, hr2, hg2⟩
      rw [show bitF f (t + k) = g k by rw [Hg.out]]
      go_wp2_with fail
      go_roundw
      case rel => exact ⟨k + 1, by omega, by go_num, by rw [Hor.out]; rfl, hr2, grown_trans hgr hg2⟩
      case measure => simp [intOf]; omega
    · obtain rfl : k = s := by omega
      go_wp2_with fail
      go_ret2
      exact ⟨rfl, Hr.out, hgr⟩
end Go.Proofs.Ytgjnmjakpiceiab
