/- The contracts of 'octet.Low', 'octet.With', 'octet.Same' and of the reference's Low; the chapter's example. -/
import Derived.Test.YtfkjgjdbjmcioaaDoorOct3
namespace Go.Proofs.YtfkjgjdbjmcioaaDoor
open Go.RowKit

theorem natAnd31 (a : Nat) (h : a < 4294967296) : a &&& 2147483648 = if a < 2147483648 then 0 else 2147483648 := by
  refine Nat.eq_of_testBit_eq fun i => ?_
  rw [Nat.testBit_and, show (2147483648 : Nat) = 2 ^ 31 from rfl, Nat.testBit_two_pow]
  by_cases h1 : 31 = i
  · subst h1
    have e2 : a.testBit 31 = decide (2 ^ 31 ≤ a) := by
      rw [Nat.testBit_eq_decide_div_mod_eq]
      simp
      omega
    rw [e2]
    by_cases h2 : a < 2 ^ 31
    · have : ¬ 2 ^ 31 ≤ a := by omega
      simp [h2, this]
    · have h3 : 2 ^ 31 ≤ a := by omega
      rw [if_neg h2, Nat.testBit_two_pow_self]
      simp [h3]
  · split
    · simp [h1]
    · rw [Nat.testBit_two_pow]
      simp [h1]
theorem natAndNot31 (a : Nat) (h : a < 4294967296) : a &&& (2 ^ 64 - (2147483648 + 1)) = a % 2147483648 := by
  refine Nat.eq_of_testBit_eq fun i => ?_
  rw [Nat.testBit_and, Nat.testBit_two_pow_sub_succ (by omega), show (2147483648 : Nat) = 2 ^ 31 from rfl, Nat.testBit_mod_two_pow, Nat.testBit_two_pow]
  by_cases h1 : i < 31
  · have h2 : i < 64 := by omega
    have h3 : ¬ 31 = i := by omega
    simp [h1, h2, h3]
  · by_cases h2 : i = 31
    · subst h2
      simp
    · have : a.testBit i = false := Nat.testBit_lt_two_pow (Nat.lt_of_lt_of_le h (by
        have : 2 ^ 32 ≤ 2 ^ i := Nat.pow_le_pow_right (by omega) (by omega)
        omega))
      simp [this]
theorem and31 {n : Int} (h0 : 0 ≤ n) (h1 : n < 4294967296) : bits .and .i64 n 2147483648 = if n < 2147483648 then 0 else 2147483648 := by
  obtain ⟨a, rfl⟩ := Int.eq_ofNat_of_zero_le h0
  have hn := natAnd31 a (by omega)
  show IntKind.i64.wrap ((BitVec.ofInt 64 (a : Int) &&& BitVec.ofInt 64 ((2147483648 : Nat) : Int)).toNat : Int) = _
  rw [BitVec.toNat_and, ofInt_i64n a (by omega), ofInt_i64n _ (by omega), hn, IntKind.wrap_i64]
  by_cases h : a < 2147483648
  · have : (a : Int) < 2147483648 := by omega
    simp [h, this]
  · have : ¬ (a : Int) < 2147483648 := by omega
    simp [h, this]
theorem andNot31 {n : Int} (h0 : 0 ≤ n) (h1 : n < 4294967296) : bits .andNot .i64 n 2147483648 = n % 2147483648 := by
  obtain ⟨a, rfl⟩ := Int.eq_ofNat_of_zero_le h0
  have hn := natAndNot31 a (by omega)
  show IntKind.i64.wrap ((BitVec.ofInt 64 (a : Int) &&& ~~~ BitVec.ofInt 64 ((2147483648 : Nat) : Int)).toNat : Int) = _
  rw [BitVec.toNat_and, BitVec.toNat_not, ofInt_i64n a (by omega), ofInt_i64n _ (by omega), show 2 ^ 64 - 1 - 2147483648 = 2 ^ 64 - (2147483648 + 1) from rfl, hn, IntKind.wrap_i64]
  omega
theorem or31 {n : Int} (h0 : 0 ≤ n) (h1 : n < 2147483648) : bits .or .i64 n 2147483648 = n + 2147483648 := by
  obtain ⟨a, rfl⟩ := Int.eq_ofNat_of_zero_le h0
  have hn : a ||| 2147483648 = a + 2147483648 := by
    have h := Nat.two_pow_add_eq_or_of_lt (i := 31) (b := a) (by omega) 1
    rw [Nat.or_comm]
    have e : 2 ^ 31 * 1 = 2147483648 := rfl
    rw [e] at h
    omega
  show IntKind.i64.wrap ((BitVec.ofInt 64 (a : Int) ||| BitVec.ofInt 64 ((2147483648 : Nat) : Int)).toNat : Int) = _
  rw [BitVec.toNat_or, ofInt_i64n a (by omega), ofInt_i64n _ (by omega), hn, IntKind.wrap_i64]
  omega

/-! ### Low -/
def lowN (n : Int) : Int := if n < 0 ∨ 4294967296 ≤ n then 0 else if n < 2147483648 then n else n - 2147483648
def lowB (n : Int) : Bool := decide (2147483648 ≤ n ∧ n < 4294967296)
/-! ### With -/
/-! ### Same -/
def bts (n : Nat) (f : Nat → Int) : List UInt8 := (List.range n).map fun i => UInt8.ofNat (f i).toNat
theorem bts_len (n : Nat) (f : Nat → Int) : (bts n f).length = n := by simp [bts]
theorem bts_get (n : Nat) (f : Nat → Int) (j : Nat) (h : j < (bts n f).length) : (bts n f)[j] = UInt8.ofNat (f j).toNat := by simp [bts]
theorem byt_of {n : Nat} {f : Nat → Int} (h : Byt n f) {i : Nat} (hi : i < n) : ((UInt8.ofNat (f i).toNat).toNat : Int) = f i := by
  have := h i hi
  rw [UInt8.toNat_ofNat']
  omega
theorem run_str (w : World) (A : Option Addr) (n c : Nat) (f : Nat → Int) (h : Rd .u8 w A n c f) (hb : Byt n f) :
    (convert 47 9 (.slice A n c)).run Tryd.prog w = .ok (.string ⟨(bts n f).toArray⟩) w := by
  rcases A with _ | ad
  · obtain ⟨h1, h2, h3, _⟩ := h
    obtain rfl : c = 0 := h3 rfl
    obtain rfl : n = 0 := by omega
    kernel_rfl
  · have hr := run_convert_bytes_back (P := Tryd.prog) w 47 9 5 ad c (bts n f) Tryd.underlying47 Tryd.underlying5 Tryd.underlying9 (fun j hj => by
      have hj' : j < n := by rw [bts_len] at hj; exact hj
      obtain ⟨b, off, hA, hc⟩ := h.at_ hj'
      obtain rfl := Option.some.inj hA
      rw [Addr.add_lit, hc, bts_get, byt_of hb hj'])
    rw [bts_len] at hr
    exact hr
theorem bts_eq {n m : Nat} {f g : Nat → Int} (hf : Byt n f) (hg : Byt m g) : (bts n f = bts m g) ↔ sameB n m f g = true := by
  constructor
  · intro h
    have hl : n = m := by have := congrArg List.length h; simpa [bts_len] using this
    subst hl
    refine sameB_yes rfl fun i hi => ?_
    have h1 := congrArg (fun l => l[i]?) h
    simp only [List.getElem?_eq_getElem (show i < (bts n f).length by rw [bts_len]; exact hi), List.getElem?_eq_getElem (show i < (bts n g).length by rw [bts_len]; exact hi), bts_get] at h1
    have h2 := congrArg (fun u : UInt8 => (u.toNat : Int)) (Option.some.inj h1)
    simp only [byt_of hf hi, byt_of hg hi] at h2
    exact h2
  · intro h
    obtain ⟨rfl, hs⟩ := sameB_of h
    refine List.ext_getElem (by rw [bts_len, bts_len]) fun i h1 h2 => ?_
    rw [bts_get, bts_get, hs i (by rw [bts_len] at h1; exact h1)]
end Go.Proofs.YtfkjgjdbjmcioaaDoor
