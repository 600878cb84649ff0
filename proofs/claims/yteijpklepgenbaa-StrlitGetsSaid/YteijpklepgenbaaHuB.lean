/- Layer 17: Encode, the program's and the reference's; Size. -/
import Derived.Test.YteijpklepgenbaaHuA
import Derived.Test.YteijpklepgenbaaCbB
import Derived.Test.YteijpklepgenbaaBit7
namespace Go.Proofs.Yteijpklepgenbaa
open Go.RowKit

/-- How many bits the first k bytes have; the bits. -/
def enT (b : Nat → Int) : Nat → Nat
  | 0 => 0
  | k + 1 => enT b k + len (b k).toNat
def enG (b : Nat → Int) : Nat → Nat → Int
  | 0 => fun _ => 0
  | k + 1 => catF (enT b k) (enG b k) (bitsOf (cd (rnk (b k).toNat) : Int) (len (b k).toNat))
theorem byt_nat {n : Nat} {b : Nat → Int} (hb : Byt n b) {k : Nat} (hk : k < n) : (b k).toNat < 256 ∧ ((b k).toNat : Int) = b k := by
  have := hb k hk
  omega
theorem enT_le {n : Nat} {b : Nat → Int} (hb : Byt n b) : ∀ k, k ≤ n → enT b k ≤ 30 * k
  | 0, _ => Nat.le_refl _
  | k + 1, hk => by
    have h1 := enT_le hb k (by omega)
    have h2 := len_bd (b k).toNat (by have := byt_nat hb (k := k) (by omega); omega)
    simp only [enT]
    omega
theorem bitsOf_bd (v : Int) (s i : Nat) : 0 ≤ bitsOf v s i ∧ bitsOf v s i ≤ 1 := by unfold bitsOf; omega
theorem enG_bd {b : Nat → Int} : ∀ k i, 0 ≤ enG b k i ∧ enG b k i ≤ 1
  | 0, _ => by simp [enG]
  | k + 1, i => by
    simp only [enG, catF]
    split
    · exact enG_bd k i
    · exact bitsOf_bd _ _ _
theorem cd_lt (S : Nat) (hS : S < 257) : (cd (rnk S) : Int) < 2 ^ len S := by
  have h := all_lt (n := 257) (p := fun S => decide (cd (rnk S) < 2 ^ len S)) (by decide +kernel) S hS
  have h' := of_decide_eq_true h
  exact_mod_cast h'
theorem codI_at (S : Nat) (hS : S < 257) : codI (S : Int) = (cd (rnk S) : Int) ∧ lnI (S : Int) = (len S : Int) := by
  unfold codI lnI
  rw [if_pos ⟨by omega, by omega⟩, if_pos ⟨by omega, by omega⟩]
  exact ⟨by simp, by simp⟩
set_option maxRecDepth 20000 in
set_option maxHeartbeats 3200000 in
theorem encode_any (A : Option Addr) (n c : Nat) (b : Nat → Int) (w : World) (ha : Rd .u8 w A n c b) (hb : Byt n b) (hn : n ≤ 1000) :
    Calls Try.prog 12 #[.slice A n c] w (Cloned w ((enT b n + 7) / 8) (byF (enG b n) (enT b n))) := by
  have Ha := hide ha
  have Hb := hide hb
  clear ha hb
  go_enter Try.func12, Try.ntmps12
  go_wp2_with fail
  refine (mk_any _).mono ?_
  rintro e w1 ⟨B, rfl, hbk, hb1⟩
  have HBk := hide hbk
  have HB1 := hide hb1
  have Ha1 := hide (Ha.out.below hb1)
  have hr0 : Row w1.heap.size (w1.alloc (.cells #[.slice none 0 0, .int .i64 0] 45)) w1.heap.size 0 (enG b 0) :=
    ⟨.slice none 0 0, heap_alloc_new w1 _, Own.nil _ _ _ _ _, by omega⟩
  have HR0 := hide hr0
  clear hbk hb1 hr0
  go_wp2_with fail
  go_loopw [10] (fun i wr => ∃ k : Nat, k ≤ n ∧ i = .int .i64 k ∧ Row w1.heap.size wr w1.heap.size (enT b k) (enG b k) ∧ Below w1.heap.size w1 wr) (fun i _ => n - (intOf i).toNat)
  case atStart => exact ⟨0, Nat.zero_le _, rfl, HR0.out, (Below.refl _ _).alloc (Nat.le_refl _) _⟩
  case round =>
    obtain ⟨k, hk, rfl, hrow, hB⟩ := hrel
    have HRow := hide hrow
    have HB := hide hB
    clear hrow
    by_cases hlt : k < n
    · have Har := hide (Ha1.out.below hB)
      have HBr := hide (HBk.out.below hB)
      clear hB
      obtain ⟨bb, off, rfl, hc⟩ := Har.out.at_ hlt
      have hkn : (k : Int) < (n : Int) := by omega
      obtain ⟨s1, s2⟩ := byt_nat Hb.out hlt
      have hle := enT_le Hb.out (k + 1) (by omega)
      have e2 : enT b (k + 1) = enT b k + len (b k).toNat := rfl
      have e3 : enG b (k + 1) = catF (enT b k) (enG b k) (bitsOf (cd (rnk (b k).toNat) : Int) (len (b k).toNat)) := rfl
      have hl := len_bd (b k).toNat (by omega)
      obtain ⟨S, hS⟩ : ∃ S, (b k).toNat = S := ⟨_, rfl⟩
      rw [hS] at s1 s2 e2 e3 hl
      rw [← s2] at hc
      have E2 := hide e2
      have E3 := hide e3
      have hTb : enT b k + len S ≤ 100000 := by omega
      have c0 : (0 : Int) ≤ (S : Int) := by omega
      have c1 : (S : Int) ≤ 255 := by omega
      obtain ⟨h1, h2⟩ := codI_at S (by omega)
      have H1 := hide h1
      have H2 := hide h2
      have hcd := cd_lt S (by omega)
      have hl32 : len S ≤ 32 := by omega
      clear e2 e3 hle hS s2 h1 h2
      go_wp2_with fail
      refine (code_any B (S : Int) _ HBr.out).mono ?_
      rintro e w2 ⟨rfl, hd2⟩
      rw [H1.out, H2.out]
      have HRow2 := hide (HRow.out.below (drawn_below hd2 _))
      have HB2 := hide (HB.out.trans ((drawn_below hd2 w1.heap.size)))
      clear hd2
      go_wp2_with fail
      refine (rowPut_ok w1.heap.size w1.heap.size (enT b k) (len S) _ (enG b k) _ HRow2.out (Nat.le_refl _) (fun i _ => enG_bd k i) hl32 (by omega) hcd hTb).mono ?_
      rintro e w3 ⟨rfl, hr3, hb3, _⟩
      have HRow3 := hide hr3
      have HB3 := hide (HB2.out.trans hb3)
      clear hr3 hb3
      go_wp2_with fail
      exact ⟨⟨k + 1, by omega, by go_num, by rw [E2.out, E3.out]; exact HRow3.out, HB3.out⟩, by simp [intOf]; omega⟩
    · obtain rfl : k = n := by omega
      clear hB
      go_wp2_with fail
      refine (rowBytes w1.heap.size w1.heap.size (enT b k) (enG b k) _ HRow.out).mono ?_
      rintro e w2 ⟨v, rfl, ho, hb2⟩
      have HB2 := hide ((HB1.out.of HB.out).of hb2)
      have hsz := (HB1.out.of HB.out).size
      have Ho : Hid (Own .u8 5 w.heap.size w2 v ((enT b k + 7) / 8) (byF (enG b k) (enT b k))) := Own.baseB ho hsz
      clear ho hb2
      go_wp2_with fail
      go_ret
      exact ⟨_, rfl, Ho.out, HB2.out⟩
end Go.Proofs.Yteijpklepgenbaa
