/- HuA, HuB, HuC, HuD, HuE, HuF, HuG, HuH, HuI in one text. -/
import Derived.Test.YtnkcbljhgcgpaaaDoorMB
import Derived.Test.YtnkcbljhgcgpaaaDoorMD
import Derived.Test.YtnkcbljhgcgpaaaDoorMC
import Derived.ScopeJumps
import Derived.Lib.SlBytesConst
namespace Go.Proofs.YtnkcbljhgcgpaaaDoor
set_option linter.unusedVariables false
set_option linter.unusedSimpArgs false
section
open Go.RowKit

/-- The first N are bits. -/
def Bits (g : Nat → Int) (N : Nat) : Prop := ∀ i, i < N → 0 ≤ g i ∧ g i ≤ 1
theorem Bits.sub {g : Nat → Int} {N : Nat} (h : Bits g N) (t : Nat) : Bits (fun i => g (t + i)) (N - t) := fun i hi => h (t + i) (by omega)
theorem bnum_div {g : Nat → Int} {a : Nat} : ∀ b, Bits g (a + b) → bnum g (a + b) / 2 ^ b = bnum g a
  | 0, _ => by simp
  | b + 1, h => by
    have ih := bnum_div (g := g) (a := a) b (fun i hi => h i (by omega))
    have hb := h (a + b) (by omega)
    have e : bnum g (a + (b + 1)) = 2 * bnum g (a + b) + g (a + b) := rfl
    have h2 : (2 : Int) ^ (b + 1) = 2 * 2 ^ b := by rw [Int.pow_succ]; omega
    have h3 : (2 * bnum g (a + b) + g (a + b)) / 2 = bnum g (a + b) := by omega
    rw [e, h2, ← Int.ediv_ediv_of_nonneg (by omega), h3]
    exact ih
theorem bnum_ext {g h : Nat → Int} {n : Nat} (e : ∀ k, k < n → g k = h k) : bnum g n = bnum h n := bnum_congr e

/-- The code of the symbol S stands at t, among N bits. -/
def Mt (g : Nat → Int) (N t S : Nat) : Prop := S < 257 ∧ t + len S ≤ N ∧ bnum (fun i => g (t + i)) (len S) = (cd (rnk S) : Int)
/-- Thirty bits from t on; behind all of them noughts. -/
def padG (g : Nat → Int) (N t : Nat) : Nat → Int := fun i => if t + i < N then g (t + i) else 0
theorem padG_bits {g : Nat → Int} {N : Nat} (h : Bits g N) (t m : Nat) : Bits (padG g N t) m := fun i _ => by
  unfold padG
  split
  · exact h _ (by assumption)
  · omega
theorem padG_in {g : Nat → Int} {N t L : Nat} (h : t + L ≤ N) : bnum (padG g N t) L = bnum (fun i => g (t + i)) L :=
  bnum_ext fun k hk => by unfold padG; rw [if_pos (by omega)]
theorem pad_val {g : Nat → Int} {N : Nat} (h : Bits g N) (t : Nat) : ∃ v : Nat, v < 1073741824 ∧ bnum (padG g N t) 30 = (v : Int) := by
  have hb := bnum_bd (padG_bits h t 30) 30 (by omega)
  refine ⟨(bnum (padG g N t) 30).toNat, ?_, ?_⟩
  · have : (2 : Int) ^ 30 = 1073741824 := by decide
    omega
  · omega
theorem mt_iff {g : Nat → Int} {N t S : Nat} (h : Bits g N) (hS : S < 257) (hL : t + len S ≤ N) {v : Nat} (hv : bnum (padG g N t) 30 = (v : Int)) : Mt g N t S ↔ v / 2 ^ (30 - len S) = cd (rnk S) := by
  have hl := len_bd S hS
  have h1 := bnum_div (g := padG g N t) (a := len S) (30 - len S) (by
    have := padG_bits h t 30
    intro i hi
    exact this i (by omega))
  rw [show len S + (30 - len S) = 30 by omega, hv, padG_in hL] at h1
  have e : ((v / 2 ^ (30 - len S) : Nat) : Int) = (v : Int) / 2 ^ (30 - len S) := by simp
  unfold Mt
  rw [← h1, ← e]
  constructor
  · rintro ⟨_, _, h2⟩
    exact_mod_cast h2
  · intro h2
    exact ⟨hS, hL, by exact_mod_cast h2⟩
theorem Mt.one {g : Nat → Int} {N t S T : Nat} (hg : Bits g N) (h : Mt g N t S) (k : Mt g N t T) : S = T := by
  obtain ⟨v, hv1, hv2⟩ := pad_val hg t
  obtain ⟨z, _, hz⟩ := one_code v hv1
  have h1 := (hz S h.1).1 ((mt_iff hg h.1 h.2.1 hv2).1 h)
  have h2 := (hz T k.1).1 ((mt_iff hg k.1 k.2.1 hv2).1 k)
  rw [h1, h2]
/-- Where thirty bits are left, a symbol begins them. -/
theorem mt_some {g : Nat → Int} {N t : Nat} (hg : Bits g N) (h : t + 30 ≤ N) : ∃ S, Mt g N t S := by
  obtain ⟨v, hv1, hv2⟩ := pad_val hg t
  obtain ⟨z, hz1, hz⟩ := one_code v hv1
  have hl := len_bd z hz1
  exact ⟨z, (mt_iff hg hz1 (by omega) hv2).2 ((hz z hz1).2 rfl)⟩
/-- Ones are no symbol's code, but for End's thirty. -/
theorem ones_none : ∀ S, S < 257 → len S ≤ 7 → cd (rnk S) ≠ 2 ^ (len S) - 1 := fun S hS => by
  have h := all_lt (n := 257) (p := fun S => decide (len S ≤ 7 → cd (rnk S) ≠ 2 ^ (len S) - 1)) (by decide +kernel) S hS
  exact of_decide_eq_true h

/-! ### symbols one behind the other -/
/-- k symbols of bytes, s, stand one behind the other, from 0 on; the i-th begins at p i. -/
def Chn (g : Nat → Int) (N k : Nat) (p s : Nat → Nat) : Prop := p 0 = 0 ∧ ∀ i, i < k → Mt g N (p i) (s i) ∧ s i < 256 ∧ p (i + 1) = p i + len (s i)
theorem Chn.pos {g : Nat → Int} {N k : Nat} {p s : Nat → Nat} (h : Chn g N k p s) : ∀ i, i ≤ k → p i ≤ N ∧ 5 * i ≤ p i
  | 0, _ => by rw [h.1]; omega
  | i + 1, hi => by
    have h1 := h.2 i (by omega)
    have h2 := h.pos i (by omega)
    have h3 := h1.1.2.1
    have h4 := len_bd _ h1.1.1
    rw [h1.2.2]
    omega
theorem Chn.more {g : Nat → Int} {N k : Nat} {p s : Nat → Nat} (h : Chn g N k p s) {S : Nat} (hS : Mt g N (p k) S) (h6 : S < 256) :
    Chn g N (k + 1) (fun i => if i ≤ k then p i else p k + len S) (fun i => if i < k then s i else S) := by
  refine ⟨by simpa using h.1, fun i hi => ?_⟩
  by_cases e : i < k
  · have := h.2 i e
    simp only [e, if_true, show i ≤ k by omega, show i + 1 ≤ k by omega]
    exact this
  · obtain rfl : i = k := by omega
    simp only [Nat.le_refl, if_true, Nat.lt_irrefl, if_false, show ¬ i + 1 ≤ i by omega]
    exact ⟨hS, h6, trivial⟩
theorem Chn.same {g : Nat → Int} {N k m : Nat} {p s q r : Nat → Nat} (hg : Bits g N) (h : Chn g N k p s) (h' : Chn g N m q r) : ∀ i, i ≤ k → i ≤ m → p i = q i ∧ ∀ j, j < i → s j = r j
  | 0, _, _ => ⟨by rw [h.1, h'.1], fun j hj => by omega⟩
  | i + 1, h1, h2 => by
    obtain ⟨e1, e2⟩ := h.same hg h' i (by omega) (by omega)
    have a := h.2 i (by omega)
    have b := h'.2 i (by omega)
    have e3 : s i = r i := (e1 ▸ a.1).one hg b.1
    refine ⟨by rw [a.2.2, b.2.2, e1, e3], fun j hj => ?_⟩
    by_cases e : j = i
    · subst e; exact e3
    · exact e2 j (by omega)
/-- What bits say: 0: just the bytes f; 10: what is left is no padding; 11: there is End. -/
def Dcd (g : Nat → Int) (N n : Nat) (f : Nat → Int) (e : Int) : Prop :=
  ∃ k p s, Chn g N k p s ∧
    ((e = 0 ∧ n = k ∧ (∀ i, i < k → f i = (s i : Int)) ∧ (∀ S, ¬ Mt g N (p k) S) ∧ N - p k ≤ 7 ∧ ∀ i, p k ≤ i → i < N → g i = 1) ∨
     (e = 10 ∧ n = 0 ∧ (∀ S, ¬ Mt g N (p k) S) ∧ ¬ (N - p k ≤ 7 ∧ ∀ i, p k ≤ i → i < N → g i = 1)) ∨
     (e = 11 ∧ n = 0 ∧ Mt g N (p k) 256))
theorem Dcd.same {g : Nat → Int} {N n m : Nat} {f h : Nat → Int} {e d : Int} (hg : Bits g N) (a : Dcd g N n f e) (b : Dcd g N m h d) : e = d ∧ n = m ∧ ∀ i, i < n → f i = h i := by
  obtain ⟨k, p, s, hc, hE⟩ := a
  obtain ⟨l, q, r, hc', hE'⟩ := b
  have key : ∀ {k l : Nat} {p s q r : Nat → Nat}, Chn g N k p s → Chn g N l q r → ((∀ S, ¬ Mt g N (p k) S) ∨ Mt g N (p k) 256) → ¬ k < l := by
    intro k l p s q r hc hc' hE hlt
    obtain ⟨e1, _⟩ := hc.same hg hc' k (Nat.le_refl _) (by omega)
    have h1 := hc'.2 k hlt
    rw [← e1] at h1
    rcases hE with hE | hE
    · exact hE _ h1.1
    · have := hE.one hg h1.1
      omega
  have e1 : (∀ S, ¬ Mt g N (p k) S) ∨ Mt g N (p k) 256 := by
    rcases hE with h | h | h
    · exact .inl h.2.2.2.1
    · exact .inl h.2.2.1
    · exact .inr h.2.2
  have e2 : (∀ S, ¬ Mt g N (q l) S) ∨ Mt g N (q l) 256 := by
    rcases hE' with h | h | h
    · exact .inl h.2.2.2.1
    · exact .inl h.2.2.1
    · exact .inr h.2.2
  have h1 := key hc hc' e1
  have h2 := key hc' hc e2
  obtain rfl : k = l := by omega
  obtain ⟨e3, e4⟩ := hc.same hg hc' k (Nat.le_refl _) (Nat.le_refl _)
  rw [← e3] at hE'
  rcases hE with ⟨a1, a2, a3, a4, a5, a6⟩ | ⟨a1, a2, a3, a4⟩ | ⟨a1, a2, a3⟩ <;> rcases hE' with ⟨b1, b2, b3, b4, b5, b6⟩ | ⟨b1, b2, b3, b4⟩ | ⟨b1, b2, b3⟩
  · exact ⟨by omega, by omega, fun i hi => by rw [a3 i (by omega), b3 i (by omega), e4 i (by omega)]⟩
  · exact absurd ⟨a5, a6⟩ b4
  · exact absurd b3 (a4 _)
  · exact absurd ⟨b5, b6⟩ a4
  · exact ⟨by omega, by omega, fun i hi => by omega⟩
  · exact absurd b3 (a3 _)
  · exact absurd a3 (b4 _)
  · exact absurd a3 (b3 _)
  · exact ⟨by omega, by omega, fun i hi => by omega⟩
end

section
open Go.RowKit

/-- How many bits the first k bytes have; the bits. -/
def enT (b : Nat → Int) : Nat → Nat
  | 0 => 0
  | k + 1 => enT b k + len (b k).toNat
def enG (b : Nat → Int) : Nat → Nat → Int
  | 0 => fun _ => 0
  | k + 1 => catF (enT b k) (enG b k) (bitsOf (cd (rnk (b k).toNat) : Int) (len (b k).toNat))
theorem byt_nat {n : Nat} {b : Nat → Int} (hb : Byt n b) {k : Nat} (hk : k < n) : (b k).toNat < 256 ∧ ((b k).toNat : Int) = b k := by
  have := hb k hk
  omega
theorem enT_le {n : Nat} {b : Nat → Int} (hb : Byt n b) : ∀ k, k ≤ n → enT b k ≤ 30 * k
  | 0, _ => Nat.le_refl _
  | k + 1, hk => by
    have h1 := enT_le hb k (by omega)
    have h2 := len_bd (b k).toNat (by have := byt_nat hb (k := k) (by omega); omega)
    simp only [enT]
    omega
theorem bitsOf_bd (v : Int) (s i : Nat) : 0 ≤ bitsOf v s i ∧ bitsOf v s i ≤ 1 := by unfold bitsOf; omega
theorem enG_bd {b : Nat → Int} : ∀ k i, 0 ≤ enG b k i ∧ enG b k i ≤ 1
  | 0, _ => by simp [enG]
  | k + 1, i => by
    simp only [enG, catF]
    split
    · exact enG_bd k i
    · exact bitsOf_bd _ _ _
theorem cd_lt (S : Nat) (hS : S < 257) : (cd (rnk S) : Int) < 2 ^ len S := by
  have h := all_lt (n := 257) (p := fun S => decide (cd (rnk S) < 2 ^ len S)) (by decide +kernel) S hS
  have h' := of_decide_eq_true h
  exact_mod_cast h'
theorem codI_at (S : Nat) (hS : S < 257) : codI (S : Int) = (cd (rnk S) : Int) ∧ lnI (S : Int) = (len S : Int) := by
  unfold codI lnI
  rw [if_pos ⟨by omega, by omega⟩, if_pos ⟨by omega, by omega⟩]
  exact ⟨by simp, by simp⟩
set_option maxRecDepth 20000 in
set_option maxHeartbeats 3200000 in
theorem encode_any (A : Option Addr) (n c : Nat) (b : Nat → Int) (w : World) (ha : Rd .u8 w A n c b) (hb : Byt n b) (hn : n ≤ 1000) :
    Calls Tryd.prog 101 #[.slice A n c] w (Cloned w ((enT b n + 7) / 8) (byF (enG b n) (enT b n))) := by
  have Ha := hide ha
  have Hb := hide hb
  clear ha hb
  go_enter Tryd.func101, Tryd.ntmps101
  go_wp2_with fail
  refine (mk_any _).mono ?_
  rintro e w1 ⟨B, rfl, hbk, hb1⟩
  have HBk := hide hbk
  have HB1 := hide hb1
  have Ha1 := hide (Ha.out.below hb1)
  have hr0 : Row w1.heap.size (w1.alloc (.cells #[.slice none 0 0, .int .i64 0] 158)) w1.heap.size 0 (enG b 0) :=
    ⟨.slice none 0 0, heap_alloc_new w1 _, Own.nil _ _ _ _ _, by omega⟩
  have HR0 := hide hr0
  clear hbk hb1 hr0
  go_wp2_with fail
  go_loopw [10] (fun i wr => ∃ k : Nat, k ≤ n ∧ i = .int .i64 k ∧ Row w1.heap.size wr w1.heap.size (enT b k) (enG b k) ∧ Below w1.heap.size w1 wr) (fun i _ => n - (intOf i).toNat)
  case atStart => exact ⟨0, Nat.zero_le _, rfl, HR0.out, (Below.refl _ _).alloc (Nat.le_refl _) _⟩
  case round =>
    obtain ⟨k, hk, rfl, hrow, hB⟩ := hrel
    have HRow := hide hrow
    have HB := hide hB
    clear hrow
    by_cases hlt : k < n
    · have Har := hide (Ha1.out.below hB)
      have HBr := hide (HBk.out.below hB)
      clear hB
      obtain ⟨bb, off, rfl, hc⟩ := Har.out.at_ hlt
      have hkn : (k : Int) < (n : Int) := by omega
      obtain ⟨s1, s2⟩ := byt_nat Hb.out hlt
      have hle := enT_le Hb.out (k + 1) (by omega)
      have e2 : enT b (k + 1) = enT b k + len (b k).toNat := rfl
      have e3 : enG b (k + 1) = catF (enT b k) (enG b k) (bitsOf (cd (rnk (b k).toNat) : Int) (len (b k).toNat)) := rfl
      have hl := len_bd (b k).toNat (by omega)
      obtain ⟨S, hS⟩ : ∃ S, (b k).toNat = S := ⟨_, rfl⟩
      rw [hS] at s1 s2 e2 e3 hl
      rw [← s2] at hc
      have E2 := hide e2
      have E3 := hide e3
      have hTb : enT b k + len S ≤ 100000 := by omega
      have c0 : (0 : Int) ≤ (S : Int) := by omega
      have c1 : (S : Int) ≤ 255 := by omega
      obtain ⟨h1, h2⟩ := codI_at S (by omega)
      have H1 := hide h1
      have H2 := hide h2
      have hcd := cd_lt S (by omega)
      have hl32 : len S ≤ 32 := by omega
      clear e2 e3 hle hS s2 h1 h2
      go_wp2_with fail
      refine (code_any B (S : Int) _ HBr.out).mono ?_
      rintro e w2 ⟨rfl, hd2⟩
      rw [H1.out, H2.out]
      have HRow2 := hide (HRow.out.below (drawn_below hd2 _))
      have HB2 := hide (HB.out.trans ((drawn_below hd2 w1.heap.size)))
      clear hd2
      go_wp2_with fail
      refine (rowPut_ok w1.heap.size w1.heap.size (enT b k) (len S) _ (enG b k) _ HRow2.out (Nat.le_refl _) (fun i _ => enG_bd k i) hl32 (by omega) hcd hTb).mono ?_
      rintro e w3 ⟨rfl, hr3, hb3, _⟩
      have HRow3 := hide hr3
      have HB3 := hide (HB2.out.trans hb3)
      clear hr3 hb3
      go_wp2_with fail
      exact ⟨⟨k + 1, by omega, by go_num, by rw [E2.out, E3.out]; exact HRow3.out, HB3.out⟩, by simp [intOf]; omega⟩
    · obtain rfl : k = n := by omega
      clear hB
      go_wp2_with fail
      refine (rowBytes w1.heap.size w1.heap.size (enT b k) (enG b k) _ HRow.out).mono ?_
      rintro e w2 ⟨v, rfl, ho, hb2⟩
      have HB2 := hide ((HB1.out.of HB.out).of hb2)
      have hsz := (HB1.out.of HB.out).size
      have Ho : Hid (Own .u8 5 w.heap.size w2 v ((enT b k + 7) / 8) (byF (enG b k) (enT b k))) := Own.baseB ho hsz
      clear ho hb2
      go_wp2_with fail
      go_ret
      exact ⟨_, rfl, Ho.out, HB2.out⟩
end

section
open Go.RowKit

set_option maxRecDepth 20000 in
set_option maxHeartbeats 3200000 in
theorem rencode_any (A : Option Addr) (n c : Nat) (b : Nat → Int) (w : World) (ha : Rd .u8 w A n c b) (hb : Byt n b) (hn : n ≤ 1000) :
    Calls Tryd.prog 90 #[.slice A n c] w (Cloned w ((enT b n + 7) / 8) (byF (enG b n) (enT b n))) := by
  have Ha := hide ha
  have Hb := hide hb
  clear ha hb
  go_enter Tryd.func90, Tryd.ntmps90
  go_wp2_with fail
  refine (codes_any _).mono ?_
  rintro e w1 ⟨v1, rfl, ho1, hb1⟩
  obtain ⟨C, cc, rfl, hrc, _⟩ := ho1.rd
  have HC := hide hrc
  have HB1 := hide hb1
  have Ha1 := hide (Ha.out.below hb1)
  clear ho1 hrc hb1
  go_wp2_with fail
  go_loopw [3, 5] (fun bs i wr => ∃ (k : Nat) (D : Option Addr) (dc : Nat), k ≤ n ∧ i = .int .i64 k ∧ bs = .slice D (enT b k) dc ∧ Rd .i64 wr D (enT b k) dc (enG b k) ∧ Below w1.heap.size w1 wr) (fun _ i _ => n - (intOf i).toNat)
  case atStart => exact ⟨0, none, 0, Nat.zero_le _, rfl, rfl, Rd.nil _ _ _, Below.refl _ _⟩
  case round =>
    obtain ⟨k, D, dc, hk, rfl, rfl, hd, hB⟩ := hrel
    have Hd := hide hd
    have HB := hide hB
    clear hd
    by_cases hlt : k < n
    · have Har := hide (Ha1.out.below hB)
      have HCr := hide (HC.out.below hB)
      clear hB
      obtain ⟨bb, off, rfl, hc⟩ := Har.out.at_ hlt
      have hkn : (k : Int) < (n : Int) := by omega
      obtain ⟨s1, s2⟩ := byt_nat Hb.out hlt
      have hle := enT_le Hb.out (k + 1) (by omega)
      have e2 : enT b (k + 1) = enT b k + len (b k).toNat := rfl
      have e3 : enG b (k + 1) = catF (enT b k) (enG b k) (bitsOf (cd (rnk (b k).toNat) : Int) (len (b k).toNat)) := rfl
      have hl := len_bd (b k).toNat (by omega)
      obtain ⟨S, hS⟩ : ∃ S, (b k).toNat = S := ⟨_, rfl⟩
      rw [hS] at s1 s2 e2 e3 hl
      rw [← s2] at hc
      have E2 := hide e2
      have E3 := hide e3
      have hTb : enT b k ≤ 100000 := by omega
      have c0 : (0 : Int) ≤ (S : Int) := by omega
      have c1 : (S : Int) ≤ 255 := by omega
      have hS257 : S < 257 := by omega
      have c2 : (S : Int) < 257 := by omega
      obtain ⟨cb, co, rfl, hcs⟩ := HCr.out.at_ (i := S) hS257
      have hcd := cd_lt S hS257
      have hl32 : len S ≤ 32 := by omega
      have hcd0 : (0 : Int) ≤ (cd (rnk S) : Int) := by omega
      have Hcd := hide hcd
      clear e2 e3 hle hS s2 hcd
      go_wp2_with fail
      go_region_held3 (fun w' : World => w'.cell? ⟨cb, co + S, none⟩ = some (.int .i64 (cd (rnk S) : Int)))
        ((first | exact hcs | (go_keep; done) | exact cellKeepB hb2 (by assumption) | exact cellKeepB hb3 (by assumption)))
        ((first
          | (go_at_call 103; (with_reducible refine (rlen_at S _ hS257).mono ?_); rintro e w2 ⟨rfl, hb2⟩; have HB2 := hide (HB.out.drew.of hb2); have Hd2 := hide (Hd.out.drew.below hb2))
          | (go_at_call 102; (with_reducible refine (rrow_ok D (enT b k) dc (len S) _ (enG b k) _ Hd2.out hl32 hcd0 Hcd.out hTb).mono ?_); rintro e w3 ⟨u, rfl, ho3, hb3⟩; have Ho3 := hide ho3; have HB3 := hide (HB2.out.of hb3))))
      all_goals
        obtain ⟨D3, dc3, rfl, hr3, _⟩ := Ho3.out.rd
        have Hr3 := hide hr3
        clear hr3
        go_wp2_with fail
        exact ⟨⟨k + 1, D3, dc3, by omega, by go_num, by rw [E2.out], by rw [E2.out, E3.out]; exact Hr3.out, HB3.out⟩, by simp [intOf]; omega⟩
    · obtain rfl : k = n := by omega
      have hle := enT_le Hb.out k (Nat.le_refl _)
      clear hB
      go_wp2_with fail
      refine (rbytes_any D (enT b k) dc (enG b k) _ Hd.out (fun i _ => enG_bd k i) (by omega)).mono ?_
      rintro e w2 ⟨v, rfl, ho, hb2⟩
      have HB2 := hide ((HB1.out.of HB.out).of hb2)
      have hsz := (HB1.out.of HB.out).size
      have Ho : Hid (Own .u8 5 w.heap.size w2 v ((enT b k + 7) / 8) (byF (enG b k) (enT b k))) := Own.baseB ho hsz
      clear ho hb2
      go_wp2_with fail
      go_ret
      exact ⟨_, rfl, Ho.out, HB2.out⟩
end

section
open Go.RowKit

def Beg (h : Nat → Int) (m : Nat) (w : World) (e : Ending) (w' : World) : Prop :=
  w = w' ∧ ((∃ S, Mt h m 0 S ∧ e = .returned (.tuple #[.int .i64 (S : Int), .int .i64 (len S : Int)])) ∨ ((∀ S, ¬ Mt h m 0 S) ∧ e = .returned (.tuple #[.int .i64 (-1), .int .i64 0])))
theorem bnum_zero (h : Nat → Int) (L : Nat) : bnum (fun i => h (0 + i)) L = bnum h L := bnum_ext fun k _ => by rw [Nat.zero_add]
set_option maxRecDepth 20000 in
set_option maxHeartbeats 3200000 in
theorem begins_any (A C D : Option Addr) (m c cc dc : Nat) (h : Nat → Int) (w : World) (ha : Rd .i64 w A m c h) (hh : Bits h m) (hc : Rd .i64 w C 257 cc (fun s => (cd (rnk s) : Int))) (hd : Rd .i64 w D 257 dc (fun s => (len s : Int))) (hm : m ≤ 100000) :
    Calls Tryd.prog 98 #[.slice A m c, .slice C 257 cc, .slice D 257 dc] w (Beg h m w) := by
  have Ha := hide ha
  have Hh := hide hh
  have Hc := hide hc
  have Hd := hide hd
  clear ha hh hc hd
  go_enter Tryd.func98, Tryd.ntmps98
  go_wp2_with fail
  go_loop [8, 9, 10] (fun cd_ n _ => ∃ k : Nat, k ≤ 30 ∧ k ≤ m ∧ n = .int .i64 ((k + 1 : Nat) : Int) ∧ cd_ = .int .i64 (bnum h k) ∧ ∀ S, len S ≤ k → ¬ Mt h m 0 S) (fun _ n _ => 40 - (intOf n).toNat)
  case atStart => exact ⟨0, by omega, Nat.zero_le _, rfl, rfl, fun S hS hM => by have := len_bd S hM.1; omega⟩
  case round =>
    obtain ⟨k, hk30, hkm, rfl, rfl, hno⟩ := hrel
    have Hno := hide hno
    clear hno
    by_cases hgo : k < 30 ∧ k < m
    · obtain ⟨hg1, hg2⟩ := hgo
      have d1 : decide (((k + 1 : Nat) : Int) ≤ 30) = true := decide_eq_true (by omega)
      have d2 : decide (((k + 1 : Nat) : Int) ≤ (m : Int)) = true := decide_eq_true (by omega)
      have d2' : decide (k + 1 ≤ m) = true := decide_eq_true (by omega)
      have d1' : decide ((k : Int) + 1 ≤ 30) = true := decide_eq_true (by omega)
      have d2'' : decide ((k : Int) + 1 ≤ (m : Int)) = true := decide_eq_true (by omega)
      have hx : ((k + 1 : Nat) : Int) = (k : Int) + 1 := by omega
      obtain ⟨b, off, rfl, hca⟩ := Ha.out.at_ hg2
      have hb1 := bnum_lt Hh.out k hkm (by omega)
      have hb2 := bnum_lt Hh.out (k + 1) (by omega) (by omega)
      have hbk := Hh.out k hg2
      have e2 : bnum h (k + 1) = 2 * bnum h k + h k := rfl
      have Hb2 := hide hb2
      have E2 := hide e2
      obtain ⟨x, hX⟩ : ∃ x, h k = x := ⟨_, rfl⟩
      obtain ⟨y, hY⟩ : ∃ y, bnum h k = y := ⟨_, rfl⟩
      rw [hX] at hca hbk E2
      rw [hY] at hb1 E2 ⊢
      obtain ⟨hb10, hb11⟩ := hb1
      obtain ⟨hbk0, hbk1⟩ := hbk
      have hk1 : (k : Int) < (m : Int) := by omega
      clear hX hY e2 hb2
      have hone : (k : Int) + 1 - 1 = (k : Int) := by omega
      rw [hx]
      go_wp2_with fail
      rw [← E2.out]
      have hbb := Hb2.out
      obtain ⟨z, hZ⟩ : ∃ z, bnum h (k + 1) = z := ⟨_, rfl⟩
      have HZ := hide hZ
      rw [hZ] at hbb ⊢
      clear hZ
      go_loop [10] (fun s => ∃ q : Nat, q ≤ 257 ∧ s = .int .i64 q ∧ ∀ S, S < q → ¬ ((cd (rnk S) : Int) = z ∧ len S = k + 1)) (fun s => 257 - (intOf s).toNat)
      case atStart => exact ⟨0, by omega, rfl, fun S hS => by omega⟩
      case round =>
        obtain ⟨q, hq, rfl, hnq⟩ := hrel
        have Hnq := hide hnq
        clear hnq
        by_cases hlt : q < 257
        · have c1 : decide ((q : Int) ≤ 256) = true := decide_eq_true (by omega)
          have c2 : (q : Int) < 257 := by omega
          obtain ⟨bc, oc, rfl, hcc⟩ := Hc.out.at_ (i := q) hlt
          obtain ⟨bd, od, rfl, hcd⟩ := Hd.out.at_ (i := q) hlt
          have Hst : Hid (((cd (rnk q) : Int) = z ∧ len q = k + 1) → Mt h m 0 q) := fun hh => ⟨hlt, by omega, by rw [hh.2, bnum_zero, HZ.out, hh.1]⟩
          have Hnx : Hid (¬ ((cd (rnk q) : Int) = z ∧ len q = k + 1) → ∀ S, S < q + 1 → ¬ ((cd (rnk S) : Int) = z ∧ len S = k + 1)) := fun hh S hS => by
            by_cases e : S = q
            · subst e; exact hh
            · exact Hnq.out S (by omega)
          obtain ⟨X, hX⟩ : ∃ X, (cd (rnk q) : Int) = X := ⟨_, rfl⟩
          obtain ⟨L, hL⟩ : ∃ L, len q = L := ⟨_, rfl⟩
          have HL := hide hL
          rw [hX] at hcc Hst Hnx
          rw [hL] at hcd Hst Hnx
          clear hX hL
          by_cases t1 : X = z
          · have t1' : (X == z) = true := by simpa using t1
            by_cases t2 : L = k + 1
            · have t2' : ((L : Int) == (k : Int) + 1) = true := by simp; omega
              have HM := hide (Hst.out ⟨t1, t2⟩)
              have E3 : Hid ((len q : Int) = (k : Int) + 1) := by show _ = _; rw [HL.out]; omega
              clear t1 t2
              go_wp2_with fail
              go_ret2
              exact ⟨rfl, .inl ⟨q, HM.out, by rw [E3.out]; rfl⟩⟩
            · have t2' : ((L : Int) == (k : Int) + 1) = false := by simp; omega
              have HN := hide (Hnx.out fun hh => t2 hh.2)
              clear t1 t2
              go_wp2_with fail
              exact ⟨⟨q + 1, by omega, by go_num, HN.out⟩, by simp [intOf]; omega⟩
          · have t1' : (X == z) = false := by simpa using t1
            have HN := hide (Hnx.out fun hh => t1 hh.1)
            clear t1
            go_wp2_with fail
            exact ⟨⟨q + 1, by omega, by go_num, HN.out⟩, by simp [intOf]; omega⟩
        · obtain rfl : q = 257 := by omega
          have HN : Hid (∀ S, len S ≤ k + 1 → ¬ Mt h m 0 S) := fun S hS hM => by
            by_cases e : len S ≤ k
            · exact Hno.out S e hM
            · refine Hnq.out S hM.1 ⟨?_, by omega⟩
              have := hM.2.2
              rw [bnum_zero, show len S = k + 1 by omega, HZ.out] at this
              exact this.symm
          go_wp2_with fail
          exact ⟨⟨k + 1, by omega, by omega, by go_num, by rw [HZ.out], HN.out⟩, by simp [intOf]; omega⟩
    · have HN : Hid (∀ S, ¬ Mt h m 0 S) := fun S hM => by
        have hl := len_bd S hM.1
        have hl2 := hM.2.1
        exact Hno.out S (by omega) hM
      by_cases h30 : k < 30
      · have d1 : decide (((k + 1 : Nat) : Int) ≤ 30) = true := decide_eq_true (by omega)
        have d1' : decide ((k : Int) + 1 ≤ 30) = true := decide_eq_true (by omega)
        have d2 : decide (((k + 1 : Nat) : Int) ≤ (m : Int)) = false := decide_eq_false (by omega)
        have d2' : decide (k + 1 ≤ m) = false := decide_eq_false (by omega)
        have d2'' : decide ((k : Int) + 1 ≤ (m : Int)) = false := decide_eq_false (by omega)
        clear hgo
        go_wp2_with fail
        go_ret2
        exact ⟨rfl, .inr ⟨HN.out, rfl⟩⟩
      · have d1 : decide (((k + 1 : Nat) : Int) ≤ 30) = false := decide_eq_false (by omega)
        have d1' : decide ((k : Int) + 1 ≤ 30) = false := decide_eq_false (by omega)
        clear hgo
        go_wp2_with fail
        go_ret2
        exact ⟨rfl, .inr ⟨HN.out, rfl⟩⟩
end

section
open Go.RowKit

def DcdE (f : Nat → Int) (n : Nat) (w : World) (e : Ending) (w' : World) : Prop :=
  ∃ v m h er, e = .returned (.tuple #[v, .int .i64 er]) ∧ Own .u8 5 w.heap.size w' v m h ∧ Dcd (bitF f) (8 * n) m h er ∧ Below w.heap.size w w'
theorem DcdE.bad {f : Nat → Int} {n k : Nat} {p s : Nat → Nat} {w w' : World} {er : Int} (hc : Chn (bitF f) (8 * n) k p s) (h : (er = 10 ∧ (∀ S, ¬ Mt (bitF f) (8 * n) (p k) S) ∧ ¬ (8 * n - p k ≤ 7 ∧ ∀ i, p k ≤ i → i < 8 * n → bitF f i = 1)) ∨ (er = 11 ∧ Mt (bitF f) (8 * n) (p k) 256)) (hb : Below w.heap.size w w') :
    DcdE f n w (.returned (.tuple #[.slice none 0 0, .int .i64 er])) w' :=
  ⟨_, 0, fun _ => 0, er, rfl, Own.nil _ _ _ _ _, ⟨k, p, s, hc, by
    rcases h with ⟨rfl, h1, h2⟩ | ⟨rfl, h1⟩
    · exact .inr (.inl ⟨rfl, rfl, h1, h2⟩)
    · exact .inr (.inr ⟨rfl, rfl, h1⟩)⟩, hb⟩
def sliceN : Value → Nat
  | .slice _ n _ => n
  | _ => 0
theorem mt_shift {g : Nat → Int} {N t S : Nat} (h : t ≤ N) : Mt (fun i => g (t + i)) (N - t) 0 S ↔ Mt g N t S := by
  unfold Mt
  rw [bnum_zero (fun i => g (t + i))]
  constructor
  · rintro ⟨a, b, c⟩
    exact ⟨a, by omega, c⟩
  · rintro ⟨a, b, c⟩
    exact ⟨a, by omega, c⟩
theorem bitF_bits (f : Nat → Int) (N : Nat) : Bits (bitF f) N := fun i _ => bitF_bd i
set_option maxRecDepth 20000 in
set_option maxHeartbeats 3200000 in
theorem rdecode_any (A : Option Addr) (n c : Nat) (f : Nat → Int) (w : World) (ha : Rd .u8 w A n c f) (hf : Byt n f) (hn : n ≤ 1000) :
    Calls Tryd.prog 80 #[.slice A n c] w (DcdE f n w) := by
  obtain ⟨i0, hi, hz0, hz1, hz2⟩ := info_parts c8_info
  have Ha := hide ha
  have Hf := hide hf
  clear ha hf
  go_enter Tryd.func80, Tryd.ntmps80
  go_wp2_with fail
  refine (rbits_any A n c f _ Ha.out Hf.out (by omega)).mono ?_
  rintro e w1 ⟨v1, rfl, ho1, hb1⟩
  obtain ⟨A1, c1, rfl, hr1, _⟩ := ho1.rd
  have Hr1 := hide hr1
  have HB1 := hide hb1
  clear ho1 hr1 hb1
  go_wp2_with fail
  refine (codes_any _).mono ?_
  rintro e w2 ⟨v2, rfl, ho2, hb2⟩
  obtain ⟨C, cc, rfl, hr2, _⟩ := ho2.rd
  have Hc2 := hide hr2
  have Hr2 := hide (Hr1.out.below hb2)
  have HB2 := hide (HB1.out.of hb2)
  clear ho2 hr2 hb2
  go_wp2_with fail
  refine (lens_any _).mono ?_
  rintro e w3 ⟨v3, rfl, ho3, hb3⟩
  obtain ⟨D, dc, rfl, hr3, _⟩ := ho3.rd
  have Hd3 := hide hr3
  have Hc3 := hide (Hc2.out.below hb3)
  have Hr3 := hide (Hr2.out.below hb3)
  have HB3 := hide (HB2.out.of hb3)
  have hs3 := HB3.out.size
  clear ho3 hr3 hb3
  go_wp2_with fail
  go_loopw [4, 7] (fun bs out wr => ∃ (k : Nat) (p s : Nat → Nat) (E : Option Addr) (ec : Nat), Chn (bitF f) (8 * n) k p s ∧ bs = .slice E (8 * n - p k) ec ∧ Rd .i64 w3 E (8 * n - p k) ec (fun i => bitF f (p k + i)) ∧ Own .u8 5 w3.heap.size wr out k (fun i => (s i : Int)) ∧ Below w3.heap.size w3 wr) (fun bs _ _ => sliceN bs)
  case atStart => exact ⟨0, fun _ => 0, fun _ => 0, A1, c1, ⟨rfl, fun i hi => by omega⟩, rfl, Hr3.out.congr (fun i _ => by rw [Nat.zero_add]), Own.nil _ _ _ _ _, Below.refl _ _⟩
  case round =>
    obtain ⟨k, p, s, E, ec, hch, rfl, hbs, hown, hB⟩ := hrel
    have Hch := hide hch
    have Hbs := hide hbs
    have Hown := hide hown
    have HB := hide hB
    have hsz := hB.size
    obtain ⟨hp1, hp2⟩ := hch.pos k (Nat.le_refl _)
    clear hch hbs hown
    have Hsh : Hid (∀ S, Mt (fun i => bitF f (p k + i)) (8 * n - p k) 0 S ↔ Mt (bitF f) (8 * n) (p k) S) := fun S => mt_shift hp1
    have hk5 : k ≤ 8 * n := by omega
    obtain ⟨M, hM⟩ : ∃ M, 8 * n - p k = M := ⟨_, rfl⟩
    have HM := hide hM
    rw [hM] at Hbs Hsh ⊢
    have hMn : M ≤ 8000 := by omega
    clear hM
    go_wp2_with fail
    refine (begins_any E C D M ec cc dc _ _ (Hbs.out.below hB) (fun i _ => bitF_bd _) (Hc3.out.below hB) (Hd3.out.below hB) (by omega)).mono ?_
    rintro e w4 ⟨rfl, hcase⟩
    clear hB
    rcases hcase with ⟨S, hMt, rfl⟩ | ⟨hno, rfl⟩
    · have HMt := hide ((Hsh.out S).1 hMt)
      have hS := hMt.1
      have hlM : len S ≤ M := by have := hMt.2.1; omega
      have hl5 := (len_bd S hS).1
      clear hMt
      by_cases h256 : S = 256
      · subst h256
        obtain ⟨L, hL⟩ : ∃ L, len 256 = L := ⟨_, rfl⟩
        rw [hL]
        clear hL hlM hl5
        go_wp2_with fail
        go_ret2
        exact DcdE.bad Hch.out (.inr ⟨rfl, HMt.out⟩) (HB3.out.of HB.out)
      · have d1 : ((S : Int) == 256) = false := by simp; omega
        have d2 : decide ((S : Int) < 0) = false := decide_eq_false (by omega)
        have s0 : (0 : Int) ≤ (S : Int) := by omega
        have s1 : (S : Int) ≤ 255 := by omega
        obtain ⟨L, hL⟩ : ∃ L, len S = L := ⟨_, rfl⟩
        have HL := hide hL
        rw [hL] at hlM hl5 ⊢
        clear hL
        have hcut := fun W => cut_l (P := Tryd.prog) 30 3 Tryd.underlying30 (by kernel_rfl) (by kernel_rfl) E M ec L hlM .i64 W
        go_wp2_with (at_builtin; refine wp_app rfl (.tmp 26) (.tmp 29) _ rfl i0 0 1 Tryd.underlying22 hi hz0 hz1 hz2 w3.heap.size _ k _ rfl (Hown.out.alloc _) _ 1 1 _ rfl (Rd.one .u8 5 _ _) (by simp only [maxLen]; omega) (by omega) (by simp; omega) ?_; intro v5 w5 hown5 hg5)
        have hb5 : Below w3.heap.size w3 w5 := (HB.out.alloc hsz _).grown hg5 (by simp; omega) (fun j e => (World.ownsRow.lt Hown.out j e).1)
        have Hch' : Hid (Chn (bitF f) (8 * n) (k + 1) (fun i => if i ≤ k then p i else p k + len S) (fun i => if i < k then s i else S)) := Hch.out.more HMt.out (by omega)
        have hpk : (if k + 1 ≤ k then p (k + 1) else p k + len S) = p k + L := by rw [if_neg (by omega), HL.out]
        have hN : 8 * n - (if k + 1 ≤ k then p (k + 1) else p k + len S) = M - L := by have := HM.out; omega
        refine ⟨⟨k + 1, _, _, cutA E ec L, ec - L, Hch'.out, by rw [hN], ?_, hown5.congr (fun i hi => ?_), hb5⟩, ?_⟩
        · rw [hN]
          refine ((Hbs.out.cutR (lo := L) (hi := M) hlM (Nat.le_refl _)).congr fun i _ => ?_)
          show bitF f (p k + (L + i)) = bitF f ((if k + 1 ≤ k then p (k + 1) else p k + len S) + i)
          rw [hpk, Nat.add_assoc]
        · by_cases h : i < k
          · simp [catF, h]
          · simp [catF, oneF, h]
        · show M - L < M
          omega
    · have Hno : Hid (∀ S, ¬ Mt (bitF f) (8 * n) (p k) S) := fun S hS => hno S ((Hsh.out S).2 hS)
      clear hno
      by_cases h7 : 7 < M
      · have d1 : decide ((7 : Int) < (M : Int)) = true := decide_eq_true (by omega)
        have hbad : Hid (¬ (8 * n - p k ≤ 7 ∧ ∀ i, p k ≤ i → i < 8 * n → bitF f i = 1)) := fun h => by have := HM.out; omega
        clear h7
        go_wp2_with fail
        go_ret2
        exact DcdE.bad Hch.out (.inl ⟨rfl, Hno.out, hbad.out⟩) (HB3.out.of HB.out)
      · have d1 : decide ((7 : Int) < (M : Int)) = false := decide_eq_false (by omega)
        have hbs := Hbs.out.below HB.out
        have Hb2 := hide hbs
        clear hbs
        go_wp2_with fail
        go_loop [10] (fun i => ∃ q : Nat, q ≤ M ∧ i = .int .i64 q ∧ ∀ j, j < q → bitF f (p k + j) = 1) (fun i => M - (intOf i).toNat)
        case atStart => exact ⟨0, Nat.zero_le _, rfl, fun j hj => by omega⟩
        case round =>
          obtain ⟨q, hq, rfl, hall⟩ := hrel
          have Hall := hide hall
          clear hall
          by_cases hlt : q < M
          · obtain ⟨b, off, rfl, hc⟩ := Hb2.out.at_ hlt
            have hqM : (q : Int) < (M : Int) := by omega
            obtain ⟨x, hX⟩ : ∃ x, bitF f (p k + q) = x := ⟨_, rfl⟩
            have HX := hide hX
            have hbd := bitF_bd (f := f) (p k + q)
            rw [hX] at hc hbd
            clear hX
            by_cases hx : x = 0
            · have t1 : (x == 0) = true := by simpa using hx
              have hbad : Hid (¬ (8 * n - p k ≤ 7 ∧ ∀ i, p k ≤ i → i < 8 * n → bitF f i = 1)) := fun h => by
                have := h.2 (p k + q) (by omega) (by have := HM.out; omega)
                rw [HX.out] at this
                omega
              clear hx
              go_wp2_with fail
              go_ret2
              exact DcdE.bad Hch.out (.inl ⟨rfl, Hno.out, hbad.out⟩) (HB3.out.of HB.out)
            · have t1 : (x == 0) = false := by simpa using hx
              have HA : Hid (∀ j, j < q + 1 → bitF f (p k + j) = 1) := fun j hj => by
                by_cases e : j = q
                · subst e; rw [HX.out]; omega
                · exact Hall.out j (by omega)
              clear hx
              go_wp2_with fail
              exact ⟨⟨q + 1, by omega, by go_num, HA.out⟩, by simp [intOf]; omega⟩
          · obtain rfl : q = M := by omega
            go_wp2_with fail
            go_ret2
            refine ⟨_, k, _, 0, rfl, Own.baseB Hown.out hs3, ⟨k, p, s, Hch.out, .inl ⟨rfl, rfl, fun i _ => rfl, Hno.out, by have := HM.out; omega, fun i hi1 hi2 => ?_⟩⟩, HB3.out.of HB.out⟩
            have := Hall.out (i - p k) (by have := HM.out; omega)
            rw [show p k + (i - p k) = i by omega] at this
            exact this
end

section
open Go.RowKit

/-- A reader whose bytes' place has a name. -/
def RdrA (w : World) (p : Nat) (A : Option Addr) (c n t : Nat) : Prop := w.heap[p]? = some (.cells #[.slice A n c, .int .i64 (t : Int)] 167 (0, 0))
theorem bnextA (p n t c : Nat) (A : Option Addr) (f : Nat → Int) (w : World) (hh : RdrA w p A c n t) (hr : Rd .u8 w A n c f) (ha : ∀ a, A = some a → a.block ≠ p) (hb : Byt n f) (ht : t < 8 * n) (h2 : n ≤ 1000000) :
    Calls Tryd.prog 118 #[.pointer (some ⟨p, 0, none⟩)] w fun e w' => e = .returned (.int .i64 (bitF f t)) ∧ RdrA w' p A c n (t + 1) ∧ w.grownBy w' (some p) := by
  have hh' : w.heap[p]? = some (.cells #[.slice A n c, .int .i64 (t : Int)] 167 (0, 0)) := hh
  have c0 := cell_of_row w p 0 _ _ _ hh'
  have c1 := cell_of_row w p 1 _ _ _ hh'
  simp at c0 c1
  obtain ⟨b, off, rfl, hcell⟩ := hr.at_ (i := t / 8) (by omega)
  have hf1 := frozen_of_row w p 1 _ _ hh'
  have Hh := hide hh'
  have Hr := hide hr
  have Ha := hide ha
  clear hh hh' hr ha
  go_enter Tryd.func118, Tryd.ntmps118
  go_wp2
  go_quiet (fail)
  go_wp2
  go_ret
  refine ⟨by rw [← bit_eq hb ht]; rfl, ?_, bgrown_cell w nq p 1 _⟩
  have := heap_setCell_same (w.drewN nq) p 1 _ _ (.int .i64 ((t : Int) + 1)) Hh.out
  unfold RdrA
  rw [this]
  simp
theorem bitA (p n t c : Nat) (A : Option Addr) (f : Nat → Int) (w : World) (hh : RdrA w p A c n t) (hr : Rd .u8 w A n c f) (ha : ∀ a, A = some a → a.block ≠ p) (hb : Byt n f) (ht : t < 8 * n) (h2 : n ≤ 1000000) :
    Calls Tryd.prog 108 #[.pointer (some ⟨p, 0, none⟩)] w fun e w' => e = .returned (.tuple #[.int .i64 (bitF f t), .bool true]) ∧ RdrA w' p A c n (t + 1) ∧ w.grownBy w' (some p) := by
  have H := hide hh
  have Hr := hide hr
  have Ha := hide ha
  have Hb := hide hb
  clear hh hr ha hb
  have hz2 : (((8 * n - t : Nat) : Int) == 0) = false := by simp; omega
  obtain ⟨q, hq⟩ : ∃ q, q = 8 * n - t := ⟨_, rfl⟩
  have Hq := hide hq
  rw [← hq] at hz2
  clear hq
  go_enter Tryd.func108, Tryd.ntmps108
  go_wp2_with fail
  refine (bleft_any p n t f _ ⟨A, c, H.out, Hr.out, Ha.out, by omega, h2⟩).mono ?_
  rintro e w1 ⟨rfl, hd⟩
  rw [← Hq.out]
  obtain ⟨m, rfl⟩ := hd
  go_wp2_with fail
  refine (bnextA p n t c A f (w.drewN m) H.out (Hr.out.drewN m) Ha.out Hb.out ht h2).mono ?_
  rintro e w2 ⟨rfl, hr, hg⟩
  go_wp2_with fail
  go_ret2
  exact ⟨rfl, hr, ⟨hg.os, hg.tape, hg.output, hg.size, hg.block⟩⟩
/-- Where a reader stands. -/
def rdPos (a : Act) (w : World) : Nat := match a.tmps.getD 5 undef with
  | .pointer (some x) => (intOf ((w.cell? ⟨x.block, 1, none⟩).getD undef)).toNat
  | _ => 0
theorem rdPos_of {a : Act} {w : World} {p c n t : Nat} {A : Option Addr} (h5 : a.tmps.getD 5 undef = .pointer (some ⟨p, 0, none⟩)) (hh : RdrA w p A c n t) : rdPos a w = t := by
  have hh' : w.heap[p]? = some (.cells #[.slice A n c, .int .i64 (t : Int)] 167 (0, 0)) := hh
  have c1 := cell_of_row w p 1 _ _ _ hh'
  simp at c1
  unfold rdPos
  rw [h5]
  simp [c1, intOf]
/-- The state at the label: the book B, the reader p, the text v, the code and its length. -/
def DSt (w : World) (n : Nat) (f : Nat → Int) (B p : Nat) (v : Value) (x : Int) (L : Nat) (w' : World) : Prop :=
  ∃ (w1 w2 : World) (A' : Option Addr) (c' k : Nat) (ps ss : Nat → Nat),
    Book w1 B ∧ Below w.heap.size w w1 ∧ w1.heap.size ≤ p ∧ Below w1.heap.size w1 w2 ∧ p < w2.heap.size ∧ Rd .u8 w2 A' n c' f ∧ (∀ a, A' = some a → a.block ≠ p) ∧
    w2.grownBy w' (some p) ∧ RdrA w' p A' c' n (ps k + L) ∧ Own .u8 5 w2.heap.size w' v k (fun i => (ss i : Int)) ∧
    Chn (bitF f) (8 * n) k ps ss ∧ x = bnum (fun i => bitF f (ps k + i)) L ∧ ps k + L ≤ 8 * n ∧ L ≤ 29 ∧ ∀ S, len S ≤ L → ¬ Mt (bitF f) (8 * n) (ps k) S
theorem grown_below {w2 wr w5 : World} {p : Nat} (h : w2.grownBy wr (some p)) (hb : Below w2.heap.size wr w5) : w2.grownBy w5 (some p) :=
  ⟨hb.os.trans h.os, hb.tape.trans h.tape, hb.output.trans h.output, Nat.le_trans h.size hb.size, fun j hj hne => (hb.block j hj).trans (h.block j hj hne)⟩
end

section
open Go.RowKit

def JDec (w : World) (A : Option Addr) (n c : Nat) (f : Nat → Int) (a' : Act) (w' : World) : Prop :=
  ∃ (B p L : Nat) (v : Value) (x z : Int) (u1 u2 u3 u9 u10 u11 u12 u13 u14 u15 u16 u17 u18 u19 u20 u21 u22 u23 u24 u25 u26 u27 u28 u29 u30 u31 u32 u33 u34 u35 u36 u37 u38 u39 u40 u41 u42 u43 u44 u45 u46 u47 u48 u49 u50 u51 u52 u53 u54 u55 : Value), a' = { tmps := #[.slice A n c, u1, u2, u3, .pointer (some ⟨B, 0, none⟩), .pointer (some ⟨p, 0, none⟩), v, .int .i64 x, .int .i64 z, u9, u10, u11, u12, u13, u14, u15, u16, u17, u18, u19, u20, u21, u22, u23, u24, u25, u26, u27, u28, u29, u30, u31, u32, u33, u34, u35, u36, u37, u38, u39, u40, u41, u42, u43, u44, u45, u46, u47, u48, u49, u50, u51, u52, u53, u54, u55], defers := [] } ∧ z = (L : Int) ∧ DSt w n f B p v x L w'
theorem jump_monoD {l : Nat} {J J' : Act → World → Prop} {Q : Exit → Act → World → Prop} (h : ∀ a w, J a w → J' a w) : ∀ (e : Exit) (a : Act) (w : World), Exit.jump l J Q e a w → Exit.jump l J' Q e a w := by
  intro e a w he
  cases e with
  | goto l' => exact ⟨he.1, h a w he.2⟩
  | _ => exact he
theorem DcdE.good {f : Nat → Int} {n k : Nat} {p s : Nat → Nat} {w w' : World} {v : Value} (hc : Chn (bitF f) (8 * n) k p s) (ho : Own .u8 5 w.heap.size w' v k (fun i => (s i : Int))) (h1 : ∀ S, ¬ Mt (bitF f) (8 * n) (p k) S) (h2 : 8 * n - p k ≤ 7) (h3 : ∀ i, p k ≤ i → i < 8 * n → bitF f i = 1) (hb : Below w.heap.size w w') :
    DcdE f n w (.returned (.tuple #[v, .int .i64 0])) w' :=
  ⟨_, k, _, 0, rfl, ho, ⟨k, p, s, hc, .inl ⟨rfl, rfl, fun _ _ => rfl, h1, h2, h3⟩⟩, hb⟩
theorem ones_num {h : Nat → Int} : ∀ L, (∀ i, i < L → h i = 1) → bnum h L = 2 ^ L - 1
  | 0, _ => by simp [bnum]
  | L + 1, hh => by
    have ih := ones_num L (fun i hi => hh i (by omega))
    simp only [bnum]
    rw [ih, hh L (by omega), Int.pow_succ]
    omega
theorem num_ones {h : Nat → Int} : ∀ L, (∀ i, i < L → 0 ≤ h i ∧ h i ≤ 1) → bnum h L = 2 ^ L - 1 → ∀ i, i < L → h i = 1
  | 0, _, _ => fun i hi => by omega
  | L + 1, hb, he => fun i hi => by
    have h1 := bnum_bd (g := h) (n := L + 1) hb L (by omega)
    have h2 := hb L (by omega)
    simp only [bnum] at he
    rw [Int.pow_succ] at he
    have h3 : h L = 1 ∧ bnum h L = 2 ^ L - 1 := by
      generalize (2 : Int) ^ L = z at *
      omega
    by_cases e : i = L
    · subst e; exact h3.1
    · exact num_ones L (fun i hi => hb i (by omega)) h3.2 i (by omega)
set_option maxRecDepth 100000 in
set_option maxHeartbeats 6400000 in
theorem decode_any (A : Option Addr) (n c : Nat) (f : Nat → Int) (w : World) (ha : Rd .u8 w A n c f) (hf : Byt n f) (hn : n ≤ 100000) :
    Calls Tryd.prog 93 #[.slice A n c] w (DcdE f n w) := by
  obtain ⟨i0, hi, hz0, hz1, hz2⟩ := info_parts c8_info
  have Ha := hide ha
  have Hf := hide hf
  clear ha hf
  go_enter Tryd.func93, Tryd.ntmps93
  go_wp2
  refine (fun (key : ∀ a w', JDec w A n c f a w' → Code.wp Tryd.prog _ (Exit.jump 0 (fun a2 w2 => JDec w A n c f a2 w2 ∧ 8 * n - rdPos a2 w2 < 8 * n - rdPos a w') _) a w') => wp_scope_jumps 0 (JDec w A n c f) (fun a' w' => 8 * n - rdPos a' w') rfl ?_ (fun a w' h => wp_seq (wp_skip (key a w' h)))) ?_
  · go_wp2_with fail
    refine (mk_any _).mono ?_
    rintro e w1 ⟨B, rfl, hbk, hb1⟩
    have HBk := hide hbk
    have HB1 := hide hb1
    have Ha1 := hide (Ha.out.below hb1)
    clear hbk hb1
    go_wp2_with fail
    refine (of_any A n c f _ Ha1.out (by omega)).mono ?_
    rintro e w2 ⟨p, rfl, hp, hrdr, hb2⟩
    obtain ⟨A', c', hh, hr, hAp, _, _⟩ := hrdr
    have hpl := (Array.getElem?_eq_some_iff.1 hh).1
    have HD : Hid (DSt w n f B p (.slice none 0 0) 0 0 w2) := ⟨w1, w2, A', c', 0, fun _ => 0, fun _ => 0, HBk.out, HB1.out, hp, hb2, hpl, hr, hAp, World.grownBy.refl _ _, hh, Own.nil _ _ _ _ _, ⟨rfl, fun i hi => by omega⟩, rfl, by omega, by omega, fun S hS hM => by have := len_bd S hM.1; omega⟩
    clear hp hh hr hAp hpl hb2
    go_wp2_with fail
    go_step3
    rename_i K hK
    refine hK _ _ ?_
    exact Code.wp_mono (jump_monoD fun _ _ h => h.1) (key _ _ ⟨B, p, 0, _, _, _, _, _, _, _, _, _, _, _, _, _, _, _, _, _, _, _, _, _, _, _, _, _, _, _, _, _, _, _, _, _, _, _, _, _, _, _, _, _, _, _, _, _, _, _, _, _, _, _, _, _, rfl, rfl, HD.out⟩)
  · rintro a' w' ⟨B, p, L, v, x, z, u1, u2, u3, u9, u10, u11, u12, u13, u14, u15, u16, u17, u18, u19, u20, u21, u22, u23, u24, u25, u26, u27, u28, u29, u30, u31, u32, u33, u34, u35, u36, u37, u38, u39, u40, u41, u42, u43, u44, u45, u46, u47, u48, u49, u50, u51, u52, u53, u54, u55, rfl, hzL, hst⟩
    obtain ⟨w1, w2, A', c', k, ps, ss, hbk, hb1, hp, hb2, hpl, hr, hAp, hg, hh, hown, hch, hx, hle, hL29, hno⟩ := hst
    have HBk := hide hbk
    have HB1 := hide hb1
    have HB2 := hide hb2
    have Hr := hide hr
    have HAp := hide hAp
    have Hg := hide hg
    have Hh := hide hh
    have Hown := hide hown
    have Hch := hide hch
    have Hx := hide hx
    have Hno := hide hno
    have Hz := hide hzL
    have hxb := bnum_lt (g := fun i => bitF f (ps k + i)) (n := L) (fun i _ => bitF_bd _) L (Nat.le_refl _) (by omega)
    rw [← hx] at hxb
    have hRd := hr.other hg (fun b' o' e => hAp _ e)
    have HRd := hide hRd
    have hrdr : Rdr w' p n f (ps k + L) := ⟨A', c', hh, hRd, hAp, hle, by omega⟩
    have Hrdr := hide hrdr
    have hg2 : Below w1.heap.size w1 w' := hb2.grown hg hb2.size (fun j e => by cases e; exact hp)
    have HG2 := hide hg2
    have HW := hide (hb1.of hg2)
    obtain ⟨M, hM⟩ : ∃ M, 8 * n - (ps k + L) = M := ⟨_, rfl⟩
    have HM := hide hM
    obtain ⟨hx0, hx1⟩ := hxb
    clear hbk hb1 hb2 hr hAp hg hh hown hch hx hno hRd hrdr hg2 hM hzL
    go_wp2_with fail
    refine (bleft_any p n (ps k + L) f _ Hrdr.out).mono ?_
    rintro e w3 ⟨rfl, q, rfl⟩
    rw [HM.out]
    by_cases hM0 : M = 0
    · have hMM := HM.out
      have htn : Hid (ps k + L = 8 * n) := by show _ = _; omega
      have dM : ((M : Int) == 0) = true := by simpa using hM0
      have dM' : (M == 0) = true := by simpa using hM0
      have HNo : Hid (∀ S, ¬ Mt (bitF f) (8 * n) (ps k) S) := fun S hS => Hno.out S (by have := hS.2.1; have := htn.out; omega) hS
      have HWq : Hid (Below w.heap.size w (w'.drewN q)) := HW.out.of (drawn_below ⟨q, rfl⟩ _)
      clear hM0 hMM
      by_cases h7 : 7 < L
      · have d7 : decide (7 < z) = true := decide_eq_true (by have := Hz.out; omega)
        have hbad : Hid (¬ (8 * n - ps k ≤ 7 ∧ ∀ i, ps k ≤ i → i < 8 * n → bitF f i = 1)) := fun h => by have := htn.out; omega
        clear h7
        go_wp2_with fail
        simp only [Exit.jump]
        go_ret2
        exact DcdE.bad Hch.out (.inl ⟨rfl, HNo.out, hbad.out⟩) HWq.out
      · have hzL := Hz.out
        have d7 : decide (7 < z) = false := decide_eq_false (by omega)
        obtain ⟨N0, hN0⟩ : ∃ N0, (2 : Int) ^ L - 1 = N0 := ⟨_, rfl⟩
        have HN0 := hide hN0
        have hcs : (z = 0 ∧ N0 = 0) ∨ (z = 1 ∧ N0 = 1) ∨ (z = 2 ∧ N0 = 3) ∨ (z = 3 ∧ N0 = 7) ∨ (z = 4 ∧ N0 = 15) ∨ (z = 5 ∧ N0 = 31) ∨ (z = 6 ∧ N0 = 63) ∨ (z = 7 ∧ N0 = 127) := by
          have hL : L = 0 ∨ L = 1 ∨ L = 2 ∨ L = 3 ∨ L = 4 ∨ L = 5 ∨ L = 6 ∨ L = 7 := by omega
          rcases hL with rfl | rfl | rfl | rfl | rfl | rfl | rfl | rfl <;> (rw [← hN0, hzL]; decide)
        have Hgood : Hid (x = N0 → (8 * n - ps k ≤ 7 ∧ ∀ i, ps k ≤ i → i < 8 * n → bitF f i = 1)) := fun e => by
          have ht := htn.out
          refine ⟨by omega, fun i h1 h2 => ?_⟩
          have := num_ones L (fun i _ => bitF_bd _) (by rw [← Hx.out, e, HN0.out]) (i - ps k) (by omega)
          rw [show ps k + (i - ps k) = i by omega] at this
          exact this
        have Hbad : Hid (x ≠ N0 → ¬ (8 * n - ps k ≤ 7 ∧ ∀ i, ps k ≤ i → i < 8 * n → bitF f i = 1)) := fun e h => by
          have ht := htn.out
          exact e (by rw [Hx.out, ← HN0.out]; exact ones_num L (fun i hi => h.2 (ps k + i) (by omega) (by omega)))
        clear h7 hzL hN0 HN0 Hz
        by_cases hxN : x = N0
        · have dx : (x != N0) = false := by simpa using hxN
          have HH := hide (Hgood.out hxN)
          have Ho : Hid (Own .u8 5 w.heap.size (w'.drewN q) v k (fun i => (ss i : Int))) := Own.baseB (Own.below Hown.out (drawn_below ⟨q, rfl⟩ _)) (Nat.le_trans HB1.out.size HB2.out.size)
          clear hxN
          rcases hcs with ⟨rfl, rfl⟩ | ⟨rfl, rfl⟩ | ⟨rfl, rfl⟩ | ⟨rfl, rfl⟩ | ⟨rfl, rfl⟩ | ⟨rfl, rfl⟩ | ⟨rfl, rfl⟩ | ⟨rfl, rfl⟩
          all_goals
            go_wp2_with fail
            simp only [Exit.jump]
            go_ret2
            exact DcdE.good Hch.out Ho.out HNo.out HH.out.1 HH.out.2 HWq.out
        · have dx : (x != N0) = true := by simpa using hxN
          have HH := hide (Hbad.out hxN)
          clear hxN
          rcases hcs with ⟨rfl, rfl⟩ | ⟨rfl, rfl⟩ | ⟨rfl, rfl⟩ | ⟨rfl, rfl⟩ | ⟨rfl, rfl⟩ | ⟨rfl, rfl⟩ | ⟨rfl, rfl⟩ | ⟨rfl, rfl⟩
          all_goals
            go_wp2_with fail
            simp only [Exit.jump]
            go_ret2
            exact DcdE.bad Hch.out (.inl ⟨rfl, HNo.out, HH.out⟩) HWq.out
    · have dM : ((M : Int) == 0) = false := by simpa using hM0
      have dM' : (M == 0) = false := by simpa using hM0
      have htn : Hid (ps k + L < 8 * n) := by have := HM.out; show _ < _; omega
      have hzb0 : 0 ≤ z := by have := Hz.out; omega
      have hzb1 : z ≤ 29 := by have := Hz.out; omega
      clear hM0
      go_wp2_with fail
      refine (bitA p n (ps k + L) c' A' f (w'.drewN q) Hh.out (HRd.out.drewN q) HAp.out Hf.out htn.out (by omega)).mono ?_
      rintro e w4 ⟨rfl, hh4, hg4⟩
      have Hg4 : Hid (w'.grownBy w4 (some p)) := ⟨hg4.os, hg4.tape, hg4.output, hg4.size, hg4.block⟩
      have Hh4 := hide hh4
      have hgr : w2.grownBy w4 (some p) := grown_trans Hg.out Hg4.out
      have HGr := hide hgr
      have Hb4 : Hid (Below w1.heap.size w1 w4) := HB2.out.grown hgr HB2.out.size (fun j e => by cases e; exact hp)
      have Hown4 : Hid (Own .u8 5 w2.heap.size w4 v k (fun i => (ss i : Int))) :=
        Own.keepT Hown.out (KeepT.grown Hg4.out (cs' := _) (T' := 167) Hh.out (by decide))
      obtain ⟨bb, hbb⟩ : ∃ bb, bitF f (ps k + L) = bb := ⟨_, rfl⟩
      have hbd := bitF_bd (f := f) (ps k + L)
      rw [hbb] at hbd ⊢
      obtain ⟨hb0, hb1⟩ := hbd
      obtain ⟨y, hy⟩ : ∃ y, 2 * x + bb = y := ⟨_, rfl⟩
      have hor := or_bit hx0 hx1 hb0 hb1
      rw [hy] at hor
      have HY : Hid (y = bnum (fun i => bitF f (ps k + i)) (L + 1)) := by
        show _ = 2 * bnum _ L + bitF f (ps k + L)
        rw [← Hx.out, hbb, hy]
      have hy0 : 0 ≤ y := by omega
      have hy1 : y ≤ 9000000000 := by omega
      have hx2 : x * 2 ≤ 8589934592 := by omega
      clear hh4 hg4 hgr hbb hy
      go_wp2_with fail
      refine (findI B y (z + 1) _ (HBk.out.below Hb4.out) (by omega) (by omega)).mono ?_
      rintro e w5 ⟨s, fnd, rfl, hF, q5, rfl⟩
      have HF := hide hF
      clear hF
      have hzz : Hid (z + 1 = ((L + 1 : Nat) : Int)) := by have := Hz.out; show _ = _; omega
      cases fnd with
      | false =>
        have HNo' : Hid (∀ S, len S ≤ L + 1 → ¬ Mt (bitF f) (8 * n) (ps k) S) := fun S hS hM => by
          by_cases e : len S ≤ L
          · exact Hno.out S e hM
          · rcases HF.out with ⟨h, _⟩ | ⟨_, _, h⟩
            · cases h
            · have e2 : len S = L + 1 := by omega
              refine h S hM.1 ⟨?_, by rw [hzz.out, e2]⟩
              have := hM.2.2
              rw [e2, ← HY.out] at this
              exact this.symm
        have hL29' : Hid (L + 1 ≤ 29) := by
          show _ ≤ _
          by_cases e : L + 1 ≤ 29
          · exact e
          · obtain ⟨S, hS⟩ := mt_some (g := bitF f) (N := 8 * n) (t := ps k) (bitF_bits f _) (by have := htn.out; omega)
            exact absurd hS (HNo'.out S (by have := len_bd S hS.1; omega))
        have HD : Hid (DSt w n f B p v y (L + 1) (w4.drewN q5)) :=
          ⟨w1, w2, A', c', k, ps, ss, HBk.out, HB1.out, hp, HB2.out, hpl, Hr.out, HAp.out, grown_below HGr.out (drawn_below ⟨q5, rfl⟩ _), Hh4.out, Own.below Hown4.out (drawn_below ⟨q5, rfl⟩ _), Hch.out, HY.out, htn.out, hL29'.out, HNo'.out⟩
        have HP : Hid (RdrA (w4.drewN q5) p A' c' n (ps k + L + 1)) := Hh4.out
        have HP0 : Hid (RdrA w' p A' c' n (ps k + L)) := Hh.out
        go_wp2_with fail
        go_step3
        refine ⟨rfl, ⟨B, p, L + 1, v, y, z + 1, _, _, _, _, _, _, _, _, _, _, _, _, _, _, _, _, _, _, _, _, _, _, _, _, _, _, _, _, _, _, _, _, _, _, _, _, _, _, _, _, _, _, _, _, _, _, _, _, _, _, rfl, hzz.out, HD.out⟩, ?_⟩
        rw [rdPos_of rfl HP.out, rdPos_of rfl HP0.out]
        have := htn.out
        omega
      | true =>
        obtain ⟨S, hS, rfl, hcd, hlS⟩ : ∃ S : Nat, S < 257 ∧ s = (S : Int) ∧ (cd (rnk S) : Int) = y ∧ (len S : Int) = z + 1 := by
          rcases HF.out with ⟨_, h⟩ | ⟨h, _⟩
          · exact h
          · cases h
        have hlS' : len S = L + 1 := by have := hzz.out; omega
        have HMt : Hid (Mt (bitF f) (8 * n) (ps k) S) := ⟨hS, by have := htn.out; omega, by rw [hlS', ← HY.out, hcd]⟩
        have Hls := hide hlS'
        clear hcd hlS hlS'
        have HWr : Hid (Below w.heap.size w (w4.drewN q5)) := HB1.out.of (Hb4.out.trans (drawn_below ⟨q5, rfl⟩ _))
        by_cases h256 : S = 256
        · subst h256
          go_wp2_with fail
          simp only [Exit.jump]
          go_ret2
          exact DcdE.bad Hch.out (.inr ⟨rfl, HMt.out⟩) HWr.out
        · have d1 : ((S : Int) == 256) = false := by simp; omega
          have s0 : (0 : Int) ≤ (S : Int) := by omega
          have s1 : (S : Int) ≤ 255 := by omega
          have Hch' : Hid (Chn (bitF f) (8 * n) (k + 1) (fun i => if i ≤ k then ps i else ps k + len S) (fun i => if i < k then ss i else S)) := Hch.out.more HMt.out (by omega)
          obtain ⟨hpk1, hpk2⟩ := Hch.out.pos k (Nat.le_refl _)
          have hk8 : k ≤ 160000 := by omega
          have hsz : w2.heap.size ≤ w4.heap.size := HGr.out.size
          have hsz5 : w2.heap.size ≤ (w4.drewN q5).heap.size := HGr.out.size
          have Hown5 : Hid (Own .u8 5 w2.heap.size (w4.drewN q5) v k (fun i => (ss i : Int))) := Own.below Hown4.out (drawn_below ⟨q5, rfl⟩ _)
          go_wp2_with (at_builtin; refine wp_app rfl (.tmp 51) (.tmp 54) _ rfl i0 0 1 Tryd.underlying22 hi hz0 hz1 hz2 w2.heap.size _ k _ rfl (Hown5.out.alloc _) _ 1 1 _ rfl (Rd.one .u8 5 _ _) (by simp only [maxLen]; omega) (by omega) (by simp; omega) ?_; intro v6 w6 hown6 hg6)
          have B6 : Hid (Below w2.heap.size w4 w6) := (((Below.refl w2.heap.size w4).trans (drawn_below ⟨q5, rfl⟩ _)).alloc hsz _).grown hg6 (by simp; omega) (fun j e => (World.ownsRow.lt Hown4.out j e).1)
          have HP6 : Hid (RdrA w6 p A' c' n (ps k + L + 1)) := (B6.out.block p hpl).trans Hh4.out
          have HP0 : Hid (RdrA w' p A' c' n (ps k + L)) := Hh.out
          have hpk : (if k + 1 ≤ k then ps (k + 1) else ps k + len S) = ps k + L + 1 := by rw [if_neg (by omega), Hls.out]; omega
          have HD : Hid (DSt w n f B p v6 0 0 w6) := by
            refine ⟨w1, w2, A', c', k + 1, _, _, HBk.out, HB1.out, hp, HB2.out, hpl, Hr.out, HAp.out, grown_below HGr.out B6.out, ?_, hown6.congr (fun i hi => ?_), Hch'.out, rfl, ?_, by omega, fun S hS hM => by have := len_bd S hM.1; omega⟩
            · show RdrA w6 p A' c' n ((if k + 1 ≤ k then ps (k + 1) else ps k + len S) + 0)
              rw [hpk]
              exact HP6.out
            · by_cases h : i < k
              · simp [catF, h]
              · simp [catF, oneF, h]
            · show (if k + 1 ≤ k then ps (k + 1) else ps k + len S) + 0 ≤ 8 * n
              rw [hpk]
              have := htn.out
              omega
          go_step3
          refine ⟨rfl, ⟨B, p, 0, v6, 0, 0, _, _, _, _, _, _, _, _, _, _, _, _, _, _, _, _, _, _, _, _, _, _, _, _, _, _, _, _, _, _, _, _, _, _, _, _, _, _, _, _, _, _, _, _, _, _, _, _, _, _, rfl, rfl, HD.out⟩, ?_⟩
          rw [rdPos_of rfl HP6.out, rdPos_of rfl HP0.out]
          have := htn.out
          omega
end

section
open Go.RowKit

theorem ones_no : ∀ S, S < 257 → len S < 30 → cd (rnk S) ≠ 2 ^ (len S) - 1 := fun S hS => by
  have h := all_lt (n := 257) (p := fun S => decide (len S < 30 → cd (rnk S) ≠ 2 ^ (len S) - 1)) (by decide +kernel) S hS
  exact of_decide_eq_true h
theorem mt_ones {g : Nat → Int} {N t : Nat} (h : ∀ i, t ≤ i → i < N → g i = 1) (h30 : N - t < 30) (S : Nat) : ¬ Mt g N t S := fun hM => by
  have h1 := ones_num (h := fun i => g (t + i)) (len S) (fun i hi => h (t + i) (by omega) (by have := hM.2.1; omega))
  have h2 := hM.2.2
  rw [h1] at h2
  have h3 := ones_no S hM.1 (by have := hM.2.1; omega)
  have h4 : ((2 ^ len S - 1 : Nat) : Int) = 2 ^ len S - 1 := by
    have h5 : 1 ≤ 2 ^ len S := Nat.one_le_two_pow
    have e : ((2 : Int) ^ len S) = ((2 ^ len S : Nat) : Int) := by simp
    rw [e]
    generalize 2 ^ len S = z at *
    omega
  rw [← h4] at h2
  exact h3 (by exact_mod_cast h2.symm)
theorem ex31 : Dcd (bitF (oneF 31)) 8 1 (oneF 97) 0 :=
  ⟨1, fun i => 5 * i, fun _ => 97, ⟨rfl, fun i hi => by
    obtain rfl : i = 0 := by omega
    exact ⟨⟨by decide, by decide +kernel, by decide +kernel⟩, by decide, by decide +kernel⟩⟩, .inl ⟨rfl, rfl, fun _ _ => rfl, mt_ones (fun i (h1 : 5 ≤ i) h2 => by
    have : i = 5 ∨ i = 6 ∨ i = 7 := by omega
    rcases this with rfl | rfl | rfl <;> decide +kernel) (by decide), by decide, fun i (h1 : 5 ≤ i) h2 => by
    have : i = 5 ∨ i = 6 ∨ i = 7 := by omega
    rcases this with rfl | rfl | rfl <;> decide +kernel⟩⟩
theorem ex255 : Dcd (bitF (oneF 255)) 8 0 (oneF 0) 10 :=
  ⟨0, fun _ => 0, fun _ => 0, ⟨rfl, fun i hi => by omega⟩, .inr (.inl ⟨rfl, rfl, mt_ones (fun i h1 h2 => by
    have h := all_lt (n := 8) (p := fun i => decide (bitF (oneF 255) i = 1)) (by decide +kernel) i h2
    exact of_decide_eq_true h) (by decide), fun h => absurd h.1 (by decide)⟩)⟩
def f31 : Nat → Int := fun i => if i = 0 then 31 else 255
theorem ex31255 : Dcd (bitF f31) 16 0 (oneF 0) 10 :=
  ⟨1, fun i => 5 * i, fun _ => 97, ⟨rfl, fun i hi => by
    obtain rfl : i = 0 := by omega
    exact ⟨⟨by decide, by decide +kernel, by decide +kernel⟩, by decide, by decide +kernel⟩⟩, .inr (.inl ⟨rfl, rfl, mt_ones (fun i h1 h2 => by
    have h := all_lt (n := 16) (p := fun i => decide (5 ≤ i → bitF f31 i = 1)) (by decide +kernel) i h2
    exact of_decide_eq_true h h1) (by decide), fun h => absurd h.1 (by decide)⟩)⟩
theorem exEnc : enT (oneF 97) 1 = 5 ∧ byF (enG (oneF 97) 1) 5 0 = 31 := by decide +kernel
theorem Rd.oneM (w : World) (x : Int) (T : TypeId) (fr : Nat × Nat) : Rd .u8 (w.alloc (.cells #[.int .u8 x] T fr)) (some ⟨w.heap.size, 0, none⟩) 1 1 (oneF x) :=
  ⟨Nat.le_refl _, by simp [maxLen], fun e => (by cases e), fun _ => ⟨_, _, rfl, fun i hi => by
    obtain rfl : i = 0 := by omega
    rw [World.cell?_alloc_mark]
    rfl⟩⟩
theorem byt_one {x : Int} (h0 : 0 ≤ x) (h1 : x ≤ 255) : Byt 1 (oneF x) := fun _ _ => ⟨h0, h1⟩
end

section
open Go.RowKit

theorem hhalf (v : Int) (j : Nat) : v / 2 ^ (j + 1) = v / 2 ^ j / 2 := by
  rw [Int.pow_succ, Int.ediv_ediv_of_nonneg (Int.le_of_lt (Int.pow_pos (by decide)))]
theorem hbnum_bits {v : Int} {n : Nat} (h0 : 0 ≤ v) (h1 : v < 2 ^ n) : ∀ k, k ≤ n → bnum (bitsOf v n) k = v / 2 ^ (n - k)
  | 0, _ => by
    simp only [bnum, Nat.sub_zero]
    exact (Int.ediv_eq_zero_of_lt h0 h1).symm
  | k + 1, hk => by
    have ih := hbnum_bits h0 h1 k (by omega)
    simp only [bnum]
    rw [ih, show n - k = (n - (k + 1)) + 1 by omega, hhalf]
    unfold bitsOf
    rw [show n - 1 - k = n - (k + 1) by omega]
    generalize v / 2 ^ (n - (k + 1)) = z
    omega
theorem hbnum_bitsOf {v : Int} {n : Nat} (h0 : 0 ≤ v) (h1 : v < 2 ^ n) : bnum (bitsOf v n) n = v := by
  rw [hbnum_bits h0 h1 n (Nat.le_refl _)]
  simp
theorem hbit_of_bnum {h : Nat → Int} {j : Nat} (hb : ∀ k, k < 8 → 0 ≤ h k ∧ h k ≤ 1) (hj : j < 8) : bnum h 8 / 2 ^ (7 - j) % 2 = h j := by
  rw [bnum8]
  have b0 := hb 0; have b1 := hb 1; have b2 := hb 2; have b3 := hb 3; have b4 := hb 4; have b5 := hb 5; have b6 := hb 6; have b7 := hb 7
  clear hb
  have hj' : j = 0 ∨ j = 1 ∨ j = 2 ∨ j = 3 ∨ j = 4 ∨ j = 5 ∨ j = 6 ∨ j = 7 := by omega
  rcases hj' with rfl | rfl | rfl | rfl | rfl | rfl | rfl | rfl <;> simp at * <;> omega
theorem hbitF_byF {g : Nat → Int} {t : Nat} (hg : ∀ i, i < t → 0 ≤ g i ∧ g i ≤ 1) (i : Nat) : bitF (byF g t) i = if i < t then g i else 1 := by
  unfold bitF
  rw [byF_eq, hbit_of_bnum (fun k _ => rbit_bd hg _ k) (by omega)]
  unfold rbit
  rw [show 8 * (i / 8) + i % 8 = i by omega]
theorem hbyF_byt {g : Nat → Int} {t : Nat} (hg : ∀ i, i < t → 0 ≤ g i ∧ g i ≤ 1) (n : Nat) : Byt n (byF g t) := fun i _ => by
  rw [byF_eq]
  exact bnum8_bd (fun k _ => rbit_bd hg _ k)
/-- The j-th bit of the number that bits are. -/
theorem bits_of_num {g : Nat → Int} {L j : Nat} (hg : ∀ i, i < L → 0 ≤ g i ∧ g i ≤ 1) (hj : j < L) : bitsOf (bnum g L) L j = g j := by
  unfold bitsOf
  have h := bnum_div (g := g) (a := j + 1) (L - 1 - j) (fun i hi => hg i (by omega))
  rw [show j + 1 + (L - 1 - j) = L by omega] at h
  rw [h]
  have := hg j hj
  simp only [bnum]
  omega
theorem byte_of_bits {x : Int} (h0 : 0 ≤ x) (h1 : x ≤ 255) : bnum (fun k => x / 2 ^ (7 - k) % 2) 8 = x := by
  rw [bnum8]
  simp
  omega
theorem enT_mono (b : Nat → Int) {i n : Nat} (h : i ≤ n) : enT b i ≤ enT b n := by
  induction n with
  | zero => obtain rfl : i = 0 := by omega
            exact Nat.le_refl _
  | succ n ih =>
    by_cases e : i = n + 1
    · subst e; exact Nat.le_refl _
    · exact Nat.le_trans (ih (by omega)) (by simp [enT])
theorem enG_at (b : Nat → Int) {i n j : Nat} (hi : i < n) (hj : j < len (b i).toNat) : enG b n (enT b i + j) = bitsOf (cd (rnk (b i).toNat) : Int) (len (b i).toNat) j := by
  induction n with
  | zero => omega
  | succ n ih =>
    simp only [enG, catF]
    by_cases e : i = n
    · subst e
      rw [if_neg (by omega), show enT b i + j - enT b i = j by omega]
    · have h1 : enT b (i + 1) ≤ enT b n := enT_mono b (by omega)
      have h2 : enT b (i + 1) = enT b i + len (b i).toNat := rfl
      rw [if_pos (by omega)]
      exact ih (by omega)
theorem enc_dcd {b : Nat → Int} {n : Nat} (hb : Byt n b) : Dcd (bitF (byF (enG b n) (enT b n))) (8 * ((enT b n + 7) / 8)) n b 0 := by
  have hg : ∀ i, i < enT b n → 0 ≤ enG b n i ∧ enG b n i ≤ 1 := fun i _ => enG_bd n i
  have hone : ∀ i, enT b n ≤ i → bitF (byF (enG b n) (enT b n)) i = 1 := fun i hi => by rw [hbitF_byF hg, if_neg (by omega)]
  refine ⟨n, enT b, fun i => (b i).toNat, ⟨rfl, fun i hi => ?_⟩, .inl ⟨rfl, rfl, fun i hi => (byt_nat hb hi).2.symm, mt_ones (fun i h1 _ => hone i h1) (by omega), by omega, fun i h1 _ => hone i h1⟩⟩
  obtain ⟨s1, s2⟩ := byt_nat hb hi
  have h1 : enT b (i + 1) ≤ enT b n := enT_mono b (by omega)
  have h2 : enT b (i + 1) = enT b i + len (b i).toNat := rfl
  refine ⟨⟨by show (b i).toNat < 257; omega, by show enT b i + len (b i).toNat ≤ _; omega, ?_⟩, s1, rfl⟩
  have e : bnum (fun j => bitF (byF (enG b n) (enT b n)) (enT b i + j)) (len (b i).toNat) = bnum (bitsOf (cd (rnk (b i).toNat) : Int) (len (b i).toNat)) (len (b i).toNat) := bnum_congr fun j hj => by
    show bitF (byF (enG b n) (enT b n)) (enT b i + j) = _
    rw [hbitF_byF hg, if_pos (by omega), enG_at b hi hj]
  show bnum (fun j => bitF (byF (enG b n) (enT b n)) (enT b i + j)) (len (b i).toNat) = _
  rw [e, hbnum_bitsOf (by omega) (cd_lt _ (by omega))]
theorem dec_enc {x h : Nat → Int} {m n : Nat} (hx : Byt m x) (hd : Dcd (bitF x) (8 * m) n h 0) :
    Byt n h ∧ 5 * n ≤ 8 * m ∧ (enT h n + 7) / 8 = m ∧ ∀ i, i < m → byF (enG h n) (enT h n) i = x i := by
  obtain ⟨k, p, s, hc, hE⟩ := hd
  rcases hE with ⟨_, rfl, hf, _, h7, hone⟩ | ⟨h, _⟩ | ⟨h, _⟩
  · obtain ⟨hp1, hp2⟩ := hc.pos n (Nat.le_refl _)
    have hs : ∀ i, i < n → (h i).toNat = s i := fun i hi => by rw [hf i hi]; simp
    have hT : ∀ i, i ≤ n → enT h i = p i := by
      intro i
      induction i with
      | zero => intro _; exact hc.1.symm
      | succ i ih =>
        intro hi
        simp only [enT]
        rw [ih (by omega), hs i (by omega), (hc.2 i (by omega)).2.2]
    have hG : ∀ i, i ≤ n → ∀ j, j < p i → enG h i j = bitF x j := by
      intro i
      induction i with
      | zero => intro _ j hj; rw [hc.1] at hj; omega
      | succ i ih =>
        intro hi j hj
        have hci := hc.2 i (by omega)
        simp only [enG, catF]
        rw [hT i (by omega), hs i (by omega)]
        by_cases e : j < p i
        · rw [if_pos e]
          exact ih (by omega) j e
        · rw [if_neg e]
          rw [hci.2.2] at hj
          rw [← hci.1.2.2, bits_of_num (fun i _ => bitF_bd _) (by omega)]
          show bitF x (p i + (j - p i)) = _
          rw [show p i + (j - p i) = j by omega]
    refine ⟨fun i hi => ?_, by omega, by rw [hT n (Nat.le_refl _)]; omega, fun i hi => ?_⟩
    · have := (hc.2 i hi).2.1
      rw [hf i hi]
      omega
    · rw [hT n (Nat.le_refl _), byF_eq]
      have hxi := hx i hi
      rw [show bnum (rbit (enG h n) (p n) i) 8 = bnum (fun k => x i / 2 ^ (7 - k) % 2) 8 from bnum_congr fun k hk => ?_, byte_of_bits hxi.1 hxi.2]
      unfold rbit
      have e : bitF x (8 * i + k) = x i / 2 ^ (7 - k) % 2 := by
        unfold bitF
        rw [show (8 * i + k) / 8 = i by omega, show (8 * i + k) % 8 = k by omega]
      by_cases hlt : 8 * i + k < p n
      · rw [if_pos hlt, hG n (Nat.le_refl _) _ hlt, e]
      · rw [if_neg hlt, ← e, hone _ (by omega) (by omega)]
  · cases h
  · cases h
end
end Go.Proofs.YtnkcbljhgcgpaaaDoor
