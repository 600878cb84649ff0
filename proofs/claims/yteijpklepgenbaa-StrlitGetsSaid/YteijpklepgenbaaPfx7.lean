/- Layer 18: Put and Get, whole; the chapter's examples; the walks of the laws on putting and getting. -/
import Derived.Test.YteijpklepgenbaaPfx6
namespace Go.Proofs.Yteijpklepgenbaa
open Go.RowKit

def pfN (b n : Int) : Nat := if n < p8 b - 1 then 1 else 1 + dgN 4 (n - (p8 b - 1)).toNat
def pfF (first b n : Int) : Nat → Int := if n < p8 b - 1 then oneF (first + n) else catF 1 (oneF (first + (p8 b - 1))) (dgF 4 (n - (p8 b - 1)).toNat)
theorem pfN_bd (b n : Int) : 1 ≤ pfN b n ∧ pfN b n ≤ 6 := by
  have := dgN_bd 4 (n - (p8 b - 1)).toNat
  unfold pfN
  split <;> omega
/-- What a Put hands back. -/
def PutR (first b n : Int) (w : World) (e : Ending) (w' : World) : Prop :=
  (pfE first b n ≠ 0 ∧ e = .returned (.tuple #[.slice none 0 0, .int .i64 (pfE first b n)]) ∧ w = w') ∨ (pfE first b n = 0 ∧ GaveO w (pfN b n) (pfF first b n) e w')
theorem pfE_arg {first b n : Int} (h : b < 1 ∨ 8 < b ∨ first < 0 ∨ 255 < first ∨ first % p8 b ≠ 0) : pfE first b n = 1 := by
  unfold pfE
  rw [if_pos h]
theorem pfE_range {first b n : Int} (h : ¬ (b < 1 ∨ 8 < b ∨ first < 0 ∨ 255 < first ∨ first % p8 b ≠ 0)) (h2 : n < 0 ∨ 2147483647 < n) : pfE first b n = 5 := by
  unfold pfE
  rw [if_neg h, if_pos h2]
theorem pfE_fine {first b n : Int} (h : ¬ (b < 1 ∨ 8 < b ∨ first < 0 ∨ 255 < first ∨ first % p8 b ≠ 0)) (h2 : ¬ (n < 0 ∨ 2147483647 < n)) : pfE first b n = 0 := by
  unfold pfE
  rw [if_neg h, if_neg h2]
theorem not_arg {first b : Int} (h : ¬ (b < 1 ∨ 8 < b ∨ first < 0 ∨ 255 < first ∨ first % p8 b ≠ 0)) : 1 ≤ b ∧ b ≤ 8 ∧ 0 ≤ first ∧ first ≤ 255 ∧ first % p8 b = 0 := by
  refine ⟨by omega, by omega, by omega, by omega, ?_⟩
  by_cases h3 : first % p8 b = 0
  · exact h3
  · exact absurd (.inr (.inr (.inr (.inr h3)))) h
theorem pput_any (first b n : Int) (w : World) : Calls Try.prog 13 #[.int .i64 first, .int .i64 b, .int .i64 n] w (PutR first b n w) := by
  by_cases h : b < 1 ∨ 8 < b ∨ first < 0 ∨ 255 < first ∨ first % p8 b ≠ 0
  · have e := pfE_arg (n := n) h
    exact (pput_arg first b n w h).mono fun _ _ hh => .inl ⟨by rw [e]; decide, by rw [e]; exact hh.1, hh.2⟩
  obtain ⟨h1, h2, h3, h4, h5⟩ := not_arg h
  by_cases hr : n < 0 ∨ 2147483647 < n
  · have e := pfE_range h hr
    exact (pput_range first b n w h1 h2 h3 h4 h5 hr).mono fun _ _ hh => .inl ⟨by rw [e]; decide, by rw [e]; exact hh.1, hh.2⟩
  have e := pfE_fine h hr
  by_cases hs : n < p8 b - 1
  · exact (pput_small first b n w h1 h2 h3 h4 h5 (by omega) hs).mono fun _ _ hh => .inr ⟨e, by unfold pfN pfF; rw [if_pos hs, if_pos hs]; exact hh⟩
  · have := p8_bd h1 h2
    exact (pput_large first b n (n - (p8 b - 1)).toNat w h1 h2 h3 h4 h5 (by omega) (by omega) (by omega)).mono fun _ _ hh => .inr ⟨e, by unfold pfN pfF; rw [if_neg hs, if_neg hs]; exact hh⟩
theorem rpput_any (first b n : Int) (w : World) : Calls Try.prog 15 #[.int .i64 first, .int .i64 b, .int .i64 n] w (PutR first b n w) := by
  by_cases h : b < 1 ∨ 8 < b ∨ first < 0 ∨ 255 < first ∨ first % p8 b ≠ 0
  · have e := pfE_arg (n := n) h
    exact (rpput_arg first b n w h).mono fun _ _ hh => .inl ⟨by rw [e]; decide, by rw [e]; exact hh.1, hh.2⟩
  obtain ⟨h1, h2, h3, h4, h5⟩ := not_arg h
  by_cases hr : n < 0 ∨ 2147483647 < n
  · have e := pfE_range h hr
    exact (rpput_range first b n w h1 h2 h3 h4 h5 hr).mono fun _ _ hh => .inl ⟨by rw [e]; decide, by rw [e]; exact hh.1, hh.2⟩
  have e := pfE_fine h hr
  by_cases hs : n < p8 b - 1
  · exact (rpput_small first b n w h1 h2 h3 h4 h5 (by omega) hs).mono fun _ _ hh => .inr ⟨e, by unfold pfN pfF; rw [if_pos hs, if_pos hs]; exact hh⟩
  · have := p8_bd h1 h2
    exact (rpput_large first b n (n - (p8 b - 1)).toNat w h1 h2 h3 h4 h5 (by omega) (by omega) (by omega)).mono fun _ _ hh => .inr ⟨e, by unfold pfN pfF; rw [if_neg hs, if_neg hs]; exact hh⟩
theorem pg_arg {f : Nat → Int} {n : Nat} {b : Int} (h : b < 1 ∨ 8 < b) : pg f n b = (0, 0, 1) := by unfold pg; rw [if_pos h]
theorem pg_none {f : Nat → Int} {b : Int} (h : ¬ (b < 1 ∨ 8 < b)) : pg f 0 b = (0, 0, 3) := by unfold pg; rw [if_neg h, if_pos rfl]
theorem pget_any (A : Option Addr) (n c : Nat) (f : Nat → Int) (b : Int) (w : World) (ha : Rd .u8 w A n c f) (hb : Byt n f) (hn : n ≤ 100000) :
    Calls Try.prog 16 #[.slice A n c, .int .i64 b] w (Got (pg f n b) w) := by
  by_cases h : b < 1 ∨ 8 < b
  · rw [pg_arg h]
    exact pget_arg A n c b w h
  rcases Nat.eq_zero_or_pos n with rfl | h0
  · rw [pg_none h]
    exact pget_none A c b w (by omega) (by omega)
  exact pget_ok A n c f b w ha hb h0 hn (by omega) (by omega)
theorem rpget_any (A : Option Addr) (n c : Nat) (f : Nat → Int) (b : Int) (w : World) (ha : Rd .u8 w A n c f) (hb : Byt n f) (hn : n ≤ 100000) :
    Calls Try.prog 18 #[.slice A n c, .int .i64 b] w (Got (pg f n b) w) := by
  by_cases h : b < 1 ∨ 8 < b
  · rw [pg_arg h]
    exact rpget_arg A n c b w h
  rcases Nat.eq_zero_or_pos n with rfl | h0
  · rw [pg_none h]
    exact rpget_none A c b w (by omega) (by omega)
  exact rpget_ok A n c f b w ha hb h0 hn (by omega) (by omega)

def lit18 : Nat → Int := fun i => if i = 0 then 31 else if i = 1 then 154 else 10
end Go.Proofs.Yteijpklepgenbaa
