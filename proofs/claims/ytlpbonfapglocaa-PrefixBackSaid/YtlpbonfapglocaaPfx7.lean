/- Layer 18: Put and Get, whole; the chapter's examples; the walks of the laws on putting and getting. -/
import Derived.Test.YtlpbonfapglocaaPfx6
namespace Go.Proofs.Ytlpbonfapglocaa
open Go.RowKit

def pfN (b n : Int) : Nat := if n < p8 b - 1 then 1 else 1 + dgN 4 (n - (p8 b - 1)).toNat
def pfF (first b n : Int) : Nat → Int := if n < p8 b - 1 then oneF (first + n) else catF 1 (oneF (first + (p8 b - 1))) (dgF 4 (n - (p8 b - 1)).toNat)
theorem pfN_bd (b n : Int) : 1 ≤ pfN b n ∧ pfN b n ≤ 6 := by
  have := dgN_bd 4 (n - (p8 b - 1)).toNat
  unfold pfN
  split <;> omega
/-- What a Put hands back. -/
def PutR (first b n : Int) (w : World) (e : Ending) (w' : World) : Prop :=
  (pfE first b n ≠ 0 ∧ e = .returned (.tuple #[.slice none 0 0, .int .i64 (pfE first b n)]) ∧ w = w') ∨ (pfE first b n = 0 ∧ GaveO w (pfN b n) (pfF first b n) e w')
theorem pfE_arg {first b n : Int} (h : b < 1 ∨ 8 < b ∨ first < 0 ∨ 255 < first ∨ first % p8 b ≠ 0) : pfE first b n = 1 := by
  unfold pfE
  rw [if_pos h]
theorem pfE_range {first b n : Int} (h : ¬ (b < 1 ∨ 8 < b ∨ first < 0 ∨ 255 < first ∨ first % p8 b ≠ 0)) (h2 : n < 0 ∨ 2147483647 < n) : pfE first b n = 5 := by
  unfold pfE
  rw [if_neg h, if_pos h2]
theorem pfE_fine {first b n : Int} (h : ¬ (b < 1 ∨ 8 < b ∨ first < 0 ∨ 255 < first ∨ first % p8 b ≠ 0)) (h2 : ¬ (n < 0 ∨ 2147483647 < n)) : pfE first b n = 0 := by
  unfold pfE
  rw [if_neg h, if_neg h2]
theorem not_arg {first b : Int} (h : ¬ (b < 1 ∨ 8 < b ∨ first < 0 ∨ 255 < first ∨ first % p8 b ≠ 0)) : 1 ≤ b ∧ b ≤ 8 ∧ 0 ≤ first ∧ first ≤ 255 ∧ first % p8 b = 0 := by
  refine ⟨by omega, by omega, by omega, by omega, ?_⟩
  by_cases h3 : first % p8 b = 0
  · exact h3
  · exact absurd (.inr (.inr (.inr (.inr h3)))) h
theorem pput_any (first b n : Int) (w : World) : Calls Try.prog 18 #[.int .i64 first, .int .i64 b, .int .i64 n] w (PutR first b n w) := by
  by_cases h : b < 1 ∨ 8 < b ∨ first < 0 ∨ 255 < first ∨ first % p8 b ≠ 0
  · have e := pfE_arg (n := n) h
    exact (pput_arg first b n w h).mono fun _ _ hh => .inl ⟨by rw [e]; decide, by rw [e]; exact hh.1, hh.2⟩
  obtain ⟨h1, h2, h3, h4, h5⟩ := not_arg h
  by_cases hr : n < 0 ∨ 2147483647 < n
  · have e := pfE_range h hr
    exact (pput_range first b n w h1 h2 h3 h4 h5 hr).mono fun _ _ hh => .inl ⟨by rw [e]; decide, by rw [e]; exact hh.1, hh.2⟩
  have e := pfE_fine h hr
  by_cases hs : n < p8 b - 1
  · exact (pput_small first b n w h1 h2 h3 h4 h5 (by omega) hs).mono fun _ _ hh => .inr ⟨e, by unfold pfN pfF; rw [if_pos hs, if_pos hs]; exact hh⟩
  · have := p8_bd h1 h2
    exact (pput_large first b n (n - (p8 b - 1)).toNat w h1 h2 h3 h4 h5 (by omega) (by omega) (by omega)).mono fun _ _ hh => .inr ⟨e, by unfold pfN pfF; rw [if_neg hs, if_neg hs]; exact hh⟩
theorem rpput_any (first b n : Int) (w : World) : Calls Try.prog 19 #[.int .i64 first, .int .i64 b, .int .i64 n] w (PutR first b n w) := by
  by_cases h : b < 1 ∨ 8 < b ∨ first < 0 ∨ 255 < first ∨ first % p8 b ≠ 0
  · have e := pfE_arg (n := n) h
    exact (rpput_arg first b n w h).mono fun _ _ hh => .inl ⟨by rw [e]; decide, by rw [e]; exact hh.1, hh.2⟩
  obtain ⟨h1, h2, h3, h4, h5⟩ := not_arg h
  by_cases hr : n < 0 ∨ 2147483647 < n
  · have e := pfE_range h hr
    exact (rpput_range first b n w h1 h2 h3 h4 h5 hr).mono fun _ _ hh => .inl ⟨by rw [e]; decide, by rw [e]; exact hh.1, hh.2⟩
  have e := pfE_fine h hr
  by_cases hs : n < p8 b - 1
  · exact (rpput_small first b n w h1 h2 h3 h4 h5 (by omega) hs).mono fun _ _ hh => .inr ⟨e, by unfold pfN pfF; rw [if_pos hs, if_pos hs]; exact hh⟩
  · have := p8_bd h1 h2
    exact (rpput_large first b n (n - (p8 b - 1)).toNat w h1 h2 h3 h4 h5 (by omega) (by omega) (by omega)).mono fun _ _ hh => .inr ⟨e, by unfold pfN pfF; rw [if_neg hs, if_neg hs]; exact hh⟩
theorem pg_arg {f : Nat → Int} {n : Nat} {b : Int} (h : b < 1 ∨ 8 < b) : pg f n b = (0, 0, 1) := by unfold pg; rw [if_pos h]
theorem pg_none {f : Nat → Int} {b : Int} (h : ¬ (b < 1 ∨ 8 < b)) : pg f 0 b = (0, 0, 3) := by unfold pg; rw [if_neg h, if_pos rfl]
theorem pget_any (A : Option Addr) (n c : Nat) (f : Nat → Int) (b : Int) (w : World) (ha : Rd .u8 w A n c f) (hb : Byt n f) (hn : n ≤ 100000) :
    Calls Try.prog 22 #[.slice A n c, .int .i64 b] w (Got (pg f n b) w) := by
  by_cases h : b < 1 ∨ 8 < b
  · rw [pg_arg h]
    exact pget_arg A n c b w h
  rcases Nat.eq_zero_or_pos n with rfl | h0
  · rw [pg_none h]
    exact pget_none A c b w (by omega) (by omega)
  exact pget_ok A n c f b w ha hb h0 hn (by omega) (by omega)
theorem rpget_any (A : Option Addr) (n c : Nat) (f : Nat → Int) (b : Int) (w : World) (ha : Rd .u8 w A n c f) (hb : Byt n f) (hn : n ≤ 100000) :
    Calls Try.prog 23 #[.slice A n c, .int .i64 b] w (Got (pg f n b) w) := by
  by_cases h : b < 1 ∨ 8 < b
  · rw [pg_arg h]
    exact rpget_arg A n c b w h
  rcases Nat.eq_zero_or_pos n with rfl | h0
  · rw [pg_none h]
    exact rpget_none A c b w (by omega) (by omega)
  exact rpget_ok A n c f b w ha hb h0 hn (by omega) (by omega)

def lit18 : Nat → Int := fun i => if i = 0 then 31 else if i = 1 then 154 else 10
theorem alive18 (w : World) : Calls Try.prog 21 #[] w (Yes w) := by
  have eN : pfN 5 1337 = 3 := by decide
  have EF : Hid (∀ i, i < 3 → pfF 0 5 1337 i = lit18 i) := by
    intro i hi
    have : i = 0 ∨ i = 1 ∨ i = 2 := by omega
    rcases this with rfl | rfl | rfl <;> decide
  have eG : pg (oneF 10) 1 5 = (10, 1, 0) := by decide
  go_enter Try.func21, Try.ntmps21
  go_wp2_with fail
  refine (pput_any 0 5 1337 _).mono ?_
  rintro e w1 (⟨h, _⟩ | ⟨_, A1, c1, rfl, ho1, hb1⟩)
  case inl => exact absurd (by decide) h
  rw [eN] at ho1
  obtain ⟨A1', c1', e1, hr1, _⟩ := ho1.rd
  injection e1 with e1 _ e2
  subst e1
  subst e2
  rw [eN]
  have Hr1 := hide (hr1.congr EF.out)
  have HB1 := hide hb1
  have hs1 := hb1.size
  clear ho1 hr1 hb1 EF eN
  go_wp2_with fail
  refine (pget_any _ 1 1 _ 5 _ (Rd.one .u8 5 w1 10) (fun i _ => by simp [oneF]) (by omega)).mono ?_
  rintro e w2 ⟨rfl, hd2⟩
  rw [eG]
  have HB2 := hide ((HB1.out.alloc hs1 (.cells #[.int .u8 10] 5)).trans (drawn_below hd2 _))
  have hs2 := HB2.out.size
  have Hr2 := hide (Hr1.out.below (((Below.refl _ _).alloc (Nat.le_refl _) _).trans (drawn_below hd2 _)))
  clear hd2 eG
  go_wp2_with fail
  have hl := (Own.lit .u8 5 0 w2 lit18 #[.int .u8 31, .int .u8 154, .int .u8 10] 3 (Nat.zero_le _) (by simp [maxLen]) rfl).rd
  obtain ⟨A3, c3, e3, hr3, _⟩ := hl
  injection e3 with e3 _ e4
  subst e3
  subst e4
  refine (rsame_yes _ _ 3 _ _ _ _ _ (Hr2.out.alloc _) hr3 (fun _ _ => rfl)).mono ?_
  rintro e w4 ⟨rfl, hd4⟩
  have HB4 := hide ((HB2.out.alloc hs2 (.cells #[.int .u8 31, .int .u8 154, .int .u8 10] 5)).trans (drawn_below hd4 _))
  clear hd4 hr3
  go_wp2_with fail
  go_ret
  exact ⟨rfl, HB4.out⟩

set_option maxHeartbeats 1600000 in
theorem pputs_walk (first b n : Int) (w : World) : Calls Try.prog 4 #[.int .i64 first, .int .i64 b, .int .i64 n] w (Yes w) := by
  by_cases h0 : pfE first b n = 0
  · have H0 := hide h0
    clear h0
    go_enter Try.func4, Try.ntmps4
    go_wp2_with fail
    refine (pput_any first b n _).mono ?_
    rintro e w1 (⟨h, _⟩ | ⟨_, h⟩)
    case inl => exact absurd H0.out h
    obtain ⟨A1, c1, rfl, hr1, hb1⟩ := h.gave
    have Hr1 := hide hr1
    have HB1 := hide hb1
    clear hr1 hb1 h
    go_wp2_with fail
    refine (rpput_any first b n _).mono ?_
    rintro e w2 (⟨h, _⟩ | ⟨_, h⟩)
    case inl => exact absurd H0.out h
    obtain ⟨A2, c2, rfl, hr2, hb2⟩ := h.gave
    have Hr2 := hide hr2
    have HB2 := hide (HB1.out.of hb2)
    have Hr1' := hide (Hr1.out.below hb2)
    clear hr2 hb2 h
    go_wp2_with fail
    refine (rsame_yes _ _ _ _ _ _ _ _ Hr1'.out Hr2.out (fun _ _ => rfl)).mono ?_
    rintro e w3 ⟨rfl, hd3⟩
    have HB3 := hide (HB2.out.trans (drawn_below hd3 _))
    clear hd3
    go_wp2_with fail
    refine (alive18 _).mono ?_
    rintro e w6 ⟨rfl, hb6⟩
    go_wp2_with fail
    go_ret
    exact ⟨rfl, HB3.out.of hb6⟩
  · have H0 := hide h0
    clear h0
    go_enter Try.func4, Try.ntmps4
    go_wp2_with fail
    refine (pput_any first b n _).mono ?_
    rintro e w1 (⟨_, rfl, rfl⟩ | ⟨h, _⟩)
    case inr => exact absurd h H0.out
    go_wp2_with fail
    refine (rpput_any first b n _).mono ?_
    rintro e w2 (⟨_, rfl, rfl⟩ | ⟨h, _⟩)
    case inr => exact absurd h H0.out
    go_wp2_with fail
    refine (rsame_yes none none 0 0 0 (oneF 0) (oneF 0) _ (Rd.nil _ _ _) (Rd.nil _ _ _) (fun _ _ => rfl)).mono ?_
    rintro e w3 ⟨rfl, hd3⟩
    have HB3 := hide (drawn_below hd3 w.heap.size)
    clear hd3
    go_wp2_with fail
    refine (alive18 _).mono ?_
    rintro e w6 ⟨rfl, hb6⟩
    go_wp2_with fail
    go_ret
    exact ⟨rfl, HB3.out.of hb6⟩

set_option maxHeartbeats 1600000 in
theorem pgets_walk (A : Option Addr) (n c : Nat) (f : Nat → Int) (b : Int) (w : World) (ha : Rd .u8 w A n c f) (hb : Byt n f) : Calls Try.prog 5 #[.slice A n c, .int .i64 b] w (Yes w) := by
  have Ha := hide ha
  have Hb := hide hb
  clear ha hb
  by_cases hl : 300 < n
  · have hd : decide ((300 : Int) < (n : Int)) = true := by simp; omega
    go_enter Try.func5, Try.ntmps5
    go_wp2_with fail
    refine (alive18 _).mono ?_
    rintro e w4 ⟨rfl, hb4⟩
    go_wp2_with fail
    go_ret
    exact ⟨rfl, hb4⟩
  have hd : decide ((300 : Int) < (n : Int)) = false := by simp; omega
  go_enter Try.func5, Try.ntmps5
  go_wp2_with fail
  refine (pget_any A n c f b _ Ha.out Hb.out (by omega)).mono ?_
  rintro e w1 ⟨rfl, hd1⟩
  have HD1 := hide hd1
  clear hd1
  go_wp2_with fail
  refine (rpget_any A n c f b _ (Ha.out.drawn HD1.out) Hb.out (by omega)).mono ?_
  rintro e w2 ⟨rfl, hd2⟩
  generalize pg f n b = R
  obtain ⟨r1, r2, r3⟩ := R
  have HB2 := hide (drawn_below (HD1.out.trans hd2) w.heap.size)
  clear hd2
  go_wp2_with fail
  refine (alive18 _).mono ?_
  rintro e w6 ⟨rfl, hb6⟩
  go_wp2_with fail
  go_ret
  exact ⟨rfl, HB2.out.of hb6⟩
end Go.Proofs.Ytlpbonfapglocaa
