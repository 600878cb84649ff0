/- Layer 21: the example. -/
import Derived.Test.YteikpdolickkaaaDy6
namespace Go.Proofs.Yteikpdolickkaaa
open Go.RowKit Go.Deep Go.ChangeShapes Go.WideShapes

def fda : Fd := ⟨⟨#[97]⟩, ⟨#[98]⟩, false⟩
def fdc : Fd := ⟨⟨#[99]⟩, ⟨#[100]⟩, false⟩
def fde : Fd := ⟨⟨#[101]⟩, ⟨#[102]⟩, false⟩
def fdac : Nat → Fd := fun i => if i = 0 then fda else fdc
def fdce : Nat → Fd := fun i => if i = 0 then fdc else fde
theorem TOk.congr {B : Nat} {w : World} {p : Nat} {g : Option Nat} {n max : Nat} {F G : Nat → Fd} (h : TOk B w p g n max F) (e : ∀ i, i < n → F i = G i) : TOk B w p g n max G := by
  obtain ⟨⟨v, h1, h2, h3⟩, h4, h5, h6, h7⟩ := h
  refine ⟨⟨v, ?_, h2, h3.congr (fdV_congr e)⟩, h4, h5, h6, fun i hi => by rw [← e i hi]; exact h7 i hi⟩
  rw [← sumW_congr e]
  exact h1
set_option maxRecDepth 20000 in
set_option maxHeartbeats 1600000 in
theorem alive21 (w : World) : Calls Try.prog 21 #[] w (Yes w) := by
  have T0 := hide (TOk.new (B := w.heap.size) w 70 (Nat.le_refl _) (by omega) fun _ => fda)
  have E0 := hide ((Below.refl w.heap.size w).alloc (Nat.le_refl _) (.cells #[.slice none 0 0, .int .i64 0, .int .i64 70] 68))
  go_enter Try.func21, Try.ntmps21
  go_wp2_with fail
  refine (new21 70 (by omega) _).mono ?_
  rintro e z ⟨rfl, rfl⟩
  have T0' : Hid (TOk w.heap.size (w.alloc (.cells #[.slice none 0 0, .int .i64 0, .int .i64 70] 68)) w.heap.size none 0 70 fun _ => fda) := T0.out
  clear T0
  generalize w.alloc (.cells #[.slice none 0 0, .int .i64 0, .int .i64 70] 68) = z at *
  go_wp2_with fail
  refine (add21 T0'.out E0.out.size (by omega) fda (by decide +kernel)).mono ?_
  rintro e w1 ⟨j, g1, rfl, hj, hmo, hen, hf, hg, hcase⟩
  obtain rfl : j = 0 := by omega
  have T1 : Hid (TOk w.heap.size w1 w.heap.size g1 1 70 fun _ => fda) := by
    rcases hcase with ⟨h, _⟩ | ⟨_, h⟩
    · exact absurd h (by decide +kernel)
    · exact h.congr fun i hi => by unfold appFd; rw [if_neg (by omega)]; rfl
  have E1 := hide (E0.out.trans hf.below)
  clear hj hmo hen hf hg hcase T0' E0
  go_wp2_with fail
  refine (add21 T1.out E1.out.size (by omega) fdc (by decide +kernel)).mono ?_
  rintro e w2 ⟨j, g2, rfl, hj, hmo, hen, hf, hg, hcase⟩
  obtain rfl : j = 0 := by
    rcases Nat.eq_zero_or_pos j with h | h
    · exact h
    · exact absurd (hmo 0 h) (by decide +kernel)
  have T2 : Hid (TOk w.heap.size w2 w.heap.size g2 2 70 fdac) := by
    rcases hcase with ⟨h, _⟩ | ⟨_, h⟩
    · exact absurd h (by decide +kernel)
    · refine h.congr fun i hi => ?_
      obtain rfl | rfl : i = 0 ∨ i = 1 := by omega
      · rfl
      · rfl
  have E2 := hide (E1.out.trans hf.below)
  clear hj hmo hen hf hg hcase T1 E1
  go_wp2_with fail
  refine (len21 T2.out).mono ?_
  rintro e wl ⟨rfl, rfl⟩
  go_wp2_with fail
  refine (add21 T2.out E2.out.size (by omega) fde (by decide +kernel)).mono ?_
  rintro e w3 ⟨j, g3, rfl, hj, hmo, hen, hf, hg, hcase⟩
  obtain rfl : j = 1 := by
    obtain rfl | rfl | rfl : j = 0 ∨ j = 1 ∨ j = 2 := by omega
    · rcases hen with h | h
      · omega
      · exact absurd h (by decide +kernel)
    · rfl
    · exact absurd (hmo 1 (by omega)) (by decide +kernel)
  have T3 : Hid (TOk w.heap.size w3 w.heap.size g3 2 70 fdce) := by
    rcases hcase with ⟨h, _⟩ | ⟨_, h⟩
    · exact absurd h (by decide +kernel)
    · refine h.congr fun i hi => ?_
      obtain rfl | rfl : i = 0 ∨ i = 1 := by omega
      · rfl
      · rfl
  have E3 := hide (E2.out.trans hf.below)
  clear hj hmo hen hf hg hcase T2 E2
  go_wp2_with fail
  refine (at21 T3.out (by omega) 0 (by omega) 2 (by omega)).mono ?_
  rintro e w4 ⟨rfl, hb4⟩
  have T4 := hide (T3.out.below hb4)
  have E4 := hide (E3.out.of hb4)
  have hn0 : (fdce 0).name = ⟨#[99]⟩ := rfl
  have hv0 : (fdce 0).val = ⟨#[100]⟩ := rfl
  have hb0 : (fdce 0).nev = false := rfl
  rw [hn0, hv0, hb0]
  have al := (Below.refl w4.heap.size w4).alloc (Nat.le_refl _) (.cells #[.string ⟨#[99]⟩, .string ⟨#[100]⟩, .bool false] 52)
  have T5 := hide (T4.out.below al)
  have E5 := hide (E4.out.of al)
  obtain ⟨c0, c1, c2⟩ := rowT (heap_alloc_new w4 (.cells #[.string ⟨#[99]⟩, .string ⟨#[100]⟩, .bool false] 52))
  clear hb4 al T3 E3 T4 E4 hn0 hv0 hb0
  go_wp2_with fail
  refine (len21 T5.out).mono ?_
  rintro e wl ⟨rfl, rfl⟩
  go_wp2_with fail
  refine (size21 T5.out).mono ?_
  rintro e wl ⟨rfl, rfl⟩
  have hs : sumW fdce 2 = 68 := by decide +kernel
  rw [hs]
  go_wp2_with fail
  go_ret
  exact ⟨rfl, E5.out⟩
end Go.Proofs.Yteikpdolickkaaa
