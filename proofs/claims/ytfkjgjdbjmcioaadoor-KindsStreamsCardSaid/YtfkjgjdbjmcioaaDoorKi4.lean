/- Layer 8: the examples together; to how many streams a type belongs; the walk of the law. -/
import Derived.Test.YtfkjgjdbjmcioaaDoorKi3
namespace Go.Proofs.YtfkjgjdbjmcioaaDoor
open Go.RowKit Go.PlainAid

def Yes8 (w : World) (e : Ending) (w' : World) : Prop := e = .returned (.bool true) ∧ Below w.heap.size w w'
set_option maxRecDepth 20000 in
set_option maxHeartbeats 1600000 in
theorem alive8 (w : World) : Calls Tryd.prog 15 #[] w (Yes8 w) := by
  go_enter Tryd.func15, Tryd.ntmps15
  go_wp2_with fail
  refine (flags_F1 _).mono ?_
  rintro e w1 ⟨A1, c1, rfl, hr1, hb1⟩
  have Hr1 := hide hr1
  have HB1 := hide hb1
  have hs1 := hb1.size
  clear hr1 hb1
  have Hl := hide ((OwnV.lit 1 9 0 w1 (stV1 nmF1) #[.string ENDS, .string ENDH] 2 (Nat.zero_le _) (by simp [maxLen]) rfl).rdS2)
  have HC1 := hide (HB1.out.alloc hs1 (.cells #[.string ENDS, .string ENDH] 9))
  go_wp2_with fail
  refine (strs_same _ _ 2 _ _ nmF1 _ (rdV_below Hr1.out ((Below.refl _ _).alloc (Nat.le_refl _) _)) Hl.out).mono ?_
  rintro e w2 ⟨rfl, hd2⟩
  have HB2 := hide (HC1.out.trans (drawn_below hd2 _))
  clear hd2 Hr1 HB1 hs1 Hl HC1
  go_wp2_with fail
  refine (flags_F4 _).mono ?_
  rintro e w3 ⟨A3, c3, rfl, hr3, hb3⟩
  have Hr3 := hide hr3
  have HB3 := hide (HB2.out.trans (hb3.mono HB2.out.size))
  have hs3 := HB3.out.size
  clear hr3 hb3 HB2
  have Hl := hide ((OwnV.lit 1 9 0 w3 (stV1 nmF4) #[.string ACK] 1 (Nat.zero_le _) (by simp [maxLen]) rfl).rdS2)
  have HC3 := hide (HB3.out.alloc hs3 (.cells #[.string ACK] 9))
  go_wp2_with fail
  refine (strs_same _ _ 1 _ _ nmF4 _ (rdV_below Hr3.out ((Below.refl _ _).alloc (Nat.le_refl _) _)) Hl.out).mono ?_
  rintro e w4 ⟨rfl, hd4⟩
  have HB4 := hide (HC3.out.trans (drawn_below hd4 _))
  clear hd4 Hr3 HB3 hs3 Hl HC3
  go_wp2_with fail
  refine (name_c _).mono ?_
  rintro e w5 ⟨rfl, hb5⟩
  have HB5 := hide (HB4.out.trans (hb5.mono HB4.out.size))
  clear hb5
  go_wp2_with fail
  go_ret
  exact ⟨by kernel_rfl, HB5.out⟩
def strI (t : Int) : Int := if t = 4 ∨ t = 6 ∨ t = 7 then 0 else if 0 ≤ t ∧ t < 10 ∧ t ≠ 8 then 1 else 2
theorem strI_out {t : Int} (h : ¬ (0 ≤ t ∧ t < 10)) : strI t = 2 := by
  unfold strI
  rw [if_neg (by omega), if_neg (by omega)]
set_option maxHeartbeats 3200000 in
theorem streams_any (t : Int) (w : World) : Calls Tryd.prog 28 #[.int .i64 t] w fun e w' => e = .returned (.int .i64 (strI t)) ∧ w = w' := by
  by_cases h : 0 ≤ t ∧ t < 10
  · have : t = 0 ∨ t = 1 ∨ t = 2 ∨ t = 3 ∨ t = 4 ∨ t = 5 ∨ t = 6 ∨ t = 7 ∨ t = 8 ∨ t = 9 := by omega
    clear h
    rcases this with rfl | rfl | rfl | rfl | rfl | rfl | rfl | rfl | rfl | rfl <;>
    · go_enter Tryd.func28, Tryd.ntmps28
      go_wp2
      go_ret
      exact ⟨by kernel_rfl, rfl⟩
  · have H := hide (strI_out h)
    have n0 : (t == 0) = false := by simp; omega
    have n1 : (t == 1) = false := by simp; omega
    have n2 : (t == 2) = false := by simp; omega
    have n3 : (t == 3) = false := by simp; omega
    have n4 : (t == 4) = false := by simp; omega
    have n5 : (t == 5) = false := by simp; omega
    have n6 : (t == 6) = false := by simp; omega
    have n7 : (t == 7) = false := by simp; omega
    have n8 : (t == 8) = false := by simp; omega
    have n9 : (t == 9) = false := by simp; omega
    clear h
    go_enter Tryd.func28, Tryd.ntmps28
    go_wp2
    go_ret
    exact ⟨by rw [H.out]; rfl, rfl⟩
set_option maxHeartbeats 3200000 in
theorem rstreams_any (t : Int) (w : World) : Calls Tryd.prog 29 #[.int .i64 t] w fun e w' => e = .returned (.int .i64 (strI t)) ∧ w = w' := by
  by_cases h : 0 ≤ t ∧ t < 10
  · have : t = 0 ∨ t = 1 ∨ t = 2 ∨ t = 3 ∨ t = 4 ∨ t = 5 ∨ t = 6 ∨ t = 7 ∨ t = 8 ∨ t = 9 := by omega
    clear h
    rcases this with rfl | rfl | rfl | rfl | rfl | rfl | rfl | rfl | rfl | rfl <;>
    · go_enter Tryd.func29, Tryd.ntmps29
      go_wp2
      go_ret
      exact ⟨by kernel_rfl, rfl⟩
  · have H := hide (strI_out h)
    have n0 : (t == 0) = false := by simp; omega
    have n1 : (t == 1) = false := by simp; omega
    have n2 : (t == 2) = false := by simp; omega
    have n3 : (t == 3) = false := by simp; omega
    have n4 : (t == 4) = false := by simp; omega
    have n5 : (t == 5) = false := by simp; omega
    have n6 : (t == 6) = false := by simp; omega
    have n7 : (t == 7) = false := by simp; omega
    have n8 : (t == 8) = false := by simp; omega
    have n9 : (t == 9) = false := by simp; omega
    by_cases h0 : 0 ≤ t
    · have d0 : decide (0 ≤ t) = true := decide_eq_true h0
      have d1 : decide (t < 10) = false := decide_eq_false (by omega)
      clear h h0
      go_enter Tryd.func29, Tryd.ntmps29
      go_wp2
      go_ret
      exact ⟨by rw [H.out]; rfl, rfl⟩
    · have d0 : decide (0 ≤ t) = false := decide_eq_false h0
      clear h h0
      go_enter Tryd.func29, Tryd.ntmps29
      go_wp2
      go_ret
      exact ⟨by rw [H.out]; rfl, rfl⟩
set_option maxHeartbeats 1600000 in
theorem kindsStreams_walk (t : Int) (w : World) : Calls Tryd.prog 5 #[.int .i64 t] w (Yes8 w) := by
  go_enter Tryd.func5, Tryd.ntmps5
  go_wp2_with (first
    | (go_at_call 28; refine (streams_any t _).mono ?_; rintro e w' ⟨rfl, rfl⟩)
    | (go_at_call 29; refine (rstreams_any t _).mono ?_; rintro e w' ⟨rfl, rfl⟩)
    | (go_at_call 15; refine (alive8 _).mono ?_; rintro e w' ⟨rfl, hb⟩))
  have HB := hide hb
  clear hb
  go_ret
  exact ⟨rfl, HB.out⟩
end Go.Proofs.YtfkjgjdbjmcioaaDoor
