/- Layer 9: the law of two sets taken together. -/
import Derived.Test.YtdlmmjnomeladaaDoorFb6
import Derived.Test.YtdlmmjnomeladaaDoorFa9
namespace Go.Proofs.YtdlmmjnomeladaaDoor
set_option linter.unusedVariables false
set_option linter.unusedSimpArgs false
open Go.RowKit Go.PlainAid

set_option maxRecDepth 20000 in
set_option maxHeartbeats 6400000 in
theorem union_walk09 (A C E : Option Addr) (n c m d k e0 : Nat) (fa ga fb gb fc gc : Nat → Int) (w : World) (ha : Rd2 w A n c fa ga) (hb : Rd2 w C m d fb gb) (hc : Rd2 w E k e0 fc gc) (hN : CdW w) (hP : PowW w) :
    Calls Tryd.prog 15 #[.slice A n c, .slice C m d, .slice E k e0] w (Yes9 w) := by
  have Ra := hide ha
  have Rb := hide hb
  have Rc := hide hc
  have HN := hide hN
  have HP := hide hP
  clear ha hb hc hN hP
  have HB0 : Hid (Below w.heap.size w w) := Below.refl _ _
  by_cases hn : 40 < n
  · have tn : decide (40 < n) = true := decide_eq_true hn
    have un : decide ((40 : Int) < (n : Int)) = true := decide_eq_true (by omega)
    clear hn
    go_enter Tryd.func15, Tryd.ntmps15
    go_wp2_with fail
    refine (alive09 _ HN.out HP.out).mono ?_
    rintro e w9 ⟨rfl, hb9⟩
    have HB9 := hide (hb9)
    clear hb9
    go_wp2_with fail
    go_ret
    exact ⟨rfl, HB9.out⟩
  have tn : decide (40 < n) = false := decide_eq_false hn
  have un : decide ((40 : Int) < (n : Int)) = false := decide_eq_false (by omega)
  by_cases hm : 40 < m
  · have tm : decide (40 < m) = true := decide_eq_true hm
    have um : decide ((40 : Int) < (m : Int)) = true := decide_eq_true (by omega)
    clear hm
    go_enter Tryd.func15, Tryd.ntmps15
    go_wp2_with fail
    refine (alive09 _ HN.out HP.out).mono ?_
    rintro e w9 ⟨rfl, hb9⟩
    have HB9 := hide (hb9)
    clear hb9
    go_wp2_with fail
    go_ret
    exact ⟨rfl, HB9.out⟩
  have tm : decide (40 < m) = false := decide_eq_false hm
  have um : decide ((40 : Int) < (m : Int)) = false := decide_eq_false (by omega)
  by_cases hk : 40 < k
  · have tk : decide (40 < k) = true := decide_eq_true hk
    have uk : decide ((40 : Int) < (k : Int)) = true := decide_eq_true (by omega)
    clear hk
    go_enter Tryd.func15, Tryd.ntmps15
    go_wp2_with fail
    refine (alive09 _ HN.out HP.out).mono ?_
    rintro e w9 ⟨rfl, hb9⟩
    have HB9 := hide (hb9)
    clear hb9
    go_wp2_with fail
    go_ret
    exact ⟨rfl, HB9.out⟩
  have tk : decide (40 < k) = false := decide_eq_false hk
  have uk : decide ((40 : Int) < (k : Int)) = false := decide_eq_false (by omega)
  clear hn hm hk
  have hn : n ≤ 40 := by simpa using tn
  have hm : m ≤ 40 := by simpa using tm
  have hk : k ≤ 40 := by simpa using tk
  go_enter Tryd.func15, Tryd.ntmps15
  go_wp2_with fail
  refine (union09 A C n c m d fa ga fb gb _ Ra.out Rb.out (by omega)).mono ?_
  rintro e w1 ⟨A1, n1, c1, f1, g1, rfl, hr1, hl1, _, hb1⟩
  have Ra_1 := hide (Ra.out.below hb1)
  have Rb_1 := hide (Rb.out.below hb1)
  have Rc_1 := hide (Rc.out.below hb1)
  have HB1 := hide (HB0.out.of hb1)
  have HN1 := hide (HN.out.below hb1)
  have HP1 := hide (HP.out.below hb1)
  have Rr1 := hide hr1
  have HL1 := hide hl1
  have hs1 : n1 ≤ 80 := setL_small hl1 (by rw [List.length_append, lsF_len, lsF_len]; omega)
  clear hr1 hl1 hb1
  go_wp2_with fail
  refine (union09 C A m d n c fb gb fa ga _ Rb_1.out Ra_1.out (by omega)).mono ?_
  rintro e w2 ⟨A2, n2, c2, f2, g2, rfl, hr2, hl2, _, hb2⟩
  have Ra_2 := hide (Ra_1.out.below hb2)
  have Rb_2 := hide (Rb_1.out.below hb2)
  have Rc_2 := hide (Rc_1.out.below hb2)
  have Rr1_2 := hide (Rr1.out.below hb2)
  have HB2 := hide (HB1.out.of hb2)
  have HN2 := hide (HN1.out.below hb2)
  have HP2 := hide (HP1.out.below hb2)
  have Rr2 := hide hr2
  have HL2 := hide hl2
  have hs2 : n2 ≤ 80 := setL_small hl2 (by rw [List.length_append, lsF_len, lsF_len]; omega)
  clear hr2 hl2 hb2
  go_wp2_with fail
  have z3 : sameL n1 n2 f1 g1 f2 g2 = true := decide_eq_true (by rw [HL1.out, HL2.out, setL_comm])
  refine (same09 A1 A2 n1 c1 n2 c2 f1 g1 f2 g2 _ Rr1_2.out Rr2.out).mono ?_
  rw [z3]
  rintro e w3 ⟨rfl, hd3⟩
  have hb3 := fun B => drawn_below hd3 B
  have Ra_3 := hide (Ra_2.out.below (hb3 _))
  have Rb_3 := hide (Rb_2.out.below (hb3 _))
  have Rc_3 := hide (Rc_2.out.below (hb3 _))
  have Rr1_3 := hide (Rr1_2.out.below (hb3 _))
  have Rr2_3 := hide (Rr2.out.below (hb3 _))
  have HB3 := hide (HB2.out.trans (hb3 _))
  have HN3 := hide (HN2.out.below (hb3 _))
  have HP3 := hide (HP2.out.below (hb3 _))
  clear hd3 hb3 z3
  go_wp2_with fail
  refine (union09 A1 C n1 c1 m d f1 g1 fb gb _ Rr1_3.out Rb_3.out (by omega)).mono ?_
  rintro e w4 ⟨A4, n4, c4, f4, g4, rfl, hr4, hl4, _, hb4⟩
  have Ra_4 := hide (Ra_3.out.below hb4)
  have Rb_4 := hide (Rb_3.out.below hb4)
  have Rc_4 := hide (Rc_3.out.below hb4)
  have Rr1_4 := hide (Rr1_3.out.below hb4)
  have Rr2_4 := hide (Rr2_3.out.below hb4)
  have HB4 := hide (HB3.out.of hb4)
  have HN4 := hide (HN3.out.below hb4)
  have HP4 := hide (HP3.out.below hb4)
  have Rr4 := hide hr4
  have HL4 := hide hl4
  have hs4 : n4 ≤ 120 := setL_small hl4 (by rw [List.length_append, lsF_len, lsF_len]; omega)
  clear hr4 hl4 hb4
  go_wp2_with fail
  have z5 : sameL n4 n1 f4 g4 f1 g1 = true := decide_eq_true (by rw [HL4.out, HL1.out, setL_again])
  refine (same09 A4 A1 n4 c4 n1 c1 f4 g4 f1 g1 _ Rr4.out Rr1_4.out).mono ?_
  rw [z5]
  rintro e w5 ⟨rfl, hd5⟩
  have hb5 := fun B => drawn_below hd5 B
  have Ra_5 := hide (Ra_4.out.below (hb5 _))
  have Rb_5 := hide (Rb_4.out.below (hb5 _))
  have Rc_5 := hide (Rc_4.out.below (hb5 _))
  have Rr1_5 := hide (Rr1_4.out.below (hb5 _))
  have Rr2_5 := hide (Rr2_4.out.below (hb5 _))
  have Rr4_5 := hide (Rr4.out.below (hb5 _))
  have HB5 := hide (HB4.out.trans (hb5 _))
  have HN5 := hide (HN4.out.below (hb5 _))
  have HP5 := hide (HP4.out.below (hb5 _))
  clear hd5 hb5 z5
  go_wp2_with fail
  refine (union09 A1 E n1 c1 k e0 f1 g1 fc gc _ Rr1_5.out Rc_5.out (by omega)).mono ?_
  rintro e w6 ⟨A6, n6, c6, f6, g6, rfl, hr6, hl6, _, hb6⟩
  have Ra_6 := hide (Ra_5.out.below hb6)
  have Rb_6 := hide (Rb_5.out.below hb6)
  have Rc_6 := hide (Rc_5.out.below hb6)
  have Rr1_6 := hide (Rr1_5.out.below hb6)
  have Rr2_6 := hide (Rr2_5.out.below hb6)
  have Rr4_6 := hide (Rr4_5.out.below hb6)
  have HB6 := hide (HB5.out.of hb6)
  have HN6 := hide (HN5.out.below hb6)
  have HP6 := hide (HP5.out.below hb6)
  have Rr6 := hide hr6
  have HL6 := hide hl6
  have hs6 : n6 ≤ 120 := setL_small hl6 (by rw [List.length_append, lsF_len, lsF_len]; omega)
  clear hr6 hl6 hb6
  go_wp2_with fail
  refine (union09 C E m d k e0 fb gb fc gc _ Rb_6.out Rc_6.out (by omega)).mono ?_
  rintro e w7 ⟨A7, n7, c7, f7, g7, rfl, hr7, hl7, _, hb7⟩
  have Ra_7 := hide (Ra_6.out.below hb7)
  have Rb_7 := hide (Rb_6.out.below hb7)
  have Rc_7 := hide (Rc_6.out.below hb7)
  have Rr1_7 := hide (Rr1_6.out.below hb7)
  have Rr2_7 := hide (Rr2_6.out.below hb7)
  have Rr4_7 := hide (Rr4_6.out.below hb7)
  have Rr6_7 := hide (Rr6.out.below hb7)
  have HB7 := hide (HB6.out.of hb7)
  have HN7 := hide (HN6.out.below hb7)
  have HP7 := hide (HP6.out.below hb7)
  have Rr7 := hide hr7
  have HL7 := hide hl7
  have hs7 : n7 ≤ 80 := setL_small hl7 (by rw [List.length_append, lsF_len, lsF_len]; omega)
  clear hr7 hl7 hb7
  go_wp2_with fail
  refine (union09 A A7 n c n7 c7 fa ga f7 g7 _ Ra_7.out Rr7.out (by omega)).mono ?_
  rintro e w8 ⟨A8, n8, c8, f8, g8, rfl, hr8, hl8, _, hb8⟩
  have Ra_8 := hide (Ra_7.out.below hb8)
  have Rb_8 := hide (Rb_7.out.below hb8)
  have Rc_8 := hide (Rc_7.out.below hb8)
  have Rr1_8 := hide (Rr1_7.out.below hb8)
  have Rr2_8 := hide (Rr2_7.out.below hb8)
  have Rr4_8 := hide (Rr4_7.out.below hb8)
  have Rr6_8 := hide (Rr6_7.out.below hb8)
  have Rr7_8 := hide (Rr7.out.below hb8)
  have HB8 := hide (HB7.out.of hb8)
  have HN8 := hide (HN7.out.below hb8)
  have HP8 := hide (HP7.out.below hb8)
  have Rr8 := hide hr8
  have HL8 := hide hl8
  have hs8 : n8 ≤ 120 := setL_small hl8 (by rw [List.length_append, lsF_len, lsF_len]; omega)
  clear hr8 hl8 hb8
  go_wp2_with fail
  have z9 : sameL n6 n8 f6 g6 f8 g8 = true := decide_eq_true (by rw [HL6.out, HL1.out, HL8.out, HL7.out, setL_assoc])
  refine (same09 A6 A8 n6 c6 n8 c8 f6 g6 f8 g8 _ Rr6_8.out Rr8.out).mono ?_
  rw [z9]
  rintro e w9 ⟨rfl, hd9⟩
  have hb9 := fun B => drawn_below hd9 B
  have Ra_9 := hide (Ra_8.out.below (hb9 _))
  have Rb_9 := hide (Rb_8.out.below (hb9 _))
  have Rc_9 := hide (Rc_8.out.below (hb9 _))
  have Rr1_9 := hide (Rr1_8.out.below (hb9 _))
  have Rr2_9 := hide (Rr2_8.out.below (hb9 _))
  have Rr4_9 := hide (Rr4_8.out.below (hb9 _))
  have Rr6_9 := hide (Rr6_8.out.below (hb9 _))
  have Rr7_9 := hide (Rr7_8.out.below (hb9 _))
  have Rr8_9 := hide (Rr8.out.below (hb9 _))
  have HB9 := hide (HB8.out.trans (hb9 _))
  have HN9 := hide (HN8.out.below (hb9 _))
  have HP9 := hide (HP8.out.below (hb9 _))
  clear hd9 hb9 z9
  go_wp2_with fail
  refine (alive09 _ HN9.out HP9.out).mono ?_
  rintro e w9 ⟨rfl, hb9⟩
  have HB9 := hide (HB9.out.of hb9)
  clear hb9
  go_wp2_with fail
  go_ret
  exact ⟨rfl, HB9.out⟩
end Go.Proofs.YtdlmmjnomeladaaDoor
