/- Layer 14: what a right frame says, by the reference: its ways. -/
import Derived.Test.YtpnjamomkpkkeaaFs4
namespace Go.Proofs.Ytpnjamomkpkkeaa
set_option linter.unusedVariables false
set_option linter.unusedSimpArgs false
open Go.RowKit

set_option maxRecDepth 100000 in
set_option maxHeartbeats 6400000 in
theorem rp_w (fm fl st : Int) (rs : Bool) (A : Option Addr) (n c : Nat) (f : Nat → Int) (h0 : 0 ≤ fl) (hfl : fl ≤ 255) (hn : n ≤ 100000) (hpd : hsB 8 fl 3 = false) (hpw : hsB 8 fl 5 = false) (hok : rflt 8 fl st n f = (0, 0)) (hEn : 4 ≤ n) (w : World) (hA : ∀ b off, 0 < n → A = some ⟨b, off, none⟩ → b < w.heap.size) (ha : Rd .u8 w A n c f) (hf : Byt n f) :
    Calls Try.prog 63 #[.agg #[.int .i64 fm, .int .i64 8, .int .i64 fl, .int .i64 st, .bool rs, .slice A n c]] w (RPost 8 fl st { sp := lowN (num (fun i => f (0 + i)) 4), off := 0 } 0 f w) := by
  obtain ⟨x0, x1, x2, e0⟩ := heap3f w #[.int .i64 fm, .int .i64 8, .int .i64 fl, .int .i64 st, .bool rs, .slice A n c] z13 #[.int .i64 0, .int .i64 0] 29 25 38
  have RS0 := hide x0
  have RQ0 := hide x1
  have RU0 := hide x2
  have E0 := hide e0
  have Hf := hide hf
  have HPD := hide hpd
  have HOK := hide hok
  have HA0 := hide (ha.below e0)
  have HAB := hide hA
  have HEN := hide hEn
  have HPW := hide hpw
  clear x0 x1 x2 e0 hf hpd hok hA ha hEn hpw
  go_enter Try.func63, Try.ntmps63
  go_upto_region 1 with (fail)
  generalize ((w.alloc (.cells #[.int .i64 fm, .int .i64 8, .int .i64 fl, .int .i64 st, .bool rs, .slice A n c] 29)).alloc (.cells z13 25)).alloc (.cells #[.int .i64 0, .int .i64 0] 38) = W0 at *
  obtain ⟨s0, s1, s2, s3, s4, s5⟩ := row6 RS0.out
  go_wp2_with fail
  refine (rfault14 fm 8 fl st rs _ n c f h0 hfl hn _ HA0.out Hf.out).mono ?_
  rw [HOK.out]
  rintro e w1 ⟨rfl, hb⟩
  have al1 := (Below.refl w1.heap.size w1).alloc (Nat.le_refl _) (.cells #[.int .i64 0, .int .i64 0] 38)
  have al2 := (Below.refl (w1.alloc (.cells #[.int .i64 0, .int .i64 0] 38)).heap.size (w1.alloc (.cells #[.int .i64 0, .int .i64 0] 38))).alloc (Nat.le_refl _) (.cells #[.int .i64 8, .int .i64 fl, .int .i64 st, .int .i64 (-1), .slice none 0 0, .slice none 0 0, .int .i64 0, .int .i64 0, .bool false, .int .i64 0, .int .i64 0, .int .i64 0, .int .i64 0] 25)
  have ht := hb.of (al1.of al2)
  have hp : W0.heap.size ≤ w1.heap.size := hb.size
  have hw0 := rowLt RU0.out
  have I0 : Hid (PI w ((w1.alloc (.cells #[.int .i64 0, .int .i64 0] 38)).alloc (.cells #[.int .i64 8, .int .i64 fl, .int .i64 st, .int .i64 (-1), .slice none 0 0, .slice none 0 0, .int .i64 0, .int .i64 0, .bool false, .int .i64 0, .int .i64 0, .int .i64 0, .int .i64 0] 25)) (w1.heap.size + 1) #[.int .i64 fm, .int .i64 8, .int .i64 fl, .int .i64 st, .bool rs, .slice A n c] #[.int .i64 8, .int .i64 fl, .int .i64 st, .int .i64 (-1), .slice none 0 0, .slice none 0 0, .int .i64 0, .int .i64 0, .bool false, .int .i64 0, .int .i64 0, .int .i64 0, .int .i64 0] A n c f) := ⟨keepRow RS0.out ht, keepRow RQ0.out ht, keepRow RU0.out ht, by
    have h := heap_alloc_new (w1.alloc (.cells #[.int .i64 0, .int .i64 0] 38)) (.cells #[.int .i64 8, .int .i64 fl, .int .i64 st, .int .i64 (-1), .slice none 0 0, .slice none 0 0, .int .i64 0, .int .i64 0, .bool false, .int .i64 0, .int .i64 0, .int .i64 0, .int .i64 0] 25)
    have e : (w1.alloc (.cells #[.int .i64 0, .int .i64 0] 38)).heap.size = w1.heap.size + 1 := by simp
    rw [e] at h
    exact h, HA0.out.below ht, E0.out.of ht, by omega, HAB.out⟩
  clear s0 s1 s2 s3 s4 s5
  obtain ⟨s0, s1, s2, s3, s4, s5⟩ := row6 (keepRow RS0.out hb)
  obtain ⟨t0, t1, t2, t3, t4, t5⟩ := row6 (keepRow (keepRow RS0.out hb) al1)
  clear ht al1 al2 hb RS0 RQ0 RU0 E0 HA0
  go_upto_region 6 with (fail)
  clear s0 s1 s2 s3 s4 s5 t0 t1 t2 t3 t4 t5
  generalize (w1.alloc (.cells #[.int .i64 0, .int .i64 0] 38)).alloc (.cells #[.int .i64 8, .int .i64 fl, .int .i64 st, .int .i64 (-1), .slice none 0 0, .slice none 0 0, .int .i64 0, .int .i64 0, .bool false, .int .i64 0, .int .i64 0, .int .i64 0, .int .i64 0] 25) = W1 at *
  generalize w1.heap.size + 1 = p at *
  clear hp
  obtain ⟨s0, s1, s2, s3, s4, s5⟩ := row6 I0.out.rs
  go_wp2_with fail
  refine (rhas_3 8 fl h0 hfl _).mono ?_
  rw [HPD.out]
  rintro e w2 ⟨rfl, rfl⟩
  clear s0 s1 s2 s3 s4 s5
  obtain ⟨s0, s1, s2, s3, s4, s5⟩ := row6 I0.out.rs
  go_wp2_with fail
  refine (rhas_5 8 fl h0 hfl _).mono ?_
  rw [HPW.out]
  rintro e w3 ⟨rfl, rfl⟩
  clear s0 s1 s2 s3 s4 s5
  obtain ⟨s0, s1, s2, s3, s4, s5⟩ := row6 I0.out.rs
  go_upto_region 36 with (fail)
  clear s0 s1 s2 s3 s4 s5
  obtain ⟨X0, hX0⟩ : ∃ x, lowN (num (fun i => f (0 + i)) 4) = x := ⟨_, rfl⟩
  have HX0 := hide hX0
  clear hX0
  obtain ⟨X1, hX1⟩ : ∃ x, lowB (num (fun i => f (0 + i)) 4) = x := ⟨_, rfl⟩
  have HX1 := hide hX1
  clear hX1
  obtain ⟨s0, s1, s2, s3, s4, s5⟩ := row6 I0.out.rs
  go_wp2_with fail
  refine (rnumber14 _ n c 0 f _ (by rfl) hn (by have := HEN.out; omega) _ I0.out.rd Hf.out).mono ?_
  rw [HX0.out, HX1.out]
  rintro e w3 ⟨rfl, hd⟩
  have I1 := hide (I0.out.drawn hd)
  clear hd I0
  clear s0 s1 s2 s3 s4 s5
  go_upto_region 37 with (fail)
  have z := frozenRow I1.out.rf 12
  obtain ⟨cl0, cl1, cl2, cl3, cl4, cl5, cl6, cl7, cl8, cl9, cl10, cl11, cl12⟩ := row13 I1.out.rf
  have s_ := I1.out.set 12 (.int .i64 X0)
  simp only [List.setIfInBounds_toArray, List.set_cons_zero, List.set_cons_succ] at s_
  have I2 := hide s_
  clear s_
  go_upto_region 38 with (fail)
  clear z cl0 cl1 cl2 cl3 cl4 cl5 cl6 cl7 cl8 cl9 cl10 cl11 cl12 I1
  generalize World.setCell _ ⟨p, 12, none⟩ (.int .i64 X0) = W2 at *
  obtain ⟨el0, el1, el2, el3, el4, el5, el6, el7, el8, el9, el10, el11, el12⟩ := row13 I2.out.rf
  obtain ⟨⟨k0, f0_⟩, ⟨k1, f1_⟩, ⟨k2, f2_⟩, ⟨k3, f3_⟩, ⟨k4, f4_⟩, ⟨k5, f5_⟩, ⟨k6, f6_⟩, ⟨k7, f7_⟩, ⟨k8, f8_⟩, ⟨k9, f9_⟩, ⟨k10, f10_⟩, ⟨k11, f11_⟩, ⟨k12, f12_⟩, rq⟩ := store13 I2.out.rq (.int .i64 8) (.int .i64 fl) (.int .i64 st) (.int .i64 (-1)) (.slice none 0 0) (.slice none 0 0) (.int .i64 0) (.int .i64 0) (.bool false) (.int .i64 0) (.int .i64 0) (.int .i64 0) (.int .i64 X0)
  have gB := hide (FrS.set13 (B := w.heap.size) (S := Q1 (w.heap.size + 1)) (by omega) (rowLt I2.out.rq) rfl (.int .i64 8) (.int .i64 fl) (.int .i64 st) (.int .i64 (-1)) (.slice none 0 0) (.slice none 0 0) (.int .i64 0) (.int .i64 0) (.bool false) (.int .i64 0) (.int .i64 0) (.int .i64 0) (.int .i64 X0))
  obtain ⟨⟨l0, m0_⟩, ⟨l1, m1_⟩, ru⟩ := store2f (gB.out.row I2.out.ru (fun e => by have e2 : w.heap.size + 1 + 1 = w.heap.size + 1 := e; omega)) (.int .i64 0) (.int .i64 0)
  have gU := hide (FrS.set2 (B := w.heap.size) (S := Q1 (w.heap.size + 1 + 1)) (by omega) (rowLt (gB.out.row I2.out.ru (fun e => by have e2 : w.heap.size + 1 + 1 = w.heap.size + 1 := e; omega))) rfl (.int .i64 0) (.int .i64 0))
  have RZ := hide (gU.out.row rq (fun e => by have e2 : w.heap.size + 1 = w.heap.size + 1 + 1 := e; omega))
  have RU := hide ru
  have EE := hide ((I2.out.be.trans gB.out.bel).trans gU.out.bel)
  have hpp := I2.out.lt
  clear rq ru gB gU el0 el1 el2 el3 el4 el5 el6 el7 el8 el9 el10 el11 el12
  obtain ⟨el0, el1, el2, el3, el4, el5, el6, el7, el8, el9, el10, el11, el12⟩ := row13 I2.out.rf
  go_wp2_with fail
  obtain ⟨n0_, n1_, n2_, n3_, n4_, n5_, n6_, n7_, n8_, n9_, n10_, n11_, n12_⟩ := row13 RZ.out
  obtain ⟨o0, o1⟩ := row2 RU.out
  refine bodyPost_ret (v := .tuple #[.agg #[.int .i64 8, .int .i64 fl, .int .i64 st, .int .i64 (-1), .slice none 0 0, .slice none 0 0, .int .i64 0, .int .i64 0, .bool false, .int .i64 0, .int .i64 0, .int .i64 0, .int .i64 X0], .agg #[.int .i64 0, .int .i64 0]]) ?_ rfl ⟨none, 0, none, 0, ?_, ?_, ?_, EE.out⟩
  · rw [results_cc14 rfl]
    go_simp
  · show Ending.returned _ = _
    simp only [HX0.out, HX1.out]
  · exact Rd.nil _ _ _
  · exact Rd2.nil _ _ _
set_option maxRecDepth 100000 in
set_option maxHeartbeats 6400000 in
theorem rp_r (fm fl st : Int) (rs : Bool) (A : Option Addr) (n c : Nat) (f : Nat → Int) (h0 : 0 ≤ fl) (hfl : fl ≤ 255) (hn : n ≤ 100000) (hpd : hsB 3 fl 3 = false) (hpw : hsB 3 fl 5 = false) (hok : rflt 3 fl st n f = (0, 0)) (hEn : 4 ≤ n) (w : World) (hA : ∀ b off, 0 < n → A = some ⟨b, off, none⟩ → b < w.heap.size) (ha : Rd .u8 w A n c f) (hf : Byt n f) :
    Calls Try.prog 63 #[.agg #[.int .i64 fm, .int .i64 3, .int .i64 fl, .int .i64 st, .bool rs, .slice A n c]] w (RPost 3 fl st { co := num (fun i => f (0 + i)) 4, off := 0 } 0 f w) := by
  obtain ⟨x0, x1, x2, e0⟩ := heap3f w #[.int .i64 fm, .int .i64 3, .int .i64 fl, .int .i64 st, .bool rs, .slice A n c] z13 #[.int .i64 0, .int .i64 0] 29 25 38
  have RS0 := hide x0
  have RQ0 := hide x1
  have RU0 := hide x2
  have E0 := hide e0
  have Hf := hide hf
  have HPD := hide hpd
  have HOK := hide hok
  have HA0 := hide (ha.below e0)
  have HAB := hide hA
  have HEN := hide hEn
  have HPW := hide hpw
  clear x0 x1 x2 e0 hf hpd hok hA ha hEn hpw
  go_enter Try.func63, Try.ntmps63
  go_upto_region 1 with (fail)
  generalize ((w.alloc (.cells #[.int .i64 fm, .int .i64 3, .int .i64 fl, .int .i64 st, .bool rs, .slice A n c] 29)).alloc (.cells z13 25)).alloc (.cells #[.int .i64 0, .int .i64 0] 38) = W0 at *
  obtain ⟨s0, s1, s2, s3, s4, s5⟩ := row6 RS0.out
  go_wp2_with fail
  refine (rfault14 fm 3 fl st rs _ n c f h0 hfl hn _ HA0.out Hf.out).mono ?_
  rw [HOK.out]
  rintro e w1 ⟨rfl, hb⟩
  have al1 := (Below.refl w1.heap.size w1).alloc (Nat.le_refl _) (.cells #[.int .i64 0, .int .i64 0] 38)
  have al2 := (Below.refl (w1.alloc (.cells #[.int .i64 0, .int .i64 0] 38)).heap.size (w1.alloc (.cells #[.int .i64 0, .int .i64 0] 38))).alloc (Nat.le_refl _) (.cells #[.int .i64 3, .int .i64 fl, .int .i64 st, .int .i64 (-1), .slice none 0 0, .slice none 0 0, .int .i64 0, .int .i64 0, .bool false, .int .i64 0, .int .i64 0, .int .i64 0, .int .i64 0] 25)
  have ht := hb.of (al1.of al2)
  have hp : W0.heap.size ≤ w1.heap.size := hb.size
  have hw0 := rowLt RU0.out
  have I0 : Hid (PI w ((w1.alloc (.cells #[.int .i64 0, .int .i64 0] 38)).alloc (.cells #[.int .i64 3, .int .i64 fl, .int .i64 st, .int .i64 (-1), .slice none 0 0, .slice none 0 0, .int .i64 0, .int .i64 0, .bool false, .int .i64 0, .int .i64 0, .int .i64 0, .int .i64 0] 25)) (w1.heap.size + 1) #[.int .i64 fm, .int .i64 3, .int .i64 fl, .int .i64 st, .bool rs, .slice A n c] #[.int .i64 3, .int .i64 fl, .int .i64 st, .int .i64 (-1), .slice none 0 0, .slice none 0 0, .int .i64 0, .int .i64 0, .bool false, .int .i64 0, .int .i64 0, .int .i64 0, .int .i64 0] A n c f) := ⟨keepRow RS0.out ht, keepRow RQ0.out ht, keepRow RU0.out ht, by
    have h := heap_alloc_new (w1.alloc (.cells #[.int .i64 0, .int .i64 0] 38)) (.cells #[.int .i64 3, .int .i64 fl, .int .i64 st, .int .i64 (-1), .slice none 0 0, .slice none 0 0, .int .i64 0, .int .i64 0, .bool false, .int .i64 0, .int .i64 0, .int .i64 0, .int .i64 0] 25)
    have e : (w1.alloc (.cells #[.int .i64 0, .int .i64 0] 38)).heap.size = w1.heap.size + 1 := by simp
    rw [e] at h
    exact h, HA0.out.below ht, E0.out.of ht, by omega, HAB.out⟩
  clear s0 s1 s2 s3 s4 s5
  obtain ⟨s0, s1, s2, s3, s4, s5⟩ := row6 (keepRow RS0.out hb)
  obtain ⟨t0, t1, t2, t3, t4, t5⟩ := row6 (keepRow (keepRow RS0.out hb) al1)
  clear ht al1 al2 hb RS0 RQ0 RU0 E0 HA0
  go_upto_region 6 with (fail)
  clear s0 s1 s2 s3 s4 s5 t0 t1 t2 t3 t4 t5
  generalize (w1.alloc (.cells #[.int .i64 0, .int .i64 0] 38)).alloc (.cells #[.int .i64 3, .int .i64 fl, .int .i64 st, .int .i64 (-1), .slice none 0 0, .slice none 0 0, .int .i64 0, .int .i64 0, .bool false, .int .i64 0, .int .i64 0, .int .i64 0, .int .i64 0] 25) = W1 at *
  generalize w1.heap.size + 1 = p at *
  clear hp
  obtain ⟨s0, s1, s2, s3, s4, s5⟩ := row6 I0.out.rs
  go_wp2_with fail
  refine (rhas_3 3 fl h0 hfl _).mono ?_
  rw [HPD.out]
  rintro e w2 ⟨rfl, rfl⟩
  clear s0 s1 s2 s3 s4 s5
  obtain ⟨s0, s1, s2, s3, s4, s5⟩ := row6 I0.out.rs
  go_wp2_with fail
  refine (rhas_5 3 fl h0 hfl _).mono ?_
  rw [HPW.out]
  rintro e w3 ⟨rfl, rfl⟩
  clear s0 s1 s2 s3 s4 s5
  obtain ⟨s0, s1, s2, s3, s4, s5⟩ := row6 I0.out.rs
  go_upto_region 20 with (fail)
  clear s0 s1 s2 s3 s4 s5
  obtain ⟨X0, hX0⟩ : ∃ x, num (fun i => f (0 + i)) 4 = x := ⟨_, rfl⟩
  have HX0 := hide hX0
  clear hX0
  obtain ⟨s0, s1, s2, s3, s4, s5⟩ := row6 I0.out.rs
  go_wp2_with fail
  refine (rcode14 _ n c 0 f _ (by rfl) hn (by have := HEN.out; omega) _ I0.out.rd Hf.out).mono ?_
  rw [HX0.out]
  rintro e w3 ⟨rfl, hd⟩
  have I1 := hide (I0.out.drawn hd)
  clear hd I0
  clear s0 s1 s2 s3 s4 s5
  have z := frozenRow I1.out.rf 11
  obtain ⟨cl0, cl1, cl2, cl3, cl4, cl5, cl6, cl7, cl8, cl9, cl10, cl11, cl12⟩ := row13 I1.out.rf
  have s_ := I1.out.set 11 (.int .i64 X0)
  simp only [List.setIfInBounds_toArray, List.set_cons_zero, List.set_cons_succ] at s_
  have I2 := hide s_
  clear s_
  go_upto_region 21 with (fail)
  clear z cl0 cl1 cl2 cl3 cl4 cl5 cl6 cl7 cl8 cl9 cl10 cl11 cl12 I1
  generalize World.setCell _ ⟨p, 11, none⟩ (.int .i64 X0) = W2 at *
  obtain ⟨el0, el1, el2, el3, el4, el5, el6, el7, el8, el9, el10, el11, el12⟩ := row13 I2.out.rf
  obtain ⟨⟨k0, f0_⟩, ⟨k1, f1_⟩, ⟨k2, f2_⟩, ⟨k3, f3_⟩, ⟨k4, f4_⟩, ⟨k5, f5_⟩, ⟨k6, f6_⟩, ⟨k7, f7_⟩, ⟨k8, f8_⟩, ⟨k9, f9_⟩, ⟨k10, f10_⟩, ⟨k11, f11_⟩, ⟨k12, f12_⟩, rq⟩ := store13 I2.out.rq (.int .i64 3) (.int .i64 fl) (.int .i64 st) (.int .i64 (-1)) (.slice none 0 0) (.slice none 0 0) (.int .i64 0) (.int .i64 0) (.bool false) (.int .i64 0) (.int .i64 0) (.int .i64 X0) (.int .i64 0)
  have gB := hide (FrS.set13 (B := w.heap.size) (S := Q1 (w.heap.size + 1)) (by omega) (rowLt I2.out.rq) rfl (.int .i64 3) (.int .i64 fl) (.int .i64 st) (.int .i64 (-1)) (.slice none 0 0) (.slice none 0 0) (.int .i64 0) (.int .i64 0) (.bool false) (.int .i64 0) (.int .i64 0) (.int .i64 X0) (.int .i64 0))
  obtain ⟨⟨l0, m0_⟩, ⟨l1, m1_⟩, ru⟩ := store2f (gB.out.row I2.out.ru (fun e => by have e2 : w.heap.size + 1 + 1 = w.heap.size + 1 := e; omega)) (.int .i64 0) (.int .i64 0)
  have gU := hide (FrS.set2 (B := w.heap.size) (S := Q1 (w.heap.size + 1 + 1)) (by omega) (rowLt (gB.out.row I2.out.ru (fun e => by have e2 : w.heap.size + 1 + 1 = w.heap.size + 1 := e; omega))) rfl (.int .i64 0) (.int .i64 0))
  have RZ := hide (gU.out.row rq (fun e => by have e2 : w.heap.size + 1 = w.heap.size + 1 + 1 := e; omega))
  have RU := hide ru
  have EE := hide ((I2.out.be.trans gB.out.bel).trans gU.out.bel)
  have hpp := I2.out.lt
  clear rq ru gB gU el0 el1 el2 el3 el4 el5 el6 el7 el8 el9 el10 el11 el12
  obtain ⟨el0, el1, el2, el3, el4, el5, el6, el7, el8, el9, el10, el11, el12⟩ := row13 I2.out.rf
  go_wp2_with fail
  obtain ⟨n0_, n1_, n2_, n3_, n4_, n5_, n6_, n7_, n8_, n9_, n10_, n11_, n12_⟩ := row13 RZ.out
  obtain ⟨o0, o1⟩ := row2 RU.out
  refine bodyPost_ret (v := .tuple #[.agg #[.int .i64 3, .int .i64 fl, .int .i64 st, .int .i64 (-1), .slice none 0 0, .slice none 0 0, .int .i64 0, .int .i64 0, .bool false, .int .i64 0, .int .i64 0, .int .i64 X0, .int .i64 0], .agg #[.int .i64 0, .int .i64 0]]) ?_ rfl ⟨none, 0, none, 0, ?_, ?_, ?_, EE.out⟩
  · rw [results_cc14 rfl]
    go_simp
  · show Ending.returned _ = _
    simp only [HX0.out]
  · exact Rd.nil _ _ _
  · exact Rd2.nil _ _ _
end Go.Proofs.Ytpnjamomkpkkeaa
