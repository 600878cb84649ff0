/- Layer 14: what a right frame says, by the reference: its ways. -/
import Derived.Test.YtpnjamomkpkkeaaFs4
namespace Go.Proofs.Ytpnjamomkpkkeaa
set_option linter.unusedVariables false
set_option linter.unusedSimpArgs false
open Go.RowKit

set_option maxRecDepth 100000 in
set_option maxHeartbeats 6400000 in
theorem rp_o11 (fm fl st : Int) (rs : Bool) (T : Int) (hT : T ≠ 2 ∧ T ≠ 3 ∧ T ≠ 4 ∧ T ≠ 5 ∧ T ≠ 7 ∧ T ≠ 8) (A : Option Addr) (n c : Nat) (f : Nat → Int) (h0 : 0 ≤ fl) (hfl : fl ≤ 255) (hn : n ≤ 100000) (hpd : hsB T fl 3 = true) (hpw : hsB T fl 5 = true) (hok : rflt T fl st n f = (0, 0)) (E : Nat) (hE : (E : Int) = (n : Int) - f 0) (hEn : 6 ≤ E) (hEm : E ≤ n) (w : World) (hA : ∀ b off, 0 < n → A = some ⟨b, off, none⟩ → b < w.heap.size) (ha : Rd .u8 w A n c f) (hf : Byt n f) :
    Calls Try.prog 63 #[.agg #[.int .i64 fm, .int .i64 T, .int .i64 fl, .int .i64 st, .bool rs, .slice A n c]] w (RPost T fl st { pad := f 0, pa := lowN (num (fun i => f (1 + i)) 4), al := lowB (num (fun i => f (1 + i)) 4), wt := f 5, off := 6 } (E - 6) f w) := by
  obtain ⟨x0, x1, x2, e0⟩ := heap3f w #[.int .i64 fm, .int .i64 T, .int .i64 fl, .int .i64 st, .bool rs, .slice A n c] z13 #[.int .i64 0, .int .i64 0] 29 25 38
  have RS0 := hide x0
  have RQ0 := hide x1
  have RU0 := hide x2
  have E0 := hide e0
  have Hf := hide hf
  have HPD := hide hpd
  have HOK := hide hok
  have HA0 := hide (ha.below e0)
  have HAB := hide hA
  have HEN := hide hEn
  have HPW := hide hpw
  have HE := hide hE
  have HEM := hide hEm
  have n2 : (T == 2) = false := by simp; omega
  have n3 : (T == 3) = false := by simp; omega
  have n4 : (T == 4) = false := by simp; omega
  have n5 : (T == 5) = false := by simp; omega
  have n7 : (T == 7) = false := by simp; omega
  have n8 : (T == 8) = false := by simp; omega
  have hn0 : 0 < n := by omega
  obtain ⟨b, off, rfl, hlt, _⟩ := ha.block hn0
  clear hlt
  clear x0 x1 x2 e0 hf hpd hok hA ha hEn hpw hE hEm hT
  go_enter Try.func63, Try.ntmps63
  go_upto_region 1 with (fail)
  generalize ((w.alloc (.cells #[.int .i64 fm, .int .i64 T, .int .i64 fl, .int .i64 st, .bool rs, .slice (some ⟨b, off, none⟩) n c] 29)).alloc (.cells z13 25)).alloc (.cells #[.int .i64 0, .int .i64 0] 38) = W0 at *
  obtain ⟨s0, s1, s2, s3, s4, s5⟩ := row6 RS0.out
  go_wp2_with fail
  refine (rfault14 fm T fl st rs _ n c f h0 hfl hn _ HA0.out Hf.out).mono ?_
  rw [HOK.out]
  rintro e w1 ⟨rfl, hb⟩
  have al1 := (Below.refl w1.heap.size w1).alloc (Nat.le_refl _) (.cells #[.int .i64 0, .int .i64 0] 38)
  have al2 := (Below.refl (w1.alloc (.cells #[.int .i64 0, .int .i64 0] 38)).heap.size (w1.alloc (.cells #[.int .i64 0, .int .i64 0] 38))).alloc (Nat.le_refl _) (.cells #[.int .i64 T, .int .i64 fl, .int .i64 st, .int .i64 (-1), .slice none 0 0, .slice none 0 0, .int .i64 0, .int .i64 0, .bool false, .int .i64 0, .int .i64 0, .int .i64 0, .int .i64 0] 25)
  have ht := hb.of (al1.of al2)
  have hp : W0.heap.size ≤ w1.heap.size := hb.size
  have hw0 := rowLt RU0.out
  have I0 : Hid (PI w ((w1.alloc (.cells #[.int .i64 0, .int .i64 0] 38)).alloc (.cells #[.int .i64 T, .int .i64 fl, .int .i64 st, .int .i64 (-1), .slice none 0 0, .slice none 0 0, .int .i64 0, .int .i64 0, .bool false, .int .i64 0, .int .i64 0, .int .i64 0, .int .i64 0] 25)) (w1.heap.size + 1) #[.int .i64 fm, .int .i64 T, .int .i64 fl, .int .i64 st, .bool rs, .slice (some ⟨b, off, none⟩) n c] #[.int .i64 T, .int .i64 fl, .int .i64 st, .int .i64 (-1), .slice none 0 0, .slice none 0 0, .int .i64 0, .int .i64 0, .bool false, .int .i64 0, .int .i64 0, .int .i64 0, .int .i64 0] (some ⟨b, off, none⟩) n c f) := ⟨keepRow RS0.out ht, keepRow RQ0.out ht, keepRow RU0.out ht, by
    have h := heap_alloc_new (w1.alloc (.cells #[.int .i64 0, .int .i64 0] 38)) (.cells #[.int .i64 T, .int .i64 fl, .int .i64 st, .int .i64 (-1), .slice none 0 0, .slice none 0 0, .int .i64 0, .int .i64 0, .bool false, .int .i64 0, .int .i64 0, .int .i64 0, .int .i64 0] 25)
    have e : (w1.alloc (.cells #[.int .i64 0, .int .i64 0] 38)).heap.size = w1.heap.size + 1 := by simp
    rw [e] at h
    exact h, HA0.out.below ht, E0.out.of ht, by omega, HAB.out⟩
  clear s0 s1 s2 s3 s4 s5
  obtain ⟨s0, s1, s2, s3, s4, s5⟩ := row6 (keepRow RS0.out hb)
  obtain ⟨t0, t1, t2, t3, t4, t5⟩ := row6 (keepRow (keepRow RS0.out hb) al1)
  clear ht al1 al2 hb RS0 RQ0 RU0 E0 HA0
  go_upto_region 6 with (fail)
  clear s0 s1 s2 s3 s4 s5 t0 t1 t2 t3 t4 t5
  generalize (w1.alloc (.cells #[.int .i64 0, .int .i64 0] 38)).alloc (.cells #[.int .i64 T, .int .i64 fl, .int .i64 st, .int .i64 (-1), .slice none 0 0, .slice none 0 0, .int .i64 0, .int .i64 0, .bool false, .int .i64 0, .int .i64 0, .int .i64 0, .int .i64 0] 25) = W1 at *
  generalize w1.heap.size + 1 = p at *
  clear hp
  obtain ⟨s0, s1, s2, s3, s4, s5⟩ := row6 I0.out.rs
  go_wp2_with fail
  refine (rhas_3 T fl h0 hfl _).mono ?_
  rw [HPD.out]
  rintro e w2 ⟨rfl, rfl⟩
  clear s0 s1 s2 s3 s4 s5
  have hc0 := I0.out.rd.cellAt hn0
  rw [Nat.add_zero] at hc0
  have hby := Hf.out 0 hn0
  have hn0i : (0 : Int) < (n : Int) := by omega
  have wf0 : IntKind.i64.wrap (f 0) = f 0 := IntWalk.i64_in _ (by omega)
  have z := frozenRow I0.out.rf 3
  obtain ⟨cl0, cl1, cl2, cl3, cl4, cl5, cl6, cl7, cl8, cl9, cl10, cl11, cl12⟩ := row13 I0.out.rf
  have s_ := I0.out.set 3 (.int .i64 (f 0))
  simp only [List.setIfInBounds_toArray, List.set_cons_zero, List.set_cons_succ] at s_
  have I1 := hide s_
  clear s_
  go_upto_region 10 with (fail)
  clear z cl0 cl1 cl2 cl3 cl4 cl5 cl6 cl7 cl8 cl9 cl10 cl11 cl12 I0
  generalize World.setCell _ ⟨p, 3, none⟩ (.int .i64 (f 0)) = W2 at *
  have wsub : IntKind.i64.wrap ((n : Int) - f 0) = (n : Int) - f 0 := IntWalk.i64_in _ (by omega)
  obtain ⟨cl0, cl1, cl2, cl3, cl4, cl5, cl6, cl7, cl8, cl9, cl10, cl11, cl12⟩ := row13 I1.out.rf
  clear hc0
  go_upto_region 12 with (fail)
  clear cl0 cl1 cl2 cl3 cl4 cl5 cl6 cl7 cl8 cl9 cl10 cl11 cl12
  obtain ⟨s0, s1, s2, s3, s4, s5⟩ := row6 I1.out.rs
  go_wp2_with fail
  refine (rhas_5 T fl h0 hfl _).mono ?_
  rw [HPW.out]
  rintro e w3 ⟨rfl, rfl⟩
  clear s0 s1 s2 s3 s4 s5
  obtain ⟨X0, hX0⟩ : ∃ x, lowN (num (fun i => f (1 + i)) 4) = x := ⟨_, rfl⟩
  have HX0 := hide hX0
  clear hX0
  obtain ⟨X1, hX1⟩ : ∃ x, lowB (num (fun i => f (1 + i)) 4) = x := ⟨_, rfl⟩
  have HX1 := hide hX1
  clear hX1
  obtain ⟨s0, s1, s2, s3, s4, s5⟩ := row6 I1.out.rs
  go_wp2_with fail
  refine (rnumber14 _ n c 1 f _ (by rfl) hn (by have := HEN.out; have := HEM.out; omega) _ I1.out.rd Hf.out).mono ?_
  rw [HX0.out, HX1.out]
  rintro e w3 ⟨rfl, hd⟩
  have I2 := hide (I1.out.drawn hd)
  clear hd I1
  clear s0 s1 s2 s3 s4 s5
  go_upto_region 14 with (fail)
  have z := frozenRow I2.out.rf 7
  obtain ⟨cl0, cl1, cl2, cl3, cl4, cl5, cl6, cl7, cl8, cl9, cl10, cl11, cl12⟩ := row13 I2.out.rf
  have s_ := I2.out.set 7 (.int .i64 X0)
  simp only [List.setIfInBounds_toArray, List.set_cons_zero, List.set_cons_succ] at s_
  have I3 := hide s_
  clear s_
  go_upto_region 15 with (fail)
  clear z cl0 cl1 cl2 cl3 cl4 cl5 cl6 cl7 cl8 cl9 cl10 cl11 cl12 I2
  generalize World.setCell _ ⟨p, 7, none⟩ (.int .i64 X0) = W3 at *
  have z := frozenRow I3.out.rf 8
  obtain ⟨cl0, cl1, cl2, cl3, cl4, cl5, cl6, cl7, cl8, cl9, cl10, cl11, cl12⟩ := row13 I3.out.rf
  have s_ := I3.out.set 8 (.bool X1)
  simp only [List.setIfInBounds_toArray, List.set_cons_zero, List.set_cons_succ] at s_
  have I4 := hide s_
  clear s_
  go_upto_region 16 with (fail)
  clear z cl0 cl1 cl2 cl3 cl4 cl5 cl6 cl7 cl8 cl9 cl10 cl11 cl12 I3
  generalize World.setCell _ ⟨p, 8, none⟩ (.bool X1) = W4 at *
  have hc4 := I4.out.rd.cellAt (k := 5) (by have := HEN.out; have := HEM.out; omega)
  have hby4 := Hf.out 5 (by have := HEN.out; have := HEM.out; omega)
  have hn4i : (5 : Int) < (n : Int) := by have := HEN.out; have := HEM.out; omega
  have wf4 : IntKind.i64.wrap (f 5) = f 5 := IntWalk.i64_in _ (by omega)
  have z := frozenRow I4.out.rf 6
  obtain ⟨cl0, cl1, cl2, cl3, cl4, cl5, cl6, cl7, cl8, cl9, cl10, cl11, cl12⟩ := row13 I4.out.rf
  have s_ := I4.out.set 6 (.int .i64 (f 5))
  simp only [List.setIfInBounds_toArray, List.set_cons_zero, List.set_cons_succ] at s_
  have I5 := hide s_
  clear s_
  go_upto_region 17 with (fail)
  clear z cl0 cl1 cl2 cl3 cl4 cl5 cl6 cl7 cl8 cl9 cl10 cl11 cl12 I4
  generalize World.setCell _ ⟨p, 6, none⟩ (.int .i64 (f 5)) = W5 at *
  clear hc4
  go_upto_region 18 with (fail)
  obtain ⟨s0, s1, s2, s3, s4, s5⟩ := row6 I5.out.rs
  clear s0 s1 s2 s3 s4 s5
  obtain ⟨s0, s1, s2, s3, s4, s5⟩ := row6 I5.out.rs
  obtain ⟨cl0, cl1, cl2, cl3, cl4, cl5, cl6, cl7, cl8, cl9, cl10, cl11, cl12⟩ := row13 I5.out.rf
  have hcut : ∀ V : World, (Instr.slice 22 (.slice (some ⟨b, off, none⟩) n c) (some (.int .i64 6)) (some (.int .i64 ((n : Int) - f 0))) none).run Try.prog V = .ok (.slice (cutA (some ⟨b, off, none⟩) c 6) (E - 6) (c - 6)) V := fun V => by
    have h := cut_lh 22 5 Try.underlying22 bytes_elem c8_size (some ⟨b, off, none⟩) n c 6 E HEN.out (by have h1 := I5.out.rd.1; have h2 := HEM.out; omega) .i64 .i64 V
    rw [HE.out] at h
    exact h
  have HC : Hid (Rd .u8 W5 (cutA (some ⟨b, off, none⟩) c 6) (E - 6) (c - 6) (fun i => f (6 + i))) := I5.out.rd.cutR (lo := 6) (hi := E) HEN.out HEM.out
  obtain ⟨i0, hi, hz0, hz1, hz2⟩ := info_parts c8_info
  have hNE : (E - 6) ≤ 100000 := by have := HEM.out; omega
  go_upto_region 39 with (fail)
  have HCd := hide (HC.out.below (Below.refl _ _).drew)
  go_region_law (refine step_app1 rfl (.tmp 136) (.tmp 140) _ rfl i0 _ 1 Try.underlying22 hi hz0 hz1 hz2 W5.heap.size (.slice none 0 0) 0 (oneF 0) rfl (Own.nil .u8 5 _ _ _) _ (E - 6) (c - 6) (fun i => f (6 + i)) rfl HCd.out (by simp only [maxLen]; omega) (by omega) (by exact Nat.le_refl _) ?_; intro v5 w5 hown5 hg5; rw [Nat.zero_add] at hown5; have hb5 : Below W5.heap.size W5 w5 := ⟨hg5.os, hg5.tape, hg5.output, hg5.size, fun i hi => hg5.block i hi (fun e => by cases e)⟩; obtain ⟨A2, c2, rfl, hr2, hf2⟩ := hown5.rd; have J := I5.out.below hb5; have zz := frozenRow J.rf 4; obtain ⟨dl0, dl1, dl2, dl3, dl4, dl5, dl6, dl7, dl8, dl9, dl10, dl11, dl12⟩ := row13 J.rf)
  all_goals
    have hp5 := rowLt I5.out.rf
    have JJ := J.set 4 (.slice A2 (E - 6) c2)
    simp only [List.setIfInBounds_toArray, List.set_cons_zero, List.set_cons_succ] at JJ
    have K := hide JJ
    have Y2 : Hid (Rd .u8 (w5.setCell ⟨p, 4, none⟩ (.slice A2 (E - 6) c2)) A2 (E - 6) c2 (catF 0 (oneF 0) (fun i => f (6 + i)))) := hr2.other (grown_set w5 p 4 _) (fun b off e => by have := (hf2 _ e).1; simp at this; omega)
    have HF2 : Hid (∀ a, A2 = some a → p < a.block) := fun a e => by have := (hf2 a e).1; omega
    clear hr2 hf2 hown5 hg5 hb5 J JJ zz dl0 dl1 dl2 dl3 dl4 dl5 dl6 dl7 dl8 dl9 dl10 dl11 dl12
    generalize w5.setCell ⟨p, 4, none⟩ (.slice A2 (E - 6) c2) = W9 at *
    obtain ⟨el0, el1, el2, el3, el4, el5, el6, el7, el8, el9, el10, el11, el12⟩ := row13 K.out.rf
    obtain ⟨⟨k0, f0_⟩, ⟨k1, f1_⟩, ⟨k2, f2_⟩, ⟨k3, f3_⟩, ⟨k4, f4_⟩, ⟨k5, f5_⟩, ⟨k6, f6_⟩, ⟨k7, f7_⟩, ⟨k8, f8_⟩, ⟨k9, f9_⟩, ⟨k10, f10_⟩, ⟨k11, f11_⟩, ⟨k12, f12_⟩, rq⟩ := store13 K.out.rq (.int .i64 T) (.int .i64 fl) (.int .i64 st) (.int .i64 (f 0)) (.slice A2 (E - 6) c2) (.slice none 0 0) (.int .i64 (f 5)) (.int .i64 X0) (.bool X1) (.int .i64 0) (.int .i64 0) (.int .i64 0) (.int .i64 0)
    have gB := hide (FrS.set13 (B := w.heap.size) (S := Q1 (w.heap.size + 1)) (by omega) (rowLt K.out.rq) rfl (.int .i64 T) (.int .i64 fl) (.int .i64 st) (.int .i64 (f 0)) (.slice A2 (E - 6) c2) (.slice none 0 0) (.int .i64 (f 5)) (.int .i64 X0) (.bool X1) (.int .i64 0) (.int .i64 0) (.int .i64 0) (.int .i64 0))
    obtain ⟨⟨l0, m0_⟩, ⟨l1, m1_⟩, ru⟩ := store2f (gB.out.row K.out.ru (fun e => by have e2 : w.heap.size + 1 + 1 = w.heap.size + 1 := e; omega)) (.int .i64 0) (.int .i64 0)
    have gU := hide (FrS.set2 (B := w.heap.size) (S := Q1 (w.heap.size + 1 + 1)) (by omega) (rowLt (gB.out.row K.out.ru (fun e => by have e2 : w.heap.size + 1 + 1 = w.heap.size + 1 := e; omega))) rfl (.int .i64 0) (.int .i64 0))
    have RZ := hide (gU.out.row rq (fun e => by have e2 : w.heap.size + 1 = w.heap.size + 1 + 1 := e; omega))
    have RU := hide ru
    have EE := hide ((K.out.be.trans gB.out.bel).trans gU.out.bel)
    have hpp := K.out.lt
    have YY := hide (((Y2.out.congr (fun i _ => catF_nil _ _ i)).frs gB.out (fun b off _ e s => by have := HF2.out _ e; have e2 : b = w.heap.size + 1 := s; simp at this; omega)).frs gU.out (fun b off _ e s => by have := HF2.out _ e; have e2 : b = w.heap.size + 1 + 1 := s; simp at this; omega))
    clear rq ru gB gU el0 el1 el2 el3 el4 el5 el6 el7 el8 el9 el10 el11 el12
    obtain ⟨el0, el1, el2, el3, el4, el5, el6, el7, el8, el9, el10, el11, el12⟩ := row13 K.out.rf
    go_wp2_with fail
    obtain ⟨n0_, n1_, n2_, n3_, n4_, n5_, n6_, n7_, n8_, n9_, n10_, n11_, n12_⟩ := row13 RZ.out
    obtain ⟨o0, o1⟩ := row2 RU.out
    refine bodyPost_ret (v := .tuple #[.agg #[.int .i64 T, .int .i64 fl, .int .i64 st, .int .i64 (f 0), .slice A2 (E - 6) c2, .slice none 0 0, .int .i64 (f 5), .int .i64 X0, .bool X1, .int .i64 0, .int .i64 0, .int .i64 0, .int .i64 0], .agg #[.int .i64 0, .int .i64 0]]) ?_ rfl ⟨A2, c2, none, 0, ?_, ?_, ?_, EE.out⟩
    · rw [results_cc14 rfl]
      go_simp
    · show Ending.returned _ = _
      simp only [HX0.out, HX1.out]
    · exact YY.out
    · exact Rd2.nil _ _ _
set_option maxRecDepth 100000 in
set_option maxHeartbeats 6400000 in
theorem rp_u0 (fm fl st : Int) (rs : Bool) (A : Option Addr) (n c : Nat) (f : Nat → Int) (h0 : 0 ≤ fl) (hfl : fl ≤ 255) (hn : n ≤ 100000) (hpd : hsB 5 fl 3 = false) (hpw : hsB 5 fl 5 = false) (hok : rflt 5 fl st n f = (0, 0)) (E : Nat) (hE : (E : Int) = (n : Int)) (hEn : 4 ≤ E) (hEm : E ≤ n) (w : World) (hA : ∀ b off, 0 < n → A = some ⟨b, off, none⟩ → b < w.heap.size) (ha : Rd .u8 w A n c f) (hf : Byt n f) :
    Calls Try.prog 63 #[.agg #[.int .i64 fm, .int .i64 5, .int .i64 fl, .int .i64 st, .bool rs, .slice A n c]] w (RPost 5 fl st { pm := lowN (num (fun i => f (0 + i)) 4), off := 4 } (E - 4) f w) := by
  obtain ⟨x0, x1, x2, e0⟩ := heap3f w #[.int .i64 fm, .int .i64 5, .int .i64 fl, .int .i64 st, .bool rs, .slice A n c] z13 #[.int .i64 0, .int .i64 0] 29 25 38
  have RS0 := hide x0
  have RQ0 := hide x1
  have RU0 := hide x2
  have E0 := hide e0
  have Hf := hide hf
  have HPD := hide hpd
  have HOK := hide hok
  have HA0 := hide (ha.below e0)
  have HAB := hide hA
  have HEN := hide hEn
  have HPW := hide hpw
  have HE := hide hE
  have HEM := hide hEm
  clear x0 x1 x2 e0 hf hpd hok hA ha hEn hpw hE hEm
  go_enter Try.func63, Try.ntmps63
  go_upto_region 1 with (fail)
  generalize ((w.alloc (.cells #[.int .i64 fm, .int .i64 5, .int .i64 fl, .int .i64 st, .bool rs, .slice A n c] 29)).alloc (.cells z13 25)).alloc (.cells #[.int .i64 0, .int .i64 0] 38) = W0 at *
  obtain ⟨s0, s1, s2, s3, s4, s5⟩ := row6 RS0.out
  go_wp2_with fail
  refine (rfault14 fm 5 fl st rs _ n c f h0 hfl hn _ HA0.out Hf.out).mono ?_
  rw [HOK.out]
  rintro e w1 ⟨rfl, hb⟩
  have al1 := (Below.refl w1.heap.size w1).alloc (Nat.le_refl _) (.cells #[.int .i64 0, .int .i64 0] 38)
  have al2 := (Below.refl (w1.alloc (.cells #[.int .i64 0, .int .i64 0] 38)).heap.size (w1.alloc (.cells #[.int .i64 0, .int .i64 0] 38))).alloc (Nat.le_refl _) (.cells #[.int .i64 5, .int .i64 fl, .int .i64 st, .int .i64 (-1), .slice none 0 0, .slice none 0 0, .int .i64 0, .int .i64 0, .bool false, .int .i64 0, .int .i64 0, .int .i64 0, .int .i64 0] 25)
  have ht := hb.of (al1.of al2)
  have hp : W0.heap.size ≤ w1.heap.size := hb.size
  have hw0 := rowLt RU0.out
  have I0 : Hid (PI w ((w1.alloc (.cells #[.int .i64 0, .int .i64 0] 38)).alloc (.cells #[.int .i64 5, .int .i64 fl, .int .i64 st, .int .i64 (-1), .slice none 0 0, .slice none 0 0, .int .i64 0, .int .i64 0, .bool false, .int .i64 0, .int .i64 0, .int .i64 0, .int .i64 0] 25)) (w1.heap.size + 1) #[.int .i64 fm, .int .i64 5, .int .i64 fl, .int .i64 st, .bool rs, .slice A n c] #[.int .i64 5, .int .i64 fl, .int .i64 st, .int .i64 (-1), .slice none 0 0, .slice none 0 0, .int .i64 0, .int .i64 0, .bool false, .int .i64 0, .int .i64 0, .int .i64 0, .int .i64 0] A n c f) := ⟨keepRow RS0.out ht, keepRow RQ0.out ht, keepRow RU0.out ht, by
    have h := heap_alloc_new (w1.alloc (.cells #[.int .i64 0, .int .i64 0] 38)) (.cells #[.int .i64 5, .int .i64 fl, .int .i64 st, .int .i64 (-1), .slice none 0 0, .slice none 0 0, .int .i64 0, .int .i64 0, .bool false, .int .i64 0, .int .i64 0, .int .i64 0, .int .i64 0] 25)
    have e : (w1.alloc (.cells #[.int .i64 0, .int .i64 0] 38)).heap.size = w1.heap.size + 1 := by simp
    rw [e] at h
    exact h, HA0.out.below ht, E0.out.of ht, by omega, HAB.out⟩
  clear s0 s1 s2 s3 s4 s5
  obtain ⟨s0, s1, s2, s3, s4, s5⟩ := row6 (keepRow RS0.out hb)
  obtain ⟨t0, t1, t2, t3, t4, t5⟩ := row6 (keepRow (keepRow RS0.out hb) al1)
  clear ht al1 al2 hb RS0 RQ0 RU0 E0 HA0
  go_upto_region 6 with (fail)
  clear s0 s1 s2 s3 s4 s5 t0 t1 t2 t3 t4 t5
  generalize (w1.alloc (.cells #[.int .i64 0, .int .i64 0] 38)).alloc (.cells #[.int .i64 5, .int .i64 fl, .int .i64 st, .int .i64 (-1), .slice none 0 0, .slice none 0 0, .int .i64 0, .int .i64 0, .bool false, .int .i64 0, .int .i64 0, .int .i64 0, .int .i64 0] 25) = W1 at *
  generalize w1.heap.size + 1 = p at *
  clear hp
  obtain ⟨s0, s1, s2, s3, s4, s5⟩ := row6 I0.out.rs
  go_wp2_with fail
  refine (rhas_3 5 fl h0 hfl _).mono ?_
  rw [HPD.out]
  rintro e w2 ⟨rfl, rfl⟩
  clear s0 s1 s2 s3 s4 s5
  obtain ⟨s0, s1, s2, s3, s4, s5⟩ := row6 I0.out.rs
  go_wp2_with fail
  refine (rhas_5 5 fl h0 hfl _).mono ?_
  rw [HPW.out]
  rintro e w3 ⟨rfl, rfl⟩
  clear s0 s1 s2 s3 s4 s5
  obtain ⟨s0, s1, s2, s3, s4, s5⟩ := row6 I0.out.rs
  go_upto_region 27 with (fail)
  clear s0 s1 s2 s3 s4 s5
  obtain ⟨X0, hX0⟩ : ∃ x, lowN (num (fun i => f (0 + i)) 4) = x := ⟨_, rfl⟩
  have HX0 := hide hX0
  clear hX0
  obtain ⟨X1, hX1⟩ : ∃ x, lowB (num (fun i => f (0 + i)) 4) = x := ⟨_, rfl⟩
  have HX1 := hide hX1
  clear hX1
  obtain ⟨s0, s1, s2, s3, s4, s5⟩ := row6 I0.out.rs
  go_wp2_with fail
  refine (rnumber14 _ n c 0 f _ (by rfl) hn (by have := HEN.out; have := HEM.out; omega) _ I0.out.rd Hf.out).mono ?_
  rw [HX0.out, HX1.out]
  rintro e w3 ⟨rfl, hd⟩
  have I1 := hide (I0.out.drawn hd)
  clear hd I0
  clear s0 s1 s2 s3 s4 s5
  go_upto_region 28 with (fail)
  have z := frozenRow I1.out.rf 9
  obtain ⟨cl0, cl1, cl2, cl3, cl4, cl5, cl6, cl7, cl8, cl9, cl10, cl11, cl12⟩ := row13 I1.out.rf
  have s_ := I1.out.set 9 (.int .i64 X0)
  simp only [List.setIfInBounds_toArray, List.set_cons_zero, List.set_cons_succ] at s_
  have I2 := hide s_
  clear s_
  go_upto_region 29 with (fail)
  clear z cl0 cl1 cl2 cl3 cl4 cl5 cl6 cl7 cl8 cl9 cl10 cl11 cl12 I1
  generalize World.setCell _ ⟨p, 9, none⟩ (.int .i64 X0) = W2 at *
  obtain ⟨s0, s1, s2, s3, s4, s5⟩ := row6 I2.out.rs
  obtain ⟨cl0, cl1, cl2, cl3, cl4, cl5, cl6, cl7, cl8, cl9, cl10, cl11, cl12⟩ := row13 I2.out.rf
  have hcut : ∀ V : World, (Instr.slice 22 (.slice A n c) (some (.int .i64 4)) (some (.int .i64 (n : Int))) none).run Try.prog V = .ok (.slice (cutA A c 4) (E - 4) (c - 4)) V := fun V => by
    have h := cut_lh 22 5 Try.underlying22 bytes_elem c8_size A n c 4 E HEN.out (by have h1 := I2.out.rd.1; have h2 := HEM.out; omega) .i64 .i64 V
    rw [HE.out] at h
    exact h
  have HC : Hid (Rd .u8 W2 (cutA A c 4) (E - 4) (c - 4) (fun i => f (4 + i))) := I2.out.rd.cutR (lo := 4) (hi := E) HEN.out HEM.out
  obtain ⟨i0, hi, hz0, hz1, hz2⟩ := info_parts c8_info
  have hNE : (E - 4) ≤ 100000 := by have := HEM.out; omega
  go_upto_region 39 with (fail)
  have HCd := hide (HC.out.below (Below.refl _ _).drew)
  go_region_law (refine step_app1 rfl (.tmp 136) (.tmp 140) _ rfl i0 _ 1 Try.underlying22 hi hz0 hz1 hz2 W2.heap.size (.slice none 0 0) 0 (oneF 0) rfl (Own.nil .u8 5 _ _ _) _ (E - 4) (c - 4) (fun i => f (4 + i)) rfl HCd.out (by simp only [maxLen]; omega) (by omega) (by exact Nat.le_refl _) ?_; intro v5 w5 hown5 hg5; rw [Nat.zero_add] at hown5; have hb5 : Below W2.heap.size W2 w5 := ⟨hg5.os, hg5.tape, hg5.output, hg5.size, fun i hi => hg5.block i hi (fun e => by cases e)⟩; obtain ⟨A2, c2, rfl, hr2, hf2⟩ := hown5.rd; have J := I2.out.below hb5; have zz := frozenRow J.rf 4; obtain ⟨dl0, dl1, dl2, dl3, dl4, dl5, dl6, dl7, dl8, dl9, dl10, dl11, dl12⟩ := row13 J.rf)
  all_goals
    have hp5 := rowLt I2.out.rf
    have JJ := J.set 4 (.slice A2 (E - 4) c2)
    simp only [List.setIfInBounds_toArray, List.set_cons_zero, List.set_cons_succ] at JJ
    have K := hide JJ
    have Y2 : Hid (Rd .u8 (w5.setCell ⟨p, 4, none⟩ (.slice A2 (E - 4) c2)) A2 (E - 4) c2 (catF 0 (oneF 0) (fun i => f (4 + i)))) := hr2.other (grown_set w5 p 4 _) (fun b off e => by have := (hf2 _ e).1; simp at this; omega)
    have HF2 : Hid (∀ a, A2 = some a → p < a.block) := fun a e => by have := (hf2 a e).1; omega
    clear hr2 hf2 hown5 hg5 hb5 J JJ zz dl0 dl1 dl2 dl3 dl4 dl5 dl6 dl7 dl8 dl9 dl10 dl11 dl12
    generalize w5.setCell ⟨p, 4, none⟩ (.slice A2 (E - 4) c2) = W9 at *
    obtain ⟨el0, el1, el2, el3, el4, el5, el6, el7, el8, el9, el10, el11, el12⟩ := row13 K.out.rf
    obtain ⟨⟨k0, f0_⟩, ⟨k1, f1_⟩, ⟨k2, f2_⟩, ⟨k3, f3_⟩, ⟨k4, f4_⟩, ⟨k5, f5_⟩, ⟨k6, f6_⟩, ⟨k7, f7_⟩, ⟨k8, f8_⟩, ⟨k9, f9_⟩, ⟨k10, f10_⟩, ⟨k11, f11_⟩, ⟨k12, f12_⟩, rq⟩ := store13 K.out.rq (.int .i64 5) (.int .i64 fl) (.int .i64 st) (.int .i64 (-1)) (.slice A2 (E - 4) c2) (.slice none 0 0) (.int .i64 0) (.int .i64 0) (.bool false) (.int .i64 X0) (.int .i64 0) (.int .i64 0) (.int .i64 0)
    have gB := hide (FrS.set13 (B := w.heap.size) (S := Q1 (w.heap.size + 1)) (by omega) (rowLt K.out.rq) rfl (.int .i64 5) (.int .i64 fl) (.int .i64 st) (.int .i64 (-1)) (.slice A2 (E - 4) c2) (.slice none 0 0) (.int .i64 0) (.int .i64 0) (.bool false) (.int .i64 X0) (.int .i64 0) (.int .i64 0) (.int .i64 0))
    obtain ⟨⟨l0, m0_⟩, ⟨l1, m1_⟩, ru⟩ := store2f (gB.out.row K.out.ru (fun e => by have e2 : w.heap.size + 1 + 1 = w.heap.size + 1 := e; omega)) (.int .i64 0) (.int .i64 0)
    have gU := hide (FrS.set2 (B := w.heap.size) (S := Q1 (w.heap.size + 1 + 1)) (by omega) (rowLt (gB.out.row K.out.ru (fun e => by have e2 : w.heap.size + 1 + 1 = w.heap.size + 1 := e; omega))) rfl (.int .i64 0) (.int .i64 0))
    have RZ := hide (gU.out.row rq (fun e => by have e2 : w.heap.size + 1 = w.heap.size + 1 + 1 := e; omega))
    have RU := hide ru
    have EE := hide ((K.out.be.trans gB.out.bel).trans gU.out.bel)
    have hpp := K.out.lt
    have YY := hide (((Y2.out.congr (fun i _ => catF_nil _ _ i)).frs gB.out (fun b off _ e s => by have := HF2.out _ e; have e2 : b = w.heap.size + 1 := s; simp at this; omega)).frs gU.out (fun b off _ e s => by have := HF2.out _ e; have e2 : b = w.heap.size + 1 + 1 := s; simp at this; omega))
    clear rq ru gB gU el0 el1 el2 el3 el4 el5 el6 el7 el8 el9 el10 el11 el12
    obtain ⟨el0, el1, el2, el3, el4, el5, el6, el7, el8, el9, el10, el11, el12⟩ := row13 K.out.rf
    go_wp2_with fail
    obtain ⟨n0_, n1_, n2_, n3_, n4_, n5_, n6_, n7_, n8_, n9_, n10_, n11_, n12_⟩ := row13 RZ.out
    obtain ⟨o0, o1⟩ := row2 RU.out
    refine bodyPost_ret (v := .tuple #[.agg #[.int .i64 5, .int .i64 fl, .int .i64 st, .int .i64 (-1), .slice A2 (E - 4) c2, .slice none 0 0, .int .i64 0, .int .i64 0, .bool false, .int .i64 X0, .int .i64 0, .int .i64 0, .int .i64 0], .agg #[.int .i64 0, .int .i64 0]]) ?_ rfl ⟨A2, c2, none, 0, ?_, ?_, ?_, EE.out⟩
    · rw [results_cc14 rfl]
      go_simp
    · show Ending.returned _ = _
      simp only [HX0.out, HX1.out]
    · exact YY.out
    · exact Rd2.nil _ _ _
set_option maxRecDepth 100000 in
set_option maxHeartbeats 6400000 in
theorem rp_u1 (fm fl st : Int) (rs : Bool) (A : Option Addr) (n c : Nat) (f : Nat → Int) (h0 : 0 ≤ fl) (hfl : fl ≤ 255) (hn : n ≤ 100000) (hpd : hsB 5 fl 3 = true) (hpw : hsB 5 fl 5 = false) (hok : rflt 5 fl st n f = (0, 0)) (E : Nat) (hE : (E : Int) = (n : Int) - f 0) (hEn : 5 ≤ E) (hEm : E ≤ n) (w : World) (hA : ∀ b off, 0 < n → A = some ⟨b, off, none⟩ → b < w.heap.size) (ha : Rd .u8 w A n c f) (hf : Byt n f) :
    Calls Try.prog 63 #[.agg #[.int .i64 fm, .int .i64 5, .int .i64 fl, .int .i64 st, .bool rs, .slice A n c]] w (RPost 5 fl st { pad := f 0, pm := lowN (num (fun i => f (1 + i)) 4), off := 5 } (E - 5) f w) := by
  obtain ⟨x0, x1, x2, e0⟩ := heap3f w #[.int .i64 fm, .int .i64 5, .int .i64 fl, .int .i64 st, .bool rs, .slice A n c] z13 #[.int .i64 0, .int .i64 0] 29 25 38
  have RS0 := hide x0
  have RQ0 := hide x1
  have RU0 := hide x2
  have E0 := hide e0
  have Hf := hide hf
  have HPD := hide hpd
  have HOK := hide hok
  have HA0 := hide (ha.below e0)
  have HAB := hide hA
  have HEN := hide hEn
  have HPW := hide hpw
  have HE := hide hE
  have HEM := hide hEm
  have hn0 : 0 < n := by omega
  obtain ⟨b, off, rfl, hlt, _⟩ := ha.block hn0
  clear hlt
  clear x0 x1 x2 e0 hf hpd hok hA ha hEn hpw hE hEm
  go_enter Try.func63, Try.ntmps63
  go_upto_region 1 with (fail)
  generalize ((w.alloc (.cells #[.int .i64 fm, .int .i64 5, .int .i64 fl, .int .i64 st, .bool rs, .slice (some ⟨b, off, none⟩) n c] 29)).alloc (.cells z13 25)).alloc (.cells #[.int .i64 0, .int .i64 0] 38) = W0 at *
  obtain ⟨s0, s1, s2, s3, s4, s5⟩ := row6 RS0.out
  go_wp2_with fail
  refine (rfault14 fm 5 fl st rs _ n c f h0 hfl hn _ HA0.out Hf.out).mono ?_
  rw [HOK.out]
  rintro e w1 ⟨rfl, hb⟩
  have al1 := (Below.refl w1.heap.size w1).alloc (Nat.le_refl _) (.cells #[.int .i64 0, .int .i64 0] 38)
  have al2 := (Below.refl (w1.alloc (.cells #[.int .i64 0, .int .i64 0] 38)).heap.size (w1.alloc (.cells #[.int .i64 0, .int .i64 0] 38))).alloc (Nat.le_refl _) (.cells #[.int .i64 5, .int .i64 fl, .int .i64 st, .int .i64 (-1), .slice none 0 0, .slice none 0 0, .int .i64 0, .int .i64 0, .bool false, .int .i64 0, .int .i64 0, .int .i64 0, .int .i64 0] 25)
  have ht := hb.of (al1.of al2)
  have hp : W0.heap.size ≤ w1.heap.size := hb.size
  have hw0 := rowLt RU0.out
  have I0 : Hid (PI w ((w1.alloc (.cells #[.int .i64 0, .int .i64 0] 38)).alloc (.cells #[.int .i64 5, .int .i64 fl, .int .i64 st, .int .i64 (-1), .slice none 0 0, .slice none 0 0, .int .i64 0, .int .i64 0, .bool false, .int .i64 0, .int .i64 0, .int .i64 0, .int .i64 0] 25)) (w1.heap.size + 1) #[.int .i64 fm, .int .i64 5, .int .i64 fl, .int .i64 st, .bool rs, .slice (some ⟨b, off, none⟩) n c] #[.int .i64 5, .int .i64 fl, .int .i64 st, .int .i64 (-1), .slice none 0 0, .slice none 0 0, .int .i64 0, .int .i64 0, .bool false, .int .i64 0, .int .i64 0, .int .i64 0, .int .i64 0] (some ⟨b, off, none⟩) n c f) := ⟨keepRow RS0.out ht, keepRow RQ0.out ht, keepRow RU0.out ht, by
    have h := heap_alloc_new (w1.alloc (.cells #[.int .i64 0, .int .i64 0] 38)) (.cells #[.int .i64 5, .int .i64 fl, .int .i64 st, .int .i64 (-1), .slice none 0 0, .slice none 0 0, .int .i64 0, .int .i64 0, .bool false, .int .i64 0, .int .i64 0, .int .i64 0, .int .i64 0] 25)
    have e : (w1.alloc (.cells #[.int .i64 0, .int .i64 0] 38)).heap.size = w1.heap.size + 1 := by simp
    rw [e] at h
    exact h, HA0.out.below ht, E0.out.of ht, by omega, HAB.out⟩
  clear s0 s1 s2 s3 s4 s5
  obtain ⟨s0, s1, s2, s3, s4, s5⟩ := row6 (keepRow RS0.out hb)
  obtain ⟨t0, t1, t2, t3, t4, t5⟩ := row6 (keepRow (keepRow RS0.out hb) al1)
  clear ht al1 al2 hb RS0 RQ0 RU0 E0 HA0
  go_upto_region 6 with (fail)
  clear s0 s1 s2 s3 s4 s5 t0 t1 t2 t3 t4 t5
  generalize (w1.alloc (.cells #[.int .i64 0, .int .i64 0] 38)).alloc (.cells #[.int .i64 5, .int .i64 fl, .int .i64 st, .int .i64 (-1), .slice none 0 0, .slice none 0 0, .int .i64 0, .int .i64 0, .bool false, .int .i64 0, .int .i64 0, .int .i64 0, .int .i64 0] 25) = W1 at *
  generalize w1.heap.size + 1 = p at *
  clear hp
  obtain ⟨s0, s1, s2, s3, s4, s5⟩ := row6 I0.out.rs
  go_wp2_with fail
  refine (rhas_3 5 fl h0 hfl _).mono ?_
  rw [HPD.out]
  rintro e w2 ⟨rfl, rfl⟩
  clear s0 s1 s2 s3 s4 s5
  have hc0 := I0.out.rd.cellAt hn0
  rw [Nat.add_zero] at hc0
  have hby := Hf.out 0 hn0
  have hn0i : (0 : Int) < (n : Int) := by omega
  have wf0 : IntKind.i64.wrap (f 0) = f 0 := IntWalk.i64_in _ (by omega)
  have z := frozenRow I0.out.rf 3
  obtain ⟨cl0, cl1, cl2, cl3, cl4, cl5, cl6, cl7, cl8, cl9, cl10, cl11, cl12⟩ := row13 I0.out.rf
  have s_ := I0.out.set 3 (.int .i64 (f 0))
  simp only [List.setIfInBounds_toArray, List.set_cons_zero, List.set_cons_succ] at s_
  have I1 := hide s_
  clear s_
  go_upto_region 10 with (fail)
  clear z cl0 cl1 cl2 cl3 cl4 cl5 cl6 cl7 cl8 cl9 cl10 cl11 cl12 I0
  generalize World.setCell _ ⟨p, 3, none⟩ (.int .i64 (f 0)) = W2 at *
  have wsub : IntKind.i64.wrap ((n : Int) - f 0) = (n : Int) - f 0 := IntWalk.i64_in _ (by omega)
  obtain ⟨cl0, cl1, cl2, cl3, cl4, cl5, cl6, cl7, cl8, cl9, cl10, cl11, cl12⟩ := row13 I1.out.rf
  clear hc0
  go_upto_region 12 with (fail)
  clear cl0 cl1 cl2 cl3 cl4 cl5 cl6 cl7 cl8 cl9 cl10 cl11 cl12
  obtain ⟨s0, s1, s2, s3, s4, s5⟩ := row6 I1.out.rs
  go_wp2_with fail
  refine (rhas_5 5 fl h0 hfl _).mono ?_
  rw [HPW.out]
  rintro e w3 ⟨rfl, rfl⟩
  clear s0 s1 s2 s3 s4 s5
  obtain ⟨s0, s1, s2, s3, s4, s5⟩ := row6 I1.out.rs
  go_upto_region 27 with (fail)
  clear s0 s1 s2 s3 s4 s5
  obtain ⟨X0, hX0⟩ : ∃ x, lowN (num (fun i => f (1 + i)) 4) = x := ⟨_, rfl⟩
  have HX0 := hide hX0
  clear hX0
  obtain ⟨X1, hX1⟩ : ∃ x, lowB (num (fun i => f (1 + i)) 4) = x := ⟨_, rfl⟩
  have HX1 := hide hX1
  clear hX1
  obtain ⟨s0, s1, s2, s3, s4, s5⟩ := row6 I1.out.rs
  go_wp2_with fail
  refine (rnumber14 _ n c 1 f _ (by rfl) hn (by have := HEN.out; have := HEM.out; omega) _ I1.out.rd Hf.out).mono ?_
  rw [HX0.out, HX1.out]
  rintro e w3 ⟨rfl, hd⟩
  have I2 := hide (I1.out.drawn hd)
  clear hd I1
  clear s0 s1 s2 s3 s4 s5
  go_upto_region 28 with (fail)
  have z := frozenRow I2.out.rf 9
  obtain ⟨cl0, cl1, cl2, cl3, cl4, cl5, cl6, cl7, cl8, cl9, cl10, cl11, cl12⟩ := row13 I2.out.rf
  have s_ := I2.out.set 9 (.int .i64 X0)
  simp only [List.setIfInBounds_toArray, List.set_cons_zero, List.set_cons_succ] at s_
  have I3 := hide s_
  clear s_
  go_upto_region 29 with (fail)
  clear z cl0 cl1 cl2 cl3 cl4 cl5 cl6 cl7 cl8 cl9 cl10 cl11 cl12 I2
  generalize World.setCell _ ⟨p, 9, none⟩ (.int .i64 X0) = W3 at *
  obtain ⟨s0, s1, s2, s3, s4, s5⟩ := row6 I3.out.rs
  obtain ⟨cl0, cl1, cl2, cl3, cl4, cl5, cl6, cl7, cl8, cl9, cl10, cl11, cl12⟩ := row13 I3.out.rf
  have hcut : ∀ V : World, (Instr.slice 22 (.slice (some ⟨b, off, none⟩) n c) (some (.int .i64 5)) (some (.int .i64 ((n : Int) - f 0))) none).run Try.prog V = .ok (.slice (cutA (some ⟨b, off, none⟩) c 5) (E - 5) (c - 5)) V := fun V => by
    have h := cut_lh 22 5 Try.underlying22 bytes_elem c8_size (some ⟨b, off, none⟩) n c 5 E HEN.out (by have h1 := I3.out.rd.1; have h2 := HEM.out; omega) .i64 .i64 V
    rw [HE.out] at h
    exact h
  have HC : Hid (Rd .u8 W3 (cutA (some ⟨b, off, none⟩) c 5) (E - 5) (c - 5) (fun i => f (5 + i))) := I3.out.rd.cutR (lo := 5) (hi := E) HEN.out HEM.out
  obtain ⟨i0, hi, hz0, hz1, hz2⟩ := info_parts c8_info
  have hNE : (E - 5) ≤ 100000 := by have := HEM.out; omega
  go_upto_region 39 with (fail)
  have HCd := hide (HC.out.below (Below.refl _ _).drew)
  go_region_law (refine step_app1 rfl (.tmp 136) (.tmp 140) _ rfl i0 _ 1 Try.underlying22 hi hz0 hz1 hz2 W3.heap.size (.slice none 0 0) 0 (oneF 0) rfl (Own.nil .u8 5 _ _ _) _ (E - 5) (c - 5) (fun i => f (5 + i)) rfl HCd.out (by simp only [maxLen]; omega) (by omega) (by exact Nat.le_refl _) ?_; intro v5 w5 hown5 hg5; rw [Nat.zero_add] at hown5; have hb5 : Below W3.heap.size W3 w5 := ⟨hg5.os, hg5.tape, hg5.output, hg5.size, fun i hi => hg5.block i hi (fun e => by cases e)⟩; obtain ⟨A2, c2, rfl, hr2, hf2⟩ := hown5.rd; have J := I3.out.below hb5; have zz := frozenRow J.rf 4; obtain ⟨dl0, dl1, dl2, dl3, dl4, dl5, dl6, dl7, dl8, dl9, dl10, dl11, dl12⟩ := row13 J.rf)
  all_goals
    have hp5 := rowLt I3.out.rf
    have JJ := J.set 4 (.slice A2 (E - 5) c2)
    simp only [List.setIfInBounds_toArray, List.set_cons_zero, List.set_cons_succ] at JJ
    have K := hide JJ
    have Y2 : Hid (Rd .u8 (w5.setCell ⟨p, 4, none⟩ (.slice A2 (E - 5) c2)) A2 (E - 5) c2 (catF 0 (oneF 0) (fun i => f (5 + i)))) := hr2.other (grown_set w5 p 4 _) (fun b off e => by have := (hf2 _ e).1; simp at this; omega)
    have HF2 : Hid (∀ a, A2 = some a → p < a.block) := fun a e => by have := (hf2 a e).1; omega
    clear hr2 hf2 hown5 hg5 hb5 J JJ zz dl0 dl1 dl2 dl3 dl4 dl5 dl6 dl7 dl8 dl9 dl10 dl11 dl12
    generalize w5.setCell ⟨p, 4, none⟩ (.slice A2 (E - 5) c2) = W9 at *
    obtain ⟨el0, el1, el2, el3, el4, el5, el6, el7, el8, el9, el10, el11, el12⟩ := row13 K.out.rf
    obtain ⟨⟨k0, f0_⟩, ⟨k1, f1_⟩, ⟨k2, f2_⟩, ⟨k3, f3_⟩, ⟨k4, f4_⟩, ⟨k5, f5_⟩, ⟨k6, f6_⟩, ⟨k7, f7_⟩, ⟨k8, f8_⟩, ⟨k9, f9_⟩, ⟨k10, f10_⟩, ⟨k11, f11_⟩, ⟨k12, f12_⟩, rq⟩ := store13 K.out.rq (.int .i64 5) (.int .i64 fl) (.int .i64 st) (.int .i64 (f 0)) (.slice A2 (E - 5) c2) (.slice none 0 0) (.int .i64 0) (.int .i64 0) (.bool false) (.int .i64 X0) (.int .i64 0) (.int .i64 0) (.int .i64 0)
    have gB := hide (FrS.set13 (B := w.heap.size) (S := Q1 (w.heap.size + 1)) (by omega) (rowLt K.out.rq) rfl (.int .i64 5) (.int .i64 fl) (.int .i64 st) (.int .i64 (f 0)) (.slice A2 (E - 5) c2) (.slice none 0 0) (.int .i64 0) (.int .i64 0) (.bool false) (.int .i64 X0) (.int .i64 0) (.int .i64 0) (.int .i64 0))
    obtain ⟨⟨l0, m0_⟩, ⟨l1, m1_⟩, ru⟩ := store2f (gB.out.row K.out.ru (fun e => by have e2 : w.heap.size + 1 + 1 = w.heap.size + 1 := e; omega)) (.int .i64 0) (.int .i64 0)
    have gU := hide (FrS.set2 (B := w.heap.size) (S := Q1 (w.heap.size + 1 + 1)) (by omega) (rowLt (gB.out.row K.out.ru (fun e => by have e2 : w.heap.size + 1 + 1 = w.heap.size + 1 := e; omega))) rfl (.int .i64 0) (.int .i64 0))
    have RZ := hide (gU.out.row rq (fun e => by have e2 : w.heap.size + 1 = w.heap.size + 1 + 1 := e; omega))
    have RU := hide ru
    have EE := hide ((K.out.be.trans gB.out.bel).trans gU.out.bel)
    have hpp := K.out.lt
    have YY := hide (((Y2.out.congr (fun i _ => catF_nil _ _ i)).frs gB.out (fun b off _ e s => by have := HF2.out _ e; have e2 : b = w.heap.size + 1 := s; simp at this; omega)).frs gU.out (fun b off _ e s => by have := HF2.out _ e; have e2 : b = w.heap.size + 1 + 1 := s; simp at this; omega))
    clear rq ru gB gU el0 el1 el2 el3 el4 el5 el6 el7 el8 el9 el10 el11 el12
    obtain ⟨el0, el1, el2, el3, el4, el5, el6, el7, el8, el9, el10, el11, el12⟩ := row13 K.out.rf
    go_wp2_with fail
    obtain ⟨n0_, n1_, n2_, n3_, n4_, n5_, n6_, n7_, n8_, n9_, n10_, n11_, n12_⟩ := row13 RZ.out
    obtain ⟨o0, o1⟩ := row2 RU.out
    refine bodyPost_ret (v := .tuple #[.agg #[.int .i64 5, .int .i64 fl, .int .i64 st, .int .i64 (f 0), .slice A2 (E - 5) c2, .slice none 0 0, .int .i64 0, .int .i64 0, .bool false, .int .i64 X0, .int .i64 0, .int .i64 0, .int .i64 0], .agg #[.int .i64 0, .int .i64 0]]) ?_ rfl ⟨A2, c2, none, 0, ?_, ?_, ?_, EE.out⟩
    · rw [results_cc14 rfl]
      go_simp
    · show Ending.returned _ = _
      simp only [HX0.out, HX1.out]
    · exact YY.out
    · exact Rd2.nil _ _ _
end Go.Proofs.Ytpnjamomkpkkeaa
