/- Layer 14: what a right frame says, by the reference: its ways. -/
import Derived.Test.YtpnjamomkpkkeaaFs4
namespace Go.Proofs.Ytpnjamomkpkkeaa
set_option linter.unusedVariables false
set_option linter.unusedSimpArgs false
open Go.RowKit

set_option maxRecDepth 100000 in
set_option maxHeartbeats 6400000 in
theorem rp_o00 (fm fl st : Int) (rs : Bool) (T : Int) (hT : T ≠ 2 ∧ T ≠ 3 ∧ T ≠ 4 ∧ T ≠ 5 ∧ T ≠ 7 ∧ T ≠ 8) (A : Option Addr) (n c : Nat) (f : Nat → Int) (h0 : 0 ≤ fl) (hfl : fl ≤ 255) (hn : n ≤ 100000) (hpd : hsB T fl 3 = false) (hpw : hsB T fl 5 = false) (hok : rflt T fl st n f = (0, 0)) (E : Nat) (hE : (E : Int) = (n : Int)) (hEn : 0 ≤ E) (hEm : E ≤ n) (w : World) (hA : ∀ b off, 0 < n → A = some ⟨b, off, none⟩ → b < w.heap.size) (ha : Rd .u8 w A n c f) (hf : Byt n f) :
    Calls Try.prog 63 #[.agg #[.int .i64 fm, .int .i64 T, .int .i64 fl, .int .i64 st, .bool rs, .slice A n c]] w (RPost T fl st { off := 0 } E f w) := by
  obtain ⟨x0, x1, x2, e0⟩ := heap3f w #[.int .i64 fm, .int .i64 T, .int .i64 fl, .int .i64 st, .bool rs, .slice A n c] z13 #[.int .i64 0, .int .i64 0] 29 25 38
  have RS0 := hide x0
  have RQ0 := hide x1
  have RU0 := hide x2
  have E0 := hide e0
  have Hf := hide hf
  have HPD := hide hpd
  have HOK := hide hok
  have HA0 := hide (ha.below e0)
  have HAB := hide hA
  have HEN := hide hEn
  have HPW := hide hpw
  have HE := hide hE
  have HEM := hide hEm
  have n2 : (T == 2) = false := by simp; omega
  have n3 : (T == 3) = false := by simp; omega
  have n4 : (T == 4) = false := by simp; omega
  have n5 : (T == 5) = false := by simp; omega
  have n7 : (T == 7) = false := by simp; omega
  have n8 : (T == 8) = false := by simp; omega
  clear x0 x1 x2 e0 hf hpd hok hA ha hEn hpw hE hEm hT
  go_enter Try.func63, Try.ntmps63
  go_upto_region 1 with (fail)
  generalize ((w.alloc (.cells #[.int .i64 fm, .int .i64 T, .int .i64 fl, .int .i64 st, .bool rs, .slice A n c] 29)).alloc (.cells z13 25)).alloc (.cells #[.int .i64 0, .int .i64 0] 38) = W0 at *
  obtain ⟨s0, s1, s2, s3, s4, s5⟩ := row6 RS0.out
  go_wp2_with fail
  refine (rfault14 fm T fl st rs _ n c f h0 hfl hn _ HA0.out Hf.out).mono ?_
  rw [HOK.out]
  rintro e w1 ⟨rfl, hb⟩
  have al1 := (Below.refl w1.heap.size w1).alloc (Nat.le_refl _) (.cells #[.int .i64 0, .int .i64 0] 38)
  have al2 := (Below.refl (w1.alloc (.cells #[.int .i64 0, .int .i64 0] 38)).heap.size (w1.alloc (.cells #[.int .i64 0, .int .i64 0] 38))).alloc (Nat.le_refl _) (.cells #[.int .i64 T, .int .i64 fl, .int .i64 st, .int .i64 (-1), .slice none 0 0, .slice none 0 0, .int .i64 0, .int .i64 0, .bool false, .int .i64 0, .int .i64 0, .int .i64 0, .int .i64 0] 25)
  have ht := hb.of (al1.of al2)
  have hp : W0.heap.size ≤ w1.heap.size := hb.size
  have hw0 := rowLt RU0.out
  have I0 : Hid (PI w ((w1.alloc (.cells #[.int .i64 0, .int .i64 0] 38)).alloc (.cells #[.int .i64 T, .int .i64 fl, .int .i64 st, .int .i64 (-1), .slice none 0 0, .slice none 0 0, .int .i64 0, .int .i64 0, .bool false, .int .i64 0, .int .i64 0, .int .i64 0, .int .i64 0] 25)) (w1.heap.size + 1) #[.int .i64 fm, .int .i64 T, .int .i64 fl, .int .i64 st, .bool rs, .slice A n c] #[.int .i64 T, .int .i64 fl, .int .i64 st, .int .i64 (-1), .slice none 0 0, .slice none 0 0, .int .i64 0, .int .i64 0, .bool false, .int .i64 0, .int .i64 0, .int .i64 0, .int .i64 0] A n c f) := ⟨keepRow RS0.out ht, keepRow RQ0.out ht, keepRow RU0.out ht, by
    have h := heap_alloc_new (w1.alloc (.cells #[.int .i64 0, .int .i64 0] 38)) (.cells #[.int .i64 T, .int .i64 fl, .int .i64 st, .int .i64 (-1), .slice none 0 0, .slice none 0 0, .int .i64 0, .int .i64 0, .bool false, .int .i64 0, .int .i64 0, .int .i64 0, .int .i64 0] 25)
    have e : (w1.alloc (.cells #[.int .i64 0, .int .i64 0] 38)).heap.size = w1.heap.size + 1 := by simp
    rw [e] at h
    exact h, HA0.out.below ht, E0.out.of ht, by omega, HAB.out⟩
  clear s0 s1 s2 s3 s4 s5
  obtain ⟨s0, s1, s2, s3, s4, s5⟩ := row6 (keepRow RS0.out hb)
  obtain ⟨t0, t1, t2, t3, t4, t5⟩ := row6 (keepRow (keepRow RS0.out hb) al1)
  clear ht al1 al2 hb RS0 RQ0 RU0 E0 HA0
  go_upto_region 6 with (fail)
  clear s0 s1 s2 s3 s4 s5 t0 t1 t2 t3 t4 t5
  generalize (w1.alloc (.cells #[.int .i64 0, .int .i64 0] 38)).alloc (.cells #[.int .i64 T, .int .i64 fl, .int .i64 st, .int .i64 (-1), .slice none 0 0, .slice none 0 0, .int .i64 0, .int .i64 0, .bool false, .int .i64 0, .int .i64 0, .int .i64 0, .int .i64 0] 25) = W1 at *
  generalize w1.heap.size + 1 = p at *
  clear hp
  obtain ⟨s0, s1, s2, s3, s4, s5⟩ := row6 I0.out.rs
  go_wp2_with fail
  refine (rhas_3 T fl h0 hfl _).mono ?_
  rw [HPD.out]
  rintro e w2 ⟨rfl, rfl⟩
  clear s0 s1 s2 s3 s4 s5
  obtain ⟨s0, s1, s2, s3, s4, s5⟩ := row6 I0.out.rs
  go_wp2_with fail
  refine (rhas_5 T fl h0 hfl _).mono ?_
  rw [HPW.out]
  rintro e w3 ⟨rfl, rfl⟩
  clear s0 s1 s2 s3 s4 s5
  obtain ⟨s0, s1, s2, s3, s4, s5⟩ := row6 I0.out.rs
  clear s0 s1 s2 s3 s4 s5
  obtain ⟨s0, s1, s2, s3, s4, s5⟩ := row6 I0.out.rs
  obtain ⟨cl0, cl1, cl2, cl3, cl4, cl5, cl6, cl7, cl8, cl9, cl10, cl11, cl12⟩ := row13 I0.out.rf
  have hcut : ∀ V : World, (Instr.slice 22 (.slice A n c) (some (.int .i64 0)) (some (.int .i64 (n : Int))) none).run Try.prog V = .ok (.slice (cutA A c 0) E c) V := fun V => by
    have h := cut_lh 22 5 Try.underlying22 bytes_elem c8_size A n c 0 E HEN.out (by have h1 := I0.out.rd.1; have h2 := HEM.out; omega) .i64 .i64 V
    rw [HE.out] at h
    exact h
  have HC : Hid (Rd .u8 W1 (cutA A c 0) E c (fun i => f (0 + i))) := I0.out.rd.cutR (lo := 0) (hi := E) HEN.out HEM.out
  obtain ⟨i0, hi, hz0, hz1, hz2⟩ := info_parts c8_info
  have hNE : E ≤ 100000 := by have := HEM.out; omega
  go_upto_region 39 with (fail)
  have HCd := hide (HC.out.below (Below.refl _ _).drew)
  go_region_law (refine step_app1 rfl (.tmp 136) (.tmp 140) _ rfl i0 _ 1 Try.underlying22 hi hz0 hz1 hz2 W1.heap.size (.slice none 0 0) 0 (oneF 0) rfl (Own.nil .u8 5 _ _ _) _ E c (fun i => f (0 + i)) rfl HCd.out (by simp only [maxLen]; omega) (by omega) (by exact Nat.le_refl _) ?_; intro v5 w5 hown5 hg5; rw [Nat.zero_add] at hown5; have hb5 : Below W1.heap.size W1 w5 := ⟨hg5.os, hg5.tape, hg5.output, hg5.size, fun i hi => hg5.block i hi (fun e => by cases e)⟩; obtain ⟨A2, c2, rfl, hr2, hf2⟩ := hown5.rd; have J := I0.out.below hb5; have zz := frozenRow J.rf 4; obtain ⟨dl0, dl1, dl2, dl3, dl4, dl5, dl6, dl7, dl8, dl9, dl10, dl11, dl12⟩ := row13 J.rf)
  all_goals
    have hp5 := rowLt I0.out.rf
    have JJ := J.set 4 (.slice A2 E c2)
    simp only [List.setIfInBounds_toArray, List.set_cons_zero, List.set_cons_succ] at JJ
    have K := hide JJ
    have Y2 : Hid (Rd .u8 (w5.setCell ⟨p, 4, none⟩ (.slice A2 E c2)) A2 E c2 (catF 0 (oneF 0) (fun i => f (0 + i)))) := hr2.other (grown_set w5 p 4 _) (fun b off e => by have := (hf2 _ e).1; simp at this; omega)
    have HF2 : Hid (∀ a, A2 = some a → p < a.block) := fun a e => by have := (hf2 a e).1; omega
    clear hr2 hf2 hown5 hg5 hb5 J JJ zz dl0 dl1 dl2 dl3 dl4 dl5 dl6 dl7 dl8 dl9 dl10 dl11 dl12
    generalize w5.setCell ⟨p, 4, none⟩ (.slice A2 E c2) = W9 at *
    obtain ⟨el0, el1, el2, el3, el4, el5, el6, el7, el8, el9, el10, el11, el12⟩ := row13 K.out.rf
    obtain ⟨⟨k0, f0_⟩, ⟨k1, f1_⟩, ⟨k2, f2_⟩, ⟨k3, f3_⟩, ⟨k4, f4_⟩, ⟨k5, f5_⟩, ⟨k6, f6_⟩, ⟨k7, f7_⟩, ⟨k8, f8_⟩, ⟨k9, f9_⟩, ⟨k10, f10_⟩, ⟨k11, f11_⟩, ⟨k12, f12_⟩, rq⟩ := store13 K.out.rq (.int .i64 T) (.int .i64 fl) (.int .i64 st) (.int .i64 (-1)) (.slice A2 E c2) (.slice none 0 0) (.int .i64 0) (.int .i64 0) (.bool false) (.int .i64 0) (.int .i64 0) (.int .i64 0) (.int .i64 0)
    have gB := hide (FrS.set13 (B := w.heap.size) (S := Q1 (w.heap.size + 1)) (by omega) (rowLt K.out.rq) rfl (.int .i64 T) (.int .i64 fl) (.int .i64 st) (.int .i64 (-1)) (.slice A2 E c2) (.slice none 0 0) (.int .i64 0) (.int .i64 0) (.bool false) (.int .i64 0) (.int .i64 0) (.int .i64 0) (.int .i64 0))
    obtain ⟨⟨l0, m0_⟩, ⟨l1, m1_⟩, ru⟩ := store2f (gB.out.row K.out.ru (fun e => by have e2 : w.heap.size + 1 + 1 = w.heap.size + 1 := e; omega)) (.int .i64 0) (.int .i64 0)
    have gU := hide (FrS.set2 (B := w.heap.size) (S := Q1 (w.heap.size + 1 + 1)) (by omega) (rowLt (gB.out.row K.out.ru (fun e => by have e2 : w.heap.size + 1 + 1 = w.heap.size + 1 := e; omega))) rfl (.int .i64 0) (.int .i64 0))
    have RZ := hide (gU.out.row rq (fun e => by have e2 : w.heap.size + 1 = w.heap.size + 1 + 1 := e; omega))
    have RU := hide ru
    have EE := hide ((K.out.be.trans gB.out.bel).trans gU.out.bel)
    have hpp := K.out.lt
    have YY := hide (((Y2.out.congr (fun i _ => catF_nil _ _ i)).frs gB.out (fun b off _ e s => by have := HF2.out _ e; have e2 : b = w.heap.size + 1 := s; simp at this; omega)).frs gU.out (fun b off _ e s => by have := HF2.out _ e; have e2 : b = w.heap.size + 1 + 1 := s; simp at this; omega))
    clear rq ru gB gU el0 el1 el2 el3 el4 el5 el6 el7 el8 el9 el10 el11 el12
    obtain ⟨el0, el1, el2, el3, el4, el5, el6, el7, el8, el9, el10, el11, el12⟩ := row13 K.out.rf
    go_wp2_with fail
    obtain ⟨n0_, n1_, n2_, n3_, n4_, n5_, n6_, n7_, n8_, n9_, n10_, n11_, n12_⟩ := row13 RZ.out
    obtain ⟨o0, o1⟩ := row2 RU.out
    refine bodyPost_ret (v := .tuple #[.agg #[.int .i64 T, .int .i64 fl, .int .i64 st, .int .i64 (-1), .slice A2 E c2, .slice none 0 0, .int .i64 0, .int .i64 0, .bool false, .int .i64 0, .int .i64 0, .int .i64 0, .int .i64 0], .agg #[.int .i64 0, .int .i64 0]]) ?_ rfl ⟨A2, c2, none, 0, ?_, ?_, ?_, EE.out⟩
    · rw [results_cc14 rfl]
      go_simp
    · rfl
    · exact YY.out
    · exact Rd2.nil _ _ _
end Go.Proofs.Ytpnjamomkpkkeaa
