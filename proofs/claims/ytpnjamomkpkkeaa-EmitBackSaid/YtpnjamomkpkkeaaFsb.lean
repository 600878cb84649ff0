/- Layer 14: what a right frame says, by the reference: its ways. -/
import Derived.Test.YtpnjamomkpkkeaaFs9
namespace Go.Proofs.Ytpnjamomkpkkeaa
set_option linter.unusedVariables false
set_option linter.unusedSimpArgs false
open Go.RowKit

set_option maxRecDepth 100000 in
set_option maxHeartbeats 6400000 in
theorem rp_s (fm fl st : Int) (rs : Bool) (A : Option Addr) (n c : Nat) (f : Nat → Int) (h0 : 0 ≤ fl) (hfl : fl ≤ 255) (hn : n ≤ 100000) (hpd : hsB 4 fl 3 = false) (hpw : hsB 4 fl 5 = false) (hok : rflt 4 fl st n f = (0, 0)) (hEn : n % 6 = 0) (w : World) (hA : ∀ b off, 0 < n → A = some ⟨b, off, none⟩ → b < w.heap.size) (ha : Rd .u8 w A n c f) (hf : Byt n f) :
    Calls Try.prog 63 #[.agg #[.int .i64 fm, .int .i64 4, .int .i64 fl, .int .i64 st, .bool rs, .slice A n c]] w (RPost 4 fl st { sn := (nsN n), off := 0 } 0 f w) := by
  obtain ⟨x0, x1, x2, e0⟩ := heap3f w #[.int .i64 fm, .int .i64 4, .int .i64 fl, .int .i64 st, .bool rs, .slice A n c] z13 #[.int .i64 0, .int .i64 0] 29 25 38
  have RS0 := hide x0
  have RQ0 := hide x1
  have RU0 := hide x2
  have E0 := hide e0
  have Hf := hide hf
  have HPD := hide hpd
  have HOK := hide hok
  have HA0 := hide (ha.below e0)
  have HAB := hide hA
  have HEN := hide hEn
  have HPW := hide hpw
  clear x0 x1 x2 e0 hf hpd hok hA ha hEn hpw
  go_enter Try.func63, Try.ntmps63
  go_upto_region 1 with (fail)
  generalize ((w.alloc (.cells #[.int .i64 fm, .int .i64 4, .int .i64 fl, .int .i64 st, .bool rs, .slice A n c] 29)).alloc (.cells z13 25)).alloc (.cells #[.int .i64 0, .int .i64 0] 38) = W0 at *
  obtain ⟨s0, s1, s2, s3, s4, s5⟩ := row6 RS0.out
  go_wp2_with fail
  refine (rfault14 fm 4 fl st rs _ n c f h0 hfl hn _ HA0.out Hf.out).mono ?_
  rw [HOK.out]
  rintro e w1 ⟨rfl, hb⟩
  have al1 := (Below.refl w1.heap.size w1).alloc (Nat.le_refl _) (.cells #[.int .i64 0, .int .i64 0] 38)
  have al2 := (Below.refl (w1.alloc (.cells #[.int .i64 0, .int .i64 0] 38)).heap.size (w1.alloc (.cells #[.int .i64 0, .int .i64 0] 38))).alloc (Nat.le_refl _) (.cells #[.int .i64 4, .int .i64 fl, .int .i64 st, .int .i64 (-1), .slice none 0 0, .slice none 0 0, .int .i64 0, .int .i64 0, .bool false, .int .i64 0, .int .i64 0, .int .i64 0, .int .i64 0] 25)
  have ht := hb.of (al1.of al2)
  have hp : W0.heap.size ≤ w1.heap.size := hb.size
  have hw0 := rowLt RU0.out
  have I0 : Hid (PI w ((w1.alloc (.cells #[.int .i64 0, .int .i64 0] 38)).alloc (.cells #[.int .i64 4, .int .i64 fl, .int .i64 st, .int .i64 (-1), .slice none 0 0, .slice none 0 0, .int .i64 0, .int .i64 0, .bool false, .int .i64 0, .int .i64 0, .int .i64 0, .int .i64 0] 25)) (w1.heap.size + 1) #[.int .i64 fm, .int .i64 4, .int .i64 fl, .int .i64 st, .bool rs, .slice A n c] #[.int .i64 4, .int .i64 fl, .int .i64 st, .int .i64 (-1), .slice none 0 0, .slice none 0 0, .int .i64 0, .int .i64 0, .bool false, .int .i64 0, .int .i64 0, .int .i64 0, .int .i64 0] A n c f) := ⟨keepRow RS0.out ht, keepRow RQ0.out ht, keepRow RU0.out ht, by
    have h := heap_alloc_new (w1.alloc (.cells #[.int .i64 0, .int .i64 0] 38)) (.cells #[.int .i64 4, .int .i64 fl, .int .i64 st, .int .i64 (-1), .slice none 0 0, .slice none 0 0, .int .i64 0, .int .i64 0, .bool false, .int .i64 0, .int .i64 0, .int .i64 0, .int .i64 0] 25)
    have e : (w1.alloc (.cells #[.int .i64 0, .int .i64 0] 38)).heap.size = w1.heap.size + 1 := by simp
    rw [e] at h
    exact h, HA0.out.below ht, E0.out.of ht, by omega, HAB.out⟩
  clear s0 s1 s2 s3 s4 s5
  obtain ⟨s0, s1, s2, s3, s4, s5⟩ := row6 (keepRow RS0.out hb)
  obtain ⟨t0, t1, t2, t3, t4, t5⟩ := row6 (keepRow (keepRow RS0.out hb) al1)
  clear ht al1 al2 hb RS0 RQ0 RU0 E0 HA0
  go_upto_region 6 with (fail)
  clear s0 s1 s2 s3 s4 s5 t0 t1 t2 t3 t4 t5
  generalize (w1.alloc (.cells #[.int .i64 0, .int .i64 0] 38)).alloc (.cells #[.int .i64 4, .int .i64 fl, .int .i64 st, .int .i64 (-1), .slice none 0 0, .slice none 0 0, .int .i64 0, .int .i64 0, .bool false, .int .i64 0, .int .i64 0, .int .i64 0, .int .i64 0] 25) = W1 at *
  generalize w1.heap.size + 1 = p at *
  clear hp
  obtain ⟨s0, s1, s2, s3, s4, s5⟩ := row6 I0.out.rs
  go_wp2_with fail
  refine (rhas_3 4 fl h0 hfl _).mono ?_
  rw [HPD.out]
  rintro e w2 ⟨rfl, rfl⟩
  clear s0 s1 s2 s3 s4 s5
  obtain ⟨s0, s1, s2, s3, s4, s5⟩ := row6 I0.out.rs
  go_wp2_with fail
  refine (rhas_5 4 fl h0 hfl _).mono ?_
  rw [HPW.out]
  rintro e w3 ⟨rfl, rfl⟩
  clear s0 s1 s2 s3 s4 s5
  obtain ⟨s0, s1, s2, s3, s4, s5⟩ := row6 I0.out.rs
  go_upto_region 23 with (fail)
  clear s0 s1 s2 s3 s4 s5
  obtain ⟨s0, s1, s2, s3, s4, s5⟩ := row6 I0.out.rs
  go_wp2_with fail
  refine (rsparseO _ n c f _ I0.out.rd Hf.out hn).mono ?_
  rintro e w3 (⟨m, hm, A3, c3, rfl, hr3, hf3, hb3⟩ | ⟨hbad, _⟩)
  rotate_left
  · exact absurd HEN.out hbad
  have I1 := hide (I0.out.below hb3)
  have Y3 := hide hr3
  have HM : Hid (nsN n = m) := by show nsN n = m; unfold nsN; rw [if_pos HEN.out]; omega
  have HF3 : Hid (∀ a, A3 = some a → p < a.block) := fun a e => by have h1 := hf3 a e; have h2 := rowLt I0.out.rf; omega
  clear hr3 hb3 hm hf3 I0
  clear s0 s1 s2 s3 s4 s5
  go_upto_region 24 with (fail)
  have hpl := rowLt I1.out.rf
  have Y4 := Y3.out.frs (FrS.set (B := 0) (S := Q1 p) (j := 5) (u := .slice A3 m c3) (Nat.zero_le _) hpl rfl) (fun b off _ e s => by have := HF3.out _ e; have e2 : b = p := s; simp at this; omega)
  have Y5 := hide Y4
  clear Y3 Y4 hpl
  have z := frozenRow I1.out.rf 5
  obtain ⟨cl0, cl1, cl2, cl3, cl4, cl5, cl6, cl7, cl8, cl9, cl10, cl11, cl12⟩ := row13 I1.out.rf
  have s_ := I1.out.set 5 (.slice A3 m c3)
  simp only [List.setIfInBounds_toArray, List.set_cons_zero, List.set_cons_succ] at s_
  have I2 := hide s_
  clear s_
  go_upto_region 25 with (fail)
  clear z cl0 cl1 cl2 cl3 cl4 cl5 cl6 cl7 cl8 cl9 cl10 cl11 cl12 I1
  generalize World.setCell _ ⟨p, 5, none⟩ (.slice A3 m c3) = W2 at *
  obtain ⟨el0, el1, el2, el3, el4, el5, el6, el7, el8, el9, el10, el11, el12⟩ := row13 I2.out.rf
  obtain ⟨⟨k0, f0_⟩, ⟨k1, f1_⟩, ⟨k2, f2_⟩, ⟨k3, f3_⟩, ⟨k4, f4_⟩, ⟨k5, f5_⟩, ⟨k6, f6_⟩, ⟨k7, f7_⟩, ⟨k8, f8_⟩, ⟨k9, f9_⟩, ⟨k10, f10_⟩, ⟨k11, f11_⟩, ⟨k12, f12_⟩, rq⟩ := store13 I2.out.rq (.int .i64 4) (.int .i64 fl) (.int .i64 st) (.int .i64 (-1)) (.slice none 0 0) (.slice A3 m c3) (.int .i64 0) (.int .i64 0) (.bool false) (.int .i64 0) (.int .i64 0) (.int .i64 0) (.int .i64 0)
  have gB := hide (FrS.set13 (B := w.heap.size) (S := Q1 (w.heap.size + 1)) (by omega) (rowLt I2.out.rq) rfl (.int .i64 4) (.int .i64 fl) (.int .i64 st) (.int .i64 (-1)) (.slice none 0 0) (.slice A3 m c3) (.int .i64 0) (.int .i64 0) (.bool false) (.int .i64 0) (.int .i64 0) (.int .i64 0) (.int .i64 0))
  obtain ⟨⟨l0, m0_⟩, ⟨l1, m1_⟩, ru⟩ := store2f (gB.out.row I2.out.ru (fun e => by have e2 : w.heap.size + 1 + 1 = w.heap.size + 1 := e; omega)) (.int .i64 0) (.int .i64 0)
  have gU := hide (FrS.set2 (B := w.heap.size) (S := Q1 (w.heap.size + 1 + 1)) (by omega) (rowLt (gB.out.row I2.out.ru (fun e => by have e2 : w.heap.size + 1 + 1 = w.heap.size + 1 := e; omega))) rfl (.int .i64 0) (.int .i64 0))
  have RZ := hide (gU.out.row rq (fun e => by have e2 : w.heap.size + 1 = w.heap.size + 1 + 1 := e; omega))
  have RU := hide ru
  have EE := hide ((I2.out.be.trans gB.out.bel).trans gU.out.bel)
  have hpp := I2.out.lt
  have YY3 := hide ((Y5.out.frs gB.out (fun b off _ e s => by have := HF3.out _ e; have e2 : b = w.heap.size + 1 := s; simp at this; omega)).frs gU.out (fun b off _ e s => by have := HF3.out _ e; have e2 : b = w.heap.size + 1 + 1 := s; simp at this; omega))
  clear rq ru gB gU el0 el1 el2 el3 el4 el5 el6 el7 el8 el9 el10 el11 el12
  obtain ⟨el0, el1, el2, el3, el4, el5, el6, el7, el8, el9, el10, el11, el12⟩ := row13 I2.out.rf
  go_wp2_with fail
  obtain ⟨n0_, n1_, n2_, n3_, n4_, n5_, n6_, n7_, n8_, n9_, n10_, n11_, n12_⟩ := row13 RZ.out
  obtain ⟨o0, o1⟩ := row2 RU.out
  refine bodyPost_ret (v := .tuple #[.agg #[.int .i64 4, .int .i64 fl, .int .i64 st, .int .i64 (-1), .slice none 0 0, .slice A3 m c3, .int .i64 0, .int .i64 0, .bool false, .int .i64 0, .int .i64 0, .int .i64 0, .int .i64 0], .agg #[.int .i64 0, .int .i64 0]]) ?_ rfl ⟨none, 0, A3, c3, ?_, ?_, ?_, EE.out⟩
  · rw [results_cc14 rfl]
    go_simp
  · show Ending.returned _ = _
    simp only [HM.out]
  · exact Rd.nil _ _ _
  · show Rd2 _ A3 (nsN n) _ _ _
    rw [HM.out]
    exact YY3.out
end Go.Proofs.Ytpnjamomkpkkeaa
