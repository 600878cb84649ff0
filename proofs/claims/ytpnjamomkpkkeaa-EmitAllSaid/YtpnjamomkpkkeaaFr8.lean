/- Layer 14: what the reader's frame says, type by type. -/
import Derived.Test.YtpnjamomkpkkeaaMI
namespace Go.Proofs.Ytpnjamomkpkkeaa
set_option linter.unusedVariables false
set_option linter.unusedSimpArgs false
open Go.RowKit

set_option maxRecDepth 100000 in
set_option maxHeartbeats 6400000 in
theorem frame_s (fm fl st : Int) (rs : Bool) (bd : Value) (q p c n : Nat) (A : Option Addr) (f : Nat → Int) (hf : Byt n f) (hn : n ≤ 100000) (hfl : fl ≤ 9223372036854775807) (hpd : hsB 4 fl 3 = false) (B : Nat) (hB : B ≤ q) (hBp : B ≤ p) (w : World) (hAl : ∀ a, A = some a → a.block < w.heap.size) (h : Rdr w q p A c n f 0 false false) :
    Calls Try.prog 70 #[.pointer (some ⟨q, 0, none⟩), .agg #[.int .i64 fm, .int .i64 4, .int .i64 fl, .int .i64 st, .bool rs, bd]] w (FPost 4 fl st { sn := nsN (n - 0), off := n, ms := (false || decide ((n - 0) % 6 ≠ 0)) } q p n f B w) := by
  have hq := h.ltq
  have hp := h.ltp
  obtain ⟨s0, q0, r0, e0⟩ := heap3f w #[.int .i64 fm, .int .i64 4, .int .i64 fl, .int .i64 st, .bool rs, bd] #[.int .i64 0, .int .i64 0, .int .i64 0, .int .i64 0, .slice none 0 0, .slice none 0 0, .int .i64 0, .int .i64 0, .bool false, .int .i64 0, .int .i64 0, .int .i64 0, .int .i64 0] #[.int .i64 4, .int .i64 fl, .int .i64 st, .int .i64 (-1), .slice none 0 0, .slice none 0 0, .int .i64 0, .int .i64 0, .bool false, .int .i64 0, .int .i64 0, .int .i64 0, .int .i64 0] 29 25 25
  have S0 := hide s0
  have QB0 := hide q0
  have R0 := hide r0
  have H0 := hide (h.below e0)
  have F0 : Hid (FrS B (PQ p q) w _) := FrS.ofBelow _ e0 (by omega)
  have Hf := hide hf
  have HA : Hid (∀ a, A = some a → a.block ≠ w.heap.size + 1 + 1) := fun a e => by have := hAl a e; omega
  have HPD := hide hpd
  have hpr : p ≠ w.heap.size + 1 + 1 := by omega
  have hqr : q ≠ w.heap.size + 1 + 1 := by omega
  have hBr : B ≤ w.heap.size + 1 + 1 := by omega
  have hBb : B ≤ w.heap.size + 1 := by omega
  have NRP : Hid (¬ PQ p q (w.heap.size + 1 + 1)) := fun s => s.elim (fun e => hpr e.symm) (fun e => hqr e.symm)
  have NBP : Hid (¬ PQ p q (w.heap.size + 1)) := fun s => s.elim (fun e => by omega) (fun e => by omega)
  have NSP : Hid (¬ PQ p q w.heap.size) := fun s => s.elim (fun e => by omega) (fun e => by omega)
  have NBR : Hid (¬ Q1 (w.heap.size + 1 + 1) (w.heap.size + 1)) := fun e => by have : w.heap.size + 1 = w.heap.size + 1 + 1 := e; omega
  have NSR : Hid (¬ Q1 (w.heap.size + 1 + 1) w.heap.size) := fun e => by have : w.heap.size = w.heap.size + 1 + 1 := e; omega
  have NQR : Hid (¬ Q1 (w.heap.size + 1 + 1) q) := fun e => hqr e
  have NQB : Hid (¬ Q1 (w.heap.size + 1) q) := fun e => by have : q = w.heap.size + 1 := e; omega
  have NRB : Hid (¬ Q1 (w.heap.size + 1) (w.heap.size + 1 + 1)) := fun e => by have : w.heap.size + 1 + 1 = w.heap.size + 1 := e; omega
  have hrr : w.heap.size ≤ w.heap.size + 1 + 1 := by omega
  clear s0 q0 r0 e0 h hf hAl hpd
  go_enter Try.func70, Try.ntmps70
  go_upto_region 2 with (fail)
  generalize ((w.alloc (.cells #[.int .i64 fm, .int .i64 4, .int .i64 fl, .int .i64 st, .bool rs, bd] 29)).alloc (.cells #[.int .i64 0, .int .i64 0, .int .i64 0, .int .i64 0, .slice none 0 0, .slice none 0 0, .int .i64 0, .int .i64 0, .bool false, .int .i64 0, .int .i64 0, .int .i64 0, .int .i64 0] 25)).alloc (.cells #[.int .i64 4, .int .i64 fl, .int .i64 st, .int .i64 (-1), .slice none 0 0, .slice none 0 0, .int .i64 0, .int .i64 0, .bool false, .int .i64 0, .int .i64 0, .int .i64 0, .int .i64 0] 25) = W0 at *
  obtain ⟨s0, s1, s2, s3, s4, s5⟩ := row6 S0.out
  go_wp2_with fail
  refine (has8 4 fl 3 (by omega) 8 (by decide) hfl _).mono ?_
  rw [HPD.out]
  rintro e w1 ⟨rfl, rfl⟩
  go_upto_region 13 with (fail)
  clear s0 s1 s2 s3 s4 s5
  go_wp2_with fail
  refine (settings14 q p c n 0 A f false false Hf.out hn B hB hBp _ H0.out).mono ?_
  obtain ⟨m3, hm3⟩ : ∃ m, nsN (n - 0) = m := ⟨_, rfl⟩
  obtain ⟨F3, hF3⟩ : ∃ g, (sF fun i => f (0 + i)) = g := ⟨_, rfl⟩
  obtain ⟨G3, hG3⟩ : ∃ g, (sG fun i => f (0 + i)) = g := ⟨_, rfl⟩
  rw [hm3, hF3, hG3]
  have HM3 := hide hm3
  have HF3 : Hid (sF f = F3) := by show _ = _; rw [← hF3]; funext i; simp [sF]
  have HG3 : Hid (sG f = G3) := by show _ = _; rw [← hG3]; funext i; simp [sG]
  clear hm3 hF3 hG3
  rintro e W1 ⟨⟨A3, c3', rfl, hs3, hb3⟩, hc, hg⟩
  have Z3 := hide hs3
  have hs3l := rowLt R0.out
  have Zb : Hid (∀ a, A3 = some a → w.heap.size + 1 + 1 < a.block) := fun a e => by have := hb3 a e; omega
  have hq3l := H0.out.ltq
  have hp3l := H0.out.ltp
  have Zq : Hid (∀ a, A3 = some a → ¬ PQ p q a.block) := fun a e s => by have := hb3 a e; exact s.elim (fun e => by omega) (fun e => by omega)
  clear hs3 hb3
  have H1 := hide hc
  have F1 := hide (F0.out.trans hg)
  have R1 := hide (hg.row R0.out NRP.out)
  have QB1 := hide (hg.row QB0.out NBP.out)
  have S1 := hide (hg.row S0.out NSP.out)
  clear hc hg H0 F0 R0 QB0 S0
  have Z3' : Hid (Rd2 (W1.setCell ⟨w.heap.size + 1 + 1, 5, none⟩ (.slice A3 m3 c3')) A3 m3 c3' F3 G3) := Z3.out.frs (FrS.set (B := B) (S := Q1 (w.heap.size + 1 + 1)) (j := 5) (u := .slice A3 m3 c3') hBr (rowLt R1.out) rfl) (fun b off _ e s => by have := Zb.out _ e; have e2 : b = w.heap.size + 1 + 1 := s; simp at this; omega)
  clear Z3
  have Z3 := Z3'
  clear Z3'
  have z := frozenRow R1.out 5
  have s := setRow W1 (w.heap.size + 1 + 1) 5 (.slice A3 m3 c3') R1.out
  simp only [List.setIfInBounds_toArray, List.set_cons_zero, List.set_cons_succ] at s
  have R2 := hide s
  have H2 := hide (H1.out.other (j := 5) (.slice A3 m3 c3') hpr hqr HA.out)
  have F2 := hide (F1.out.rows (FrS.set (S := PQR p q (w.heap.size + 1 + 1)) (j := 5) (u := .slice A3 m3 c3') hBr (rowLt R1.out) (.inr (.inr rfl))) hrr)
  have QB2 := hide ((FrS.set (B := B) (S := Q1 (w.heap.size + 1 + 1)) (j := 5) (u := .slice A3 m3 c3') hBr (rowLt R1.out) rfl).row QB1.out NBR.out)
  have S2 := hide ((FrS.set (B := B) (S := Q1 (w.heap.size + 1 + 1)) (j := 5) (u := .slice A3 m3 c3') hBr (rowLt R1.out) rfl).row S1.out NSR.out)
  obtain ⟨cl0, cl1, cl2, cl3, cl4, cl5, cl6, cl7, cl8, cl9, cl10, cl11, cl12⟩ := row13 R1.out
  obtain ⟨s0, s1, s2, s3, s4, s5⟩ := row6 S1.out
  clear s
  go_upto_region 21 with (fail)
  clear z cl0 cl1 cl2 cl3 cl4 cl5 cl6 cl7 cl8 cl9 cl10 cl11 cl12 H1 F1 R1 QB1 S1
  clear s0 s1 s2 s3 s4 s5
  generalize W1.setCell ⟨w.heap.size + 1 + 1, 5, none⟩ (.slice A3 m3 c3') = W2 at *
  obtain ⟨cl0, cl1, cl2, cl3, cl4, cl5, cl6, cl7, cl8, cl9, cl10, cl11, cl12⟩ := row13 R2.out
  go_wp2_with fail
  clear cl0 cl1 cl2 cl3 cl4 cl5 cl6 cl7 cl8 cl9 cl10 cl11 cl12
  refine (unpadded14 q p c n n A f (false || decide ((n - 0) % 6 ≠ 0)) false 0 (by omega) B hB hBp _ H2.out).mono ?_
  obtain ⟨u2, hu2⟩ : ∃ u, upN n n 0 = u := ⟨_, rfl⟩
  rw [hu2]
  have HU2 := hide hu2
  clear hu2
  rintro e w1 ⟨⟨A2, c2, rfl, hr2, hf2⟩, hq2, hg⟩
  have R3 := hide (hg.row R2.out NRP.out)
  have QB3 := hide (hg.row QB2.out NBP.out)
  have F3 := hide (F2.out.trans hg)
  have hl2 := rowLt R2.out
  have Y2 := hide hr2
  have K2 := hide hq2
  have Yb : Hid (∀ a, A2 = some a → w.heap.size + 1 + 1 < a.block) := fun a e => by have := hf2 a e; omega
  have Z4 := hide (Z3.out.frs hg (fun b off _ e s => Zq.out _ e s))
  clear Z3
  clear hr2 hf2 hq2 hg H2 F2 R2 QB2 S2
  have z := frozenRow R3.out 4
  have s := setRow w1 (w.heap.size + 1 + 1) 4 (.slice A2 u2 c2) R3.out
  simp only [List.setIfInBounds_toArray, List.set_cons_zero, List.set_cons_succ] at s
  have RR := hide s
  have gR : Hid (FrS B (Q1 (w.heap.size + 1 + 1)) w1 (w1.setCell ⟨w.heap.size + 1 + 1, 4, none⟩ (.slice A2 u2 c2))) := FrS.set hBr (rowLt R3.out) rfl
  have FF := hide (F3.out.rows (gR.out.wide fun _ s => .inr (.inr s)) hrr)
  have QQ := hide (gR.out.row QB3.out NBR.out)
  have KK := hide (gR.out.row K2.out NQR.out)
  have YY := hide (Y2.out.frs gR.out (fun b off _ e s => by have := Yb.out _ e; have e2 : b = w.heap.size + 1 + 1 := s; simp at this; omega))
  have ZZ := hide (Z4.out.frs gR.out (fun b off _ e s => by have := Zb.out _ e; have e2 : b = w.heap.size + 1 + 1 := s; simp at this; omega))
  clear Z4
  obtain ⟨cl0, cl1, cl2, cl3, cl4, cl5, cl6, cl7, cl8, cl9, cl10, cl11, cl12⟩ := row13 R3.out
  clear s
  go_upto_region 22 with (fail)
  clear z cl0 cl1 cl2 cl3 cl4 cl5 cl6 cl7 cl8 cl9 cl10 cl11 cl12 R3 QB3 F3 K2 Y2 gR
  generalize w1.setCell ⟨w.heap.size + 1 + 1, 4, none⟩ (.slice A2 u2 c2) = W9 at *
  obtain ⟨cl0, cl1, cl2, cl3, cl4, cl5, cl6, cl7, cl8, cl9, cl10, cl11, cl12⟩ := row13 RR.out
  obtain ⟨⟨k0, f0⟩, ⟨k1, f1⟩, ⟨k2, f2⟩, ⟨k3, f3⟩, ⟨k4, f4⟩, ⟨k5, f5⟩, ⟨k6, f6⟩, ⟨k7, f7⟩, ⟨k8, f8⟩, ⟨k9, f9⟩, ⟨k10, f10⟩, ⟨k11, f11⟩, ⟨k12, f12⟩, rq⟩ := store13 QQ.out (.int .i64 4) (.int .i64 fl) (.int .i64 st) (.int .i64 (-1)) (.slice A2 u2 c2) (.slice A3 m3 c3') (.int .i64 0) (.int .i64 0) (.bool false) (.int .i64 0) (.int .i64 0) (.int .i64 0) (.int .i64 0)
  have RQ := hide rq
  have gB := hide (FrS.set13 (S := Q1 (w.heap.size + 1)) hBb (rowLt QQ.out) rfl (.int .i64 4) (.int .i64 fl) (.int .i64 st) (.int .i64 (-1)) (.slice A2 u2 c2) (.slice A3 m3 c3') (.int .i64 0) (.int .i64 0) (.bool false) (.int .i64 0) (.int .i64 0) (.int .i64 0) (.int .i64 0))
  have FB := hide (FF.out.rows (gB.out.wide (T := PQR p q (w.heap.size + 1)) fun _ s => .inr (.inr s)) (by omega))
  have KB := hide (gB.out.row KK.out NQB.out)
  have YB := hide (YY.out.frs gB.out (fun b off _ e s => by have := Yb.out _ e; have e2 : b = w.heap.size + 1 := s; simp at this; omega))
  have ZB := hide (ZZ.out.frs gB.out (fun b off _ e s => by have := Zb.out _ e; have e2 : b = w.heap.size + 1 := s; simp at this; omega))
  clear ZZ
  clear rq QQ KK YY FF gB RR
  go_wp2_with fail
  obtain ⟨n0_, n1_, n2_, n3_, n4_, n5_, n6_, n7_, n8_, n9_, n10_, n11_, n12_⟩ := row13 RQ.out
  refine bodyPost_ret (v := .agg #[.int .i64 4, .int .i64 fl, .int .i64 st, .int .i64 (-1), .slice A2 u2 c2, .slice A3 m3 c3', .int .i64 0, .int .i64 0, .bool false, .int .i64 0, .int .i64 0, .int .i64 0, .int .i64 0]) ?_ rfl ⟨A2, c2, A3, c3', ?_, ?_, ?_, ?_, FB.out, fun a e => by have := Yb.out a e; omega, fun a e => by have := Zb.out a e; omega⟩
  · rw [results_cellS rfl]
    go_simp
  · show Ending.returned _ = _
    simp only [HM3.out, show m0 (-1) = 0 from rfl, HU2.out]
  · simp only [HM3.out, show m0 (-1) = 0 from rfl, HU2.out]
    exact YB.out
  · rw [HM3.out, HF3.out, HG3.out]; exact ZB.out
  · simp only [HM3.out, show m0 (-1) = 0 from rfl]
    exact KB.out
set_option maxRecDepth 100000 in
set_option maxHeartbeats 6400000 in
theorem frame_u0 (fm fl st : Int) (rs : Bool) (bd : Value) (q p c n : Nat) (A : Option Addr) (f : Nat → Int) (hf : Byt n f) (hn : n ≤ 100000) (hfl : fl ≤ 9223372036854775807) (hpd : hsB 5 fl 3 = false) (B : Nat) (hB : B ≤ q) (hBp : B ≤ p) (w : World) (hAl : ∀ a, A = some a → a.block < w.heap.size) (h : Rdr w q p A c n f 0 false false) :
    Calls Try.prog 70 #[.pointer (some ⟨q, 0, none⟩), .agg #[.int .i64 fm, .int .i64 5, .int .i64 fl, .int .i64 st, .bool rs, bd]] w (FPost 5 fl st { pm := lowN (nbV f n 0 4), off := (nbT n 0 4), ms := (false || nbM n 0 4) } q p n f B w) := by
  have hq := h.ltq
  have hp := h.ltp
  obtain ⟨s0, q0, r0, e0⟩ := heap3f w #[.int .i64 fm, .int .i64 5, .int .i64 fl, .int .i64 st, .bool rs, bd] #[.int .i64 0, .int .i64 0, .int .i64 0, .int .i64 0, .slice none 0 0, .slice none 0 0, .int .i64 0, .int .i64 0, .bool false, .int .i64 0, .int .i64 0, .int .i64 0, .int .i64 0] #[.int .i64 5, .int .i64 fl, .int .i64 st, .int .i64 (-1), .slice none 0 0, .slice none 0 0, .int .i64 0, .int .i64 0, .bool false, .int .i64 0, .int .i64 0, .int .i64 0, .int .i64 0] 29 25 25
  have S0 := hide s0
  have QB0 := hide q0
  have R0 := hide r0
  have H0 := hide (h.below e0)
  have F0 : Hid (FrS B (PQ p q) w _) := FrS.ofBelow _ e0 (by omega)
  have Hf := hide hf
  have HA : Hid (∀ a, A = some a → a.block ≠ w.heap.size + 1 + 1) := fun a e => by have := hAl a e; omega
  have HPD := hide hpd
  have hpr : p ≠ w.heap.size + 1 + 1 := by omega
  have hqr : q ≠ w.heap.size + 1 + 1 := by omega
  have hBr : B ≤ w.heap.size + 1 + 1 := by omega
  have hBb : B ≤ w.heap.size + 1 := by omega
  have NRP : Hid (¬ PQ p q (w.heap.size + 1 + 1)) := fun s => s.elim (fun e => hpr e.symm) (fun e => hqr e.symm)
  have NBP : Hid (¬ PQ p q (w.heap.size + 1)) := fun s => s.elim (fun e => by omega) (fun e => by omega)
  have NSP : Hid (¬ PQ p q w.heap.size) := fun s => s.elim (fun e => by omega) (fun e => by omega)
  have NBR : Hid (¬ Q1 (w.heap.size + 1 + 1) (w.heap.size + 1)) := fun e => by have : w.heap.size + 1 = w.heap.size + 1 + 1 := e; omega
  have NSR : Hid (¬ Q1 (w.heap.size + 1 + 1) w.heap.size) := fun e => by have : w.heap.size = w.heap.size + 1 + 1 := e; omega
  have NQR : Hid (¬ Q1 (w.heap.size + 1 + 1) q) := fun e => hqr e
  have NQB : Hid (¬ Q1 (w.heap.size + 1) q) := fun e => by have : q = w.heap.size + 1 := e; omega
  have NRB : Hid (¬ Q1 (w.heap.size + 1) (w.heap.size + 1 + 1)) := fun e => by have : w.heap.size + 1 + 1 = w.heap.size + 1 := e; omega
  have hrr : w.heap.size ≤ w.heap.size + 1 + 1 := by omega
  clear s0 q0 r0 e0 h hf hAl hpd
  go_enter Try.func70, Try.ntmps70
  go_upto_region 2 with (fail)
  generalize ((w.alloc (.cells #[.int .i64 fm, .int .i64 5, .int .i64 fl, .int .i64 st, .bool rs, bd] 29)).alloc (.cells #[.int .i64 0, .int .i64 0, .int .i64 0, .int .i64 0, .slice none 0 0, .slice none 0 0, .int .i64 0, .int .i64 0, .bool false, .int .i64 0, .int .i64 0, .int .i64 0, .int .i64 0] 25)).alloc (.cells #[.int .i64 5, .int .i64 fl, .int .i64 st, .int .i64 (-1), .slice none 0 0, .slice none 0 0, .int .i64 0, .int .i64 0, .bool false, .int .i64 0, .int .i64 0, .int .i64 0, .int .i64 0] 25) = W0 at *
  obtain ⟨s0, s1, s2, s3, s4, s5⟩ := row6 S0.out
  go_wp2_with fail
  refine (has8 5 fl 3 (by omega) 8 (by decide) hfl _).mono ?_
  rw [HPD.out]
  rintro e w1 ⟨rfl, rfl⟩
  go_upto_region 15 with (fail)
  clear s0 s1 s2 s3 s4 s5
  go_wp2_with fail
  refine (low14 q p c n 0 A f false false Hf.out B hB hBp _ H0.out).mono ?_
  obtain ⟨Xl, hXl⟩ : ∃ x, lowN (nbV f n 0 4) = x := ⟨_, rfl⟩
  obtain ⟨Xm, hXm⟩ : ∃ x, lowB (nbV f n 0 4) = x := ⟨_, rfl⟩
  rw [hXl, hXm]
  have HXl := hide hXl
  clear hXl hXm
  rintro e W1 ⟨rfl, hc, hg⟩
  have H1 := hide hc
  have F1 := hide (F0.out.trans hg)
  have R1 := hide (hg.row R0.out NRP.out)
  have QB1 := hide (hg.row QB0.out NBP.out)
  have S1 := hide (hg.row S0.out NSP.out)
  clear hc hg H0 F0 R0 QB0 S0
  have z := frozenRow R1.out 9
  have s := setRow W1 (w.heap.size + 1 + 1) 9 (.int .i64 Xl) R1.out
  simp only [List.setIfInBounds_toArray, List.set_cons_zero, List.set_cons_succ] at s
  have R2 := hide s
  have H2 := hide (H1.out.other (j := 9) (.int .i64 Xl) hpr hqr HA.out)
  have F2 := hide (F1.out.rows (FrS.set (S := PQR p q (w.heap.size + 1 + 1)) (j := 9) (u := .int .i64 Xl) hBr (rowLt R1.out) (.inr (.inr rfl))) hrr)
  have QB2 := hide ((FrS.set (B := B) (S := Q1 (w.heap.size + 1 + 1)) (j := 9) (u := .int .i64 Xl) hBr (rowLt R1.out) rfl).row QB1.out NBR.out)
  have S2 := hide ((FrS.set (B := B) (S := Q1 (w.heap.size + 1 + 1)) (j := 9) (u := .int .i64 Xl) hBr (rowLt R1.out) rfl).row S1.out NSR.out)
  obtain ⟨cl0, cl1, cl2, cl3, cl4, cl5, cl6, cl7, cl8, cl9, cl10, cl11, cl12⟩ := row13 R1.out
  obtain ⟨s0, s1, s2, s3, s4, s5⟩ := row6 S1.out
  clear s
  go_upto_region 21 with (fail)
  clear z cl0 cl1 cl2 cl3 cl4 cl5 cl6 cl7 cl8 cl9 cl10 cl11 cl12 H1 F1 R1 QB1 S1
  clear s0 s1 s2 s3 s4 s5
  generalize W1.setCell ⟨w.heap.size + 1 + 1, 9, none⟩ (.int .i64 Xl) = W2 at *
  obtain ⟨cl0, cl1, cl2, cl3, cl4, cl5, cl6, cl7, cl8, cl9, cl10, cl11, cl12⟩ := row13 R2.out
  go_wp2_with fail
  clear cl0 cl1 cl2 cl3 cl4 cl5 cl6 cl7 cl8 cl9 cl10 cl11 cl12
  refine (unpadded14 q p c n (nbT n 0 4) A f (false || nbM n 0 4) false 0 (by omega) B hB hBp _ H2.out).mono ?_
  obtain ⟨u2, hu2⟩ : ∃ u, upN n (nbT n 0 4) 0 = u := ⟨_, rfl⟩
  rw [hu2]
  have HU2 := hide hu2
  clear hu2
  rintro e w1 ⟨⟨A2, c2, rfl, hr2, hf2⟩, hq2, hg⟩
  have R3 := hide (hg.row R2.out NRP.out)
  have QB3 := hide (hg.row QB2.out NBP.out)
  have F3 := hide (F2.out.trans hg)
  have hl2 := rowLt R2.out
  have Y2 := hide hr2
  have K2 := hide hq2
  have Yb : Hid (∀ a, A2 = some a → w.heap.size + 1 + 1 < a.block) := fun a e => by have := hf2 a e; omega
  clear hr2 hf2 hq2 hg H2 F2 R2 QB2 S2
  have z := frozenRow R3.out 4
  have s := setRow w1 (w.heap.size + 1 + 1) 4 (.slice A2 u2 c2) R3.out
  simp only [List.setIfInBounds_toArray, List.set_cons_zero, List.set_cons_succ] at s
  have RR := hide s
  have gR : Hid (FrS B (Q1 (w.heap.size + 1 + 1)) w1 (w1.setCell ⟨w.heap.size + 1 + 1, 4, none⟩ (.slice A2 u2 c2))) := FrS.set hBr (rowLt R3.out) rfl
  have FF := hide (F3.out.rows (gR.out.wide fun _ s => .inr (.inr s)) hrr)
  have QQ := hide (gR.out.row QB3.out NBR.out)
  have KK := hide (gR.out.row K2.out NQR.out)
  have YY := hide (Y2.out.frs gR.out (fun b off _ e s => by have := Yb.out _ e; have e2 : b = w.heap.size + 1 + 1 := s; simp at this; omega))
  obtain ⟨cl0, cl1, cl2, cl3, cl4, cl5, cl6, cl7, cl8, cl9, cl10, cl11, cl12⟩ := row13 R3.out
  clear s
  go_upto_region 22 with (fail)
  clear z cl0 cl1 cl2 cl3 cl4 cl5 cl6 cl7 cl8 cl9 cl10 cl11 cl12 R3 QB3 F3 K2 Y2 gR
  generalize w1.setCell ⟨w.heap.size + 1 + 1, 4, none⟩ (.slice A2 u2 c2) = W9 at *
  obtain ⟨cl0, cl1, cl2, cl3, cl4, cl5, cl6, cl7, cl8, cl9, cl10, cl11, cl12⟩ := row13 RR.out
  obtain ⟨⟨k0, f0⟩, ⟨k1, f1⟩, ⟨k2, f2⟩, ⟨k3, f3⟩, ⟨k4, f4⟩, ⟨k5, f5⟩, ⟨k6, f6⟩, ⟨k7, f7⟩, ⟨k8, f8⟩, ⟨k9, f9⟩, ⟨k10, f10⟩, ⟨k11, f11⟩, ⟨k12, f12⟩, rq⟩ := store13 QQ.out (.int .i64 5) (.int .i64 fl) (.int .i64 st) (.int .i64 (-1)) (.slice A2 u2 c2) (.slice none 0 0) (.int .i64 0) (.int .i64 0) (.bool false) (.int .i64 Xl) (.int .i64 0) (.int .i64 0) (.int .i64 0)
  have RQ := hide rq
  have gB := hide (FrS.set13 (S := Q1 (w.heap.size + 1)) hBb (rowLt QQ.out) rfl (.int .i64 5) (.int .i64 fl) (.int .i64 st) (.int .i64 (-1)) (.slice A2 u2 c2) (.slice none 0 0) (.int .i64 0) (.int .i64 0) (.bool false) (.int .i64 Xl) (.int .i64 0) (.int .i64 0) (.int .i64 0))
  have FB := hide (FF.out.rows (gB.out.wide (T := PQR p q (w.heap.size + 1)) fun _ s => .inr (.inr s)) (by omega))
  have KB := hide (gB.out.row KK.out NQB.out)
  have YB := hide (YY.out.frs gB.out (fun b off _ e s => by have := Yb.out _ e; have e2 : b = w.heap.size + 1 := s; simp at this; omega))
  clear rq QQ KK YY FF gB RR
  go_wp2_with fail
  obtain ⟨n0_, n1_, n2_, n3_, n4_, n5_, n6_, n7_, n8_, n9_, n10_, n11_, n12_⟩ := row13 RQ.out
  refine bodyPost_ret (v := .agg #[.int .i64 5, .int .i64 fl, .int .i64 st, .int .i64 (-1), .slice A2 u2 c2, .slice none 0 0, .int .i64 0, .int .i64 0, .bool false, .int .i64 Xl, .int .i64 0, .int .i64 0, .int .i64 0]) ?_ rfl ⟨A2, c2, none, 0, ?_, ?_, Rd2.nil _ _ _, ?_, FB.out, fun a e => by have := Yb.out a e; omega, fun a e => by cases e⟩
  · rw [results_cellS rfl]
    go_simp
  · show Ending.returned _ = _
    simp only [HXl.out, show m0 (-1) = 0 from rfl, HU2.out]
  · simp only [HXl.out, show m0 (-1) = 0 from rfl, HU2.out]
    exact YB.out
  · simp only [HXl.out, show m0 (-1) = 0 from rfl]
    exact KB.out
set_option maxRecDepth 100000 in
set_option maxHeartbeats 6400000 in
theorem frame_u1 (fm fl st : Int) (rs : Bool) (bd : Value) (q p c n : Nat) (A : Option Addr) (f : Nat → Int) (hf : Byt n f) (hn : n ≤ 100000) (hfl : fl ≤ 9223372036854775807) (hpd : hsB 5 fl 3 = true) (B : Nat) (hB : B ≤ q) (hBp : B ≤ p) (w : World) (hAl : ∀ a, A = some a → a.block < w.heap.size) (h : Rdr w q p A c n f 0 false false) :
    Calls Try.prog 70 #[.pointer (some ⟨q, 0, none⟩), .agg #[.int .i64 fm, .int .i64 5, .int .i64 fl, .int .i64 st, .bool rs, bd]] w (FPost 5 fl st { pad := nbV f n 0 1, pm := lowN (nbV f n (nbT n 0 1) 4), off := (nbT n (nbT n 0 1) 4), ms := ((false || (nbM n 0 1)) || nbM n (nbT n 0 1) 4) } q p n f B w) := by
  have hq := h.ltq
  have hp := h.ltp
  obtain ⟨s0, q0, r0, e0⟩ := heap3f w #[.int .i64 fm, .int .i64 5, .int .i64 fl, .int .i64 st, .bool rs, bd] #[.int .i64 0, .int .i64 0, .int .i64 0, .int .i64 0, .slice none 0 0, .slice none 0 0, .int .i64 0, .int .i64 0, .bool false, .int .i64 0, .int .i64 0, .int .i64 0, .int .i64 0] #[.int .i64 5, .int .i64 fl, .int .i64 st, .int .i64 (-1), .slice none 0 0, .slice none 0 0, .int .i64 0, .int .i64 0, .bool false, .int .i64 0, .int .i64 0, .int .i64 0, .int .i64 0] 29 25 25
  have S0 := hide s0
  have QB0 := hide q0
  have R0 := hide r0
  have H0 := hide (h.below e0)
  have F0 : Hid (FrS B (PQ p q) w _) := FrS.ofBelow _ e0 (by omega)
  have Hf := hide hf
  have HA : Hid (∀ a, A = some a → a.block ≠ w.heap.size + 1 + 1) := fun a e => by have := hAl a e; omega
  have HPD := hide hpd
  have hpr : p ≠ w.heap.size + 1 + 1 := by omega
  have hqr : q ≠ w.heap.size + 1 + 1 := by omega
  have hBr : B ≤ w.heap.size + 1 + 1 := by omega
  have hBb : B ≤ w.heap.size + 1 := by omega
  have NRP : Hid (¬ PQ p q (w.heap.size + 1 + 1)) := fun s => s.elim (fun e => hpr e.symm) (fun e => hqr e.symm)
  have NBP : Hid (¬ PQ p q (w.heap.size + 1)) := fun s => s.elim (fun e => by omega) (fun e => by omega)
  have NSP : Hid (¬ PQ p q w.heap.size) := fun s => s.elim (fun e => by omega) (fun e => by omega)
  have NBR : Hid (¬ Q1 (w.heap.size + 1 + 1) (w.heap.size + 1)) := fun e => by have : w.heap.size + 1 = w.heap.size + 1 + 1 := e; omega
  have NSR : Hid (¬ Q1 (w.heap.size + 1 + 1) w.heap.size) := fun e => by have : w.heap.size = w.heap.size + 1 + 1 := e; omega
  have NQR : Hid (¬ Q1 (w.heap.size + 1 + 1) q) := fun e => hqr e
  have NQB : Hid (¬ Q1 (w.heap.size + 1) q) := fun e => by have : q = w.heap.size + 1 := e; omega
  have NRB : Hid (¬ Q1 (w.heap.size + 1) (w.heap.size + 1 + 1)) := fun e => by have : w.heap.size + 1 + 1 = w.heap.size + 1 := e; omega
  have hrr : w.heap.size ≤ w.heap.size + 1 + 1 := by omega
  clear s0 q0 r0 e0 h hf hAl hpd
  go_enter Try.func70, Try.ntmps70
  go_upto_region 2 with (fail)
  generalize ((w.alloc (.cells #[.int .i64 fm, .int .i64 5, .int .i64 fl, .int .i64 st, .bool rs, bd] 29)).alloc (.cells #[.int .i64 0, .int .i64 0, .int .i64 0, .int .i64 0, .slice none 0 0, .slice none 0 0, .int .i64 0, .int .i64 0, .bool false, .int .i64 0, .int .i64 0, .int .i64 0, .int .i64 0] 25)).alloc (.cells #[.int .i64 5, .int .i64 fl, .int .i64 st, .int .i64 (-1), .slice none 0 0, .slice none 0 0, .int .i64 0, .int .i64 0, .bool false, .int .i64 0, .int .i64 0, .int .i64 0, .int .i64 0] 25) = W0 at *
  obtain ⟨s0, s1, s2, s3, s4, s5⟩ := row6 S0.out
  go_wp2_with fail
  refine (has8 5 fl 3 (by omega) 8 (by decide) hfl _).mono ?_
  rw [HPD.out]
  rintro e w1 ⟨rfl, rfl⟩
  clear s0 s1 s2 s3 s4 s5
  go_wp2_with fail
  refine (number14 q p c n 0 1 A f false false 1 rfl (by omega) (by omega) Hf.out B hB hBp _ H0.out).mono ?_
  obtain ⟨X0, hX0⟩ : ∃ x, nbV f n 0 1 = x := ⟨_, rfl⟩
  rw [hX0]
  have HX0 := hide hX0
  have hX0p : 0 ≤ X0 := by rw [← hX0]; exact nbV_nonneg Hf.out
  clear hX0
  rintro e W1 ⟨rfl, hc, hg⟩
  have H1 := hide hc
  have F1 := hide (F0.out.trans hg)
  have R1 := hide (hg.row R0.out NRP.out)
  have QB1 := hide (hg.row QB0.out NBP.out)
  have S1 := hide (hg.row S0.out NSP.out)
  clear hc hg H0 F0 R0 QB0 S0
  have z := frozenRow R1.out 3
  have s := setRow W1 (w.heap.size + 1 + 1) 3 (.int .i64 X0) R1.out
  simp only [List.setIfInBounds_toArray, List.set_cons_zero, List.set_cons_succ] at s
  have R2 := hide s
  have H2 := hide (H1.out.other (j := 3) (.int .i64 X0) hpr hqr HA.out)
  have F2 := hide (F1.out.rows (FrS.set (S := PQR p q (w.heap.size + 1 + 1)) (j := 3) (u := .int .i64 X0) hBr (rowLt R1.out) (.inr (.inr rfl))) hrr)
  have QB2 := hide ((FrS.set (B := B) (S := Q1 (w.heap.size + 1 + 1)) (j := 3) (u := .int .i64 X0) hBr (rowLt R1.out) rfl).row QB1.out NBR.out)
  have S2 := hide ((FrS.set (B := B) (S := Q1 (w.heap.size + 1 + 1)) (j := 3) (u := .int .i64 X0) hBr (rowLt R1.out) rfl).row S1.out NSR.out)
  obtain ⟨cl0, cl1, cl2, cl3, cl4, cl5, cl6, cl7, cl8, cl9, cl10, cl11, cl12⟩ := row13 R1.out
  obtain ⟨s0, s1, s2, s3, s4, s5⟩ := row6 S1.out
  clear s
  go_upto_region 4 with (fail)
  clear z cl0 cl1 cl2 cl3 cl4 cl5 cl6 cl7 cl8 cl9 cl10 cl11 cl12 H1 F1 R1 QB1 S1
  clear s0 s1 s2 s3 s4 s5
  generalize W1.setCell ⟨w.heap.size + 1 + 1, 3, none⟩ (.int .i64 X0) = W2 at *
  obtain ⟨s0, s1, s2, s3, s4, s5⟩ := row6 S2.out
  go_upto_region 15 with (fail)
  clear s0 s1 s2 s3 s4 s5
  go_wp2_with fail
  refine (low14 q p c n (nbT n 0 1) A f (false || nbM n 0 1) false Hf.out B hB hBp _ H2.out).mono ?_
  obtain ⟨Xl, hXl⟩ : ∃ x, lowN (nbV f n (nbT n 0 1) 4) = x := ⟨_, rfl⟩
  obtain ⟨Xm, hXm⟩ : ∃ x, lowB (nbV f n (nbT n 0 1) 4) = x := ⟨_, rfl⟩
  rw [hXl, hXm]
  have HXl := hide hXl
  clear hXl hXm
  rintro e W3 ⟨rfl, hc, hg⟩
  have H3 := hide hc
  have F3 := hide (F2.out.trans hg)
  have R3 := hide (hg.row R2.out NRP.out)
  have QB3 := hide (hg.row QB2.out NBP.out)
  have S3 := hide (hg.row S2.out NSP.out)
  clear hc hg H2 F2 R2 QB2 S2
  have z := frozenRow R3.out 9
  have s := setRow W3 (w.heap.size + 1 + 1) 9 (.int .i64 Xl) R3.out
  simp only [List.setIfInBounds_toArray, List.set_cons_zero, List.set_cons_succ] at s
  have R4 := hide s
  have H4 := hide (H3.out.other (j := 9) (.int .i64 Xl) hpr hqr HA.out)
  have F4 := hide (F3.out.rows (FrS.set (S := PQR p q (w.heap.size + 1 + 1)) (j := 9) (u := .int .i64 Xl) hBr (rowLt R3.out) (.inr (.inr rfl))) hrr)
  have QB4 := hide ((FrS.set (B := B) (S := Q1 (w.heap.size + 1 + 1)) (j := 9) (u := .int .i64 Xl) hBr (rowLt R3.out) rfl).row QB3.out NBR.out)
  have S4 := hide ((FrS.set (B := B) (S := Q1 (w.heap.size + 1 + 1)) (j := 9) (u := .int .i64 Xl) hBr (rowLt R3.out) rfl).row S3.out NSR.out)
  obtain ⟨cl0, cl1, cl2, cl3, cl4, cl5, cl6, cl7, cl8, cl9, cl10, cl11, cl12⟩ := row13 R3.out
  obtain ⟨s0, s1, s2, s3, s4, s5⟩ := row6 S3.out
  clear s
  go_upto_region 21 with (fail)
  clear z cl0 cl1 cl2 cl3 cl4 cl5 cl6 cl7 cl8 cl9 cl10 cl11 cl12 H3 F3 R3 QB3 S3
  clear s0 s1 s2 s3 s4 s5
  generalize W3.setCell ⟨w.heap.size + 1 + 1, 9, none⟩ (.int .i64 Xl) = W4 at *
  obtain ⟨cl0, cl1, cl2, cl3, cl4, cl5, cl6, cl7, cl8, cl9, cl10, cl11, cl12⟩ := row13 R4.out
  go_wp2_with fail
  have hmx : (if X0 < 0 then (0 : Int) else X0) = X0 := if_neg (by omega)
  try rw [hmx]
  clear hmx
  clear cl0 cl1 cl2 cl3 cl4 cl5 cl6 cl7 cl8 cl9 cl10 cl11 cl12
  refine (unpadded14 q p c n (nbT n (nbT n 0 1) 4) A f ((false || nbM n 0 1) || nbM n (nbT n 0 1) 4) false X0 hX0p B hB hBp _ H4.out).mono ?_
  obtain ⟨u2, hu2⟩ : ∃ u, upN n (nbT n (nbT n 0 1) 4) X0 = u := ⟨_, rfl⟩
  rw [hu2]
  have HU2 := hide hu2
  clear hu2
  rintro e w1 ⟨⟨A2, c2, rfl, hr2, hf2⟩, hq2, hg⟩
  have R5 := hide (hg.row R4.out NRP.out)
  have QB5 := hide (hg.row QB4.out NBP.out)
  have F5 := hide (F4.out.trans hg)
  have hl2 := rowLt R4.out
  have Y2 := hide hr2
  have K2 := hide hq2
  have Yb : Hid (∀ a, A2 = some a → w.heap.size + 1 + 1 < a.block) := fun a e => by have := hf2 a e; omega
  clear hr2 hf2 hq2 hg H4 F4 R4 QB4 S4
  have z := frozenRow R5.out 4
  have s := setRow w1 (w.heap.size + 1 + 1) 4 (.slice A2 u2 c2) R5.out
  simp only [List.setIfInBounds_toArray, List.set_cons_zero, List.set_cons_succ] at s
  have RR := hide s
  have gR : Hid (FrS B (Q1 (w.heap.size + 1 + 1)) w1 (w1.setCell ⟨w.heap.size + 1 + 1, 4, none⟩ (.slice A2 u2 c2))) := FrS.set hBr (rowLt R5.out) rfl
  have FF := hide (F5.out.rows (gR.out.wide fun _ s => .inr (.inr s)) hrr)
  have QQ := hide (gR.out.row QB5.out NBR.out)
  have KK := hide (gR.out.row K2.out NQR.out)
  have YY := hide (Y2.out.frs gR.out (fun b off _ e s => by have := Yb.out _ e; have e2 : b = w.heap.size + 1 + 1 := s; simp at this; omega))
  obtain ⟨cl0, cl1, cl2, cl3, cl4, cl5, cl6, cl7, cl8, cl9, cl10, cl11, cl12⟩ := row13 R5.out
  clear s
  go_upto_region 22 with (fail)
  clear z cl0 cl1 cl2 cl3 cl4 cl5 cl6 cl7 cl8 cl9 cl10 cl11 cl12 R5 QB5 F5 K2 Y2 gR
  generalize w1.setCell ⟨w.heap.size + 1 + 1, 4, none⟩ (.slice A2 u2 c2) = W9 at *
  obtain ⟨cl0, cl1, cl2, cl3, cl4, cl5, cl6, cl7, cl8, cl9, cl10, cl11, cl12⟩ := row13 RR.out
  obtain ⟨⟨k0, f0⟩, ⟨k1, f1⟩, ⟨k2, f2⟩, ⟨k3, f3⟩, ⟨k4, f4⟩, ⟨k5, f5⟩, ⟨k6, f6⟩, ⟨k7, f7⟩, ⟨k8, f8⟩, ⟨k9, f9⟩, ⟨k10, f10⟩, ⟨k11, f11⟩, ⟨k12, f12⟩, rq⟩ := store13 QQ.out (.int .i64 5) (.int .i64 fl) (.int .i64 st) (.int .i64 X0) (.slice A2 u2 c2) (.slice none 0 0) (.int .i64 0) (.int .i64 0) (.bool false) (.int .i64 Xl) (.int .i64 0) (.int .i64 0) (.int .i64 0)
  have RQ := hide rq
  have gB := hide (FrS.set13 (S := Q1 (w.heap.size + 1)) hBb (rowLt QQ.out) rfl (.int .i64 5) (.int .i64 fl) (.int .i64 st) (.int .i64 X0) (.slice A2 u2 c2) (.slice none 0 0) (.int .i64 0) (.int .i64 0) (.bool false) (.int .i64 Xl) (.int .i64 0) (.int .i64 0) (.int .i64 0))
  have FB := hide (FF.out.rows (gB.out.wide (T := PQR p q (w.heap.size + 1)) fun _ s => .inr (.inr s)) (by omega))
  have KB := hide (gB.out.row KK.out NQB.out)
  have YB := hide (YY.out.frs gB.out (fun b off _ e s => by have := Yb.out _ e; have e2 : b = w.heap.size + 1 := s; simp at this; omega))
  clear rq QQ KK YY FF gB RR
  go_wp2_with fail
  obtain ⟨n0_, n1_, n2_, n3_, n4_, n5_, n6_, n7_, n8_, n9_, n10_, n11_, n12_⟩ := row13 RQ.out
  refine bodyPost_ret (v := .agg #[.int .i64 5, .int .i64 fl, .int .i64 st, .int .i64 X0, .slice A2 u2 c2, .slice none 0 0, .int .i64 0, .int .i64 0, .bool false, .int .i64 Xl, .int .i64 0, .int .i64 0, .int .i64 0]) ?_ rfl ⟨A2, c2, none, 0, ?_, ?_, Rd2.nil _ _ _, ?_, FB.out, fun a e => by have := Yb.out a e; omega, fun a e => by cases e⟩
  · rw [results_cellS rfl]
    go_simp
  · show Ending.returned _ = _
    simp only [HX0.out, HXl.out, m0_of hX0p, HU2.out]
  · simp only [HX0.out, HXl.out, m0_of hX0p, HU2.out]
    exact YB.out
  · simp only [HX0.out, HXl.out, m0_of hX0p]
    exact KB.out
end Go.Proofs.Ytpnjamomkpkkeaa
