/- Layer 30: a part with which the block ends. -/
import Derived.Test.YtelcpfjifhobjaaBk6
namespace Go.Proofs.Ytelcpfjifhobjaa
set_option linter.unusedVariables false
set_option linter.unusedSimpArgs false
open Go.RowKit


set_option maxRecDepth 100000 in
set_option maxHeartbeats 3200000 in
theorem addEnd30 (T fl st pd : Int) (A : Option Addr) (n c : Nat) (f : Nat → Int) (A2 : Option Addr) (n2 c2 : Nat) (s t : Nat → Int) (wt pa : Int) (al : Bool) (pm la co sp : Int) (B : Nat) (p : Nat) (fp : Nat → Prop) (most : Int) (X : BS) (w : World) (h : AsOk B w p fp most X) (hBw : B ≤ w.heap.size) (hT : takesB X T st = true) (hP : partB T = true) (hmost : 0 ≤ most ∧ most ≤ 9223372036854775807) (hfl : fl ≤ 9223372036854775807) (ha : Rd .u8 w A n c f) (hs : Rd2 w A2 n2 c2 s t) (hn : X.N + n ≤ 100000) (hn2 : n2 ≤ 100000) (hAp : ∀ b off, 0 < n → A = some ⟨b, off, none⟩ → b ≠ p) (hSp : ∀ b off, 0 < n2 → A2 = some ⟨b, off, none⟩ → b ≠ p) (hfit : ¬ (most - (X.N : Int) < (n : Int))) (hbl : hsB T fl 2 = true) (Y : BS) (hY : takeX X T fl st pd n f n2 s t wt pa al pm la co sp = Y) :
    Calls Try.prog 25 #[.pointer (some ⟨p, 0, none⟩), .agg #[.int .i64 T, .int .i64 fl, .int .i64 st, .int .i64 pd, .slice A n c, .slice A2 n2 c2, .int .i64 wt, .int .i64 pa, .bool al, .int .i64 pm, .int .i64 la, .int .i64 co, .int .i64 sp]] w fun e w' => ∃ A4 c4 A5 c5, e = .returned (.tuple #[.agg #[.int .i64 Y.T, .int .i64 Y.fl, .int .i64 Y.st, .int .i64 Y.pd, .slice A4 Y.N c4, .slice A5 Y.n2 c5, .int .i64 Y.wt, .int .i64 Y.pa, .bool Y.al, .int .i64 Y.pm, .int .i64 Y.la, .int .i64 Y.co, .int .i64 Y.sp], .bool true, .int .i64 0]) ∧ Rd .u8 w' A4 Y.N c4 Y.D ∧ Rd2 w' A5 Y.n2 c5 Y.s Y.t ∧ AsOk B w' p (Q1 p) most {} ∧ FrS B fp w w' := by
  have HY := hide hY
  clear hY
  have hd := decide_eq_false hfit
  have HNN : Hid (X.N ≤ 100000) := by show _ ≤ _; omega
  have HFIT := hide hn
  have HAP := hide hAp
  have HSP := hide hSp
  have HBL := hide hbl
  have HA := hide ha
  have HS := hide hs
  have hn1 : n ≤ 100000 := by omega
  clear hfit hn hAp hSp hbl ha hs
  obtain ⟨x0, x1, e0⟩ := heap2fZ w #[.int .i64 T, .int .i64 fl, .int .i64 st, .int .i64 pd, .slice A n c, .slice A2 n2 c2, .int .i64 wt, .int .i64 pa, .bool al, .int .i64 pm, .int .i64 la, .int .i64 co, .int .i64 sp] z13 28 28
  have h0 := h.below e0
  have hlo := h.lo
  have R0 := hide x0
  have U0 := hide x1
  have E0 := hide e0
  have K0 := hide h0
  have HLO := hide hlo
  have HA0 := hide (HA.out.below e0)
  have HS0 := hide (HS.out.below e0)
  clear x0 x1 h0 hlo h
  clear e0
  clear HA HS
  have HTK := hide hT
  have HPT := hide hP
  have HM := hide hmost
  clear hT hP hmost
  go_enter Try.func25, Try.ntmps25
  go_upto_region 1 with (fail)
  have hW0 : ((w.alloc (.cells #[.int .i64 T, .int .i64 fl, .int .i64 st, .int .i64 pd, .slice A n c, .slice A2 n2 c2, .int .i64 wt, .int .i64 pa, .bool al, .int .i64 pm, .int .i64 la, .int .i64 co, .int .i64 sp] 28)).alloc (.cells z13 28)).heap.size = w.heap.size + 1 + 1 := by simp
  generalize (w.alloc (.cells #[.int .i64 T, .int .i64 fl, .int .i64 st, .int .i64 pd, .slice A n c, .slice A2 n2 c2, .int .i64 wt, .int .i64 pa, .bool al, .int .i64 pm, .int .i64 la, .int .i64 co, .int .i64 sp] 28)).alloc (.cells z13 28) = W0 at *
  obtain ⟨f0_, f1_, f2_, f3_, f4_, f5_, f6_, f7_, f8_, f9_, f10_, f11_, f12_⟩ := row13 R0.out
  go_wp2_with fail
  refine (takes30 T fl st pd A n c A2 n2 c2 wt pa al pm la co sp B p fp most X _ K0.out).mono ?_
  rw [HTK.out]
  rintro e w1 ⟨rfl, hb⟩
  have R1 := hide (keepRow R0.out hb)
  have U1 := hide (keepRow U0.out hb)
  have E1 := hide (E0.out.of hb)
  have K1 := hide (K0.out.below hb)
  have hs1 := hb.size
  have HA1 := hide (HA0.out.below hb)
  have HS1 := hide (HS0.out.below hb)
  clear hb f0_ f1_ f2_ f3_ f4_ f5_ f6_ f7_ f8_ f9_ f10_ f11_ f12_ R0 U0 E0 K0 HA0 HS0
  obtain ⟨f0_, f1_, f2_, f3_, f4_, f5_, f6_, f7_, f8_, f9_, f10_, f11_, f12_⟩ := row13 R1.out
  go_wp2_with fail
  refine (part30 T _).mono ?_
  rw [HPT.out]
  rintro e w2 ⟨rfl, rfl⟩
  obtain ⟨f0_, f1_, f2_, f3_, f4_, f5_, f6_, f7_, f8_, f9_, f10_, f11_, f12_⟩ := row13 R1.out
  obtain ⟨v9, B9, d9, hr9, ho9, _, hv9, _⟩ := K1.out.ex
  obtain ⟨A9, c9, rfl, _, _⟩ := ho9.rd
  obtain ⟨c0_, c1_, c2_, c3_, c4_, c5_, c6_, c7_, c8_, c9_, c10_, c11_, c12_, c13_, c14_⟩ := row15 hr9
  have hN9 : X.N ≤ 9223372036854775807 := by have h1 := HNN.out; omega
  have hwr : IntKind.i64.wrap (most - (X.N : Int)) = most - (X.N : Int) := IntWalk.i64_in _ (by have h1 := HNN.out; have h2 := HM.out; omega)
  clear hr9 ho9 hv9
  go_upto_region 7 with (fail)
  go_quiet (fail)
  have RD : Hid ((w1.drewN nq).heap[w.heap.size]? = some (.cells #[.int .i64 T, .int .i64 fl, .int .i64 st, .int .i64 pd, .slice A n c, .slice A2 n2 c2, .int .i64 wt, .int .i64 pa, .bool al, .int .i64 pm, .int .i64 la, .int .i64 co, .int .i64 sp] 28 (0, 0))) := R1
  have UD : Hid ((w1.drewN nq).heap[w.heap.size + 1]? = some (.cells z13 28 (0, 0))) := U1
  have KD : Hid (AsOk B (w1.drewN nq) p fp most X) := K1.out.below (drawn_below (Drawn.of w1 nq) _)
  have ED : Hid (Below w.heap.size w (w1.drewN nq)) := E1.out.of (drawn_below (Drawn.of w1 nq) _)
  have hsD : w1.heap.size ≤ (w1.drewN nq).heap.size := Nat.le_refl _
  have HAD : Hid (Rd .u8 (w1.drewN nq) A n c f) := HA1
  have HSD : Hid (Rd2 (w1.drewN nq) A2 n2 c2 s t) := HS1
  clear R1 U1 K1 E1 HA1 HS1 f0_ f1_ f2_ f3_ f4_ f5_ f6_ f7_ f8_ f9_ f10_ f11_ f12_ c0_ c1_ c2_ c3_ c4_ c5_ c6_ c7_ c8_ c9_ c10_ c11_ c12_ c13_ c14_
  generalize w1.drewN nq = W2 at *
  obtain ⟨f0_, f1_, f2_, f3_, f4_, f5_, f6_, f7_, f8_, f9_, f10_, f11_, f12_⟩ := row13 RD.out
  go_wp2_with fail
  refine (take30 T fl st pd A n c f A2 n2 c2 s t wt pa al pm la co sp B p fp most X _ KD.out HAD.out HSD.out HFIT.out hn2 HAP.out HSP.out).mono ?_
  rw [HY.out]
  rintro e w3 ⟨rfl, fp', hK, hfp, hF⟩
  have K3 := hide hK
  have FP3 := hide hfp
  have hs3 := hF.bel.size
  have R3 := hide (hF.row RD.out (fun i => by have h1 := (HLO.out _ i).2; omega))
  have U3 := hide (hF.row UD.out (fun i => by have h1 := (HLO.out _ i).2; omega))
  have F3 := hide ((FrS.ofBelow fp ED.out hBw).thenNew hF (fun i hi => .inl hi))
  have NR3 : Hid (∀ i, fp' i → ¬ Q1 (w.heap.size + 1) i) := fun i hi s => by
    have h2 : i = w.heap.size + 1 := s
    rcases hfp i hi with h | h
    · have h1 := (HLO.out i h).2; omega
    · omega
  have FPF : Hid (∀ i, fp' i → fp i ∨ w.heap.size ≤ i) := fun i hi => (hfp i hi).elim .inl (fun h => .inr (by omega))
  have HPF : Hid (fp' p) := hK.hp
  clear hK hfp hF f0_ f1_ f2_ f3_ f4_ f5_ f6_ f7_ f8_ f9_ f10_ f11_ f12_ RD UD KD ED HAD HSD
  obtain ⟨f0_, f1_, f2_, f3_, f4_, f5_, f6_, f7_, f8_, f9_, f10_, f11_, f12_⟩ := row13 R3.out
  go_wp2_with fail
  refine (has8 T fl 2 (by omega) 4 (by decide) hfl _).mono ?_
  rw [HBL.out]
  rintro e w4 ⟨rfl, rfl⟩
  obtain ⟨v9, A5, c5, hr9, ho9, hs9, hv9, ht9⟩ := K3.out.ex
  obtain ⟨A4, c4, rfl, hrd9, _⟩ := ho9.rd
  have hpp := K3.out.lo _ K3.out.hp
  have e5 := (Below.refl w3.heap.size w3).alloc (Nat.le_refl _) (.cells #[.int .i64 Y.T, .int .i64 Y.fl, .int .i64 Y.st, .int .i64 Y.pd, .slice A4 Y.N c4, .slice A5 Y.n2 c5, .int .i64 Y.wt, .int .i64 Y.pa, .bool Y.al, .int .i64 Y.pm, .int .i64 Y.la, .int .i64 Y.co, .int .i64 Y.sp] 28)
  have P5 := hide (keepRow hr9 e5)
  have Y5 := hide (heap_alloc_new w3 (.cells #[.int .i64 Y.T, .int .i64 Y.fl, .int .i64 Y.st, .int .i64 Y.pd, .slice A4 Y.N c4, .slice A5 Y.n2 c5, .int .i64 Y.wt, .int .i64 Y.pa, .bool Y.al, .int .i64 Y.pm, .int .i64 Y.la, .int .i64 Y.co, .int .i64 Y.sp] 28))
  have U5 := hide (keepRow U3.out e5)
  have F5 := hide (F3.out.trans (FrS.ofBelow fp e5 (by omega)))
  have D5 := hide (hrd9.below e5)
  have S5 := hide (hs9.below e5)
  have HDP : Hid (∀ b off, 0 < Y.N → A4 = some ⟨b, off, none⟩ → b ≠ p ∧ b ≠ w.heap.size + 1) := fun b off h0 e => by
    have hob : (Value.slice A4 Y.N c4).ownBlock = some b := by rw [e]; rfl
    exact ⟨(hv9 b hob).2, fun e2 => NR3.out b (hv9 b hob).1 e2⟩
  have HSP5 : Hid (∀ b off, 0 < Y.n2 → A5 = some ⟨b, off, none⟩ → b ≠ p ∧ b ≠ w.heap.size + 1) := fun b off h0 e => by
    have h1 := ht9 _ e
    exact ⟨h1.2.1, fun e2 => NR3.out b h1.1 e2⟩
  have hpw3 : p < w3.heap.size := hpp.2
  have hpr : p ≠ w.heap.size + 1 := fun e => NR3.out p K3.out.hp e
  obtain ⟨c0_, c1_, c2_, c3_, c4_, c5_, c6_, c7_, c8_, c9_, c10_, c11_, c12_, c13_, c14_⟩ := row15 hr9
  clear hr9 ho9 hs9 hv9 ht9 e5 hrd9 K3 F3 U3 f0_ f1_ f2_ f3_ f4_ f5_ f6_ f7_ f8_ f9_ f10_ f11_ f12_
  go_upto_region 13 with (fail)
  clear c0_ c1_ c2_ c3_ c4_ c5_ c6_ c7_ c8_ c9_ c10_ c11_ c12_ c13_ c14_
  have hw5 : (w3.alloc (.cells #[.int .i64 Y.T, .int .i64 Y.fl, .int .i64 Y.st, .int .i64 Y.pd, .slice A4 Y.N c4, .slice A5 Y.n2 c5, .int .i64 Y.wt, .int .i64 Y.pa, .bool Y.al, .int .i64 Y.pm, .int .i64 Y.la, .int .i64 Y.co, .int .i64 Y.sp] 28)).heap.size = w3.heap.size + 1 := by simp
  generalize w3.alloc (.cells #[.int .i64 Y.T, .int .i64 Y.fl, .int .i64 Y.st, .int .i64 Y.pd, .slice A4 Y.N c4, .slice A5 Y.n2 c5, .int .i64 Y.wt, .int .i64 Y.pa, .bool Y.al, .int .i64 Y.pm, .int .i64 Y.la, .int .i64 Y.co, .int .i64 Y.sp] 28) = W5 at *
  generalize w3.heap.size = b7 at *
  have hb7p : b7 ≠ p := by omega
  have hb7r : b7 ≠ w.heap.size + 1 := by have := rowLt U5.out; omega
  obtain ⟨⟨k0_, z0_⟩, ⟨k1_, z1_⟩, ⟨k2_, z2_⟩, ⟨k3_, z3_⟩, ⟨k4_, z4_⟩, ⟨k5_, z5_⟩, ⟨k6_, z6_⟩, ⟨k7_, z7_⟩, ⟨k8_, z8_⟩, ⟨k9_, z9_⟩, ⟨k10_, z10_⟩, ⟨k11_, z11_⟩, ⟨k12_, z12_⟩, ⟨k13_, z13_⟩, rp⟩ := store14f P5.out (.int .i64 0) (.int .i64 0) (.int .i64 0) (.int .i64 0) (.slice none 0 0) (.slice none 0 0) (.int .i64 0) (.int .i64 0) (.bool false) (.int .i64 0) (.int .i64 0) (.int .i64 0) (.int .i64 0)
  have gP := FrS.set14f (B := B) hpp.1 (rowLt P5.out) (.int .i64 0) (.int .i64 0) (.int .i64 0) (.int .i64 0) (.slice none 0 0) (.slice none 0 0) (.int .i64 0) (.int .i64 0) (.bool false) (.int .i64 0) (.int .i64 0) (.int .i64 0) (.int .i64 0)
  have P6 := hide rp
  have Y6 := hide (gP.row Y5.out (fun e => hb7p e))
  have U6 := hide (gP.row U5.out (fun e => hpr e.symm))
  have D6 := hide (D5.out.frs gP (fun b off h0 e s => (HDP.out b off h0 e).1 s))
  have S6 := hide (S5.out.frs gP (fun b off h0 e s => (HSP5.out b off h0 e).1 s))
  have F6 := hide (F5.out.thenNew gP (fun i s => by have e : i = p := s; rw [e]; exact FPF.out p HPF.out))
  clear rp gP P5 Y5 U5 D5 S5 F5
  go_upto_region 14 with (fail)
  clear k0_ z0_ k1_ z1_ k2_ z2_ k3_ z3_ k4_ z4_ k5_ z5_ k6_ z6_ k7_ z7_ k8_ z8_ k9_ z9_ k10_ z10_ k11_ z11_ k12_ z12_ k13_ z13_
  with_reducible refine absY (set14f W5 p (.int .i64 0) (.int .i64 0) (.int .i64 0) (.int .i64 0) (.slice none 0 0) (.slice none 0 0) (.int .i64 0) (.int .i64 0) (.bool false) (.int .i64 0) (.int .i64 0) (.int .i64 0) (.int .i64 0)) (fun W => W.heap[p]? = some (.cells #[.int .i64 most, .bool false, .int .i64 0, .int .i64 0, .int .i64 0, .int .i64 0, .slice none 0 0, .slice none 0 0, .int .i64 0, .int .i64 0, .bool false, .int .i64 0, .int .i64 0, .int .i64 0, .int .i64 0] 59 (0, 0)) ∧ W.heap[b7]? = some (.cells #[.int .i64 Y.T, .int .i64 Y.fl, .int .i64 Y.st, .int .i64 Y.pd, .slice A4 Y.N c4, .slice A5 Y.n2 c5, .int .i64 Y.wt, .int .i64 Y.pa, .bool Y.al, .int .i64 Y.pm, .int .i64 Y.la, .int .i64 Y.co, .int .i64 Y.sp] 28 (0, 0)) ∧ W.heap[w.heap.size + 1]? = some (.cells z13 28 (0, 0)) ∧ Rd .u8 W A4 Y.N c4 Y.D ∧ Rd2 W A5 Y.n2 c5 Y.s Y.t ∧ FrS B fp w W) ⟨P6.out, Y6.out, U6.out, D6.out, S6.out, F6.out⟩ ?_
  clear P6 Y6 U6 D6 S6 F6
  rintro W6 ⟨q1, q2, q3, q4, q5, q6⟩
  have P6 := hide q1
  have Y6 := hide q2
  have U6 := hide q3
  have D6 := hide q4
  have S6 := hide q5
  have F6 := hide q6
  clear q1 q2 q3 q4 q5 q6
  obtain ⟨⟨k0_, z0_⟩, ⟨k1_, z1_⟩, ⟨k2_, z2_⟩, ⟨k3_, z3_⟩, ⟨k4_, z4_⟩, ⟨k5_, z5_⟩, ⟨k6_, z6_⟩, ⟨k7_, z7_⟩, ⟨k8_, z8_⟩, ⟨k9_, z9_⟩, ⟨k10_, z10_⟩, ⟨k11_, z11_⟩, ⟨k12_, z12_⟩, rz⟩ := store13 U6.out (.int .i64 Y.T) (.int .i64 Y.fl) (.int .i64 Y.st) (.int .i64 Y.pd) (.slice A4 Y.N c4) (.slice A5 Y.n2 c5) (.int .i64 Y.wt) (.int .i64 Y.pa) (.bool Y.al) (.int .i64 Y.pm) (.int .i64 Y.la) (.int .i64 Y.co) (.int .i64 Y.sp)
  have gB := FrS.set13 (B := B) (S := Q1 (w.heap.size + 1)) (by omega) (rowLt U6.out) rfl (.int .i64 Y.T) (.int .i64 Y.fl) (.int .i64 Y.st) (.int .i64 Y.pd) (.slice A4 Y.N c4) (.slice A5 Y.n2 c5) (.int .i64 Y.wt) (.int .i64 Y.pa) (.bool Y.al) (.int .i64 Y.pm) (.int .i64 Y.la) (.int .i64 Y.co) (.int .i64 Y.sp)
  have RZ := hide rz
  have P7 := hide (gB.row P6.out (fun e => hpr e))
  have D7 := hide (D6.out.frs gB (fun b off h0 e s => (HDP.out b off h0 e).2 s))
  have S7 := hide (S6.out.frs gB (fun b off h0 e s => (HSP5.out b off h0 e).2 s))
  have F7 := hide (F6.out.thenNew gB (fun i s => .inr (by have h2 : i = w.heap.size + 1 := s; omega)))
  have hp7 := rowLt P7.out
  obtain ⟨f0_, f1_, f2_, f3_, f4_, f5_, f6_, f7_, f8_, f9_, f10_, f11_, f12_⟩ := row13 Y6.out
  clear rz gB
  go_wp2_with fail
  obtain ⟨n0_, n1_, n2_, n3_, n4_, n5_, n6_, n7_, n8_, n9_, n10_, n11_, n12_⟩ := row13 RZ.out
  refine bodyPost_ret (v := .tuple #[.agg #[.int .i64 Y.T, .int .i64 Y.fl, .int .i64 Y.st, .int .i64 Y.pd, .slice A4 Y.N c4, .slice A5 Y.n2 c5, .int .i64 Y.wt, .int .i64 Y.pa, .bool Y.al, .int .i64 Y.pm, .int .i64 Y.la, .int .i64 Y.co, .int .i64 Y.sp], .bool true, .int .i64 0]) ?_ rfl ⟨A4, c4, A5, c5, rfl, D7.out, S7.out, ⟨⟨_, none, 0, P7.out, Own.nil _ _ _ _ _, Rd2.nil _ _ _, fun b e => (by cases e), fun a e => (by cases e)⟩, rfl, fun i hi => by have e : i = p := hi; subst e; exact ⟨hpp.1, hp7⟩⟩, F7.out⟩
  rw [results_ctt30 rfl]
  go_simp
end Go.Proofs.Ytelcpfjifhobjaa
