/- Layer 30: a part that is too long; one that is taken; one with which the block ends. -/
import Derived.Test.YtelcpfjifhobjaaBk5
namespace Go.Proofs.Ytelcpfjifhobjaa
set_option linter.unusedVariables false
set_option linter.unusedSimpArgs false
open Go.RowKit


set_option maxRecDepth 100000 in
set_option maxHeartbeats 3200000 in
theorem addLong30 (T fl st pd : Int) (A : Option Addr) (n c : Nat) (f : Nat → Int) (A2 : Option Addr) (n2 c2 : Nat) (s t : Nat → Int) (wt pa : Int) (al : Bool) (pm la co sp : Int) (B : Nat) (p : Nat) (fp : Nat → Prop) (most : Int) (X : BS) (w : World) (h : AsOk B w p fp most X) (hBw : B ≤ w.heap.size) (hT : takesB X T st = true) (hP : partB T = true) (hmost : 0 ≤ most ∧ most ≤ 9223372036854775807) (hN : X.N ≤ 100000) (hn : n ≤ 100000) (hfit : most - (X.N : Int) < (n : Int)) :
    Calls Try.prog 25 #[.pointer (some ⟨p, 0, none⟩), .agg #[.int .i64 T, .int .i64 fl, .int .i64 st, .int .i64 pd, .slice A n c, .slice A2 n2 c2, .int .i64 wt, .int .i64 pa, .bool al, .int .i64 pm, .int .i64 la, .int .i64 co, .int .i64 sp]] w fun e w' => e = .returned (.tuple #[.agg z13, .bool false, .int .i64 9]) ∧ AsOk B w' p fp most X ∧ FrS B fp w w' := by
  have hd := decide_eq_true hfit
  have HNN := hide hN
  clear hN hfit
  obtain ⟨x0, x1, e0⟩ := heap2fZ w #[.int .i64 T, .int .i64 fl, .int .i64 st, .int .i64 pd, .slice A n c, .slice A2 n2 c2, .int .i64 wt, .int .i64 pa, .bool al, .int .i64 pm, .int .i64 la, .int .i64 co, .int .i64 sp] z13 28 28
  have h0 := h.below e0
  have hlo := h.lo
  have R0 := hide x0
  have U0 := hide x1
  have E0 := hide e0
  have K0 := hide h0
  have HLO := hide hlo
  clear x0 x1 h0 hlo h
  clear e0
  have HTK := hide hT
  have HPT := hide hP
  have HM := hide hmost
  clear hT hP hmost
  go_enter Try.func25, Try.ntmps25
  go_upto_region 1 with (fail)
  have hW0 : ((w.alloc (.cells #[.int .i64 T, .int .i64 fl, .int .i64 st, .int .i64 pd, .slice A n c, .slice A2 n2 c2, .int .i64 wt, .int .i64 pa, .bool al, .int .i64 pm, .int .i64 la, .int .i64 co, .int .i64 sp] 28)).alloc (.cells z13 28)).heap.size = w.heap.size + 1 + 1 := by simp
  generalize (w.alloc (.cells #[.int .i64 T, .int .i64 fl, .int .i64 st, .int .i64 pd, .slice A n c, .slice A2 n2 c2, .int .i64 wt, .int .i64 pa, .bool al, .int .i64 pm, .int .i64 la, .int .i64 co, .int .i64 sp] 28)).alloc (.cells z13 28) = W0 at *
  obtain ⟨f0_, f1_, f2_, f3_, f4_, f5_, f6_, f7_, f8_, f9_, f10_, f11_, f12_⟩ := row13 R0.out
  go_wp2_with fail
  refine (takes30 T fl st pd A n c A2 n2 c2 wt pa al pm la co sp B p fp most X _ K0.out).mono ?_
  rw [HTK.out]
  rintro e w1 ⟨rfl, hb⟩
  have R1 := hide (keepRow R0.out hb)
  have U1 := hide (keepRow U0.out hb)
  have E1 := hide (E0.out.of hb)
  have K1 := hide (K0.out.below hb)
  have hs1 := hb.size
  clear hb f0_ f1_ f2_ f3_ f4_ f5_ f6_ f7_ f8_ f9_ f10_ f11_ f12_ R0 U0 E0 K0
  obtain ⟨f0_, f1_, f2_, f3_, f4_, f5_, f6_, f7_, f8_, f9_, f10_, f11_, f12_⟩ := row13 R1.out
  go_wp2_with fail
  refine (part30 T _).mono ?_
  rw [HPT.out]
  rintro e w2 ⟨rfl, rfl⟩
  obtain ⟨f0_, f1_, f2_, f3_, f4_, f5_, f6_, f7_, f8_, f9_, f10_, f11_, f12_⟩ := row13 R1.out
  obtain ⟨v9, B9, d9, hr9, ho9, _, hv9, _⟩ := K1.out.ex
  obtain ⟨A9, c9, rfl, _, _⟩ := ho9.rd
  obtain ⟨c0_, c1_, c2_, c3_, c4_, c5_, c6_, c7_, c8_, c9_, c10_, c11_, c12_, c13_, c14_⟩ := row15 hr9
  have hN9 : X.N ≤ 9223372036854775807 := by have h1 := HNN.out; omega
  have hwr : IntKind.i64.wrap (most - (X.N : Int)) = most - (X.N : Int) := IntWalk.i64_in _ (by have h1 := HNN.out; have h2 := HM.out; omega)
  clear hr9 ho9 hv9
  go_upto_region 7 with (fail)
  go_quiet (fail)
  have RD : Hid ((w1.drewN nq).heap[w.heap.size]? = some (.cells #[.int .i64 T, .int .i64 fl, .int .i64 st, .int .i64 pd, .slice A n c, .slice A2 n2 c2, .int .i64 wt, .int .i64 pa, .bool al, .int .i64 pm, .int .i64 la, .int .i64 co, .int .i64 sp] 28 (0, 0))) := R1
  have UD : Hid ((w1.drewN nq).heap[w.heap.size + 1]? = some (.cells z13 28 (0, 0))) := U1
  have KD : Hid (AsOk B (w1.drewN nq) p fp most X) := K1.out.below (drawn_below (Drawn.of w1 nq) _)
  have ED : Hid (Below w.heap.size w (w1.drewN nq)) := E1.out.of (drawn_below (Drawn.of w1 nq) _)
  have hsD : w1.heap.size ≤ (w1.drewN nq).heap.size := Nat.le_refl _
  clear R1 U1 K1 E1 f0_ f1_ f2_ f3_ f4_ f5_ f6_ f7_ f8_ f9_ f10_ f11_ f12_ c0_ c1_ c2_ c3_ c4_ c5_ c6_ c7_ c8_ c9_ c10_ c11_ c12_ c13_ c14_
  generalize w1.drewN nq = W2 at *
  obtain ⟨⟨k0_, z0_⟩, ⟨k1_, z1_⟩, ⟨k2_, z2_⟩, ⟨k3_, z3_⟩, ⟨k4_, z4_⟩, ⟨k5_, z5_⟩, ⟨k6_, z6_⟩, ⟨k7_, z7_⟩, ⟨k8_, z8_⟩, ⟨k9_, z9_⟩, ⟨k10_, z10_⟩, ⟨k11_, z11_⟩, ⟨k12_, z12_⟩, rz⟩ := store13 UD.out (.int .i64 0) (.int .i64 0) (.int .i64 0) (.int .i64 0) (.slice none 0 0) (.slice none 0 0) (.int .i64 0) (.int .i64 0) (.bool false) (.int .i64 0) (.int .i64 0) (.int .i64 0) (.int .i64 0)
  have gB := FrS.set13 (B := w.heap.size) (S := Q1 (w.heap.size + 1)) (by omega) (rowLt UD.out) rfl (.int .i64 0) (.int .i64 0) (.int .i64 0) (.int .i64 0) (.slice none 0 0) (.slice none 0 0) (.int .i64 0) (.int .i64 0) (.bool false) (.int .i64 0) (.int .i64 0) (.int .i64 0) (.int .i64 0)
  have RZ := hide rz
  have EF := hide (ED.out.trans gB.bel)
  have KF := hide (KD.out.frs (B' := 0) ⟨gB.bel.mono (Nat.zero_le _), gB.keep⟩ (Nat.zero_le _) (fun i hi s => by have h1 := (HLO.out i hi).2; have h2 : i = w.heap.size + 1 := s; omega))
  clear rz gB
  go_wp2_with fail
  obtain ⟨n0_, n1_, n2_, n3_, n4_, n5_, n6_, n7_, n8_, n9_, n10_, n11_, n12_⟩ := row13 RZ.out
  refine bodyPost_ret (v := .tuple #[.agg z13, .bool false, .int .i64 9]) ?_ rfl ⟨rfl, KF.out, FrS.ofBelow fp EF.out hBw⟩
  rw [results_ctt30 rfl]
  go_simp

set_option maxRecDepth 100000 in
set_option maxHeartbeats 3200000 in
theorem addMore30 (T fl st pd : Int) (A : Option Addr) (n c : Nat) (f : Nat → Int) (A2 : Option Addr) (n2 c2 : Nat) (s t : Nat → Int) (wt pa : Int) (al : Bool) (pm la co sp : Int) (B : Nat) (p : Nat) (fp : Nat → Prop) (most : Int) (X : BS) (w : World) (h : AsOk B w p fp most X) (hBw : B ≤ w.heap.size) (hT : takesB X T st = true) (hP : partB T = true) (hmost : 0 ≤ most ∧ most ≤ 9223372036854775807) (hfl : fl ≤ 9223372036854775807) (ha : Rd .u8 w A n c f) (hs : Rd2 w A2 n2 c2 s t) (hn : X.N + n ≤ 100000) (hn2 : n2 ≤ 100000) (hAp : ∀ b off, 0 < n → A = some ⟨b, off, none⟩ → b ≠ p) (hSp : ∀ b off, 0 < n2 → A2 = some ⟨b, off, none⟩ → b ≠ p) (hfit : ¬ (most - (X.N : Int) < (n : Int))) (hbl : hsB T fl 2 = false) :
    Calls Try.prog 25 #[.pointer (some ⟨p, 0, none⟩), .agg #[.int .i64 T, .int .i64 fl, .int .i64 st, .int .i64 pd, .slice A n c, .slice A2 n2 c2, .int .i64 wt, .int .i64 pa, .bool al, .int .i64 pm, .int .i64 la, .int .i64 co, .int .i64 sp]] w fun e w' => e = .returned (.tuple #[.agg z13, .bool false, .int .i64 0]) ∧ ∃ fp', AsOk B w' p fp' most (takeX X T fl st pd n f n2 s t wt pa al pm la co sp) ∧ (∀ i, fp' i → fp i ∨ w.heap.size ≤ i) ∧ FrS B fp w w' := by
  have hd := decide_eq_false hfit
  have HNN : Hid (X.N ≤ 100000) := by show _ ≤ _; omega
  have HFIT := hide hn
  have HAP := hide hAp
  have HSP := hide hSp
  have HBL := hide hbl
  have HA := hide ha
  have HS := hide hs
  have hn1 : n ≤ 100000 := by omega
  clear hfit hn hAp hSp hbl ha hs
  obtain ⟨x0, x1, e0⟩ := heap2fZ w #[.int .i64 T, .int .i64 fl, .int .i64 st, .int .i64 pd, .slice A n c, .slice A2 n2 c2, .int .i64 wt, .int .i64 pa, .bool al, .int .i64 pm, .int .i64 la, .int .i64 co, .int .i64 sp] z13 28 28
  have h0 := h.below e0
  have hlo := h.lo
  have R0 := hide x0
  have U0 := hide x1
  have E0 := hide e0
  have K0 := hide h0
  have HLO := hide hlo
  have HA0 := hide (HA.out.below e0)
  have HS0 := hide (HS.out.below e0)
  clear x0 x1 h0 hlo h
  clear e0
  clear HA HS
  have HTK := hide hT
  have HPT := hide hP
  have HM := hide hmost
  clear hT hP hmost
  go_enter Try.func25, Try.ntmps25
  go_upto_region 1 with (fail)
  have hW0 : ((w.alloc (.cells #[.int .i64 T, .int .i64 fl, .int .i64 st, .int .i64 pd, .slice A n c, .slice A2 n2 c2, .int .i64 wt, .int .i64 pa, .bool al, .int .i64 pm, .int .i64 la, .int .i64 co, .int .i64 sp] 28)).alloc (.cells z13 28)).heap.size = w.heap.size + 1 + 1 := by simp
  generalize (w.alloc (.cells #[.int .i64 T, .int .i64 fl, .int .i64 st, .int .i64 pd, .slice A n c, .slice A2 n2 c2, .int .i64 wt, .int .i64 pa, .bool al, .int .i64 pm, .int .i64 la, .int .i64 co, .int .i64 sp] 28)).alloc (.cells z13 28) = W0 at *
  obtain ⟨f0_, f1_, f2_, f3_, f4_, f5_, f6_, f7_, f8_, f9_, f10_, f11_, f12_⟩ := row13 R0.out
  go_wp2_with fail
  refine (takes30 T fl st pd A n c A2 n2 c2 wt pa al pm la co sp B p fp most X _ K0.out).mono ?_
  rw [HTK.out]
  rintro e w1 ⟨rfl, hb⟩
  have R1 := hide (keepRow R0.out hb)
  have U1 := hide (keepRow U0.out hb)
  have E1 := hide (E0.out.of hb)
  have K1 := hide (K0.out.below hb)
  have hs1 := hb.size
  have HA1 := hide (HA0.out.below hb)
  have HS1 := hide (HS0.out.below hb)
  clear hb f0_ f1_ f2_ f3_ f4_ f5_ f6_ f7_ f8_ f9_ f10_ f11_ f12_ R0 U0 E0 K0 HA0 HS0
  obtain ⟨f0_, f1_, f2_, f3_, f4_, f5_, f6_, f7_, f8_, f9_, f10_, f11_, f12_⟩ := row13 R1.out
  go_wp2_with fail
  refine (part30 T _).mono ?_
  rw [HPT.out]
  rintro e w2 ⟨rfl, rfl⟩
  obtain ⟨f0_, f1_, f2_, f3_, f4_, f5_, f6_, f7_, f8_, f9_, f10_, f11_, f12_⟩ := row13 R1.out
  obtain ⟨v9, B9, d9, hr9, ho9, _, hv9, _⟩ := K1.out.ex
  obtain ⟨A9, c9, rfl, _, _⟩ := ho9.rd
  obtain ⟨c0_, c1_, c2_, c3_, c4_, c5_, c6_, c7_, c8_, c9_, c10_, c11_, c12_, c13_, c14_⟩ := row15 hr9
  have hN9 : X.N ≤ 9223372036854775807 := by have h1 := HNN.out; omega
  have hwr : IntKind.i64.wrap (most - (X.N : Int)) = most - (X.N : Int) := IntWalk.i64_in _ (by have h1 := HNN.out; have h2 := HM.out; omega)
  clear hr9 ho9 hv9
  go_upto_region 7 with (fail)
  go_quiet (fail)
  have RD : Hid ((w1.drewN nq).heap[w.heap.size]? = some (.cells #[.int .i64 T, .int .i64 fl, .int .i64 st, .int .i64 pd, .slice A n c, .slice A2 n2 c2, .int .i64 wt, .int .i64 pa, .bool al, .int .i64 pm, .int .i64 la, .int .i64 co, .int .i64 sp] 28 (0, 0))) := R1
  have UD : Hid ((w1.drewN nq).heap[w.heap.size + 1]? = some (.cells z13 28 (0, 0))) := U1
  have KD : Hid (AsOk B (w1.drewN nq) p fp most X) := K1.out.below (drawn_below (Drawn.of w1 nq) _)
  have ED : Hid (Below w.heap.size w (w1.drewN nq)) := E1.out.of (drawn_below (Drawn.of w1 nq) _)
  have hsD : w1.heap.size ≤ (w1.drewN nq).heap.size := Nat.le_refl _
  have HAD : Hid (Rd .u8 (w1.drewN nq) A n c f) := HA1
  have HSD : Hid (Rd2 (w1.drewN nq) A2 n2 c2 s t) := HS1
  clear R1 U1 K1 E1 HA1 HS1 f0_ f1_ f2_ f3_ f4_ f5_ f6_ f7_ f8_ f9_ f10_ f11_ f12_ c0_ c1_ c2_ c3_ c4_ c5_ c6_ c7_ c8_ c9_ c10_ c11_ c12_ c13_ c14_
  generalize w1.drewN nq = W2 at *
  obtain ⟨f0_, f1_, f2_, f3_, f4_, f5_, f6_, f7_, f8_, f9_, f10_, f11_, f12_⟩ := row13 RD.out
  go_wp2_with fail
  refine (take30 T fl st pd A n c f A2 n2 c2 s t wt pa al pm la co sp B p fp most X _ KD.out HAD.out HSD.out HFIT.out hn2 HAP.out HSP.out).mono ?_
  rintro e w3 ⟨rfl, fp', hK, hfp, hF⟩
  have K3 := hide hK
  have FP3 := hide hfp
  have hs3 := hF.bel.size
  have R3 := hide (hF.row RD.out (fun i => by have h1 := (HLO.out _ i).2; omega))
  have U3 := hide (hF.row UD.out (fun i => by have h1 := (HLO.out _ i).2; omega))
  have F3 := hide ((FrS.ofBelow fp ED.out hBw).thenNew hF (fun i hi => .inl hi))
  have NR3 : Hid (∀ i, fp' i → ¬ Q1 (w.heap.size + 1) i) := fun i hi s => by
    have h2 : i = w.heap.size + 1 := s
    rcases hfp i hi with h | h
    · have h1 := (HLO.out i h).2; omega
    · omega
  have FPF : Hid (∀ i, fp' i → fp i ∨ w.heap.size ≤ i) := fun i hi => (hfp i hi).elim .inl (fun h => .inr (by omega))
  clear hK hfp hF f0_ f1_ f2_ f3_ f4_ f5_ f6_ f7_ f8_ f9_ f10_ f11_ f12_ RD UD KD ED HAD HSD
  obtain ⟨f0_, f1_, f2_, f3_, f4_, f5_, f6_, f7_, f8_, f9_, f10_, f11_, f12_⟩ := row13 R3.out
  go_wp2_with fail
  refine (has8 T fl 2 (by omega) 4 (by decide) hfl _).mono ?_
  rw [HBL.out]
  rintro e w4 ⟨rfl, rfl⟩
  obtain ⟨⟨k0_, z0_⟩, ⟨k1_, z1_⟩, ⟨k2_, z2_⟩, ⟨k3_, z3_⟩, ⟨k4_, z4_⟩, ⟨k5_, z5_⟩, ⟨k6_, z6_⟩, ⟨k7_, z7_⟩, ⟨k8_, z8_⟩, ⟨k9_, z9_⟩, ⟨k10_, z10_⟩, ⟨k11_, z11_⟩, ⟨k12_, z12_⟩, rz⟩ := store13 U3.out (.int .i64 0) (.int .i64 0) (.int .i64 0) (.int .i64 0) (.slice none 0 0) (.slice none 0 0) (.int .i64 0) (.int .i64 0) (.bool false) (.int .i64 0) (.int .i64 0) (.int .i64 0) (.int .i64 0)
  have gB := FrS.set13 (B := B) (S := Q1 (w.heap.size + 1)) (by omega) (rowLt U3.out) rfl (.int .i64 0) (.int .i64 0) (.int .i64 0) (.int .i64 0) (.slice none 0 0) (.slice none 0 0) (.int .i64 0) (.int .i64 0) (.bool false) (.int .i64 0) (.int .i64 0) (.int .i64 0) (.int .i64 0)
  have RZ := hide rz
  have FF := hide (F3.out.thenNew gB (fun i s => .inr (by have h2 : i = w.heap.size + 1 := s; omega)))
  have KF := hide (K3.out.frs (B' := 0) ⟨gB.bel.mono (Nat.zero_le _), gB.keep⟩ (Nat.zero_le _) NR3.out)
  clear rz gB
  go_wp2_with fail
  obtain ⟨n0_, n1_, n2_, n3_, n4_, n5_, n6_, n7_, n8_, n9_, n10_, n11_, n12_⟩ := row13 RZ.out
  refine bodyPost_ret (v := .tuple #[.agg z13, .bool false, .int .i64 0]) ?_ rfl ⟨rfl, fp', KF.out, FPF.out, FF.out⟩
  rw [results_ctt30 rfl]
  go_simp
end Go.Proofs.Ytelcpfjifhobjaa
