/- Layer 14: what any frame says, or how it is wrong. -/
import Derived.Test.YtpnjamomkpkkeaaFra
namespace Go.Proofs.Ytpnjamomkpkkeaa
set_option linter.unusedVariables false
set_option linter.unusedSimpArgs false
open Go.RowKit

set_option maxRecDepth 100000 in
set_option maxHeartbeats 6400000 in
theorem parse_ms (fm T fl st : Int) (rs : Bool) (A : Option Addr) (n c : Nat) (f : Nat → Int) (D : FD) (w : World) (hr : HdR n T fl st) (hm : misB T st = false) (hs : wrsB T fl n = false) (ha : Rd .u8 w A n c f) (hf : Byt n f) (hn : n ≤ 100000)
    (HF : ∀ (q p c' : Nat) (A' : Option Addr) (B : Nat) (W : World), B ≤ q → B ≤ p → (∀ a, A' = some a → a.block < W.heap.size) → Rdr W q p A' c' n f 0 false false → Calls Try.prog 70 #[.pointer (some ⟨q, 0, none⟩), .agg #[.int .i64 fm, .int .i64 T, .int .i64 fl, .int .i64 st, .bool rs, .slice A n c]] W (FPost T fl st D q p n f B W))
    (hms : D.ms = true) : Calls Try.prog 19 #[.agg #[.int .i64 fm, .int .i64 T, .int .i64 fl, .int .i64 st, .bool rs, .slice A n c]] w fun e w' => e = .returned (.tuple #[.agg #[.int .i64 0, .int .i64 0, .int .i64 0, .int .i64 0, .slice none 0 0, .slice none 0 0, .int .i64 0, .int .i64 0, .bool false, .int .i64 0, .int .i64 0, .int .i64 0, .int .i64 0], .agg #[.int .i64 (szS T), .int .i64 6], .int .i64 0]) ∧ Below w.heap.size w w' := by
  have HR := hide hr
  have HM := hide hm
  have HS := hide hs
  have HA := hide ha
  have HFF := hide HF
  have HMS := hide hms
  have hfl : fl ≤ 9223372036854775807 := by have := hr.2.2.1; omega
  obtain ⟨ov, hov⟩ : ∃ b, decide (((n - D.off : Nat) : Int) < m0 D.pad) = b := ⟨_, rfl⟩
  have HOV := hide hov
  obtain ⟨x0, x1, x2, e0⟩ := heap3f w #[.int .i64 fm, .int .i64 T, .int .i64 fl, .int .i64 st, .bool rs, .slice A n c] #[.int .i64 0, .int .i64 0, .int .i64 0, .int .i64 0, .slice none 0 0, .slice none 0 0, .int .i64 0, .int .i64 0, .bool false, .int .i64 0, .int .i64 0, .int .i64 0, .int .i64 0] #[.int .i64 0, .int .i64 0] 29 25 38
  have RW0 := hide x0
  have ZR0 := hide x1
  have UR0 := hide x2
  have E0 := hide e0
  clear x0 x1 x2 e0 hr hm hs ha HF hms hov
  go_enter Try.func19, Try.ntmps19
  go_upto_region 1 with (fail)
  generalize ((w.alloc (.cells #[.int .i64 fm, .int .i64 T, .int .i64 fl, .int .i64 st, .bool rs, .slice A n c] 29)).alloc (.cells #[.int .i64 0, .int .i64 0, .int .i64 0, .int .i64 0, .slice none 0 0, .slice none 0 0, .int .i64 0, .int .i64 0, .bool false, .int .i64 0, .int .i64 0, .int .i64 0, .int .i64 0] 25)).alloc (.cells #[.int .i64 0, .int .i64 0] 38) = W0 at *
  obtain ⟨s0, s1, s2, s3, s4, s5⟩ := row6 RW0.out
  go_wp2_with fail
  refine (hof14 fm T fl st rs A n c _).mono ?_
  rintro e w1 ⟨rfl, hb⟩
  have RW1 := hide (keepRow RW0.out hb)
  have ZR1 := hide (keepRow ZR0.out hb)
  have UR1 := hide (keepRow UR0.out hb)
  have E1 := hide (E0.out.of hb)
  clear hb s0 s1 s2 s3 s4 s5 RW0 ZR0 UR0 E0
  obtain ⟨s0, s1, s2, s3, s4, s5⟩ := row6 RW1.out
  go_wp2_with fail
  refine (hright_yes n T fl st rs _ HR.out).mono ?_
  rintro e w2 ⟨rfl, hb⟩
  have RW2 := hide (keepRow RW1.out hb)
  have ZR2 := hide (keepRow ZR1.out hb)
  have UR2 := hide (keepRow UR1.out hb)
  have E2 := hide (E1.out.of hb)
  clear hb s0 s1 s2 s3 s4 s5 RW1 ZR1 UR1 E1
  obtain ⟨s0, s1, s2, s3, s4, s5⟩ := row6 RW2.out
  go_wp2_with fail
  refine (mis14 fm T fl st rs (.slice A n c) _).mono ?_
  rw [HM.out]
  rintro e w3 ⟨rfl, hb⟩
  have RW3 := hide (keepRow RW2.out hb)
  have ZR3 := hide (keepRow ZR2.out hb)
  have UR3 := hide (keepRow UR2.out hb)
  have E3 := hide (E2.out.of hb)
  clear hb s0 s1 s2 s3 s4 s5 RW2 ZR2 UR2 E2
  obtain ⟨s0, s1, s2, s3, s4, s5⟩ := row6 RW3.out
  go_wp2_with fail
  refine (wrs14 fm T fl st rs A n c hfl _).mono ?_
  rw [HS.out]
  rintro e w4 ⟨rfl, hb⟩
  have RW4 := hide (keepRow RW3.out hb)
  have ZR4 := hide (keepRow ZR3.out hb)
  have UR4 := hide (keepRow UR3.out hb)
  have E4 := hide (E3.out.of hb)
  clear hb s0 s1 s2 s3 s4 s5 RW3 ZR3 UR3 E3
  obtain ⟨s0, s1, s2, s3, s4, s5⟩ := row6 RW4.out
  go_wp2_with fail
  refine (cnewA A n c f _ (HA.out.belowB (Nat.le_refl _) E4.out) (by omega)).mono ?_
  rintro e w5 ⟨p, A1, c1, rfl, hp, hcur, hA1, hb⟩
  have RW5 := hide (keepRow RW4.out hb)
  have ZR5 := hide (keepRow ZR4.out hb)
  have UR5 := hide (keepRow UR4.out hb)
  have E5 := hide (E4.out.of hb)
  have hzb := rowLt UR4.out
  have Hcur := hide hcur
  have HA1 := hide hA1
  have hpl := hcur.lt
  clear hb hcur hA1 s0 s1 s2 s3 s4 s5 RW4 ZR4 UR4 E4
  have al := (Below.refl w5.heap.size w5).alloc (Nat.le_refl _) (.cells #[.pointer (some ⟨p, 0, none⟩), .bool false, .bool false] 147)
  have QR := hide (heap_alloc_new w5 (.cells #[.pointer (some ⟨p, 0, none⟩), .bool false, .bool false] 147))
  have RW6 := hide (keepRow RW5.out al)
  have ZR6 := hide (keepRow ZR5.out al)
  have UR6 := hide (keepRow UR5.out al)
  have E6 := hide (E5.out.of al)
  have hl5 := rowLt UR5.out
  have Hc2 := hide (Hcur.out.below al)
  have HRd : Hid (Rdr (w5.alloc (.cells #[.pointer (some ⟨p, 0, none⟩), .bool false, .bool false] 147)) w5.heap.size p A1 c1 n f 0 false false) := ⟨Hc2.out, QR.out, by omega, fun a e => by have := HA1.out a e; omega⟩
  have HAl : Hid (∀ a, A1 = some a → a.block < (w5.alloc (.cells #[.pointer (some ⟨p, 0, none⟩), .bool false, .bool false] 147)).heap.size) := fun a e => by have := HA1.out a e; simp; omega
  have hpE : w.heap.size + 1 + 1 < p := by omega
  have hqE : w.heap.size + 1 + 1 < w5.heap.size := by omega
  clear al RW5 ZR5 UR5 E5 Hcur Hc2 QR
  obtain ⟨s0, s1, s2, s3, s4, s5⟩ := row6 RW6.out
  go_wp2_with fail
  refine (HFF.out w5.heap.size p c1 A1 (w.heap.size + 1 + 1 + 1) _ (by omega) (by omega) HAl.out HRd.out).mono ?_
  rintro e w7 ⟨A2, c2, A3, c3, rfl, hr2, hr3, hq, hg, hf2, hf3⟩
  rw [HMS.out, HOV.out] at hq
  have NN : ∀ b, b ≤ w.heap.size + 1 + 1 → ¬ PQ p w5.heap.size b := fun b hb s => s.elim (fun e => by omega) (fun e => by omega)
  have RW7 := hide (hg.row RW6.out (NN _ (by omega)))
  have ZR7 := hide (hg.row ZR6.out (NN _ (by omega)))
  have UR7 := hide (hg.row UR6.out (NN _ (Nat.le_refl _)))
  have E7 := hide (E6.out.trans (hg.bel.mono (by omega)))
  have hu2 := rowLt UR6.out
  have Hr2 := hide hr2
  have Hr3 := hide hr3
  have Hq := hide hq
  have Hf2 : Hid (∀ a, A2 = some a → w.heap.size + 1 + 1 < a.block) := fun a e => by have := hf2 a e; omega
  have Hf3 : Hid (∀ a, A3 = some a → w.heap.size + 1 + 1 < a.block) := fun a e => by have := hf3 a e; omega
  clear hr2 hr3 hq hg hf2 hf3 NN s0 s1 s2 s3 s4 s5 HRd HAl RW6 ZR6 UR6 E6
  have HU2 : Hid True := trivial
  have al := (Below.refl w7.heap.size w7).alloc (Nat.le_refl _) (.cells #[.int .i64 T, .int .i64 fl, .int .i64 st, .int .i64 D.pad, .slice A2 (upN n D.off (m0 D.pad)) c2, .slice A3 D.sn c3, .int .i64 D.wt, .int .i64 D.pa, .bool D.al, .int .i64 D.pm, .int .i64 D.la, .int .i64 D.co, .int .i64 D.sp] 25)
  have FR := hide (heap_alloc_new w7 (.cells #[.int .i64 T, .int .i64 fl, .int .i64 st, .int .i64 D.pad, .slice A2 (upN n D.off (m0 D.pad)) c2, .slice A3 D.sn c3, .int .i64 D.wt, .int .i64 D.pa, .bool D.al, .int .i64 D.pm, .int .i64 D.la, .int .i64 D.co, .int .i64 D.sp] 25))
  have RW8 := hide (keepRow RW7.out al)
  have ZR8 := hide (keepRow ZR7.out al)
  have UR8 := hide (keepRow UR7.out al)
  have E8 := hide (E7.out.of al)
  have Q2 := hide (keepRow Hq.out al)
  have Y2 := hide (Hr2.out.below al)
  have Y3 := hide (Hr3.out.below al)
  clear al RW7 ZR7 UR7 E7 Hq Hr2 Hr3
  obtain ⟨s0, s1, s2, s3, s4, s5⟩ := row6 RW8.out
  obtain ⟨t0, t1, t2⟩ := row3r Q2.out
  go_wp2_with fail
  refine (size14 T _).mono ?_
  rintro e wz ⟨rfl, hb⟩
  have RW9 := hide (keepRow RW8.out hb)
  have ZR9 := hide (keepRow ZR8.out hb)
  have UR9 := hide (keepRow UR8.out hb)
  have E9 := hide (E8.out.of hb)
  clear hb s0 s1 s2 s3 s4 s5 t0 t1 t2 RW8 ZR8 UR8 E8 Q2 Y2 Y3 FR
  obtain ⟨⟨k0, f0⟩, ⟨k1, f1⟩, ⟨k2, f2⟩, ⟨k3, f3⟩, ⟨k4, f4⟩, ⟨k5, f5⟩, ⟨k6, f6⟩, ⟨k7, f7⟩, ⟨k8, f8⟩, ⟨k9, f9⟩, ⟨k10, f10⟩, ⟨k11, f11⟩, ⟨k12, f12⟩, rz⟩ := store13 ZR9.out (.int .i64 0) (.int .i64 0) (.int .i64 0) (.int .i64 0) (.slice none 0 0) (.slice none 0 0) (.int .i64 0) (.int .i64 0) (.bool false) (.int .i64 0) (.int .i64 0) (.int .i64 0) (.int .i64 0)
  have gB := hide (FrS.set13 (B := w.heap.size) (S := Q1 (w.heap.size + 1)) (by omega) (rowLt ZR9.out) rfl (.int .i64 0) (.int .i64 0) (.int .i64 0) (.int .i64 0) (.slice none 0 0) (.slice none 0 0) (.int .i64 0) (.int .i64 0) (.bool false) (.int .i64 0) (.int .i64 0) (.int .i64 0) (.int .i64 0))
  obtain ⟨⟨l0, m0_⟩, ⟨l1, m1_⟩, ru⟩ := store2f (gB.out.row UR9.out (fun e => by have e2 : w.heap.size + 1 + 1 = w.heap.size + 1 := e; omega)) (.int .i64 (szS T)) (.int .i64 6)
  have gU := hide (FrS.set2 (B := w.heap.size) (S := Q1 (w.heap.size + 1 + 1)) (by omega) (rowLt (gB.out.row UR9.out (fun e => by have e2 : w.heap.size + 1 + 1 = w.heap.size + 1 := e; omega))) rfl (.int .i64 (szS T)) (.int .i64 6))
  have RZ := hide (gU.out.row rz (fun e => by have e2 : w.heap.size + 1 = w.heap.size + 1 + 1 := e; omega))
  have RU := hide ru
  have EE := hide ((E9.out.trans gB.out.bel).trans gU.out.bel)
  clear rz ru gB gU
  go_wp2_with fail
  obtain ⟨n0_, n1_, n2_, n3_, n4_, n5_, n6_, n7_, n8_, n9_, n10_, n11_, n12_⟩ := row13 RZ.out
  obtain ⟨o0, o1⟩ := row2 RU.out
  refine bodyPost_ret (v := .tuple #[.agg #[.int .i64 0, .int .i64 0, .int .i64 0, .int .i64 0, .slice none 0 0, .slice none 0 0, .int .i64 0, .int .i64 0, .bool false, .int .i64 0, .int .i64 0, .int .i64 0, .int .i64 0], .agg #[.int .i64 (szS T), .int .i64 6], .int .i64 0]) ?_ rfl ⟨rfl, EE.out⟩
  rw [results_cct14 rfl]
  go_simp
set_option maxRecDepth 100000 in
set_option maxHeartbeats 6400000 in
theorem parse_ov (fm T fl st : Int) (rs : Bool) (A : Option Addr) (n c : Nat) (f : Nat → Int) (D : FD) (w : World) (hr : HdR n T fl st) (hm : misB T st = false) (hs : wrsB T fl n = false) (ha : Rd .u8 w A n c f) (hf : Byt n f) (hn : n ≤ 100000)
    (HF : ∀ (q p c' : Nat) (A' : Option Addr) (B : Nat) (W : World), B ≤ q → B ≤ p → (∀ a, A' = some a → a.block < W.heap.size) → Rdr W q p A' c' n f 0 false false → Calls Try.prog 70 #[.pointer (some ⟨q, 0, none⟩), .agg #[.int .i64 fm, .int .i64 T, .int .i64 fl, .int .i64 st, .bool rs, .slice A n c]] W (FPost T fl st D q p n f B W))
    (hms : D.ms = false) (hov : decide (((n - D.off : Nat) : Int) < m0 D.pad) = true) : Calls Try.prog 19 #[.agg #[.int .i64 fm, .int .i64 T, .int .i64 fl, .int .i64 st, .bool rs, .slice A n c]] w fun e w' => e = .returned (.tuple #[.agg #[.int .i64 0, .int .i64 0, .int .i64 0, .int .i64 0, .slice none 0 0, .slice none 0 0, .int .i64 0, .int .i64 0, .bool false, .int .i64 0, .int .i64 0, .int .i64 0, .int .i64 0], .agg #[.int .i64 2, .int .i64 1], .int .i64 0]) ∧ Below w.heap.size w w' := by
  have HR := hide hr
  have HM := hide hm
  have HS := hide hs
  have HA := hide ha
  have HFF := hide HF
  have HMS := hide hms
  have hfl : fl ≤ 9223372036854775807 := by have := hr.2.2.1; omega
  have HOV := hide hov
  obtain ⟨x0, x1, x2, e0⟩ := heap3f w #[.int .i64 fm, .int .i64 T, .int .i64 fl, .int .i64 st, .bool rs, .slice A n c] #[.int .i64 0, .int .i64 0, .int .i64 0, .int .i64 0, .slice none 0 0, .slice none 0 0, .int .i64 0, .int .i64 0, .bool false, .int .i64 0, .int .i64 0, .int .i64 0, .int .i64 0] #[.int .i64 0, .int .i64 0] 29 25 38
  have RW0 := hide x0
  have ZR0 := hide x1
  have UR0 := hide x2
  have E0 := hide e0
  clear x0 x1 x2 e0 hr hm hs ha HF hms hov
  go_enter Try.func19, Try.ntmps19
  go_upto_region 1 with (fail)
  generalize ((w.alloc (.cells #[.int .i64 fm, .int .i64 T, .int .i64 fl, .int .i64 st, .bool rs, .slice A n c] 29)).alloc (.cells #[.int .i64 0, .int .i64 0, .int .i64 0, .int .i64 0, .slice none 0 0, .slice none 0 0, .int .i64 0, .int .i64 0, .bool false, .int .i64 0, .int .i64 0, .int .i64 0, .int .i64 0] 25)).alloc (.cells #[.int .i64 0, .int .i64 0] 38) = W0 at *
  obtain ⟨s0, s1, s2, s3, s4, s5⟩ := row6 RW0.out
  go_wp2_with fail
  refine (hof14 fm T fl st rs A n c _).mono ?_
  rintro e w1 ⟨rfl, hb⟩
  have RW1 := hide (keepRow RW0.out hb)
  have ZR1 := hide (keepRow ZR0.out hb)
  have UR1 := hide (keepRow UR0.out hb)
  have E1 := hide (E0.out.of hb)
  clear hb s0 s1 s2 s3 s4 s5 RW0 ZR0 UR0 E0
  obtain ⟨s0, s1, s2, s3, s4, s5⟩ := row6 RW1.out
  go_wp2_with fail
  refine (hright_yes n T fl st rs _ HR.out).mono ?_
  rintro e w2 ⟨rfl, hb⟩
  have RW2 := hide (keepRow RW1.out hb)
  have ZR2 := hide (keepRow ZR1.out hb)
  have UR2 := hide (keepRow UR1.out hb)
  have E2 := hide (E1.out.of hb)
  clear hb s0 s1 s2 s3 s4 s5 RW1 ZR1 UR1 E1
  obtain ⟨s0, s1, s2, s3, s4, s5⟩ := row6 RW2.out
  go_wp2_with fail
  refine (mis14 fm T fl st rs (.slice A n c) _).mono ?_
  rw [HM.out]
  rintro e w3 ⟨rfl, hb⟩
  have RW3 := hide (keepRow RW2.out hb)
  have ZR3 := hide (keepRow ZR2.out hb)
  have UR3 := hide (keepRow UR2.out hb)
  have E3 := hide (E2.out.of hb)
  clear hb s0 s1 s2 s3 s4 s5 RW2 ZR2 UR2 E2
  obtain ⟨s0, s1, s2, s3, s4, s5⟩ := row6 RW3.out
  go_wp2_with fail
  refine (wrs14 fm T fl st rs A n c hfl _).mono ?_
  rw [HS.out]
  rintro e w4 ⟨rfl, hb⟩
  have RW4 := hide (keepRow RW3.out hb)
  have ZR4 := hide (keepRow ZR3.out hb)
  have UR4 := hide (keepRow UR3.out hb)
  have E4 := hide (E3.out.of hb)
  clear hb s0 s1 s2 s3 s4 s5 RW3 ZR3 UR3 E3
  obtain ⟨s0, s1, s2, s3, s4, s5⟩ := row6 RW4.out
  go_wp2_with fail
  refine (cnewA A n c f _ (HA.out.belowB (Nat.le_refl _) E4.out) (by omega)).mono ?_
  rintro e w5 ⟨p, A1, c1, rfl, hp, hcur, hA1, hb⟩
  have RW5 := hide (keepRow RW4.out hb)
  have ZR5 := hide (keepRow ZR4.out hb)
  have UR5 := hide (keepRow UR4.out hb)
  have E5 := hide (E4.out.of hb)
  have hzb := rowLt UR4.out
  have Hcur := hide hcur
  have HA1 := hide hA1
  have hpl := hcur.lt
  clear hb hcur hA1 s0 s1 s2 s3 s4 s5 RW4 ZR4 UR4 E4
  have al := (Below.refl w5.heap.size w5).alloc (Nat.le_refl _) (.cells #[.pointer (some ⟨p, 0, none⟩), .bool false, .bool false] 147)
  have QR := hide (heap_alloc_new w5 (.cells #[.pointer (some ⟨p, 0, none⟩), .bool false, .bool false] 147))
  have RW6 := hide (keepRow RW5.out al)
  have ZR6 := hide (keepRow ZR5.out al)
  have UR6 := hide (keepRow UR5.out al)
  have E6 := hide (E5.out.of al)
  have hl5 := rowLt UR5.out
  have Hc2 := hide (Hcur.out.below al)
  have HRd : Hid (Rdr (w5.alloc (.cells #[.pointer (some ⟨p, 0, none⟩), .bool false, .bool false] 147)) w5.heap.size p A1 c1 n f 0 false false) := ⟨Hc2.out, QR.out, by omega, fun a e => by have := HA1.out a e; omega⟩
  have HAl : Hid (∀ a, A1 = some a → a.block < (w5.alloc (.cells #[.pointer (some ⟨p, 0, none⟩), .bool false, .bool false] 147)).heap.size) := fun a e => by have := HA1.out a e; simp; omega
  have hpE : w.heap.size + 1 + 1 < p := by omega
  have hqE : w.heap.size + 1 + 1 < w5.heap.size := by omega
  clear al RW5 ZR5 UR5 E5 Hcur Hc2 QR
  obtain ⟨s0, s1, s2, s3, s4, s5⟩ := row6 RW6.out
  go_wp2_with fail
  refine (HFF.out w5.heap.size p c1 A1 (w.heap.size + 1 + 1 + 1) _ (by omega) (by omega) HAl.out HRd.out).mono ?_
  rintro e w7 ⟨A2, c2, A3, c3, rfl, hr2, hr3, hq, hg, hf2, hf3⟩
  rw [HMS.out, HOV.out] at hq
  have NN : ∀ b, b ≤ w.heap.size + 1 + 1 → ¬ PQ p w5.heap.size b := fun b hb s => s.elim (fun e => by omega) (fun e => by omega)
  have RW7 := hide (hg.row RW6.out (NN _ (by omega)))
  have ZR7 := hide (hg.row ZR6.out (NN _ (by omega)))
  have UR7 := hide (hg.row UR6.out (NN _ (Nat.le_refl _)))
  have E7 := hide (E6.out.trans (hg.bel.mono (by omega)))
  have hu2 := rowLt UR6.out
  have Hr2 := hide hr2
  have Hr3 := hide hr3
  have Hq := hide hq
  have Hf2 : Hid (∀ a, A2 = some a → w.heap.size + 1 + 1 < a.block) := fun a e => by have := hf2 a e; omega
  have Hf3 : Hid (∀ a, A3 = some a → w.heap.size + 1 + 1 < a.block) := fun a e => by have := hf3 a e; omega
  clear hr2 hr3 hq hg hf2 hf3 NN s0 s1 s2 s3 s4 s5 HRd HAl RW6 ZR6 UR6 E6
  have HU2 : Hid True := trivial
  have al := (Below.refl w7.heap.size w7).alloc (Nat.le_refl _) (.cells #[.int .i64 T, .int .i64 fl, .int .i64 st, .int .i64 D.pad, .slice A2 (upN n D.off (m0 D.pad)) c2, .slice A3 D.sn c3, .int .i64 D.wt, .int .i64 D.pa, .bool D.al, .int .i64 D.pm, .int .i64 D.la, .int .i64 D.co, .int .i64 D.sp] 25)
  have FR := hide (heap_alloc_new w7 (.cells #[.int .i64 T, .int .i64 fl, .int .i64 st, .int .i64 D.pad, .slice A2 (upN n D.off (m0 D.pad)) c2, .slice A3 D.sn c3, .int .i64 D.wt, .int .i64 D.pa, .bool D.al, .int .i64 D.pm, .int .i64 D.la, .int .i64 D.co, .int .i64 D.sp] 25))
  have RW8 := hide (keepRow RW7.out al)
  have ZR8 := hide (keepRow ZR7.out al)
  have UR8 := hide (keepRow UR7.out al)
  have E8 := hide (E7.out.of al)
  have Q2 := hide (keepRow Hq.out al)
  have Y2 := hide (Hr2.out.below al)
  have Y3 := hide (Hr3.out.below al)
  clear al RW7 ZR7 UR7 E7 Hq Hr2 Hr3
  obtain ⟨s0, s1, s2, s3, s4, s5⟩ := row6 RW8.out
  obtain ⟨t0, t1, t2⟩ := row3r Q2.out
  obtain ⟨⟨k0, f0⟩, ⟨k1, f1⟩, ⟨k2, f2⟩, ⟨k3, f3⟩, ⟨k4, f4⟩, ⟨k5, f5⟩, ⟨k6, f6⟩, ⟨k7, f7⟩, ⟨k8, f8⟩, ⟨k9, f9⟩, ⟨k10, f10⟩, ⟨k11, f11⟩, ⟨k12, f12⟩, rz⟩ := store13 ZR8.out (.int .i64 0) (.int .i64 0) (.int .i64 0) (.int .i64 0) (.slice none 0 0) (.slice none 0 0) (.int .i64 0) (.int .i64 0) (.bool false) (.int .i64 0) (.int .i64 0) (.int .i64 0) (.int .i64 0)
  have gB := hide (FrS.set13 (B := w.heap.size) (S := Q1 (w.heap.size + 1)) (by omega) (rowLt ZR8.out) rfl (.int .i64 0) (.int .i64 0) (.int .i64 0) (.int .i64 0) (.slice none 0 0) (.slice none 0 0) (.int .i64 0) (.int .i64 0) (.bool false) (.int .i64 0) (.int .i64 0) (.int .i64 0) (.int .i64 0))
  obtain ⟨⟨l0, m0_⟩, ⟨l1, m1_⟩, ru⟩ := store2f (gB.out.row UR8.out (fun e => by have e2 : w.heap.size + 1 + 1 = w.heap.size + 1 := e; omega)) (.int .i64 2) (.int .i64 1)
  have gU := hide (FrS.set2 (B := w.heap.size) (S := Q1 (w.heap.size + 1 + 1)) (by omega) (rowLt (gB.out.row UR8.out (fun e => by have e2 : w.heap.size + 1 + 1 = w.heap.size + 1 := e; omega))) rfl (.int .i64 2) (.int .i64 1))
  have RZ := hide (gU.out.row rz (fun e => by have e2 : w.heap.size + 1 = w.heap.size + 1 + 1 := e; omega))
  have RU := hide ru
  have EE := hide ((E8.out.trans gB.out.bel).trans gU.out.bel)
  clear rz ru gB gU
  go_wp2_with fail
  obtain ⟨n0_, n1_, n2_, n3_, n4_, n5_, n6_, n7_, n8_, n9_, n10_, n11_, n12_⟩ := row13 RZ.out
  obtain ⟨o0, o1⟩ := row2 RU.out
  refine bodyPost_ret (v := .tuple #[.agg #[.int .i64 0, .int .i64 0, .int .i64 0, .int .i64 0, .slice none 0 0, .slice none 0 0, .int .i64 0, .int .i64 0, .bool false, .int .i64 0, .int .i64 0, .int .i64 0, .int .i64 0], .agg #[.int .i64 2, .int .i64 1], .int .i64 0]) ?_ rfl ⟨rfl, EE.out⟩
  rw [results_cct14 rfl]
  go_simp
set_option maxRecDepth 100000 in
set_option maxHeartbeats 6400000 in
theorem parse_ok (fm T fl st : Int) (rs : Bool) (A : Option Addr) (n c : Nat) (f : Nat → Int) (D : FD) (w : World) (hr : HdR n T fl st) (hm : misB T st = false) (hs : wrsB T fl n = false) (ha : Rd .u8 w A n c f) (hf : Byt n f) (hn : n ≤ 100000)
    (HF : ∀ (q p c' : Nat) (A' : Option Addr) (B : Nat) (W : World), B ≤ q → B ≤ p → (∀ a, A' = some a → a.block < W.heap.size) → Rdr W q p A' c' n f 0 false false → Calls Try.prog 70 #[.pointer (some ⟨q, 0, none⟩), .agg #[.int .i64 fm, .int .i64 T, .int .i64 fl, .int .i64 st, .bool rs, .slice A n c]] W (FPost T fl st D q p n f B W))
    (hms : D.ms = false) (hov : decide (((n - D.off : Nat) : Int) < m0 D.pad) = false) : Calls Try.prog 19 #[.agg #[.int .i64 fm, .int .i64 T, .int .i64 fl, .int .i64 st, .bool rs, .slice A n c]] w fun e w' => ∃ A2 c2 A3 c3, e = .returned (.tuple #[.agg #[.int .i64 T, .int .i64 fl, .int .i64 st, .int .i64 D.pad, .slice A2 (upN n D.off (m0 D.pad)) c2, .slice A3 D.sn c3, .int .i64 D.wt, .int .i64 D.pa, .bool D.al, .int .i64 D.pm, .int .i64 D.la, .int .i64 D.co, .int .i64 D.sp], .agg #[.int .i64 0, .int .i64 0], .int .i64 0]) ∧ Rd .u8 w' A2 (upN n D.off (m0 D.pad)) c2 (fun i => f (D.off + i)) ∧ Rd2 w' A3 D.sn c3 (sF f) (sG f) ∧ Below w.heap.size w w' := by
  have HR := hide hr
  have HM := hide hm
  have HS := hide hs
  have HA := hide ha
  have HFF := hide HF
  have HMS := hide hms
  have hfl : fl ≤ 9223372036854775807 := by have := hr.2.2.1; omega
  have HOV := hide hov
  obtain ⟨x0, x1, x2, e0⟩ := heap3f w #[.int .i64 fm, .int .i64 T, .int .i64 fl, .int .i64 st, .bool rs, .slice A n c] #[.int .i64 0, .int .i64 0, .int .i64 0, .int .i64 0, .slice none 0 0, .slice none 0 0, .int .i64 0, .int .i64 0, .bool false, .int .i64 0, .int .i64 0, .int .i64 0, .int .i64 0] #[.int .i64 0, .int .i64 0] 29 25 38
  have RW0 := hide x0
  have ZR0 := hide x1
  have UR0 := hide x2
  have E0 := hide e0
  clear x0 x1 x2 e0 hr hm hs ha HF hms hov
  go_enter Try.func19, Try.ntmps19
  go_upto_region 1 with (fail)
  generalize ((w.alloc (.cells #[.int .i64 fm, .int .i64 T, .int .i64 fl, .int .i64 st, .bool rs, .slice A n c] 29)).alloc (.cells #[.int .i64 0, .int .i64 0, .int .i64 0, .int .i64 0, .slice none 0 0, .slice none 0 0, .int .i64 0, .int .i64 0, .bool false, .int .i64 0, .int .i64 0, .int .i64 0, .int .i64 0] 25)).alloc (.cells #[.int .i64 0, .int .i64 0] 38) = W0 at *
  obtain ⟨s0, s1, s2, s3, s4, s5⟩ := row6 RW0.out
  go_wp2_with fail
  refine (hof14 fm T fl st rs A n c _).mono ?_
  rintro e w1 ⟨rfl, hb⟩
  have RW1 := hide (keepRow RW0.out hb)
  have ZR1 := hide (keepRow ZR0.out hb)
  have UR1 := hide (keepRow UR0.out hb)
  have E1 := hide (E0.out.of hb)
  clear hb s0 s1 s2 s3 s4 s5 RW0 ZR0 UR0 E0
  obtain ⟨s0, s1, s2, s3, s4, s5⟩ := row6 RW1.out
  go_wp2_with fail
  refine (hright_yes n T fl st rs _ HR.out).mono ?_
  rintro e w2 ⟨rfl, hb⟩
  have RW2 := hide (keepRow RW1.out hb)
  have ZR2 := hide (keepRow ZR1.out hb)
  have UR2 := hide (keepRow UR1.out hb)
  have E2 := hide (E1.out.of hb)
  clear hb s0 s1 s2 s3 s4 s5 RW1 ZR1 UR1 E1
  obtain ⟨s0, s1, s2, s3, s4, s5⟩ := row6 RW2.out
  go_wp2_with fail
  refine (mis14 fm T fl st rs (.slice A n c) _).mono ?_
  rw [HM.out]
  rintro e w3 ⟨rfl, hb⟩
  have RW3 := hide (keepRow RW2.out hb)
  have ZR3 := hide (keepRow ZR2.out hb)
  have UR3 := hide (keepRow UR2.out hb)
  have E3 := hide (E2.out.of hb)
  clear hb s0 s1 s2 s3 s4 s5 RW2 ZR2 UR2 E2
  obtain ⟨s0, s1, s2, s3, s4, s5⟩ := row6 RW3.out
  go_wp2_with fail
  refine (wrs14 fm T fl st rs A n c hfl _).mono ?_
  rw [HS.out]
  rintro e w4 ⟨rfl, hb⟩
  have RW4 := hide (keepRow RW3.out hb)
  have ZR4 := hide (keepRow ZR3.out hb)
  have UR4 := hide (keepRow UR3.out hb)
  have E4 := hide (E3.out.of hb)
  clear hb s0 s1 s2 s3 s4 s5 RW3 ZR3 UR3 E3
  obtain ⟨s0, s1, s2, s3, s4, s5⟩ := row6 RW4.out
  go_wp2_with fail
  refine (cnewA A n c f _ (HA.out.belowB (Nat.le_refl _) E4.out) (by omega)).mono ?_
  rintro e w5 ⟨p, A1, c1, rfl, hp, hcur, hA1, hb⟩
  have RW5 := hide (keepRow RW4.out hb)
  have ZR5 := hide (keepRow ZR4.out hb)
  have UR5 := hide (keepRow UR4.out hb)
  have E5 := hide (E4.out.of hb)
  have hzb := rowLt UR4.out
  have Hcur := hide hcur
  have HA1 := hide hA1
  have hpl := hcur.lt
  clear hb hcur hA1 s0 s1 s2 s3 s4 s5 RW4 ZR4 UR4 E4
  have al := (Below.refl w5.heap.size w5).alloc (Nat.le_refl _) (.cells #[.pointer (some ⟨p, 0, none⟩), .bool false, .bool false] 147)
  have QR := hide (heap_alloc_new w5 (.cells #[.pointer (some ⟨p, 0, none⟩), .bool false, .bool false] 147))
  have RW6 := hide (keepRow RW5.out al)
  have ZR6 := hide (keepRow ZR5.out al)
  have UR6 := hide (keepRow UR5.out al)
  have E6 := hide (E5.out.of al)
  have hl5 := rowLt UR5.out
  have Hc2 := hide (Hcur.out.below al)
  have HRd : Hid (Rdr (w5.alloc (.cells #[.pointer (some ⟨p, 0, none⟩), .bool false, .bool false] 147)) w5.heap.size p A1 c1 n f 0 false false) := ⟨Hc2.out, QR.out, by omega, fun a e => by have := HA1.out a e; omega⟩
  have HAl : Hid (∀ a, A1 = some a → a.block < (w5.alloc (.cells #[.pointer (some ⟨p, 0, none⟩), .bool false, .bool false] 147)).heap.size) := fun a e => by have := HA1.out a e; simp; omega
  have hpE : w.heap.size + 1 + 1 < p := by omega
  have hqE : w.heap.size + 1 + 1 < w5.heap.size := by omega
  clear al RW5 ZR5 UR5 E5 Hcur Hc2 QR
  obtain ⟨s0, s1, s2, s3, s4, s5⟩ := row6 RW6.out
  go_wp2_with fail
  refine (HFF.out w5.heap.size p c1 A1 (w.heap.size + 1 + 1 + 1) _ (by omega) (by omega) HAl.out HRd.out).mono ?_
  rintro e w7 ⟨A2, c2, A3, c3, rfl, hr2, hr3, hq, hg, hf2, hf3⟩
  rw [HMS.out, HOV.out] at hq
  have NN : ∀ b, b ≤ w.heap.size + 1 + 1 → ¬ PQ p w5.heap.size b := fun b hb s => s.elim (fun e => by omega) (fun e => by omega)
  have RW7 := hide (hg.row RW6.out (NN _ (by omega)))
  have ZR7 := hide (hg.row ZR6.out (NN _ (by omega)))
  have UR7 := hide (hg.row UR6.out (NN _ (Nat.le_refl _)))
  have E7 := hide (E6.out.trans (hg.bel.mono (by omega)))
  have hu2 := rowLt UR6.out
  have Hr2 := hide hr2
  have Hr3 := hide hr3
  have Hq := hide hq
  have Hf2 : Hid (∀ a, A2 = some a → w.heap.size + 1 + 1 < a.block) := fun a e => by have := hf2 a e; omega
  have Hf3 : Hid (∀ a, A3 = some a → w.heap.size + 1 + 1 < a.block) := fun a e => by have := hf3 a e; omega
  clear hr2 hr3 hq hg hf2 hf3 NN s0 s1 s2 s3 s4 s5 HRd HAl RW6 ZR6 UR6 E6
  have HU2 : Hid True := trivial
  have al := (Below.refl w7.heap.size w7).alloc (Nat.le_refl _) (.cells #[.int .i64 T, .int .i64 fl, .int .i64 st, .int .i64 D.pad, .slice A2 (upN n D.off (m0 D.pad)) c2, .slice A3 D.sn c3, .int .i64 D.wt, .int .i64 D.pa, .bool D.al, .int .i64 D.pm, .int .i64 D.la, .int .i64 D.co, .int .i64 D.sp] 25)
  have FR := hide (heap_alloc_new w7 (.cells #[.int .i64 T, .int .i64 fl, .int .i64 st, .int .i64 D.pad, .slice A2 (upN n D.off (m0 D.pad)) c2, .slice A3 D.sn c3, .int .i64 D.wt, .int .i64 D.pa, .bool D.al, .int .i64 D.pm, .int .i64 D.la, .int .i64 D.co, .int .i64 D.sp] 25))
  have RW8 := hide (keepRow RW7.out al)
  have ZR8 := hide (keepRow ZR7.out al)
  have UR8 := hide (keepRow UR7.out al)
  have E8 := hide (E7.out.of al)
  have Q2 := hide (keepRow Hq.out al)
  have Y2 := hide (Hr2.out.below al)
  have Y3 := hide (Hr3.out.below al)
  clear al RW7 ZR7 UR7 E7 Hq Hr2 Hr3
  obtain ⟨s0, s1, s2, s3, s4, s5⟩ := row6 RW8.out
  obtain ⟨t0, t1, t2⟩ := row3r Q2.out
  obtain ⟨g0_, g1_, g2_, g3_, g4_, g5_, g6_, g7_, g8_, g9_, g10_, g11_, g12_⟩ := row13 FR.out
  obtain ⟨⟨k0, f0⟩, ⟨k1, f1⟩, ⟨k2, f2⟩, ⟨k3, f3⟩, ⟨k4, f4⟩, ⟨k5, f5⟩, ⟨k6, f6⟩, ⟨k7, f7⟩, ⟨k8, f8⟩, ⟨k9, f9⟩, ⟨k10, f10⟩, ⟨k11, f11⟩, ⟨k12, f12⟩, rz⟩ := store13 ZR8.out (.int .i64 T) (.int .i64 fl) (.int .i64 st) (.int .i64 D.pad) (.slice A2 (upN n D.off (m0 D.pad)) c2) (.slice A3 D.sn c3) (.int .i64 D.wt) (.int .i64 D.pa) (.bool D.al) (.int .i64 D.pm) (.int .i64 D.la) (.int .i64 D.co) (.int .i64 D.sp)
  have gB := hide (FrS.set13 (B := w.heap.size) (S := Q1 (w.heap.size + 1)) (by omega) (rowLt ZR8.out) rfl (.int .i64 T) (.int .i64 fl) (.int .i64 st) (.int .i64 D.pad) (.slice A2 (upN n D.off (m0 D.pad)) c2) (.slice A3 D.sn c3) (.int .i64 D.wt) (.int .i64 D.pa) (.bool D.al) (.int .i64 D.pm) (.int .i64 D.la) (.int .i64 D.co) (.int .i64 D.sp))
  obtain ⟨⟨l0, m0_⟩, ⟨l1, m1_⟩, ru⟩ := store2f (gB.out.row UR8.out (fun e => by have e2 : w.heap.size + 1 + 1 = w.heap.size + 1 := e; omega)) (.int .i64 0) (.int .i64 0)
  have gU := hide (FrS.set2 (B := w.heap.size) (S := Q1 (w.heap.size + 1 + 1)) (by omega) (rowLt (gB.out.row UR8.out (fun e => by have e2 : w.heap.size + 1 + 1 = w.heap.size + 1 := e; omega))) rfl (.int .i64 0) (.int .i64 0))
  have RZ := hide (gU.out.row rz (fun e => by have e2 : w.heap.size + 1 = w.heap.size + 1 + 1 := e; omega))
  have RU := hide ru
  have EE := hide ((E8.out.trans gB.out.bel).trans gU.out.bel)
  have YY2 := hide ((Y2.out.frs gB.out (fun b off _ e s => by have := Hf2.out _ e; have e2 : b = w.heap.size + 1 := s; simp at this; omega)).frs gU.out (fun b off _ e s => by have := Hf2.out _ e; have e2 : b = w.heap.size + 1 + 1 := s; simp at this; omega))
  have YY3 := hide ((Y3.out.frs gB.out (fun b off _ e s => by have := Hf3.out _ e; have e2 : b = w.heap.size + 1 := s; simp at this; omega)).frs gU.out (fun b off _ e s => by have := Hf3.out _ e; have e2 : b = w.heap.size + 1 + 1 := s; simp at this; omega))
  clear rz ru gB gU
  go_wp2_with fail
  obtain ⟨n0_, n1_, n2_, n3_, n4_, n5_, n6_, n7_, n8_, n9_, n10_, n11_, n12_⟩ := row13 RZ.out
  obtain ⟨o0, o1⟩ := row2 RU.out
  refine bodyPost_ret (v := .tuple #[.agg #[.int .i64 T, .int .i64 fl, .int .i64 st, .int .i64 D.pad, .slice A2 (upN n D.off (m0 D.pad)) c2, .slice A3 D.sn c3, .int .i64 D.wt, .int .i64 D.pa, .bool D.al, .int .i64 D.pm, .int .i64 D.la, .int .i64 D.co, .int .i64 D.sp], .agg #[.int .i64 0, .int .i64 0], .int .i64 0]) ?_ rfl ⟨A2, c2, A3, c3, rfl, YY2.out, YY3.out, EE.out⟩
  rw [results_cct14 rfl]
  go_simp
end Go.Proofs.Ytpnjamomkpkkeaa
