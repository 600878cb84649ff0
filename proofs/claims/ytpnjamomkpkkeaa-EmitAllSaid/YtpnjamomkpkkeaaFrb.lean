/- Layer 14: what any frame says, or how it is wrong. -/
import Derived.Test.YtpnjamomkpkkeaaFra
namespace Go.Proofs.Ytpnjamomkpkkeaa
set_option linter.unusedVariables false
set_option linter.unusedSimpArgs false
open Go.RowKit

set_option maxRecDepth 100000 in
set_option maxHeartbeats 6400000 in
theorem parse_arg (fm T fl st : Int) (rs : Bool) (A : Option Addr) (n c : Nat) (w : World) (hr : ¬ HdR n T fl st) : Calls Try.prog 19 #[.agg #[.int .i64 fm, .int .i64 T, .int .i64 fl, .int .i64 st, .bool rs, .slice A n c]] w fun e w' => e = .returned (.tuple #[.agg #[.int .i64 0, .int .i64 0, .int .i64 0, .int .i64 0, .slice none 0 0, .slice none 0 0, .int .i64 0, .int .i64 0, .bool false, .int .i64 0, .int .i64 0, .int .i64 0, .int .i64 0], .agg #[.int .i64 0, .int .i64 0], .int .i64 1]) ∧ Below w.heap.size w w' := by
  have HR := hide hr
  obtain ⟨x0, x1, x2, e0⟩ := heap3f w #[.int .i64 fm, .int .i64 T, .int .i64 fl, .int .i64 st, .bool rs, .slice A n c] #[.int .i64 0, .int .i64 0, .int .i64 0, .int .i64 0, .slice none 0 0, .slice none 0 0, .int .i64 0, .int .i64 0, .bool false, .int .i64 0, .int .i64 0, .int .i64 0, .int .i64 0] #[.int .i64 0, .int .i64 0] 29 25 38
  have RW0 := hide x0
  have ZR0 := hide x1
  have UR0 := hide x2
  have E0 := hide e0
  clear x0 x1 x2 e0 hr
  go_enter Try.func19, Try.ntmps19
  go_upto_region 1 with (fail)
  generalize ((w.alloc (.cells #[.int .i64 fm, .int .i64 T, .int .i64 fl, .int .i64 st, .bool rs, .slice A n c] 29)).alloc (.cells #[.int .i64 0, .int .i64 0, .int .i64 0, .int .i64 0, .slice none 0 0, .slice none 0 0, .int .i64 0, .int .i64 0, .bool false, .int .i64 0, .int .i64 0, .int .i64 0, .int .i64 0] 25)).alloc (.cells #[.int .i64 0, .int .i64 0] 38) = W0 at *
  obtain ⟨s0, s1, s2, s3, s4, s5⟩ := row6 RW0.out
  go_wp2_with fail
  refine (hof14 fm T fl st rs A n c _).mono ?_
  rintro e w1 ⟨rfl, hb⟩
  have RW1 := hide (keepRow RW0.out hb)
  have ZR1 := hide (keepRow ZR0.out hb)
  have UR1 := hide (keepRow UR0.out hb)
  have E1 := hide (E0.out.of hb)
  clear hb s0 s1 s2 s3 s4 s5 RW0 ZR0 UR0 E0
  obtain ⟨s0, s1, s2, s3, s4, s5⟩ := row6 RW1.out
  go_wp2_with fail
  refine (hright_no n T fl st rs _ HR.out).mono ?_
  rintro e w2 ⟨rfl, hb⟩
  have RW2 := hide (keepRow RW1.out hb)
  have ZR2 := hide (keepRow ZR1.out hb)
  have UR2 := hide (keepRow UR1.out hb)
  have E2 := hide (E1.out.of hb)
  clear hb s0 s1 s2 s3 s4 s5 RW1 ZR1 UR1 E1
  obtain ⟨⟨k0, f0⟩, ⟨k1, f1⟩, ⟨k2, f2⟩, ⟨k3, f3⟩, ⟨k4, f4⟩, ⟨k5, f5⟩, ⟨k6, f6⟩, ⟨k7, f7⟩, ⟨k8, f8⟩, ⟨k9, f9⟩, ⟨k10, f10⟩, ⟨k11, f11⟩, ⟨k12, f12⟩, rz⟩ := store13 ZR2.out (.int .i64 0) (.int .i64 0) (.int .i64 0) (.int .i64 0) (.slice none 0 0) (.slice none 0 0) (.int .i64 0) (.int .i64 0) (.bool false) (.int .i64 0) (.int .i64 0) (.int .i64 0) (.int .i64 0)
  have gB := hide (FrS.set13 (B := w.heap.size) (S := Q1 (w.heap.size + 1)) (by omega) (rowLt ZR2.out) rfl (.int .i64 0) (.int .i64 0) (.int .i64 0) (.int .i64 0) (.slice none 0 0) (.slice none 0 0) (.int .i64 0) (.int .i64 0) (.bool false) (.int .i64 0) (.int .i64 0) (.int .i64 0) (.int .i64 0))
  obtain ⟨⟨l0, m0_⟩, ⟨l1, m1_⟩, ru⟩ := store2f (gB.out.row UR2.out (fun e => by have e2 : w.heap.size + 1 + 1 = w.heap.size + 1 := e; omega)) (.int .i64 0) (.int .i64 0)
  have gU := hide (FrS.set2 (B := w.heap.size) (S := Q1 (w.heap.size + 1 + 1)) (by omega) (rowLt (gB.out.row UR2.out (fun e => by have e2 : w.heap.size + 1 + 1 = w.heap.size + 1 := e; omega))) rfl (.int .i64 0) (.int .i64 0))
  have RZ := hide (gU.out.row rz (fun e => by have e2 : w.heap.size + 1 = w.heap.size + 1 + 1 := e; omega))
  have RU := hide ru
  have EE := hide ((E2.out.trans gB.out.bel).trans gU.out.bel)
  clear rz ru gB gU
  go_wp2_with fail
  obtain ⟨n0_, n1_, n2_, n3_, n4_, n5_, n6_, n7_, n8_, n9_, n10_, n11_, n12_⟩ := row13 RZ.out
  obtain ⟨o0, o1⟩ := row2 RU.out
  refine bodyPost_ret (v := .tuple #[.agg #[.int .i64 0, .int .i64 0, .int .i64 0, .int .i64 0, .slice none 0 0, .slice none 0 0, .int .i64 0, .int .i64 0, .bool false, .int .i64 0, .int .i64 0, .int .i64 0, .int .i64 0], .agg #[.int .i64 0, .int .i64 0], .int .i64 1]) ?_ rfl ⟨rfl, EE.out⟩
  rw [results_cct14 rfl]
  go_simp
set_option maxRecDepth 100000 in
set_option maxHeartbeats 6400000 in
theorem parse_mis (fm T fl st : Int) (rs : Bool) (A : Option Addr) (n c : Nat) (w : World) (hr : HdR n T fl st) (hm : misB T st = true) : Calls Try.prog 19 #[.agg #[.int .i64 fm, .int .i64 T, .int .i64 fl, .int .i64 st, .bool rs, .slice A n c]] w fun e w' => e = .returned (.tuple #[.agg #[.int .i64 0, .int .i64 0, .int .i64 0, .int .i64 0, .slice none 0 0, .slice none 0 0, .int .i64 0, .int .i64 0, .bool false, .int .i64 0, .int .i64 0, .int .i64 0, .int .i64 0], .agg #[.int .i64 2, .int .i64 1], .int .i64 0]) ∧ Below w.heap.size w w' := by
  have HR := hide hr
  have HM := hide hm
  obtain ⟨x0, x1, x2, e0⟩ := heap3f w #[.int .i64 fm, .int .i64 T, .int .i64 fl, .int .i64 st, .bool rs, .slice A n c] #[.int .i64 0, .int .i64 0, .int .i64 0, .int .i64 0, .slice none 0 0, .slice none 0 0, .int .i64 0, .int .i64 0, .bool false, .int .i64 0, .int .i64 0, .int .i64 0, .int .i64 0] #[.int .i64 0, .int .i64 0] 29 25 38
  have RW0 := hide x0
  have ZR0 := hide x1
  have UR0 := hide x2
  have E0 := hide e0
  clear x0 x1 x2 e0 hr hm
  go_enter Try.func19, Try.ntmps19
  go_upto_region 1 with (fail)
  generalize ((w.alloc (.cells #[.int .i64 fm, .int .i64 T, .int .i64 fl, .int .i64 st, .bool rs, .slice A n c] 29)).alloc (.cells #[.int .i64 0, .int .i64 0, .int .i64 0, .int .i64 0, .slice none 0 0, .slice none 0 0, .int .i64 0, .int .i64 0, .bool false, .int .i64 0, .int .i64 0, .int .i64 0, .int .i64 0] 25)).alloc (.cells #[.int .i64 0, .int .i64 0] 38) = W0 at *
  obtain ⟨s0, s1, s2, s3, s4, s5⟩ := row6 RW0.out
  go_wp2_with fail
  refine (hof14 fm T fl st rs A n c _).mono ?_
  rintro e w1 ⟨rfl, hb⟩
  have RW1 := hide (keepRow RW0.out hb)
  have ZR1 := hide (keepRow ZR0.out hb)
  have UR1 := hide (keepRow UR0.out hb)
  have E1 := hide (E0.out.of hb)
  clear hb s0 s1 s2 s3 s4 s5 RW0 ZR0 UR0 E0
  obtain ⟨s0, s1, s2, s3, s4, s5⟩ := row6 RW1.out
  go_wp2_with fail
  refine (hright_yes n T fl st rs _ HR.out).mono ?_
  rintro e w2 ⟨rfl, hb⟩
  have RW2 := hide (keepRow RW1.out hb)
  have ZR2 := hide (keepRow ZR1.out hb)
  have UR2 := hide (keepRow UR1.out hb)
  have E2 := hide (E1.out.of hb)
  clear hb s0 s1 s2 s3 s4 s5 RW1 ZR1 UR1 E1
  obtain ⟨s0, s1, s2, s3, s4, s5⟩ := row6 RW2.out
  go_wp2_with fail
  refine (mis14 fm T fl st rs (.slice A n c) _).mono ?_
  rw [HM.out]
  rintro e w3 ⟨rfl, hb⟩
  have RW3 := hide (keepRow RW2.out hb)
  have ZR3 := hide (keepRow ZR2.out hb)
  have UR3 := hide (keepRow UR2.out hb)
  have E3 := hide (E2.out.of hb)
  clear hb s0 s1 s2 s3 s4 s5 RW2 ZR2 UR2 E2
  obtain ⟨⟨k0, f0⟩, ⟨k1, f1⟩, ⟨k2, f2⟩, ⟨k3, f3⟩, ⟨k4, f4⟩, ⟨k5, f5⟩, ⟨k6, f6⟩, ⟨k7, f7⟩, ⟨k8, f8⟩, ⟨k9, f9⟩, ⟨k10, f10⟩, ⟨k11, f11⟩, ⟨k12, f12⟩, rz⟩ := store13 ZR3.out (.int .i64 0) (.int .i64 0) (.int .i64 0) (.int .i64 0) (.slice none 0 0) (.slice none 0 0) (.int .i64 0) (.int .i64 0) (.bool false) (.int .i64 0) (.int .i64 0) (.int .i64 0) (.int .i64 0)
  have gB := hide (FrS.set13 (B := w.heap.size) (S := Q1 (w.heap.size + 1)) (by omega) (rowLt ZR3.out) rfl (.int .i64 0) (.int .i64 0) (.int .i64 0) (.int .i64 0) (.slice none 0 0) (.slice none 0 0) (.int .i64 0) (.int .i64 0) (.bool false) (.int .i64 0) (.int .i64 0) (.int .i64 0) (.int .i64 0))
  obtain ⟨⟨l0, m0_⟩, ⟨l1, m1_⟩, ru⟩ := store2f (gB.out.row UR3.out (fun e => by have e2 : w.heap.size + 1 + 1 = w.heap.size + 1 := e; omega)) (.int .i64 2) (.int .i64 1)
  have gU := hide (FrS.set2 (B := w.heap.size) (S := Q1 (w.heap.size + 1 + 1)) (by omega) (rowLt (gB.out.row UR3.out (fun e => by have e2 : w.heap.size + 1 + 1 = w.heap.size + 1 := e; omega))) rfl (.int .i64 2) (.int .i64 1))
  have RZ := hide (gU.out.row rz (fun e => by have e2 : w.heap.size + 1 = w.heap.size + 1 + 1 := e; omega))
  have RU := hide ru
  have EE := hide ((E3.out.trans gB.out.bel).trans gU.out.bel)
  clear rz ru gB gU
  go_wp2_with fail
  obtain ⟨n0_, n1_, n2_, n3_, n4_, n5_, n6_, n7_, n8_, n9_, n10_, n11_, n12_⟩ := row13 RZ.out
  obtain ⟨o0, o1⟩ := row2 RU.out
  refine bodyPost_ret (v := .tuple #[.agg #[.int .i64 0, .int .i64 0, .int .i64 0, .int .i64 0, .slice none 0 0, .slice none 0 0, .int .i64 0, .int .i64 0, .bool false, .int .i64 0, .int .i64 0, .int .i64 0, .int .i64 0], .agg #[.int .i64 2, .int .i64 1], .int .i64 0]) ?_ rfl ⟨rfl, EE.out⟩
  rw [results_cct14 rfl]
  go_simp
set_option maxRecDepth 100000 in
set_option maxHeartbeats 6400000 in
theorem parse_size (fm T fl st : Int) (rs : Bool) (A : Option Addr) (n c : Nat) (w : World) (hr : HdR n T fl st) (hm : misB T st = false) (hs : wrsB T fl n = true) : Calls Try.prog 19 #[.agg #[.int .i64 fm, .int .i64 T, .int .i64 fl, .int .i64 st, .bool rs, .slice A n c]] w fun e w' => e = .returned (.tuple #[.agg #[.int .i64 0, .int .i64 0, .int .i64 0, .int .i64 0, .slice none 0 0, .slice none 0 0, .int .i64 0, .int .i64 0, .bool false, .int .i64 0, .int .i64 0, .int .i64 0, .int .i64 0], .agg #[.int .i64 (szS T), .int .i64 6], .int .i64 0]) ∧ Below w.heap.size w w' := by
  have HR := hide hr
  have HM := hide hm
  have HS := hide hs
  have hfl : fl ≤ 9223372036854775807 := by have := hr.2.2.1; omega
  obtain ⟨x0, x1, x2, e0⟩ := heap3f w #[.int .i64 fm, .int .i64 T, .int .i64 fl, .int .i64 st, .bool rs, .slice A n c] #[.int .i64 0, .int .i64 0, .int .i64 0, .int .i64 0, .slice none 0 0, .slice none 0 0, .int .i64 0, .int .i64 0, .bool false, .int .i64 0, .int .i64 0, .int .i64 0, .int .i64 0] #[.int .i64 0, .int .i64 0] 29 25 38
  have RW0 := hide x0
  have ZR0 := hide x1
  have UR0 := hide x2
  have E0 := hide e0
  clear x0 x1 x2 e0 hr hm hs
  go_enter Try.func19, Try.ntmps19
  go_upto_region 1 with (fail)
  generalize ((w.alloc (.cells #[.int .i64 fm, .int .i64 T, .int .i64 fl, .int .i64 st, .bool rs, .slice A n c] 29)).alloc (.cells #[.int .i64 0, .int .i64 0, .int .i64 0, .int .i64 0, .slice none 0 0, .slice none 0 0, .int .i64 0, .int .i64 0, .bool false, .int .i64 0, .int .i64 0, .int .i64 0, .int .i64 0] 25)).alloc (.cells #[.int .i64 0, .int .i64 0] 38) = W0 at *
  obtain ⟨s0, s1, s2, s3, s4, s5⟩ := row6 RW0.out
  go_wp2_with fail
  refine (hof14 fm T fl st rs A n c _).mono ?_
  rintro e w1 ⟨rfl, hb⟩
  have RW1 := hide (keepRow RW0.out hb)
  have ZR1 := hide (keepRow ZR0.out hb)
  have UR1 := hide (keepRow UR0.out hb)
  have E1 := hide (E0.out.of hb)
  clear hb s0 s1 s2 s3 s4 s5 RW0 ZR0 UR0 E0
  obtain ⟨s0, s1, s2, s3, s4, s5⟩ := row6 RW1.out
  go_wp2_with fail
  refine (hright_yes n T fl st rs _ HR.out).mono ?_
  rintro e w2 ⟨rfl, hb⟩
  have RW2 := hide (keepRow RW1.out hb)
  have ZR2 := hide (keepRow ZR1.out hb)
  have UR2 := hide (keepRow UR1.out hb)
  have E2 := hide (E1.out.of hb)
  clear hb s0 s1 s2 s3 s4 s5 RW1 ZR1 UR1 E1
  obtain ⟨s0, s1, s2, s3, s4, s5⟩ := row6 RW2.out
  go_wp2_with fail
  refine (mis14 fm T fl st rs (.slice A n c) _).mono ?_
  rw [HM.out]
  rintro e w3 ⟨rfl, hb⟩
  have RW3 := hide (keepRow RW2.out hb)
  have ZR3 := hide (keepRow ZR2.out hb)
  have UR3 := hide (keepRow UR2.out hb)
  have E3 := hide (E2.out.of hb)
  clear hb s0 s1 s2 s3 s4 s5 RW2 ZR2 UR2 E2
  obtain ⟨s0, s1, s2, s3, s4, s5⟩ := row6 RW3.out
  go_wp2_with fail
  refine (wrs14 fm T fl st rs A n c hfl _).mono ?_
  rw [HS.out]
  rintro e w4 ⟨rfl, hb⟩
  have RW4 := hide (keepRow RW3.out hb)
  have ZR4 := hide (keepRow ZR3.out hb)
  have UR4 := hide (keepRow UR3.out hb)
  have E4 := hide (E3.out.of hb)
  clear hb s0 s1 s2 s3 s4 s5 RW3 ZR3 UR3 E3
  obtain ⟨s0, s1, s2, s3, s4, s5⟩ := row6 RW4.out
  go_wp2_with fail
  refine (size14 T _).mono ?_
  rintro e w5 ⟨rfl, hb⟩
  have RW5 := hide (keepRow RW4.out hb)
  have ZR5 := hide (keepRow ZR4.out hb)
  have UR5 := hide (keepRow UR4.out hb)
  have E5 := hide (E4.out.of hb)
  clear hb s0 s1 s2 s3 s4 s5 RW4 ZR4 UR4 E4
  obtain ⟨⟨k0, f0⟩, ⟨k1, f1⟩, ⟨k2, f2⟩, ⟨k3, f3⟩, ⟨k4, f4⟩, ⟨k5, f5⟩, ⟨k6, f6⟩, ⟨k7, f7⟩, ⟨k8, f8⟩, ⟨k9, f9⟩, ⟨k10, f10⟩, ⟨k11, f11⟩, ⟨k12, f12⟩, rz⟩ := store13 ZR5.out (.int .i64 0) (.int .i64 0) (.int .i64 0) (.int .i64 0) (.slice none 0 0) (.slice none 0 0) (.int .i64 0) (.int .i64 0) (.bool false) (.int .i64 0) (.int .i64 0) (.int .i64 0) (.int .i64 0)
  have gB := hide (FrS.set13 (B := w.heap.size) (S := Q1 (w.heap.size + 1)) (by omega) (rowLt ZR5.out) rfl (.int .i64 0) (.int .i64 0) (.int .i64 0) (.int .i64 0) (.slice none 0 0) (.slice none 0 0) (.int .i64 0) (.int .i64 0) (.bool false) (.int .i64 0) (.int .i64 0) (.int .i64 0) (.int .i64 0))
  obtain ⟨⟨l0, m0_⟩, ⟨l1, m1_⟩, ru⟩ := store2f (gB.out.row UR5.out (fun e => by have e2 : w.heap.size + 1 + 1 = w.heap.size + 1 := e; omega)) (.int .i64 (szS T)) (.int .i64 6)
  have gU := hide (FrS.set2 (B := w.heap.size) (S := Q1 (w.heap.size + 1 + 1)) (by omega) (rowLt (gB.out.row UR5.out (fun e => by have e2 : w.heap.size + 1 + 1 = w.heap.size + 1 := e; omega))) rfl (.int .i64 (szS T)) (.int .i64 6))
  have RZ := hide (gU.out.row rz (fun e => by have e2 : w.heap.size + 1 = w.heap.size + 1 + 1 := e; omega))
  have RU := hide ru
  have EE := hide ((E5.out.trans gB.out.bel).trans gU.out.bel)
  clear rz ru gB gU
  go_wp2_with fail
  obtain ⟨n0_, n1_, n2_, n3_, n4_, n5_, n6_, n7_, n8_, n9_, n10_, n11_, n12_⟩ := row13 RZ.out
  obtain ⟨o0, o1⟩ := row2 RU.out
  refine bodyPost_ret (v := .tuple #[.agg #[.int .i64 0, .int .i64 0, .int .i64 0, .int .i64 0, .slice none 0 0, .slice none 0 0, .int .i64 0, .int .i64 0, .bool false, .int .i64 0, .int .i64 0, .int .i64 0, .int .i64 0], .agg #[.int .i64 (szS T), .int .i64 6], .int .i64 0]) ?_ rfl ⟨rfl, EE.out⟩
  rw [results_cct14 rfl]
  go_simp
end Go.Proofs.Ytpnjamomkpkkeaa
