/- Layer 14: what any frame says, or how it is wrong: the law's walk. -/
import Derived.Test.YtelcpfjifhobjaaFsc
import Derived.Test.YtelcpfjifhobjaaFrg
namespace Go.Proofs.Ytelcpfjifhobjaa
set_option linter.unusedVariables false
set_option linter.unusedSimpArgs false
open Go.RowKit

theorem smB_selfZ (T fl st pd : Int) (n : Nat) (f : Nat → Int) (n2 : Nat) (s1 t1 : Nat → Int) (wt pa pm la co sp : Int) (al : Bool) : smB T fl st pd T fl st pd n n f f n2 n2 s1 t1 s1 t1 wt pa pm la co sp wt pa pm la co sp al al = true := by
  have h1 : sameB n n f f = true := sameB_yes rfl fun _ _ => rfl
  have h2 : same2B n2 n2 s1 t1 s1 t1 = true := decide_eq_true ⟨rfl, fun _ _ => ⟨rfl, rfl⟩⟩
  unfold smB
  rw [h1, h2]
  simp
theorem alloc2r (w : World) (a1 a2 : Array Value) (T1 T2 : TypeId) : ((w.alloc (.cells a1 T1)).alloc (.cells a2 T2)).heap[w.heap.size]? = some (.cells a1 T1 (0, 0)) ∧ ((w.alloc (.cells a1 T1)).alloc (.cells a2 T2)).heap[w.heap.size + 1]? = some (.cells a2 T2 (0, 0)) ∧ Below w.heap.size w ((w.alloc (.cells a1 T1)).alloc (.cells a2 T2)) := heap2f w a1 a2 T1 T2
set_option maxHeartbeats 3200000 in
theorem rright14 (fm T fl st : Int) (rs : Bool) (A : Option Addr) (n c : Nat) (b : Bool) (hb : decide (HdR n T fl st) = b) (w : World) : Calls Try.prog 14 #[.agg #[.int .i64 fm, .int .i64 T, .int .i64 fl, .int .i64 st, .bool rs, .slice A n c]] w fun e w' => e = .returned (.bool b) ∧ Below w.heap.size w w' := by
  have R0 := hide (heap_alloc_new w (.cells #[.int .i64 fm, .int .i64 T, .int .i64 fl, .int .i64 st, .bool rs, .slice A n c] 24))
  have E0 := hide ((Below.refl w.heap.size w).alloc (Nat.le_refl _) (.cells #[.int .i64 fm, .int .i64 T, .int .i64 fl, .int .i64 st, .bool rs, .slice A n c] 24))
  obtain ⟨s0, s1, s2, s3, s4, s5⟩ := row6 R0.out
  have HB := hide hb
  clear hb
  by_cases t0 : 0 ≤ T
  · by_cases t1 : T < 256
    · by_cases f0 : 0 ≤ fl
      · by_cases f1 : fl < 256
        · by_cases q0 : 0 ≤ st
          · by_cases q1 : st < 2147483648
            · by_cases n1 : (n : Int) < 16777216
              · have hv : b = true := by rw [← HB.out]; exact decide_eq_true (by unfold HdR; omega)
                subst hv
                have := decide_eq_true t0; have := decide_eq_true t1; have := decide_eq_true f0; have := decide_eq_true f1; have := decide_eq_true q0; have := decide_eq_true q1; have := decide_eq_true n1
                clear t0 t1 f0 f1 q0 q1 n1 HB
                go_enter Try.func14, Try.ntmps14; go_wp2; go_ret; exact ⟨rfl, E0.out⟩
              · have hv : b = false := by rw [← HB.out]; exact decide_eq_false (by unfold HdR; omega)
                subst hv
                have := decide_eq_true t0; have := decide_eq_true t1; have := decide_eq_true f0; have := decide_eq_true f1; have := decide_eq_true q0; have := decide_eq_true q1; have := decide_eq_false n1
                clear t0 t1 f0 f1 q0 q1 n1 HB
                go_enter Try.func14, Try.ntmps14; go_wp2; go_ret; exact ⟨rfl, E0.out⟩
            · have hv : b = false := by rw [← HB.out]; exact decide_eq_false (by unfold HdR; omega)
              subst hv
              have := decide_eq_true t0; have := decide_eq_true t1; have := decide_eq_true f0; have := decide_eq_true f1; have := decide_eq_true q0; have := decide_eq_false q1
              clear t0 t1 f0 f1 q0 q1 HB
              go_enter Try.func14, Try.ntmps14; go_wp2; go_ret; exact ⟨rfl, E0.out⟩
          · have hv : b = false := by rw [← HB.out]; exact decide_eq_false (by unfold HdR; omega)
            subst hv
            have := decide_eq_true t0; have := decide_eq_true t1; have := decide_eq_true f0; have := decide_eq_true f1; have := decide_eq_false q0
            clear t0 t1 f0 f1 q0 HB
            go_enter Try.func14, Try.ntmps14; go_wp2; go_ret; exact ⟨rfl, E0.out⟩
        · have hv : b = false := by rw [← HB.out]; exact decide_eq_false (by unfold HdR; omega)
          subst hv
          have := decide_eq_true t0; have := decide_eq_true t1; have := decide_eq_true f0; have := decide_eq_false f1
          clear t0 t1 f0 f1 HB
          go_enter Try.func14, Try.ntmps14; go_wp2; go_ret; exact ⟨rfl, E0.out⟩
      · have hv : b = false := by rw [← HB.out]; exact decide_eq_false (by unfold HdR; omega)
        subst hv
        have := decide_eq_true t0; have := decide_eq_true t1; have := decide_eq_false f0
        clear t0 t1 f0 HB
        go_enter Try.func14, Try.ntmps14; go_wp2; go_ret; exact ⟨rfl, E0.out⟩
    · have hv : b = false := by rw [← HB.out]; exact decide_eq_false (by unfold HdR; omega)
      subst hv
      have := decide_eq_true t0; have := decide_eq_false t1
      clear t0 t1 HB
      go_enter Try.func14, Try.ntmps14; go_wp2; go_ret; exact ⟨rfl, E0.out⟩
  · have hv : b = false := by rw [← HB.out]; exact decide_eq_false (by unfold HdR; omega)
    subst hv
    have := decide_eq_false t0
    clear t0 HB
    go_enter Try.func14, Try.ntmps14; go_wp2; go_ret; exact ⟨rfl, E0.out⟩

set_option maxRecDepth 100000 in
set_option maxHeartbeats 6400000 in
theorem parses_walk14 (fm T fl st : Int) (rs : Bool) (A : Option Addr) (n c : Nat) (f : Nat → Int) (w : World) (ha : Rd .u8 w A n c f) (hf : Byt n f) : Calls Try.prog 3 #[.agg #[.int .i64 fm, .int .i64 T, .int .i64 fl, .int .i64 st, .bool rs, .slice A n c]] w (Yes w) := by
  have hn63 : n ≤ 9223372036854775807 := by have h1 := ha.1; have h2 := ha.2.1; simp only [maxLen] at h2; omega
  have R0 := hide (heap_alloc_new w (.cells #[.int .i64 fm, .int .i64 T, .int .i64 fl, .int .i64 st, .bool rs, .slice A n c] 24))
  have e0 := (Below.refl w.heap.size w).alloc (Nat.le_refl _) (.cells #[.int .i64 fm, .int .i64 T, .int .i64 fl, .int .i64 st, .bool rs, .slice A n c] 24)
  have E0 := hide e0
  have HA := hide (ha.below e0)
  have Hf := hide hf
  clear ha hf e0
  obtain ⟨s0, s1, s2, s3, s4, s5⟩ := row6 R0.out
  by_cases hbig : (2000 : Int) < (n : Int)
  · have hd := decide_eq_true hbig
    go_enter Try.func3, Try.ntmps3
    go_wp2_with fail
    refine (alive14 _).mono ?_
    rintro e w' ⟨rfl, hb⟩
    have HB := hide (E0.out.of hb)
    clear hb
    go_wp2_with fail
    go_ret
    exact ⟨rfl, HB.out⟩
  have hd := decide_eq_false hbig
  have hn : n ≤ 100000 := by omega
  clear hbig
  by_cases hr : HdR n T fl st
  · obtain ⟨G, hG⟩ : ∃ G, frR T fl st n f = G := ⟨_, rfl⟩
    have hen : G.en = 0 := by rw [← hG, frR_en, if_pos hr]
    have HBY : Hid (Byt G.N (fun i => f (G.off + i))) := fun i hi => Hf.out _ (by have := frR_le T fl st n f; rw [hG] at this; omega)
    have HP : Hid (∀ W : World, Rd .u8 W A n c f → Calls Try.prog 16 #[.agg #[.int .i64 fm, .int .i64 T, .int .i64 fl, .int .i64 st, .bool rs, .slice A n c]] W (RsR G f W)) := fun W h => by rw [← hG]; exact rparse14 fm T fl st rs A n c f hr hn W h Hf.out
    have HQ : Hid (∀ W : World, Rd .u8 W A n c f → Calls Try.prog 13 #[.agg #[.int .i64 fm, .int .i64 T, .int .i64 fl, .int .i64 st, .bool rs, .slice A n c]] W (PsR G f W)) := fun W h => by rw [← hG]; exact parse14 fm T fl st rs A n c f W h Hf.out hn
    have HR : Hid (∀ W : World, Calls Try.prog 14 #[.agg #[.int .i64 fm, .int .i64 T, .int .i64 fl, .int .i64 st, .bool rs, .slice A n c]] W fun e w' => e = .returned (.bool true) ∧ Below W.heap.size W w') := fun W => rright14 fm T fl st rs A n c true (decide_eq_true hr) W
    clear hr hG
    go_enter Try.func3, Try.ntmps3
    go_wp2_with fail
    refine (HQ.out _ HA.out).mono ?_
    rintro e w1 ⟨A2, c2, A3, c3, rfl, hr2, hr3, hb1⟩
    rw [hen]
    obtain ⟨x0, x1, e1⟩ := alloc2r w1 #[.int .i64 G.T, .int .i64 G.fl, .int .i64 G.st, .int .i64 G.pad, .slice A2 G.N c2, .slice A3 G.sn c3, .int .i64 G.wt, .int .i64 G.pa, .bool G.al, .int .i64 G.pm, .int .i64 G.la, .int .i64 G.co, .int .i64 G.sp] #[.int .i64 G.fs, .int .i64 G.fc] 28 30
    have ht := hb1.of e1
    have FF := hide x0
    have UU := hide x1
    have R1 := hide (keepRow R0.out ht)
    have E1 := hide (E0.out.of ht)
    have HA1 := hide (HA.out.below ht)
    have Y2 := hide (hr2.below e1)
    have Y3 := hide (hr3.below e1)
    clear x0 x1 e1 ht hb1 hr2 hr3 R0 E0 HA s0 s1 s2 s3 s4 s5
    go_upto_region 4 with (fail)
    generalize (w1.alloc (.cells #[.int .i64 G.T, .int .i64 G.fl, .int .i64 G.st, .int .i64 G.pad, .slice A2 G.N c2, .slice A3 G.sn c3, .int .i64 G.wt, .int .i64 G.pa, .bool G.al, .int .i64 G.pm, .int .i64 G.la, .int .i64 G.co, .int .i64 G.sp] 28)).alloc (.cells #[.int .i64 G.fs, .int .i64 G.fc] 30) = W2 at *
    generalize w1.heap.size = p at *
    obtain ⟨s0, s1, s2, s3, s4, s5⟩ := row6 R1.out
    go_wp2_with fail
    refine (HR.out _).mono ?_
    rintro e w3 ⟨rfl, hb⟩
    have FF3 := hide (keepRow FF.out hb)
    have UU3 := hide (keepRow UU.out hb)
    have R3 := hide (keepRow R1.out hb)
    have E3 := hide (E1.out.of hb)
    have HA3 := hide (HA1.out.below hb)
    have Y23 := hide (Y2.out.below hb)
    have Y33 := hide (Y3.out.below hb)
    clear hb FF UU R1 E1 HA1 Y2 Y3 s0 s1 s2 s3 s4 s5
    obtain ⟨s0, s1, s2, s3, s4, s5⟩ := row6 R3.out
    go_wp2_with fail
    refine (HP.out _ HA3.out).mono ?_
    rintro e w4 ⟨A4, c4, A5, c5, rfl, hr4, hr5, hb4⟩
    obtain ⟨x0, x1, e1⟩ := alloc2r w4 #[.int .i64 G.T, .int .i64 G.fl, .int .i64 G.st, .int .i64 G.pad, .slice A4 G.N c4, .slice A5 G.sn c5, .int .i64 G.wt, .int .i64 G.pa, .bool G.al, .int .i64 G.pm, .int .i64 G.la, .int .i64 G.co, .int .i64 G.sp] #[.int .i64 G.fs, .int .i64 G.fc] 28 30
    have ht := hb4.of e1
    have F4 := hide x0
    have U4 := hide x1
    have FF4 := hide (keepRow FF3.out ht)
    have UU4 := hide (keepRow UU3.out ht)
    have E4 := hide (E3.out.of ht)
    have Y24 := hide (Y23.out.below ht)
    have Y34 := hide (Y33.out.below ht)
    have Y4 := hide (hr4.below e1)
    have Y5 := hide (hr5.below e1)
    clear x0 x1 e1 ht hb4 hr4 hr5 R3 E3 HA3 Y23 Y33 FF3 UU3 s0 s1 s2 s3 s4 s5
    go_upto_region 7 with (fail)
    generalize (w4.alloc (.cells #[.int .i64 G.T, .int .i64 G.fl, .int .i64 G.st, .int .i64 G.pad, .slice A4 G.N c4, .slice A5 G.sn c5, .int .i64 G.wt, .int .i64 G.pa, .bool G.al, .int .i64 G.pm, .int .i64 G.la, .int .i64 G.co, .int .i64 G.sp] 28)).alloc (.cells #[.int .i64 G.fs, .int .i64 G.fc] 30) = W5 at *
    generalize w4.heap.size = p4 at *
    obtain ⟨y0_, y1_, y2_, y3_, y4_, y5_, y6_, y7_, y8_, y9_, y10_, y11_, y12_⟩ := row13 FF4.out
    obtain ⟨z0_, z1_, z2_, z3_, z4_, z5_, z6_, z7_, z8_, z9_, z10_, z11_, z12_⟩ := row13 F4.out
    go_wp2_with fail
    refine (rfsame14 G.T G.fl G.st G.pad G.T G.fl G.st G.pad A2 A4 G.N c2 G.N c4 (fun i => f (G.off + i)) (fun i => f (G.off + i)) A3 A5 G.sn c3 G.sn c5 (sF f) (sG f) (sF f) (sG f) G.wt G.pa G.pm G.la G.co G.sp G.wt G.pa G.pm G.la G.co G.sp G.al G.al _ Y24.out Y4.out HBY.out HBY.out Y34.out Y5.out).mono ?_
    rw [smB_selfZ]
    rintro e w6 ⟨rfl, hb⟩
    have UU6 := hide (keepRow UU4.out hb)
    have U6 := hide (keepRow U4.out hb)
    have E6 := hide (E4.out.of hb)
    clear hb E4 Y24 Y34 Y4 Y5 FF4 F4 UU4 U4 y0_ y1_ y2_ y3_ y4_ y5_ y6_ y7_ y8_ y9_ y10_ y11_ y12_ z0_ z1_ z2_ z3_ z4_ z5_ z6_ z7_ z8_ z9_ z10_ z11_ z12_
    obtain ⟨u0, u1⟩ := row2 UU6.out
    obtain ⟨v0, v1⟩ := row2 U6.out
    go_wp2_with fail
    refine (alive14 _).mono ?_
    rintro e w' ⟨rfl, hb⟩
    have HB := hide (E6.out.of hb)
    clear hb
    go_wp2_with fail
    go_ret
    exact ⟨rfl, HB.out⟩
  · have HQ : Hid (∀ W : World, Calls Try.prog 13 #[.agg #[.int .i64 fm, .int .i64 T, .int .i64 fl, .int .i64 st, .bool rs, .slice A n c]] W fun e w' => e = .returned (.tuple #[.agg #[.int .i64 0, .int .i64 0, .int .i64 0, .int .i64 0, .slice none 0 0, .slice none 0 0, .int .i64 0, .int .i64 0, .bool false, .int .i64 0, .int .i64 0, .int .i64 0, .int .i64 0], .agg #[.int .i64 0, .int .i64 0], .int .i64 1]) ∧ Below W.heap.size W w') := fun W => parse_arg fm T fl st rs A n c W hr
    have HR : Hid (∀ W : World, Calls Try.prog 14 #[.agg #[.int .i64 fm, .int .i64 T, .int .i64 fl, .int .i64 st, .bool rs, .slice A n c]] W fun e w' => e = .returned (.bool false) ∧ Below W.heap.size W w') := fun W => rright14 fm T fl st rs A n c false (decide_eq_false hr) W
    clear hr
    go_enter Try.func3, Try.ntmps3
    go_wp2_with fail
    refine (HQ.out _).mono ?_
    rintro e w1 ⟨rfl, hb1⟩
    obtain ⟨x0, x1, e1⟩ := alloc2r w1 #[.int .i64 0, .int .i64 0, .int .i64 0, .int .i64 0, .slice none 0 0, .slice none 0 0, .int .i64 0, .int .i64 0, .bool false, .int .i64 0, .int .i64 0, .int .i64 0, .int .i64 0] #[.int .i64 0, .int .i64 0] 28 30
    have ht := hb1.of e1
    have FF := hide x0
    have UU := hide x1
    have R1 := hide (keepRow R0.out ht)
    have E1 := hide (E0.out.of ht)
    clear x0 x1 e1 ht hb1 R0 E0 HA s0 s1 s2 s3 s4 s5
    go_upto_region 4 with (fail)
    generalize (w1.alloc (.cells #[.int .i64 0, .int .i64 0, .int .i64 0, .int .i64 0, .slice none 0 0, .slice none 0 0, .int .i64 0, .int .i64 0, .bool false, .int .i64 0, .int .i64 0, .int .i64 0, .int .i64 0] 28)).alloc (.cells #[.int .i64 0, .int .i64 0] 30) = W2 at *
    generalize w1.heap.size = p at *
    obtain ⟨s0, s1, s2, s3, s4, s5⟩ := row6 R1.out
    go_wp2_with fail
    refine (HR.out _).mono ?_
    rintro e w3 ⟨rfl, hb⟩
    have FF4 := hide (keepRow FF.out hb)
    have UU4 := hide (keepRow UU.out hb)
    have E4 := hide (E1.out.of hb)
    clear hb FF UU R1 E1 s0 s1 s2 s3 s4 s5
    obtain ⟨y0_, y1_, y2_, y3_, y4_, y5_, y6_, y7_, y8_, y9_, y10_, y11_, y12_⟩ := row13 FF4.out
    go_wp2_with fail
    refine (rfsame14 0 0 0 0 0 0 0 0 none none 0 0 0 0 (oneF 0) (oneF 0) none none 0 0 0 0 (oneF 0) (oneF 0) (oneF 0) (oneF 0) 0 0 0 0 0 0 0 0 0 0 0 0 false false _ (Rd.nil _ _ _) (Rd.nil _ _ _) (fun i hi => by omega) (fun i hi => by omega) (Rd2.nil _ _ _) (Rd2.nil _ _ _)).mono ?_
    rw [smB_selfZ]
    rintro e w6 ⟨rfl, hb⟩
    have UU6 := hide (keepRow UU4.out hb)
    have E6 := hide (E4.out.of hb)
    clear hb E4 FF4 UU4 y0_ y1_ y2_ y3_ y4_ y5_ y6_ y7_ y8_ y9_ y10_ y11_ y12_
    obtain ⟨u0, u1⟩ := row2 UU6.out
    go_wp2_with fail
    refine (alive14 _).mono ?_
    rintro e w' ⟨rfl, hb⟩
    have HB := hide (E6.out.of hb)
    clear hb
    go_wp2_with fail
    go_ret
    exact ⟨rfl, HB.out⟩
end Go.Proofs.Ytelcpfjifhobjaa
