/- Layer 15: EmitBack. -/
import Derived.Test.YtpnjamomkpkkeaaEmd
import Derived.Test.YtpnjamomkpkkeaaEm3
import Derived.Test.YtpnjamomkpkkeaaFse
namespace Go.Proofs.Ytpnjamomkpkkeaa
set_option linter.unusedVariables false
set_option linter.unusedSimpArgs false
open Go.RowKit

def FR.fm (G : FR) (f : Nat → Int) : Fm5 := ⟨G.T, G.fl, G.st, G.pad, G.N, fun i => f (G.off + i), G.sn, sF f, sG f, G.wt, G.pa, G.al, G.pm, G.la, G.co, G.sp⟩
theorem fm_ok {T fl st : Int} {n : Nat} {f : Nat → Int} {G : FR} (hG : G = frR T fl st n f) (hf : Byt n f) (h0 : G.fs = 0) (he : G.en = 0) : (G.fm f).Ok ∧ (G.fm f).emL.length = n ∧ (G.fm f).gR = G ∧ G.fc = 0 ∧ G.fl ≤ 255 ∧ G.N ≤ n ∧ G.sn * 6 ≤ n ∧ Byt G.N (fun i => f (G.off + i)) := by
  subst hG
  have hb := bk_ok hf h0 he
  have hg := frR_good h0 he
  have hle := frR_le T fl st n f
  have e : (frR T fl st n f).fm f = bk5 T fl st n f (fdOf T fl n f) := by rw [hg.1]; rfl
  have hms : (fdOf T fl n f).sn ≠ 0 → (fdOf T fl n f).sn * 6 ≤ n := fun h => (fd_sn h).2
  refine ⟨by rw [e]; exact hb.1, by rw [e]; exact hb.2.1, by rw [e]; exact hb.2.2, by rw [hg.1]; rfl, by rw [hg.1]; exact hg.2.2.2.1.2, by omega, ?_, fun i hi => hf _ (by omega)⟩
  rw [hg.1]
  show (fdOf T fl n f).sn * 6 ≤ n
  by_cases hz : (fdOf T fl n f).sn = 0
  · rw [hz]; omega
  · exact hms hz
theorem Fm5.Ok.facts {X : Fm5} (h : X.Ok) : X.gR.en = 0 ∧ X.gR.fs = 0 ∧ X.gR.fc = 0 := by
  refine ⟨h.2.1, h.2.2.1, ?_⟩
  have h1 := (frR_good (T := X.T) (fl := X.fl) (st := X.st) (n := X.emL.length) (f := lF X.emL) h.2.2.1 h.2.1).1
  show (frR _ _ _ _ _).fc = 0
  rw [h1]
  rfl
set_option maxRecDepth 20000 in
set_option maxHeartbeats 6400000 in
theorem eback_y (T fl st pad : Int) (A2 : Option Addr) (nd c2 : Nat) (d : Nat → Int) (A3 : Option Addr) (ns c3 : Nat) (s g : Nat → Int) (wt pa : Int) (al : Bool) (pm la co sp : Int) (hfl : fl ≤ 9223372036854775807) (fm2 T2 fl2 st2 : Int) (rs2 : Bool) (A9 : Option Addr) (n9 c9 : Nat) (f9 : Nat → Int) (w : World) (hd : Rd .u8 w A2 nd c2 d) (hby : Byt nd d) (hs2 : Rd2 w A3 ns c3 s g) (h9 : Rd .u8 w A9 n9 c9 f9) (hb9 : Byt n9 f9) (hnd : nd ≤ 2000) (hns : ns ≤ 100) (hn9 : n9 ≤ 2000) (hok : Fm5.Ok (⟨T, fl, st, pad, nd, d, ns, s, g, wt, pa, al, pm, la, co, sp⟩ : Fm5)) :
    Calls Try.prog 4 #[.agg #[.int .i64 T, .int .i64 fl, .int .i64 st, .int .i64 pad, .slice A2 nd c2, .slice A3 ns c3, .int .i64 wt, .int .i64 pa, .bool al, .int .i64 pm, .int .i64 la, .int .i64 co, .int .i64 sp], .agg #[.int .i64 fm2, .int .i64 T2, .int .i64 fl2, .int .i64 st2, .bool rs2, .slice A9 n9 c9]] w (Yes w) := by
  have a1 := (Below.refl w.heap.size w).alloc (Nat.le_refl _) (.cells #[.int .i64 T, .int .i64 fl, .int .i64 st, .int .i64 pad, .slice A2 nd c2, .slice A3 ns c3, .int .i64 wt, .int .i64 pa, .bool al, .int .i64 pm, .int .i64 la, .int .i64 co, .int .i64 sp] 25)
  have a2 := a1.alloc (by simp) (.cells #[.int .i64 fm2, .int .i64 T2, .int .i64 fl2, .int .i64 st2, .bool rs2, .slice A9 n9 c9] 29)
  have hs1 : (w.alloc (.cells #[.int .i64 T, .int .i64 fl, .int .i64 st, .int .i64 pad, .slice A2 nd c2, .slice A3 ns c3, .int .i64 wt, .int .i64 pa, .bool al, .int .i64 pm, .int .i64 la, .int .i64 co, .int .i64 sp] 25)).heap.size = w.heap.size + 1 := by simp
  have RF := hide (keepRow (heap_alloc_new w (.cells #[.int .i64 T, .int .i64 fl, .int .i64 st, .int .i64 pad, .slice A2 nd c2, .slice A3 ns c3, .int .i64 wt, .int .i64 pa, .bool al, .int .i64 pm, .int .i64 la, .int .i64 co, .int .i64 sp] 25)) ((Below.refl (w.alloc (.cells #[.int .i64 T, .int .i64 fl, .int .i64 st, .int .i64 pad, .slice A2 nd c2, .slice A3 ns c3, .int .i64 wt, .int .i64 pa, .bool al, .int .i64 pm, .int .i64 la, .int .i64 co, .int .i64 sp] 25)).heap.size _).alloc (Nat.le_refl _) (.cells #[.int .i64 fm2, .int .i64 T2, .int .i64 fl2, .int .i64 st2, .bool rs2, .slice A9 n9 c9] 29)))
  have rz0 := heap_alloc_new (w.alloc (.cells #[.int .i64 T, .int .i64 fl, .int .i64 st, .int .i64 pad, .slice A2 nd c2, .slice A3 ns c3, .int .i64 wt, .int .i64 pa, .bool al, .int .i64 pm, .int .i64 la, .int .i64 co, .int .i64 sp] 25)) (.cells #[.int .i64 fm2, .int .i64 T2, .int .i64 fl2, .int .i64 st2, .bool rs2, .slice A9 n9 c9] 29)
  rw [hs1] at rz0
  have RP := hide rz0
  have E0 := hide a2
  have HD := hide hd
  have HS2 := hide hs2
  have HB := hide hby
  have H9 := hide h9
  have HB9 := hide hb9
  have dl : (decide ((2000 : Int) < (nd : Int)) || decide ((100 : Int) < (ns : Int))) = false := by rw [decide_eq_false (by omega), decide_eq_false (by omega)]; rfl
  have d9 : decide ((2000 : Int) < (n9 : Int)) = false := decide_eq_false (by omega)
  obtain ⟨X, hX⟩ : ∃ X : Fm5, X = (⟨T, fl, st, pad, nd, d, ns, s, g, wt, pa, al, pm, la, co, sp⟩ : Fm5) := ⟨_, rfl⟩
  have HX := hide hX
  have CA := hide (fun W (h1 : Rd .u8 W A2 nd c2 d) (h2 : Rd2 W A3 ns c3 s g) => raw15 1 T fl st pad A2 nd c2 d A3 ns c3 s g wt pa al pm la co sp hfl hnd (by omega) W h1 hby h2)
  rw [← hX] at CA hok
  have HOK := hide hok
  obtain ⟨x0, x1, x2, x3, x4, x5, x6, x7, x8, x9, x10, x11, x12⟩ := row13 RF.out
  obtain ⟨y0, y1, y2, y3, y4, y5⟩ := row6 RP.out
  clear a1 a2 hs1 rz0 hd hs2 hby hX hok h9 hb9
  go_enter Try.func4, Try.ntmps4
  go_upto_region 1 with (fail)
  generalize hW : (w.alloc (.cells #[.int .i64 T, .int .i64 fl, .int .i64 st, .int .i64 pad, .slice A2 nd c2, .slice A3 ns c3, .int .i64 wt, .int .i64 pa, .bool al, .int .i64 pm, .int .i64 la, .int .i64 co, .int .i64 sp] 25)).alloc (.cells #[.int .i64 fm2, .int .i64 T2, .int .i64 fl2, .int .i64 st2, .bool rs2, .slice A9 n9 c9] 29) = U0 at *
  clear hW
  go_wp2_with fail
  refine (large15 _ _ _ _ A2 nd c2 A3 ns c3 _ _ _ _ _ _ _ U0).mono ?_
  rintro e U1 ⟨rfl, hb⟩
  rw [dl]
  have E1 := hide (E0.out.of hb)
  have RF1 := hide (keepRow RF.out hb)
  have RP1 := hide (keepRow RP.out hb)
  clear hb dl x0 x1 x2 x3 x4 x5 x6 x7 x8 x9 x10 x11 x12 y0 y1 y2 y3 y4 y5
  obtain ⟨x0, x1, x2, x3, x4, x5, x6, x7, x8, x9, x10, x11, x12⟩ := row13 RF1.out
  obtain ⟨y0, y1, y2, y3, y4, y5⟩ := row6 RP1.out
  go_wp2_with fail
  refine (CA.out _ (HD.out.below E1.out) (HS2.out.below E1.out)).mono ?_
  intro e V0 hV
  obtain ⟨hb, B0, k0, rfl, hr⟩ := hV.yes ⟨.inr rfl, HOK.out⟩
  have a3 := (Below.refl V0.heap.size V0).alloc (Nat.le_refl _) (.cells #[.int .i64 1, .int .i64 X.T, .int .i64 X.fl, .int .i64 X.st, .bool false, .slice B0 X.emL.length k0] 29)
  have G0 := hide (heap_alloc_new V0 (.cells #[.int .i64 1, .int .i64 X.T, .int .i64 X.fl, .int .i64 X.st, .bool false, .slice B0 X.emL.length k0] 29))
  have E2 := hide ((E1.out.of hb).of a3)
  have RF2 := hide (keepRow (keepRow RF1.out hb) a3)
  have RP2 := hide (keepRow (keepRow RP1.out hb) a3)
  have D0 := hide (hr.below a3)
  clear hV hb a3 d9 x0 x1 x2 x3 x4 x5 x6 x7 x8 x9 x10 x11 x12 y0 y1 y2 y3 y4 y5 hr
  go_upto_region 5 with (fail)
  generalize hW : V0.alloc (.cells #[.int .i64 1, .int .i64 X.T, .int .i64 X.fl, .int .i64 X.st, .bool false, .slice B0 X.emL.length k0] 29) = U2 at *
  generalize hQ : V0.heap.size = q0 at *
  clear hW hQ
  obtain ⟨y0, y1, y2, y3, y4, y5⟩ := row6 G0.out
  have hl3 := emL_le HOK.out.1 (by rw [HX.out]; exact hnd) (by rw [HX.out]; show ns ≤ 1000; omega)
  have byl : Byt X.emL.length (lF X.emL) := (Fm5.bytL (by rw [HX.out]; exact HB.out)).byt
  have HBy := hide byl
  have CF := hide (parse14 1 X.T X.fl X.st false B0 X.emL.length k0 (lF X.emL) U2 D0.out HBy.out (by omega))
  have hgx : frR X.T X.fl X.st X.emL.length (lF X.emL) = X.gR := rfl
  rw [hgx] at CF
  obtain ⟨K, hK⟩ : ∃ K, K = X.gR := ⟨_, rfl⟩
  have HKK := hide hK
  rw [← hK] at CF
  have hKN : K.off + K.N ≤ X.emL.length := by rw [hK, ← hgx]; exact frR_le _ _ _ _ _
  have hKb : Byt K.N (fun i => lF X.emL (K.off + i)) := fun i hi => HBy.out (K.off + i) (by omega)
  have HKX := hide hKb
  have hfx := HOK.out.facts
  rw [← hK] at hfx
  have HFX := hide hfx
  clear hfx hK hgx hKN hKb byl
  go_wp2_with fail
  refine (CF.out).mono ?_
  rintro e V3 ⟨AK, cK, B3, e3, rfl, hr4, hr5, hb3⟩
  have a4 := (Below.refl V3.heap.size V3).alloc (Nat.le_refl _) (.cells #[.int .i64 K.T, .int .i64 K.fl, .int .i64 K.st, .int .i64 K.pad, .slice AK K.N cK, .slice B3 K.sn e3, .int .i64 K.wt, .int .i64 K.pa, .bool K.al, .int .i64 K.pm, .int .i64 K.la, .int .i64 K.co, .int .i64 K.sp] 25)
  have a5 := a4.alloc (by simp) (.cells #[.int .i64 K.fs, .int .i64 K.fc] 38)
  have hs3 : (V3.alloc (.cells #[.int .i64 K.T, .int .i64 K.fl, .int .i64 K.st, .int .i64 K.pad, .slice AK K.N cK, .slice B3 K.sn e3, .int .i64 K.wt, .int .i64 K.pa, .bool K.al, .int .i64 K.pm, .int .i64 K.la, .int .i64 K.co, .int .i64 K.sp] 25)).heap.size = V3.heap.size + 1 := by simp
  have RG3 := hide (keepRow (heap_alloc_new V3 (.cells #[.int .i64 K.T, .int .i64 K.fl, .int .i64 K.st, .int .i64 K.pad, .slice AK K.N cK, .slice B3 K.sn e3, .int .i64 K.wt, .int .i64 K.pa, .bool K.al, .int .i64 K.pm, .int .i64 K.la, .int .i64 K.co, .int .i64 K.sp] 25)) ((Below.refl (V3.alloc (.cells #[.int .i64 K.T, .int .i64 K.fl, .int .i64 K.st, .int .i64 K.pad, .slice AK K.N cK, .slice B3 K.sn e3, .int .i64 K.wt, .int .i64 K.pa, .bool K.al, .int .i64 K.pm, .int .i64 K.la, .int .i64 K.co, .int .i64 K.sp] 25)).heap.size _).alloc (Nat.le_refl _) (.cells #[.int .i64 K.fs, .int .i64 K.fc] 38)))
  have rl0 := heap_alloc_new (V3.alloc (.cells #[.int .i64 K.T, .int .i64 K.fl, .int .i64 K.st, .int .i64 K.pad, .slice AK K.N cK, .slice B3 K.sn e3, .int .i64 K.wt, .int .i64 K.pa, .bool K.al, .int .i64 K.pm, .int .i64 K.la, .int .i64 K.co, .int .i64 K.sp] 25)) (.cells #[.int .i64 K.fs, .int .i64 K.fc] 38)
  rw [hs3] at rl0
  have RL3 := hide rl0
  have b35 := hb3.of a5
  have E2p := hide (E2.out.of b35)
  have RP2p := hide (keepRow RP2.out b35)
  have RF2p := hide (keepRow RF2.out b35)
  have K43 := hide (hr4.below a5)
  have K53 := hide (hr5.below a5)
  clear hb3 a4 a5 hs3 rl0 b35 hr4 hr5 y0 y1 y2 y3 y4 y5
  go_upto_region 6 with (fail)
  generalize hW : (V3.alloc (.cells #[.int .i64 K.T, .int .i64 K.fl, .int .i64 K.st, .int .i64 K.pad, .slice AK K.N cK, .slice B3 K.sn e3, .int .i64 K.wt, .int .i64 K.pa, .bool K.al, .int .i64 K.pm, .int .i64 K.la, .int .i64 K.co, .int .i64 K.sp] 25)).alloc (.cells #[.int .i64 K.fs, .int .i64 K.fc] 38) = W3 at *
  generalize hQ : V3.heap.size = r3 at *
  clear hW hQ
  obtain ⟨v0, v1⟩ := row2 RL3.out
  obtain ⟨x0, x1, x2, x3, x4, x5, x6, x7, x8, x9, x10, x11, x12⟩ := row13 RF2p.out
  obtain ⟨z0, z1, z2, z3, z4, z5, z6, z7, z8, z9, z10, z11, z12⟩ := row13 RG3.out
  have den : (K.en != 0) = false := by have h := HFX.out.1; simpa using h
  have dfs : (K.fs == 0) = true := by have h := HFX.out.2.1; simpa using h
  have dfc : (K.fc == 0) = true := by have h := HFX.out.2.2; simpa using h
  clear CF
  go_wp2_with fail
  refine (rfsame14 T fl st pad K.T K.fl K.st K.pad A2 AK nd c2 K.N cK d (fun i => lF X.emL (K.off + i)) A3 B3 ns c3 K.sn e3 s g (sF (lF X.emL)) (sG (lF X.emL)) wt pa pm la co sp K.wt K.pa K.pm K.la K.co K.sp al K.al W3 (HD.out.below E2p.out) K43.out HB.out HKX.out (HS2.out.below E2p.out) K53.out).mono ?_
  rintro e V4 ⟨rfl, hb⟩
  obtain ⟨sm, hsm⟩ : ∃ sm, sm = smB T fl st pad K.T K.fl K.st K.pad nd K.N d (fun i => lF X.emL (K.off + i)) ns K.sn s g (sF (lF X.emL)) (sG (lF X.emL)) wt pa pm la co sp K.wt K.pa K.pm K.la K.co K.sp al K.al := ⟨_, rfl⟩
  rw [← hsm]
  have hst : sm = true := by
    have h1 := (Fm5.sm_iff' X).2 HOK.out.2.2.2
    rw [hsm, HKK.out]
    rw [HX.out] at h1 ⊢
    exact h1
  subst hst
  have E4 := hide (E2p.out.of hb)
  have RP4 := hide (keepRow RP2p.out hb)
  clear hb hsm v0 v1 z0 z1 z2 z3 z4 z5 z6 z7 z8 z9 z10 z11 z12 x0 x1 x2 x3 x4 x5 x6 x7 x8 x9 x10 x11 x12 den dfs dfc
  go_upto_region 8 with (fail)
  obtain ⟨y0, y1, y2, y3, y4, y5⟩ := row6 RP4.out
  obtain ⟨G, hG⟩ : ∃ G, G = frR T2 fl2 st2 n9 f9 := ⟨_, rfl⟩
  have HG := hide hG
  have CP := hide (parse14 fm2 T2 fl2 st2 rs2 A9 n9 c9 f9 _ (H9.out.below E4.out) HB9.out (by omega))
  rw [← hG] at CP
  clear hG
  go_wp2_with fail
  refine (CP.out).mono ?_
  rintro e V5 ⟨A5, c5, B5, e5, rfl, hr4, hr5, hb3⟩
  have a4 := (Below.refl V5.heap.size V5).alloc (Nat.le_refl _) (.cells #[.int .i64 G.T, .int .i64 G.fl, .int .i64 G.st, .int .i64 G.pad, .slice A5 G.N c5, .slice B5 G.sn e5, .int .i64 G.wt, .int .i64 G.pa, .bool G.al, .int .i64 G.pm, .int .i64 G.la, .int .i64 G.co, .int .i64 G.sp] 25)
  have a5 := a4.alloc (by simp) (.cells #[.int .i64 G.fs, .int .i64 G.fc] 38)
  have hs3 : (V5.alloc (.cells #[.int .i64 G.T, .int .i64 G.fl, .int .i64 G.st, .int .i64 G.pad, .slice A5 G.N c5, .slice B5 G.sn e5, .int .i64 G.wt, .int .i64 G.pa, .bool G.al, .int .i64 G.pm, .int .i64 G.la, .int .i64 G.co, .int .i64 G.sp] 25)).heap.size = V5.heap.size + 1 := by simp
  have RG5 := hide (keepRow (heap_alloc_new V5 (.cells #[.int .i64 G.T, .int .i64 G.fl, .int .i64 G.st, .int .i64 G.pad, .slice A5 G.N c5, .slice B5 G.sn e5, .int .i64 G.wt, .int .i64 G.pa, .bool G.al, .int .i64 G.pm, .int .i64 G.la, .int .i64 G.co, .int .i64 G.sp] 25)) ((Below.refl (V5.alloc (.cells #[.int .i64 G.T, .int .i64 G.fl, .int .i64 G.st, .int .i64 G.pad, .slice A5 G.N c5, .slice B5 G.sn e5, .int .i64 G.wt, .int .i64 G.pa, .bool G.al, .int .i64 G.pm, .int .i64 G.la, .int .i64 G.co, .int .i64 G.sp] 25)).heap.size _).alloc (Nat.le_refl _) (.cells #[.int .i64 G.fs, .int .i64 G.fc] 38)))
  have rl0 := heap_alloc_new (V5.alloc (.cells #[.int .i64 G.T, .int .i64 G.fl, .int .i64 G.st, .int .i64 G.pad, .slice A5 G.N c5, .slice B5 G.sn e5, .int .i64 G.wt, .int .i64 G.pa, .bool G.al, .int .i64 G.pm, .int .i64 G.la, .int .i64 G.co, .int .i64 G.sp] 25)) (.cells #[.int .i64 G.fs, .int .i64 G.fc] 38)
  rw [hs3] at rl0
  have RL5 := hide rl0
  have b35 := hb3.of a5
  have E4p := hide (E4.out.of b35)
  have RP4p := hide (keepRow RP4.out b35)
  have K45 := hide (hr4.below a5)
  have K55 := hide (hr5.below a5)
  clear hb3 a4 a5 hs3 rl0 b35 hr4 hr5 y0 y1 y2 y3 y4 y5
  go_upto_region 9 with (fail)
  generalize hW : (V5.alloc (.cells #[.int .i64 G.T, .int .i64 G.fl, .int .i64 G.st, .int .i64 G.pad, .slice A5 G.N c5, .slice B5 G.sn e5, .int .i64 G.wt, .int .i64 G.pa, .bool G.al, .int .i64 G.pm, .int .i64 G.la, .int .i64 G.co, .int .i64 G.sp] 25)).alloc (.cells #[.int .i64 G.fs, .int .i64 G.fc] 38) = W5 at *
  generalize hQ : V5.heap.size = r5 at *
  clear hW hQ
  obtain ⟨v0, v1⟩ := row2 RL5.out
  by_cases hen : G.en = 0
  rotate_left
  · have den : (G.en != 0) = true := by simpa using hen
    clear hen
    go_wp2_with fail
    refine (alive15 _).mono ?_
    rintro e Uz ⟨rfl, hb⟩
    have Ez := hide (E4p.out.of hb)
    clear hb
    go_wp2_with fail
    go_ret
    exact ⟨rfl, Ez.out⟩
  have den : (G.en != 0) = false := by simpa using hen
  by_cases hfs : G.fs = 0
  rotate_left
  · have dfs : (G.fs == 0) = false := by simpa using hfs
    have dfs' : (G.fs != 0) = true := by simpa using hfs
    clear hfs hen
    go_wp2_with fail
    refine (alive15 _).mono ?_
    rintro e Uz ⟨rfl, hb⟩
    have Ez := hide (E4p.out.of hb)
    clear hb
    go_wp2_with fail
    go_ret
    exact ⟨rfl, Ez.out⟩
  have hk := fm_ok HG.out HB9.out hfs hen
  obtain ⟨ko, kl, kg, kfc, kfl, kN, ksn, kby⟩ := hk
  have dfs : (G.fs == 0) = true := by simpa using hfs
  have dfc : (G.fc == 0) = true := by simpa using kfc
  have HK := hide ko
  have HKl := hide kl
  have HKg := hide kg
  have HKb := hide kby
  have CG := hide (fun W (h1 : Rd .u8 W A5 G.N c5 (fun i => f9 (G.off + i))) (h2 : Rd2 W B5 G.sn e5 (sF f9) (sG f9)) => raw15 0 G.T G.fl G.st G.pad A5 G.N c5 (fun i => f9 (G.off + i)) B5 G.sn e5 (sF f9) (sG f9) G.wt G.pa G.al G.pm G.la G.co G.sp (by omega) (by omega) (by omega) W h1 kby h2)
  obtain ⟨Y, hY⟩ : ∃ Y : Fm5, Y = G.fm f9 := ⟨_, rfl⟩
  have HY := hide hY
  have hYe : (⟨G.T, G.fl, G.st, G.pad, G.N, fun i => f9 (G.off + i), G.sn, sF f9, sG f9, G.wt, G.pa, G.al, G.pm, G.la, G.co, G.sp⟩ : Fm5) = Y := hY.symm
  rw [hYe] at CG
  rw [← hY] at HK HKl HKg
  have hyb : Byt Y.emL.length (lF Y.emL) := (Fm5.bytL (X := Y) (by rw [hY]; exact kby)).byt
  have HYb := hide hyb
  have hyl : Y.emL.length ≤ 2000 := by rw [HKl.out]; exact hn9
  clear hY hYe ko kl kg kfc kfl kN ksn kby hfs hen CP hyb
  obtain ⟨z0, z1, z2, z3, z4, z5, z6, z7, z8, z9, z10, z11, z12⟩ := row13 RG5.out
  go_wp2_with fail
  refine (CG.out _ K45.out K55.out).mono ?_
  intro e V6 hV
  obtain ⟨hb, B6, k6, rfl, hr⟩ := hV.yes ⟨.inl rfl, HK.out⟩
  have a3 := (Below.refl V6.heap.size V6).alloc (Nat.le_refl _) (.cells #[.int .i64 0, .int .i64 Y.T, .int .i64 Y.fl, .int .i64 Y.st, .bool false, .slice B6 Y.emL.length k6] 29)
  have G6 := hide (heap_alloc_new V6 (.cells #[.int .i64 0, .int .i64 Y.T, .int .i64 Y.fl, .int .i64 Y.st, .bool false, .slice B6 Y.emL.length k6] 29))
  have E6 := hide ((E4p.out.of hb).of a3)
  have RP6 := hide (keepRow (keepRow RP4p.out hb) a3)
  have RG6 := hide (keepRow (keepRow RG5.out hb) a3)
  have D6 := hide (hr.below a3)
  have M6 := hide ((K45.out.below hb).below a3)
  have N6 := hide ((K55.out.below hb).below a3)
  clear hV hb a3 hr z0 z1 z2 z3 z4 z5 z6 z7 z8 z9 z10 z11 z12 v0 v1 den dfs dfc
  go_upto_region 12 with (fail)
  generalize hW : V6.alloc (.cells #[.int .i64 0, .int .i64 Y.T, .int .i64 Y.fl, .int .i64 Y.st, .bool false, .slice B6 Y.emL.length k6] 29) = W6 at *
  generalize hQ : V6.heap.size = q6 at *
  clear hW hQ
  obtain ⟨y0, y1, y2, y3, y4, y5⟩ := row6 G6.out
  have CQ := hide (parse14 0 Y.T Y.fl Y.st false B6 Y.emL.length k6 (lF Y.emL) W6 D6.out HYb.out (by omega))
  have hgy : frR Y.T Y.fl Y.st Y.emL.length (lF Y.emL) = Y.gR := rfl
  rw [hgy] at CQ
  obtain ⟨J, hJ⟩ : ∃ J, J = Y.gR := ⟨_, rfl⟩
  have HJ := hide hJ
  rw [← hJ] at CQ
  have hJN : J.off + J.N ≤ Y.emL.length := by rw [hJ, ← hgy]; exact frR_le _ _ _ _ _
  have hJb : Byt J.N (fun i => lF Y.emL (J.off + i)) := fun i hi => HYb.out (J.off + i) (by omega)
  have HJb := hide hJb
  have hfa := HK.out.facts
  rw [← hJ] at hfa
  have HFA := hide hfa
  clear hfa hJ hgy hJN hJb
  go_wp2_with fail
  refine (CQ.out).mono ?_
  rintro e V7 ⟨A7, c7, B7, e7, rfl, hr4, hr5, hb3⟩
  have a4 := (Below.refl V7.heap.size V7).alloc (Nat.le_refl _) (.cells #[.int .i64 J.T, .int .i64 J.fl, .int .i64 J.st, .int .i64 J.pad, .slice A7 J.N c7, .slice B7 J.sn e7, .int .i64 J.wt, .int .i64 J.pa, .bool J.al, .int .i64 J.pm, .int .i64 J.la, .int .i64 J.co, .int .i64 J.sp] 25)
  have a5 := a4.alloc (by simp) (.cells #[.int .i64 J.fs, .int .i64 J.fc] 38)
  have hs3 : (V7.alloc (.cells #[.int .i64 J.T, .int .i64 J.fl, .int .i64 J.st, .int .i64 J.pad, .slice A7 J.N c7, .slice B7 J.sn e7, .int .i64 J.wt, .int .i64 J.pa, .bool J.al, .int .i64 J.pm, .int .i64 J.la, .int .i64 J.co, .int .i64 J.sp] 25)).heap.size = V7.heap.size + 1 := by simp
  have RG7 := hide (keepRow (heap_alloc_new V7 (.cells #[.int .i64 J.T, .int .i64 J.fl, .int .i64 J.st, .int .i64 J.pad, .slice A7 J.N c7, .slice B7 J.sn e7, .int .i64 J.wt, .int .i64 J.pa, .bool J.al, .int .i64 J.pm, .int .i64 J.la, .int .i64 J.co, .int .i64 J.sp] 25)) ((Below.refl (V7.alloc (.cells #[.int .i64 J.T, .int .i64 J.fl, .int .i64 J.st, .int .i64 J.pad, .slice A7 J.N c7, .slice B7 J.sn e7, .int .i64 J.wt, .int .i64 J.pa, .bool J.al, .int .i64 J.pm, .int .i64 J.la, .int .i64 J.co, .int .i64 J.sp] 25)).heap.size _).alloc (Nat.le_refl _) (.cells #[.int .i64 J.fs, .int .i64 J.fc] 38)))
  have rl0 := heap_alloc_new (V7.alloc (.cells #[.int .i64 J.T, .int .i64 J.fl, .int .i64 J.st, .int .i64 J.pad, .slice A7 J.N c7, .slice B7 J.sn e7, .int .i64 J.wt, .int .i64 J.pa, .bool J.al, .int .i64 J.pm, .int .i64 J.la, .int .i64 J.co, .int .i64 J.sp] 25)) (.cells #[.int .i64 J.fs, .int .i64 J.fc] 38)
  rw [hs3] at rl0
  have RL7 := hide rl0
  have b35 := hb3.of a5
  have E6p := hide (E6.out.of b35)
  have RP6p := hide (keepRow RP6.out b35)
  have RG6p := hide (keepRow RG6.out b35)
  have G6p := hide (keepRow G6.out b35)
  have M6p := hide (M6.out.below b35)
  have N6p := hide (N6.out.below b35)
  have K47 := hide (hr4.below a5)
  have K57 := hide (hr5.below a5)
  clear hb3 a4 a5 hs3 rl0 b35 hr4 hr5 y0 y1 y2 y3 y4 y5
  go_upto_region 13 with (fail)
  generalize hW : (V7.alloc (.cells #[.int .i64 J.T, .int .i64 J.fl, .int .i64 J.st, .int .i64 J.pad, .slice A7 J.N c7, .slice B7 J.sn e7, .int .i64 J.wt, .int .i64 J.pa, .bool J.al, .int .i64 J.pm, .int .i64 J.la, .int .i64 J.co, .int .i64 J.sp] 25)).alloc (.cells #[.int .i64 J.fs, .int .i64 J.fc] 38) = W7 at *
  generalize hQ : V7.heap.size = r7 at *
  clear hW hQ
  obtain ⟨v0, v1⟩ := row2 RL7.out
  obtain ⟨z0, z1, z2, z3, z4, z5, z6, z7, z8, z9, z10, z11, z12⟩ := row13 RG6p.out
  obtain ⟨t0, t1, t2, t3, t4, t5, t6, t7, t8, t9, t10, t11, t12⟩ := row13 RG7.out
  obtain ⟨y0, y1, y2, y3, y4, y5⟩ := row6 G6p.out
  obtain ⟨u0, u1, u2, u3, u4, u5⟩ := row6 RP6p.out
  have den : (J.en == 0) = true := by have h := HFA.out.1; simpa using h
  have dfs : (J.fs == 0) = true := by have h := HFA.out.2.1; simpa using h
  have dfc : (J.fc == 0) = true := by have h := HFA.out.2.2; simpa using h
  clear CQ CG
  go_wp2_with fail
  refine (rfsame14 G.T G.fl G.st G.pad J.T J.fl J.st J.pad A5 A7 G.N c5 J.N c7 (fun i => f9 (G.off + i)) (fun i => lF Y.emL (J.off + i)) B5 B7 G.sn e5 J.sn e7 (sF f9) (sG f9) (sF (lF Y.emL)) (sG (lF Y.emL)) G.wt G.pa G.pm G.la G.co G.sp J.wt J.pa J.pm J.la J.co J.sp G.al J.al W7 M6p.out K47.out HKb.out HJb.out N6p.out K57.out).mono ?_
  rintro e V8 ⟨rfl, hb⟩
  obtain ⟨sm, hsm⟩ : ∃ sm, sm = smB G.T G.fl G.st G.pad J.T J.fl J.st J.pad G.N J.N (fun i => f9 (G.off + i)) (fun i => lF Y.emL (J.off + i)) G.sn J.sn (sF f9) (sG f9) (sF (lF Y.emL)) (sG (lF Y.emL)) G.wt G.pa G.pm G.la G.co G.sp J.wt J.pa J.pm J.la J.co J.sp G.al J.al := ⟨_, rfl⟩
  rw [← hsm]
  have hst : sm = true := by
    have h1 := (Fm5.sm_iff' Y).2 HK.out.2.2.2
    rw [hsm, HJ.out]
    rw [HY.out] at h1 ⊢
    exact h1
  subst hst
  have E8 := hide (E6p.out.of hb)
  have y5' := (hb.cell (World.block_lt_of_cell? W7 _ y5)).trans y5
  have u5' := (hb.cell (World.block_lt_of_cell? W7 _ u5)).trans u5
  have dlen : ((Y.emL.length : Int) == (n9 : Int)) = true := by rw [HKl.out]; simp
  clear hb hsm v0 v1 z0 z1 z2 z3 z4 z5 z6 z7 z8 z9 z10 z11 z12 t0 t1 t2 t3 t4 t5 t6 t7 t8 t9 t10 t11 t12 y0 y1 y2 y3 y4 y5 u0 u1 u2 u3 u4 u5 den dfs dfc
  go_wp2_with fail
  refine (alive15 _).mono ?_
  rintro e Uz ⟨rfl, hb⟩
  have Ez := hide (E8.out.of hb)
  clear hb
  go_wp2_with fail
  go_ret
  exact ⟨rfl, Ez.out⟩
set_option maxRecDepth 20000 in
set_option maxHeartbeats 6400000 in
theorem eback_n (T fl st pad : Int) (A2 : Option Addr) (nd c2 : Nat) (d : Nat → Int) (A3 : Option Addr) (ns c3 : Nat) (s g : Nat → Int) (wt pa : Int) (al : Bool) (pm la co sp : Int) (hfl : fl ≤ 9223372036854775807) (fm2 T2 fl2 st2 : Int) (rs2 : Bool) (A9 : Option Addr) (n9 c9 : Nat) (f9 : Nat → Int) (w : World) (hd : Rd .u8 w A2 nd c2 d) (hby : Byt nd d) (hs2 : Rd2 w A3 ns c3 s g) (h9 : Rd .u8 w A9 n9 c9 f9) (hb9 : Byt n9 f9) (hnd : nd ≤ 2000) (hns : ns ≤ 100) (hn9 : n9 ≤ 2000) (hok : ¬ Fm5.Ok (⟨T, fl, st, pad, nd, d, ns, s, g, wt, pa, al, pm, la, co, sp⟩ : Fm5)) :
    Calls Try.prog 4 #[.agg #[.int .i64 T, .int .i64 fl, .int .i64 st, .int .i64 pad, .slice A2 nd c2, .slice A3 ns c3, .int .i64 wt, .int .i64 pa, .bool al, .int .i64 pm, .int .i64 la, .int .i64 co, .int .i64 sp], .agg #[.int .i64 fm2, .int .i64 T2, .int .i64 fl2, .int .i64 st2, .bool rs2, .slice A9 n9 c9]] w (Yes w) := by
  have a1 := (Below.refl w.heap.size w).alloc (Nat.le_refl _) (.cells #[.int .i64 T, .int .i64 fl, .int .i64 st, .int .i64 pad, .slice A2 nd c2, .slice A3 ns c3, .int .i64 wt, .int .i64 pa, .bool al, .int .i64 pm, .int .i64 la, .int .i64 co, .int .i64 sp] 25)
  have a2 := a1.alloc (by simp) (.cells #[.int .i64 fm2, .int .i64 T2, .int .i64 fl2, .int .i64 st2, .bool rs2, .slice A9 n9 c9] 29)
  have hs1 : (w.alloc (.cells #[.int .i64 T, .int .i64 fl, .int .i64 st, .int .i64 pad, .slice A2 nd c2, .slice A3 ns c3, .int .i64 wt, .int .i64 pa, .bool al, .int .i64 pm, .int .i64 la, .int .i64 co, .int .i64 sp] 25)).heap.size = w.heap.size + 1 := by simp
  have RF := hide (keepRow (heap_alloc_new w (.cells #[.int .i64 T, .int .i64 fl, .int .i64 st, .int .i64 pad, .slice A2 nd c2, .slice A3 ns c3, .int .i64 wt, .int .i64 pa, .bool al, .int .i64 pm, .int .i64 la, .int .i64 co, .int .i64 sp] 25)) ((Below.refl (w.alloc (.cells #[.int .i64 T, .int .i64 fl, .int .i64 st, .int .i64 pad, .slice A2 nd c2, .slice A3 ns c3, .int .i64 wt, .int .i64 pa, .bool al, .int .i64 pm, .int .i64 la, .int .i64 co, .int .i64 sp] 25)).heap.size _).alloc (Nat.le_refl _) (.cells #[.int .i64 fm2, .int .i64 T2, .int .i64 fl2, .int .i64 st2, .bool rs2, .slice A9 n9 c9] 29)))
  have rz0 := heap_alloc_new (w.alloc (.cells #[.int .i64 T, .int .i64 fl, .int .i64 st, .int .i64 pad, .slice A2 nd c2, .slice A3 ns c3, .int .i64 wt, .int .i64 pa, .bool al, .int .i64 pm, .int .i64 la, .int .i64 co, .int .i64 sp] 25)) (.cells #[.int .i64 fm2, .int .i64 T2, .int .i64 fl2, .int .i64 st2, .bool rs2, .slice A9 n9 c9] 29)
  rw [hs1] at rz0
  have RP := hide rz0
  have E0 := hide a2
  have HD := hide hd
  have HS2 := hide hs2
  have HB := hide hby
  have H9 := hide h9
  have HB9 := hide hb9
  have dl : (decide ((2000 : Int) < (nd : Int)) || decide ((100 : Int) < (ns : Int))) = false := by rw [decide_eq_false (by omega), decide_eq_false (by omega)]; rfl
  have d9 : decide ((2000 : Int) < (n9 : Int)) = false := decide_eq_false (by omega)
  obtain ⟨X, hX⟩ : ∃ X : Fm5, X = (⟨T, fl, st, pad, nd, d, ns, s, g, wt, pa, al, pm, la, co, sp⟩ : Fm5) := ⟨_, rfl⟩
  have HX := hide hX
  have CA := hide (fun W (h1 : Rd .u8 W A2 nd c2 d) (h2 : Rd2 W A3 ns c3 s g) => raw15 1 T fl st pad A2 nd c2 d A3 ns c3 s g wt pa al pm la co sp hfl hnd (by omega) W h1 hby h2)
  rw [← hX] at CA hok
  have HOK := hide hok
  obtain ⟨x0, x1, x2, x3, x4, x5, x6, x7, x8, x9, x10, x11, x12⟩ := row13 RF.out
  obtain ⟨y0, y1, y2, y3, y4, y5⟩ := row6 RP.out
  clear a1 a2 hs1 rz0 hd hs2 hby hX hok h9 hb9
  go_enter Try.func4, Try.ntmps4
  go_upto_region 1 with (fail)
  generalize hW : (w.alloc (.cells #[.int .i64 T, .int .i64 fl, .int .i64 st, .int .i64 pad, .slice A2 nd c2, .slice A3 ns c3, .int .i64 wt, .int .i64 pa, .bool al, .int .i64 pm, .int .i64 la, .int .i64 co, .int .i64 sp] 25)).alloc (.cells #[.int .i64 fm2, .int .i64 T2, .int .i64 fl2, .int .i64 st2, .bool rs2, .slice A9 n9 c9] 29) = U0 at *
  clear hW
  go_wp2_with fail
  refine (large15 _ _ _ _ A2 nd c2 A3 ns c3 _ _ _ _ _ _ _ U0).mono ?_
  rintro e U1 ⟨rfl, hb⟩
  rw [dl]
  have E1 := hide (E0.out.of hb)
  have RF1 := hide (keepRow RF.out hb)
  have RP1 := hide (keepRow RP.out hb)
  clear hb dl x0 x1 x2 x3 x4 x5 x6 x7 x8 x9 x10 x11 x12 y0 y1 y2 y3 y4 y5
  obtain ⟨x0, x1, x2, x3, x4, x5, x6, x7, x8, x9, x10, x11, x12⟩ := row13 RF1.out
  obtain ⟨y0, y1, y2, y3, y4, y5⟩ := row6 RP1.out
  go_wp2_with fail
  refine (CA.out _ (HD.out.below E1.out) (HS2.out.below E1.out)).mono ?_
  intro e V0 hV
  obtain ⟨hb, rfl⟩ := hV.no (fun h => HOK.out h.2)
  have a3 := (Below.refl V0.heap.size V0).alloc (Nat.le_refl _) (.cells #[.int .i64 0, .int .i64 0, .int .i64 0, .int .i64 0, .bool false, .slice none 0 0] 29)
  have G0 := hide (heap_alloc_new V0 (.cells #[.int .i64 0, .int .i64 0, .int .i64 0, .int .i64 0, .bool false, .slice none 0 0] 29))
  have E2 := hide ((E1.out.of hb).of a3)
  have RF2 := hide (keepRow (keepRow RF1.out hb) a3)
  have RP2 := hide (keepRow (keepRow RP1.out hb) a3)
  clear hV hb a3 d9 x0 x1 x2 x3 x4 x5 x6 x7 x8 x9 x10 x11 x12 y0 y1 y2 y3 y4 y5
  go_upto_region 8 with (fail)
  generalize hW : V0.alloc (.cells #[.int .i64 0, .int .i64 0, .int .i64 0, .int .i64 0, .bool false, .slice none 0 0] 29) = U2 at *
  generalize hQ : V0.heap.size = q0 at *
  clear hW hQ
  obtain ⟨y0, y1, y2, y3, y4, y5⟩ := row6 RP2.out
  obtain ⟨G, hG⟩ : ∃ G, G = frR T2 fl2 st2 n9 f9 := ⟨_, rfl⟩
  have HG := hide hG
  have CP := hide (parse14 fm2 T2 fl2 st2 rs2 A9 n9 c9 f9 _ (H9.out.below E2.out) HB9.out (by omega))
  rw [← hG] at CP
  clear hG
  go_wp2_with fail
  refine (CP.out).mono ?_
  rintro e V5 ⟨A5, c5, B5, e5, rfl, hr4, hr5, hb3⟩
  have a4 := (Below.refl V5.heap.size V5).alloc (Nat.le_refl _) (.cells #[.int .i64 G.T, .int .i64 G.fl, .int .i64 G.st, .int .i64 G.pad, .slice A5 G.N c5, .slice B5 G.sn e5, .int .i64 G.wt, .int .i64 G.pa, .bool G.al, .int .i64 G.pm, .int .i64 G.la, .int .i64 G.co, .int .i64 G.sp] 25)
  have a5 := a4.alloc (by simp) (.cells #[.int .i64 G.fs, .int .i64 G.fc] 38)
  have hs3 : (V5.alloc (.cells #[.int .i64 G.T, .int .i64 G.fl, .int .i64 G.st, .int .i64 G.pad, .slice A5 G.N c5, .slice B5 G.sn e5, .int .i64 G.wt, .int .i64 G.pa, .bool G.al, .int .i64 G.pm, .int .i64 G.la, .int .i64 G.co, .int .i64 G.sp] 25)).heap.size = V5.heap.size + 1 := by simp
  have RG5 := hide (keepRow (heap_alloc_new V5 (.cells #[.int .i64 G.T, .int .i64 G.fl, .int .i64 G.st, .int .i64 G.pad, .slice A5 G.N c5, .slice B5 G.sn e5, .int .i64 G.wt, .int .i64 G.pa, .bool G.al, .int .i64 G.pm, .int .i64 G.la, .int .i64 G.co, .int .i64 G.sp] 25)) ((Below.refl (V5.alloc (.cells #[.int .i64 G.T, .int .i64 G.fl, .int .i64 G.st, .int .i64 G.pad, .slice A5 G.N c5, .slice B5 G.sn e5, .int .i64 G.wt, .int .i64 G.pa, .bool G.al, .int .i64 G.pm, .int .i64 G.la, .int .i64 G.co, .int .i64 G.sp] 25)).heap.size _).alloc (Nat.le_refl _) (.cells #[.int .i64 G.fs, .int .i64 G.fc] 38)))
  have rl0 := heap_alloc_new (V5.alloc (.cells #[.int .i64 G.T, .int .i64 G.fl, .int .i64 G.st, .int .i64 G.pad, .slice A5 G.N c5, .slice B5 G.sn e5, .int .i64 G.wt, .int .i64 G.pa, .bool G.al, .int .i64 G.pm, .int .i64 G.la, .int .i64 G.co, .int .i64 G.sp] 25)) (.cells #[.int .i64 G.fs, .int .i64 G.fc] 38)
  rw [hs3] at rl0
  have RL5 := hide rl0
  have b35 := hb3.of a5
  have E2p := hide (E2.out.of b35)
  have RP2p := hide (keepRow RP2.out b35)
  have K45 := hide (hr4.below a5)
  have K55 := hide (hr5.below a5)
  clear hb3 a4 a5 hs3 rl0 b35 hr4 hr5 y0 y1 y2 y3 y4 y5
  go_upto_region 9 with (fail)
  generalize hW : (V5.alloc (.cells #[.int .i64 G.T, .int .i64 G.fl, .int .i64 G.st, .int .i64 G.pad, .slice A5 G.N c5, .slice B5 G.sn e5, .int .i64 G.wt, .int .i64 G.pa, .bool G.al, .int .i64 G.pm, .int .i64 G.la, .int .i64 G.co, .int .i64 G.sp] 25)).alloc (.cells #[.int .i64 G.fs, .int .i64 G.fc] 38) = W5 at *
  generalize hQ : V5.heap.size = r5 at *
  clear hW hQ
  obtain ⟨v0, v1⟩ := row2 RL5.out
  by_cases hen : G.en = 0
  rotate_left
  · have den : (G.en != 0) = true := by simpa using hen
    clear hen
    go_wp2_with fail
    refine (alive15 _).mono ?_
    rintro e Uz ⟨rfl, hb⟩
    have Ez := hide (E2p.out.of hb)
    clear hb
    go_wp2_with fail
    go_ret
    exact ⟨rfl, Ez.out⟩
  have den : (G.en != 0) = false := by simpa using hen
  by_cases hfs : G.fs = 0
  rotate_left
  · have dfs : (G.fs == 0) = false := by simpa using hfs
    have dfs' : (G.fs != 0) = true := by simpa using hfs
    clear hfs hen
    go_wp2_with fail
    refine (alive15 _).mono ?_
    rintro e Uz ⟨rfl, hb⟩
    have Ez := hide (E2p.out.of hb)
    clear hb
    go_wp2_with fail
    go_ret
    exact ⟨rfl, Ez.out⟩
  have hk := fm_ok HG.out HB9.out hfs hen
  obtain ⟨ko, kl, kg, kfc, kfl, kN, ksn, kby⟩ := hk
  have dfs : (G.fs == 0) = true := by simpa using hfs
  have dfc : (G.fc == 0) = true := by simpa using kfc
  have HK := hide ko
  have HKl := hide kl
  have HKg := hide kg
  have HKb := hide kby
  have CG := hide (fun W (h1 : Rd .u8 W A5 G.N c5 (fun i => f9 (G.off + i))) (h2 : Rd2 W B5 G.sn e5 (sF f9) (sG f9)) => raw15 0 G.T G.fl G.st G.pad A5 G.N c5 (fun i => f9 (G.off + i)) B5 G.sn e5 (sF f9) (sG f9) G.wt G.pa G.al G.pm G.la G.co G.sp (by omega) (by omega) (by omega) W h1 kby h2)
  obtain ⟨Y, hY⟩ : ∃ Y : Fm5, Y = G.fm f9 := ⟨_, rfl⟩
  have HY := hide hY
  have hYe : (⟨G.T, G.fl, G.st, G.pad, G.N, fun i => f9 (G.off + i), G.sn, sF f9, sG f9, G.wt, G.pa, G.al, G.pm, G.la, G.co, G.sp⟩ : Fm5) = Y := hY.symm
  rw [hYe] at CG
  rw [← hY] at HK HKl HKg
  have hyb : Byt Y.emL.length (lF Y.emL) := (Fm5.bytL (X := Y) (by rw [hY]; exact kby)).byt
  have HYb := hide hyb
  have hyl : Y.emL.length ≤ 2000 := by rw [HKl.out]; exact hn9
  clear hY hYe ko kl kg kfc kfl kN ksn kby hfs hen CP hyb
  obtain ⟨z0, z1, z2, z3, z4, z5, z6, z7, z8, z9, z10, z11, z12⟩ := row13 RG5.out
  go_wp2_with fail
  refine (CG.out _ K45.out K55.out).mono ?_
  intro e V6 hV
  obtain ⟨hb, B6, k6, rfl, hr⟩ := hV.yes ⟨.inl rfl, HK.out⟩
  have a3 := (Below.refl V6.heap.size V6).alloc (Nat.le_refl _) (.cells #[.int .i64 0, .int .i64 Y.T, .int .i64 Y.fl, .int .i64 Y.st, .bool false, .slice B6 Y.emL.length k6] 29)
  have G6 := hide (heap_alloc_new V6 (.cells #[.int .i64 0, .int .i64 Y.T, .int .i64 Y.fl, .int .i64 Y.st, .bool false, .slice B6 Y.emL.length k6] 29))
  have E6 := hide ((E2p.out.of hb).of a3)
  have RP6 := hide (keepRow (keepRow RP2p.out hb) a3)
  have RG6 := hide (keepRow (keepRow RG5.out hb) a3)
  have D6 := hide (hr.below a3)
  have M6 := hide ((K45.out.below hb).below a3)
  have N6 := hide ((K55.out.below hb).below a3)
  clear hV hb a3 hr z0 z1 z2 z3 z4 z5 z6 z7 z8 z9 z10 z11 z12 v0 v1 den dfs dfc
  go_upto_region 12 with (fail)
  generalize hW : V6.alloc (.cells #[.int .i64 0, .int .i64 Y.T, .int .i64 Y.fl, .int .i64 Y.st, .bool false, .slice B6 Y.emL.length k6] 29) = W6 at *
  generalize hQ : V6.heap.size = q6 at *
  clear hW hQ
  obtain ⟨y0, y1, y2, y3, y4, y5⟩ := row6 G6.out
  have CQ := hide (parse14 0 Y.T Y.fl Y.st false B6 Y.emL.length k6 (lF Y.emL) W6 D6.out HYb.out (by omega))
  have hgy : frR Y.T Y.fl Y.st Y.emL.length (lF Y.emL) = Y.gR := rfl
  rw [hgy] at CQ
  obtain ⟨J, hJ⟩ : ∃ J, J = Y.gR := ⟨_, rfl⟩
  have HJ := hide hJ
  rw [← hJ] at CQ
  have hJN : J.off + J.N ≤ Y.emL.length := by rw [hJ, ← hgy]; exact frR_le _ _ _ _ _
  have hJb : Byt J.N (fun i => lF Y.emL (J.off + i)) := fun i hi => HYb.out (J.off + i) (by omega)
  have HJb := hide hJb
  have hfa := HK.out.facts
  rw [← hJ] at hfa
  have HFA := hide hfa
  clear hfa hJ hgy hJN hJb
  go_wp2_with fail
  refine (CQ.out).mono ?_
  rintro e V7 ⟨A7, c7, B7, e7, rfl, hr4, hr5, hb3⟩
  have a4 := (Below.refl V7.heap.size V7).alloc (Nat.le_refl _) (.cells #[.int .i64 J.T, .int .i64 J.fl, .int .i64 J.st, .int .i64 J.pad, .slice A7 J.N c7, .slice B7 J.sn e7, .int .i64 J.wt, .int .i64 J.pa, .bool J.al, .int .i64 J.pm, .int .i64 J.la, .int .i64 J.co, .int .i64 J.sp] 25)
  have a5 := a4.alloc (by simp) (.cells #[.int .i64 J.fs, .int .i64 J.fc] 38)
  have hs3 : (V7.alloc (.cells #[.int .i64 J.T, .int .i64 J.fl, .int .i64 J.st, .int .i64 J.pad, .slice A7 J.N c7, .slice B7 J.sn e7, .int .i64 J.wt, .int .i64 J.pa, .bool J.al, .int .i64 J.pm, .int .i64 J.la, .int .i64 J.co, .int .i64 J.sp] 25)).heap.size = V7.heap.size + 1 := by simp
  have RG7 := hide (keepRow (heap_alloc_new V7 (.cells #[.int .i64 J.T, .int .i64 J.fl, .int .i64 J.st, .int .i64 J.pad, .slice A7 J.N c7, .slice B7 J.sn e7, .int .i64 J.wt, .int .i64 J.pa, .bool J.al, .int .i64 J.pm, .int .i64 J.la, .int .i64 J.co, .int .i64 J.sp] 25)) ((Below.refl (V7.alloc (.cells #[.int .i64 J.T, .int .i64 J.fl, .int .i64 J.st, .int .i64 J.pad, .slice A7 J.N c7, .slice B7 J.sn e7, .int .i64 J.wt, .int .i64 J.pa, .bool J.al, .int .i64 J.pm, .int .i64 J.la, .int .i64 J.co, .int .i64 J.sp] 25)).heap.size _).alloc (Nat.le_refl _) (.cells #[.int .i64 J.fs, .int .i64 J.fc] 38)))
  have rl0 := heap_alloc_new (V7.alloc (.cells #[.int .i64 J.T, .int .i64 J.fl, .int .i64 J.st, .int .i64 J.pad, .slice A7 J.N c7, .slice B7 J.sn e7, .int .i64 J.wt, .int .i64 J.pa, .bool J.al, .int .i64 J.pm, .int .i64 J.la, .int .i64 J.co, .int .i64 J.sp] 25)) (.cells #[.int .i64 J.fs, .int .i64 J.fc] 38)
  rw [hs3] at rl0
  have RL7 := hide rl0
  have b35 := hb3.of a5
  have E6p := hide (E6.out.of b35)
  have RP6p := hide (keepRow RP6.out b35)
  have RG6p := hide (keepRow RG6.out b35)
  have G6p := hide (keepRow G6.out b35)
  have M6p := hide (M6.out.below b35)
  have N6p := hide (N6.out.below b35)
  have K47 := hide (hr4.below a5)
  have K57 := hide (hr5.below a5)
  clear hb3 a4 a5 hs3 rl0 b35 hr4 hr5 y0 y1 y2 y3 y4 y5
  go_upto_region 13 with (fail)
  generalize hW : (V7.alloc (.cells #[.int .i64 J.T, .int .i64 J.fl, .int .i64 J.st, .int .i64 J.pad, .slice A7 J.N c7, .slice B7 J.sn e7, .int .i64 J.wt, .int .i64 J.pa, .bool J.al, .int .i64 J.pm, .int .i64 J.la, .int .i64 J.co, .int .i64 J.sp] 25)).alloc (.cells #[.int .i64 J.fs, .int .i64 J.fc] 38) = W7 at *
  generalize hQ : V7.heap.size = r7 at *
  clear hW hQ
  obtain ⟨v0, v1⟩ := row2 RL7.out
  obtain ⟨z0, z1, z2, z3, z4, z5, z6, z7, z8, z9, z10, z11, z12⟩ := row13 RG6p.out
  obtain ⟨t0, t1, t2, t3, t4, t5, t6, t7, t8, t9, t10, t11, t12⟩ := row13 RG7.out
  obtain ⟨y0, y1, y2, y3, y4, y5⟩ := row6 G6p.out
  obtain ⟨u0, u1, u2, u3, u4, u5⟩ := row6 RP6p.out
  have den : (J.en == 0) = true := by have h := HFA.out.1; simpa using h
  have dfs : (J.fs == 0) = true := by have h := HFA.out.2.1; simpa using h
  have dfc : (J.fc == 0) = true := by have h := HFA.out.2.2; simpa using h
  clear CQ CG
  go_wp2_with fail
  refine (rfsame14 G.T G.fl G.st G.pad J.T J.fl J.st J.pad A5 A7 G.N c5 J.N c7 (fun i => f9 (G.off + i)) (fun i => lF Y.emL (J.off + i)) B5 B7 G.sn e5 J.sn e7 (sF f9) (sG f9) (sF (lF Y.emL)) (sG (lF Y.emL)) G.wt G.pa G.pm G.la G.co G.sp J.wt J.pa J.pm J.la J.co J.sp G.al J.al W7 M6p.out K47.out HKb.out HJb.out N6p.out K57.out).mono ?_
  rintro e V8 ⟨rfl, hb⟩
  obtain ⟨sm, hsm⟩ : ∃ sm, sm = smB G.T G.fl G.st G.pad J.T J.fl J.st J.pad G.N J.N (fun i => f9 (G.off + i)) (fun i => lF Y.emL (J.off + i)) G.sn J.sn (sF f9) (sG f9) (sF (lF Y.emL)) (sG (lF Y.emL)) G.wt G.pa G.pm G.la G.co G.sp J.wt J.pa J.pm J.la J.co J.sp G.al J.al := ⟨_, rfl⟩
  rw [← hsm]
  have hst : sm = true := by
    have h1 := (Fm5.sm_iff' Y).2 HK.out.2.2.2
    rw [hsm, HJ.out]
    rw [HY.out] at h1 ⊢
    exact h1
  subst hst
  have E8 := hide (E6p.out.of hb)
  have y5' := (hb.cell (World.block_lt_of_cell? W7 _ y5)).trans y5
  have u5' := (hb.cell (World.block_lt_of_cell? W7 _ u5)).trans u5
  have dlen : ((Y.emL.length : Int) == (n9 : Int)) = true := by rw [HKl.out]; simp
  clear hb hsm v0 v1 z0 z1 z2 z3 z4 z5 z6 z7 z8 z9 z10 z11 z12 t0 t1 t2 t3 t4 t5 t6 t7 t8 t9 t10 t11 t12 y0 y1 y2 y3 y4 y5 u0 u1 u2 u3 u4 u5 den dfs dfc
  go_wp2_with fail
  refine (alive15 _).mono ?_
  rintro e Uz ⟨rfl, hb⟩
  have Ez := hide (E8.out.of hb)
  clear hb
  go_wp2_with fail
  go_ret
  exact ⟨rfl, Ez.out⟩
set_option maxRecDepth 20000 in
set_option maxHeartbeats 1600000 in
theorem back_walk15 (T fl st pad : Int) (A2 : Option Addr) (nd c2 : Nat) (d : Nat → Int) (A3 : Option Addr) (ns c3 : Nat) (s g : Nat → Int) (wt pa : Int) (al : Bool) (pm la co sp : Int) (hfl : fl ≤ 9223372036854775807) (fm2 T2 fl2 st2 : Int) (rs2 : Bool) (A9 : Option Addr) (n9 c9 : Nat) (f9 : Nat → Int) (w : World) (hd : Rd .u8 w A2 nd c2 d) (hby : Byt nd d) (hs2 : Rd2 w A3 ns c3 s g) (h9 : Rd .u8 w A9 n9 c9 f9) (hb9 : Byt n9 f9) :
    Calls Try.prog 4 #[.agg #[.int .i64 T, .int .i64 fl, .int .i64 st, .int .i64 pad, .slice A2 nd c2, .slice A3 ns c3, .int .i64 wt, .int .i64 pa, .bool al, .int .i64 pm, .int .i64 la, .int .i64 co, .int .i64 sp], .agg #[.int .i64 fm2, .int .i64 T2, .int .i64 fl2, .int .i64 st2, .bool rs2, .slice A9 n9 c9]] w (Yes w) := by
  by_cases hl : nd ≤ 2000 ∧ ns ≤ 100
  · have dl : (decide ((2000 : Int) < (nd : Int)) || decide ((100 : Int) < (ns : Int))) = false := by rw [decide_eq_false (by omega), decide_eq_false (by omega)]; rfl
    by_cases hn9 : n9 ≤ 2000
    · by_cases hok : Fm5.Ok (⟨T, fl, st, pad, nd, d, ns, s, g, wt, pa, al, pm, la, co, sp⟩ : Fm5)
      · exact eback_y T fl st pad A2 nd c2 d A3 ns c3 s g wt pa al pm la co sp hfl fm2 T2 fl2 st2 rs2 A9 n9 c9 f9 w hd hby hs2 h9 hb9 hl.1 hl.2 hn9 hok
      · exact eback_n T fl st pad A2 nd c2 d A3 ns c3 s g wt pa al pm la co sp hfl fm2 T2 fl2 st2 rs2 A9 n9 c9 f9 w hd hby hs2 h9 hb9 hl.1 hl.2 hn9 hok
    have d9 : decide ((2000 : Int) < (n9 : Int)) = true := decide_eq_true (by omega)
    have a1 := (Below.refl w.heap.size w).alloc (Nat.le_refl _) (.cells #[.int .i64 T, .int .i64 fl, .int .i64 st, .int .i64 pad, .slice A2 nd c2, .slice A3 ns c3, .int .i64 wt, .int .i64 pa, .bool al, .int .i64 pm, .int .i64 la, .int .i64 co, .int .i64 sp] 25)
    have E0 := hide (a1.alloc (by simp) (.cells #[.int .i64 fm2, .int .i64 T2, .int .i64 fl2, .int .i64 st2, .bool rs2, .slice A9 n9 c9] 29))
    have hs1 : (w.alloc (.cells #[.int .i64 T, .int .i64 fl, .int .i64 st, .int .i64 pad, .slice A2 nd c2, .slice A3 ns c3, .int .i64 wt, .int .i64 pa, .bool al, .int .i64 pm, .int .i64 la, .int .i64 co, .int .i64 sp] 25)).heap.size = w.heap.size + 1 := by simp
    have RF := hide (keepRow (heap_alloc_new w (.cells #[.int .i64 T, .int .i64 fl, .int .i64 st, .int .i64 pad, .slice A2 nd c2, .slice A3 ns c3, .int .i64 wt, .int .i64 pa, .bool al, .int .i64 pm, .int .i64 la, .int .i64 co, .int .i64 sp] 25)) ((Below.refl (w.alloc (.cells #[.int .i64 T, .int .i64 fl, .int .i64 st, .int .i64 pad, .slice A2 nd c2, .slice A3 ns c3, .int .i64 wt, .int .i64 pa, .bool al, .int .i64 pm, .int .i64 la, .int .i64 co, .int .i64 sp] 25)).heap.size _).alloc (Nat.le_refl _) (.cells #[.int .i64 fm2, .int .i64 T2, .int .i64 fl2, .int .i64 st2, .bool rs2, .slice A9 n9 c9] 29)))
    have rz0 := heap_alloc_new (w.alloc (.cells #[.int .i64 T, .int .i64 fl, .int .i64 st, .int .i64 pad, .slice A2 nd c2, .slice A3 ns c3, .int .i64 wt, .int .i64 pa, .bool al, .int .i64 pm, .int .i64 la, .int .i64 co, .int .i64 sp] 25)) (.cells #[.int .i64 fm2, .int .i64 T2, .int .i64 fl2, .int .i64 st2, .bool rs2, .slice A9 n9 c9] 29)
    rw [hs1] at rz0
    have RP := hide rz0
    obtain ⟨x0, x1, x2, x3, x4, x5, x6, x7, x8, x9, x10, x11, x12⟩ := row13 RF.out
    obtain ⟨y0, y1, y2, y3, y4, y5⟩ := row6 RP.out
    clear hd hs2 h9 a1 rz0 hs1
    go_enter Try.func4, Try.ntmps4
    go_upto_region 1 with (fail)
    generalize hW : (w.alloc (.cells #[.int .i64 T, .int .i64 fl, .int .i64 st, .int .i64 pad, .slice A2 nd c2, .slice A3 ns c3, .int .i64 wt, .int .i64 pa, .bool al, .int .i64 pm, .int .i64 la, .int .i64 co, .int .i64 sp] 25)).alloc (.cells #[.int .i64 fm2, .int .i64 T2, .int .i64 fl2, .int .i64 st2, .bool rs2, .slice A9 n9 c9] 29) = U0 at *
    clear hW
    go_wp2_with fail
    refine (large15 _ _ _ _ A2 nd c2 A3 ns c3 _ _ _ _ _ _ _ U0).mono ?_
    rintro e U1 ⟨rfl, hb⟩
    rw [dl]
    have E1 := hide (E0.out.of hb)
    have RP1 := hide (keepRow RP.out hb)
    clear hb dl x0 x1 x2 x3 x4 x5 x6 x7 x8 x9 x10 x11 x12 y0 y1 y2 y3 y4 y5
    obtain ⟨y0, y1, y2, y3, y4, y5⟩ := row6 RP1.out
    go_wp2_with fail
    refine (alive15 _).mono ?_
    rintro e Uz ⟨rfl, hb⟩
    have Ez := hide (E1.out.of hb)
    clear hb
    go_wp2_with fail
    go_ret
    exact ⟨rfl, Ez.out⟩
  have dl : (decide ((2000 : Int) < (nd : Int)) || decide ((100 : Int) < (ns : Int))) = true := by
    by_cases h1 : nd ≤ 2000
    · rw [decide_eq_true (show (100 : Int) < (ns : Int) by omega), Bool.or_true]
    · rw [decide_eq_true (show (2000 : Int) < (nd : Int) by omega), Bool.true_or]
  have a1 := (Below.refl w.heap.size w).alloc (Nat.le_refl _) (.cells #[.int .i64 T, .int .i64 fl, .int .i64 st, .int .i64 pad, .slice A2 nd c2, .slice A3 ns c3, .int .i64 wt, .int .i64 pa, .bool al, .int .i64 pm, .int .i64 la, .int .i64 co, .int .i64 sp] 25)
  have E0 := hide (a1.alloc (by simp) (.cells #[.int .i64 fm2, .int .i64 T2, .int .i64 fl2, .int .i64 st2, .bool rs2, .slice A9 n9 c9] 29))
  have hs1 : (w.alloc (.cells #[.int .i64 T, .int .i64 fl, .int .i64 st, .int .i64 pad, .slice A2 nd c2, .slice A3 ns c3, .int .i64 wt, .int .i64 pa, .bool al, .int .i64 pm, .int .i64 la, .int .i64 co, .int .i64 sp] 25)).heap.size = w.heap.size + 1 := by simp
  have RF := hide (keepRow (heap_alloc_new w (.cells #[.int .i64 T, .int .i64 fl, .int .i64 st, .int .i64 pad, .slice A2 nd c2, .slice A3 ns c3, .int .i64 wt, .int .i64 pa, .bool al, .int .i64 pm, .int .i64 la, .int .i64 co, .int .i64 sp] 25)) ((Below.refl (w.alloc (.cells #[.int .i64 T, .int .i64 fl, .int .i64 st, .int .i64 pad, .slice A2 nd c2, .slice A3 ns c3, .int .i64 wt, .int .i64 pa, .bool al, .int .i64 pm, .int .i64 la, .int .i64 co, .int .i64 sp] 25)).heap.size _).alloc (Nat.le_refl _) (.cells #[.int .i64 fm2, .int .i64 T2, .int .i64 fl2, .int .i64 st2, .bool rs2, .slice A9 n9 c9] 29)))
  have rz0 := heap_alloc_new (w.alloc (.cells #[.int .i64 T, .int .i64 fl, .int .i64 st, .int .i64 pad, .slice A2 nd c2, .slice A3 ns c3, .int .i64 wt, .int .i64 pa, .bool al, .int .i64 pm, .int .i64 la, .int .i64 co, .int .i64 sp] 25)) (.cells #[.int .i64 fm2, .int .i64 T2, .int .i64 fl2, .int .i64 st2, .bool rs2, .slice A9 n9 c9] 29)
  rw [hs1] at rz0
  have RP := hide rz0
  obtain ⟨x0, x1, x2, x3, x4, x5, x6, x7, x8, x9, x10, x11, x12⟩ := row13 RF.out
  obtain ⟨y0, y1, y2, y3, y4, y5⟩ := row6 RP.out
  clear hd hs2 h9 a1 rz0 hs1
  go_enter Try.func4, Try.ntmps4
  go_upto_region 1 with (fail)
  generalize hW : (w.alloc (.cells #[.int .i64 T, .int .i64 fl, .int .i64 st, .int .i64 pad, .slice A2 nd c2, .slice A3 ns c3, .int .i64 wt, .int .i64 pa, .bool al, .int .i64 pm, .int .i64 la, .int .i64 co, .int .i64 sp] 25)).alloc (.cells #[.int .i64 fm2, .int .i64 T2, .int .i64 fl2, .int .i64 st2, .bool rs2, .slice A9 n9 c9] 29) = U0 at *
  clear hW
  go_wp2_with fail
  refine (large15 _ _ _ _ A2 nd c2 A3 ns c3 _ _ _ _ _ _ _ U0).mono ?_
  rintro e U1 ⟨rfl, hb⟩
  rw [dl]
  have E1 := hide (E0.out.of hb)
  have RP1 := hide (keepRow RP.out hb)
  clear hb dl x0 x1 x2 x3 x4 x5 x6 x7 x8 x9 x10 x11 x12 y0 y1 y2 y3 y4 y5
  obtain ⟨y0, y1, y2, y3, y4, y5⟩ := row6 RP1.out
  go_wp2_with fail
  refine (alive15 _).mono ?_
  rintro e Uz ⟨rfl, hb⟩
  have Ez := hide (E1.out.of hb)
  clear hb
  go_wp2_with fail
  go_ret
  exact ⟨rfl, Ez.out⟩
end Go.Proofs.Ytpnjamomkpkkeaa
