/- Layer 15: EmitRaws. -/
import Derived.Test.YtpnjamomkpkkeaaEmc
namespace Go.Proofs.Ytpnjamomkpkkeaa
set_option linter.unusedVariables false
set_option linter.unusedSimpArgs false
open Go.RowKit

theorem Rw5.yes {X : Fm5} {fr : Int} {yes no : Value} {w w' : World} {e : Ending} (h : Rw5 X fr yes no w e w') (hk : (fr = 0 ∨ fr = 1) ∧ X.Ok) : Below w.heap.size w w' ∧ ∃ A c, e = .returned (.tuple #[.agg #[.int .i64 fr, .int .i64 X.T, .int .i64 X.fl, .int .i64 X.st, .bool false, .slice A X.emL.length c], yes]) ∧ Rd .u8 w' A X.emL.length c (lF X.emL) := by
  obtain ⟨h1, ⟨_, h2⟩ | ⟨h2, _⟩⟩ := h
  · exact ⟨h1, h2⟩
  · exact absurd hk h2
theorem Rw5.no {X : Fm5} {fr : Int} {yes no : Value} {w w' : World} {e : Ending} (h : Rw5 X fr yes no w e w') (hk : ¬ ((fr = 0 ∨ fr = 1) ∧ X.Ok)) : Below w.heap.size w w' ∧ e = .returned (.tuple #[.agg #[.int .i64 0, .int .i64 0, .int .i64 0, .int .i64 0, .bool false, .slice none 0 0], no]) := by
  obtain ⟨h1, ⟨h2, _⟩ | ⟨_, h2⟩⟩ := h
  · exact absurd h2 hk
  · exact ⟨h1, h2⟩
set_option maxRecDepth 20000 in
set_option maxHeartbeats 6400000 in
theorem raws_yy (from_ : Int) (T fl st pad : Int) (A2 : Option Addr) (nd c2 : Nat) (d : Nat → Int) (A3 : Option Addr) (ns c3 : Nat) (s g : Nat → Int) (wt pa : Int) (al : Bool) (pm la co sp : Int) (hfl : fl ≤ 9223372036854775807) (w : World) (hd : Rd .u8 w A2 nd c2 d) (hby : Byt nd d) (hs2 : Rd2 w A3 ns c3 s g) (hnd : nd ≤ 2000) (hns : ns ≤ 100) (hok : Fm5.Ok (⟨T, fl, st, pad, nd, d, ns, s, g, wt, pa, al, pm, la, co, sp⟩ : Fm5)) (hfr : from_ = 0 ∨ from_ = 1) :
    Calls Try.prog 3 #[.agg #[.int .i64 T, .int .i64 fl, .int .i64 st, .int .i64 pad, .slice A2 nd c2, .slice A3 ns c3, .int .i64 wt, .int .i64 pa, .bool al, .int .i64 pm, .int .i64 la, .int .i64 co, .int .i64 sp], .int .i64 from_] w (Yes w) := by
  have a1 := (Below.refl w.heap.size w).alloc (Nat.le_refl _) (.cells #[.int .i64 T, .int .i64 fl, .int .i64 st, .int .i64 pad, .slice A2 nd c2, .slice A3 ns c3, .int .i64 wt, .int .i64 pa, .bool al, .int .i64 pm, .int .i64 la, .int .i64 co, .int .i64 sp] 25)
  have RF := hide (heap_alloc_new w (.cells #[.int .i64 T, .int .i64 fl, .int .i64 st, .int .i64 pad, .slice A2 nd c2, .slice A3 ns c3, .int .i64 wt, .int .i64 pa, .bool al, .int .i64 pm, .int .i64 la, .int .i64 co, .int .i64 sp] 25))
  have E0 := hide a1
  have HD := hide hd
  have HS2 := hide hs2
  have HB := hide hby
  have dl : (decide ((2000 : Int) < (nd : Int)) || decide ((100 : Int) < (ns : Int))) = false := by rw [decide_eq_false (by omega), decide_eq_false (by omega)]; rfl
  obtain ⟨X, hX⟩ : ∃ X : Fm5, X = (⟨T, fl, st, pad, nd, d, ns, s, g, wt, pa, al, pm, la, co, sp⟩ : Fm5) := ⟨_, rfl⟩
  have CA := hide (fun W (h1 : Rd .u8 W A2 nd c2 d) (h2 : Rd2 W A3 ns c3 s g) => raw15 from_ T fl st pad A2 nd c2 d A3 ns c3 s g wt pa al pm la co sp hfl hnd (by omega) W h1 hby h2)
  have CB := hide (fun fv W (h1 : Rd .u8 W A2 nd c2 d) (h2 : Rd2 W A3 ns c3 s g) => rraw15 fv T fl st pad A2 nd c2 d A3 ns c3 s g wt pa al pm la co sp hfl hnd (by omega) W h1 hby h2)
  have CR := hide (fun W (h1 : Rd .u8 W A2 nd c2 d) (h2 : Rd2 W A3 ns c3 s g) => eright15 T fl st pad A2 nd c2 d A3 ns c3 s g wt pa al pm la co sp hfl hnd (by omega) W h1 hby h2)
  rw [← hX] at CA CB CR hok
  have HOK := hide hok
  have HFR := hide hfr
  clear a1 hd hs2 hby hX hok hfr
  obtain ⟨x0, x1, x2, x3, x4, x5, x6, x7, x8, x9, x10, x11, x12⟩ := row13 RF.out
  go_enter Try.func3, Try.ntmps3
  go_upto_region 1 with (fail)
  generalize hW : w.alloc (.cells #[.int .i64 T, .int .i64 fl, .int .i64 st, .int .i64 pad, .slice A2 nd c2, .slice A3 ns c3, .int .i64 wt, .int .i64 pa, .bool al, .int .i64 pm, .int .i64 la, .int .i64 co, .int .i64 sp] 25) = U0 at *
  clear hW
  go_wp2_with fail
  refine (large15 _ _ _ _ A2 nd c2 A3 ns c3 _ _ _ _ _ _ _ U0).mono ?_
  rintro e U1 ⟨rfl, hb⟩
  rw [dl]
  have E1 := hide (E0.out.of hb)
  have RF1 := hide (keepRow RF.out hb)
  clear hb dl x0 x1 x2 x3 x4 x5 x6 x7 x8 x9 x10 x11 x12
  obtain ⟨x0, x1, x2, x3, x4, x5, x6, x7, x8, x9, x10, x11, x12⟩ := row13 RF1.out
  go_wp2_with fail
  refine (CA.out _ (HD.out.below E1.out) (HS2.out.below E1.out)).mono ?_
  intro e V0 hV
  obtain ⟨hb, B0, k0, rfl, hr⟩ := hV.yes ⟨HFR.out, HOK.out⟩
  have a3 := (Below.refl V0.heap.size V0).alloc (Nat.le_refl _) (.cells #[.int .i64 from_, .int .i64 X.T, .int .i64 X.fl, .int .i64 X.st, .bool false, .slice B0 X.emL.length k0] 29)
  have G0 := hide (heap_alloc_new V0 (.cells #[.int .i64 from_, .int .i64 X.T, .int .i64 X.fl, .int .i64 X.st, .bool false, .slice B0 X.emL.length k0] 29))
  have E2 := hide ((E1.out.of hb).of a3)
  have RF2 := hide (keepRow (keepRow RF1.out hb) a3)
  have D0 := hide (hr.below a3)
  clear hV hb a3 x0 x1 x2 x3 x4 x5 x6 x7 x8 x9 x10 x11 x12 hr
  go_upto_region 4 with (fail)
  generalize hW : V0.alloc (.cells #[.int .i64 from_, .int .i64 X.T, .int .i64 X.fl, .int .i64 X.st, .bool false, .slice B0 X.emL.length k0] 29) = U2 at *
  generalize hQ : V0.heap.size = q0 at *
  clear hW hQ
  obtain ⟨x0, x1, x2, x3, x4, x5, x6, x7, x8, x9, x10, x11, x12⟩ := row13 RF2.out
  go_wp2_with fail
  refine (CB.out from_ _ (HD.out.below E2.out) (HS2.out.below E2.out)).mono ?_
  intro e V1 hV
  obtain ⟨hb, B1, k1, rfl, hr⟩ := hV.yes ⟨HFR.out, HOK.out⟩
  have a3 := (Below.refl V1.heap.size V1).alloc (Nat.le_refl _) (.cells #[.int .i64 from_, .int .i64 X.T, .int .i64 X.fl, .int .i64 X.st, .bool false, .slice B1 X.emL.length k1] 29)
  have G1 := hide (heap_alloc_new V1 (.cells #[.int .i64 from_, .int .i64 X.T, .int .i64 X.fl, .int .i64 X.st, .bool false, .slice B1 X.emL.length k1] 29))
  have E3 := hide ((E2.out.of hb).of a3)
  have RF3 := hide (keepRow (keepRow RF2.out hb) a3)
  have G0n := hide (keepRow (keepRow G0.out hb) a3)
  have D0n := hide ((D0.out.below hb).below a3)
  have D1 := hide (hr.below a3)
  clear hV hb a3 x0 x1 x2 x3 x4 x5 x6 x7 x8 x9 x10 x11 x12 hr
  go_upto_region 5 with (fail)
  generalize hW : V1.alloc (.cells #[.int .i64 from_, .int .i64 X.T, .int .i64 X.fl, .int .i64 X.st, .bool false, .slice B1 X.emL.length k1] 29) = U3 at *
  generalize hQ : V1.heap.size = q1 at *
  clear hW hQ
  obtain ⟨x0, x1, x2, x3, x4, x5, x6, x7, x8, x9, x10, x11, x12⟩ := row13 RF3.out
  go_wp2_with fail
  refine (CB.out 0 _ (HD.out.below E3.out) (HS2.out.below E3.out)).mono ?_
  intro e V2 hV
  obtain ⟨hb, B2, k2, rfl, hr⟩ := hV.yes ⟨.inl rfl, HOK.out⟩
  have a3 := (Below.refl V2.heap.size V2).alloc (Nat.le_refl _) (.cells #[.int .i64 0, .int .i64 X.T, .int .i64 X.fl, .int .i64 X.st, .bool false, .slice B2 X.emL.length k2] 29)
  have G2 := hide (heap_alloc_new V2 (.cells #[.int .i64 0, .int .i64 X.T, .int .i64 X.fl, .int .i64 X.st, .bool false, .slice B2 X.emL.length k2] 29))
  have E4 := hide ((E3.out.of hb).of a3)
  have RF4 := hide (keepRow (keepRow RF3.out hb) a3)
  have G0nn := hide (keepRow (keepRow G0n.out hb) a3)
  have D0nn := hide ((D0n.out.below hb).below a3)
  have G1n := hide (keepRow (keepRow G1.out hb) a3)
  have D1n := hide ((D1.out.below hb).below a3)
  have D2 := hide (hr.below a3)
  clear hV hb a3 x0 x1 x2 x3 x4 x5 x6 x7 x8 x9 x10 x11 x12 hr
  go_upto_region 6 with (fail)
  generalize hW : V2.alloc (.cells #[.int .i64 0, .int .i64 X.T, .int .i64 X.fl, .int .i64 X.st, .bool false, .slice B2 X.emL.length k2] 29) = U4 at *
  generalize hQ : V2.heap.size = q2 at *
  clear hW hQ
  obtain ⟨x0, x1, x2, x3, x4, x5, x6, x7, x8, x9, x10, x11, x12⟩ := row13 RF4.out
  go_wp2_with fail
  refine (CR.out _ (HD.out.below E4.out) (HS2.out.below E4.out)).mono ?_
  rintro e U9 ⟨rb, rfl, hiff, hb⟩
  have hrb : rb = true := by exact hiff.2 HOK.out
  subst hrb
  have E9 := hide (E4.out.of hb)
  have J0 := keepRow G0nn.out hb
  have J1 := keepRow G1n.out hb
  obtain ⟨y0, y1, y2, y3, y4, y5⟩ := row6 J0
  obtain ⟨z0, z1, z2, z3, z4, z5⟩ := row6 J1
  have M0 := hide (D0nn.out.below hb)
  have M1 := hide (D1n.out.below hb)
  clear hb hiff x0 x1 x2 x3 x4 x5 x6 x7 x8 x9 x10 x11 x12
  go_wp2_with fail
  refine (rsame7 from_ X.T X.fl X.st false B0 B1 X.emL.length k0 k1 (lF X.emL) U9 M0.out M1.out).mono ?_
  rintro e U10 ⟨rfl, hb⟩
  have E10 := hide (E9.out.of hb)
  clear hb J0 J1 y0 y1 y2 y3 y4 y5 z0 z1 z2 z3 z4 z5
  go_wp2_with fail
  refine (alive15 U10).mono ?_
  rintro e U11 ⟨rfl, hb⟩
  have E11 := hide (E10.out.of hb)
  clear hb
  go_wp2_with fail
  go_ret
  exact ⟨rfl, E11.out⟩
set_option maxRecDepth 20000 in
set_option maxHeartbeats 6400000 in
theorem raws_yn (from_ : Int) (T fl st pad : Int) (A2 : Option Addr) (nd c2 : Nat) (d : Nat → Int) (A3 : Option Addr) (ns c3 : Nat) (s g : Nat → Int) (wt pa : Int) (al : Bool) (pm la co sp : Int) (hfl : fl ≤ 9223372036854775807) (w : World) (hd : Rd .u8 w A2 nd c2 d) (hby : Byt nd d) (hs2 : Rd2 w A3 ns c3 s g) (hnd : nd ≤ 2000) (hns : ns ≤ 100) (hok : Fm5.Ok (⟨T, fl, st, pad, nd, d, ns, s, g, wt, pa, al, pm, la, co, sp⟩ : Fm5)) (hfr : ¬ (from_ = 0 ∨ from_ = 1)) :
    Calls Try.prog 3 #[.agg #[.int .i64 T, .int .i64 fl, .int .i64 st, .int .i64 pad, .slice A2 nd c2, .slice A3 ns c3, .int .i64 wt, .int .i64 pa, .bool al, .int .i64 pm, .int .i64 la, .int .i64 co, .int .i64 sp], .int .i64 from_] w (Yes w) := by
  have a1 := (Below.refl w.heap.size w).alloc (Nat.le_refl _) (.cells #[.int .i64 T, .int .i64 fl, .int .i64 st, .int .i64 pad, .slice A2 nd c2, .slice A3 ns c3, .int .i64 wt, .int .i64 pa, .bool al, .int .i64 pm, .int .i64 la, .int .i64 co, .int .i64 sp] 25)
  have RF := hide (heap_alloc_new w (.cells #[.int .i64 T, .int .i64 fl, .int .i64 st, .int .i64 pad, .slice A2 nd c2, .slice A3 ns c3, .int .i64 wt, .int .i64 pa, .bool al, .int .i64 pm, .int .i64 la, .int .i64 co, .int .i64 sp] 25))
  have E0 := hide a1
  have HD := hide hd
  have HS2 := hide hs2
  have HB := hide hby
  have dl : (decide ((2000 : Int) < (nd : Int)) || decide ((100 : Int) < (ns : Int))) = false := by rw [decide_eq_false (by omega), decide_eq_false (by omega)]; rfl
  obtain ⟨X, hX⟩ : ∃ X : Fm5, X = (⟨T, fl, st, pad, nd, d, ns, s, g, wt, pa, al, pm, la, co, sp⟩ : Fm5) := ⟨_, rfl⟩
  have CA := hide (fun W (h1 : Rd .u8 W A2 nd c2 d) (h2 : Rd2 W A3 ns c3 s g) => raw15 from_ T fl st pad A2 nd c2 d A3 ns c3 s g wt pa al pm la co sp hfl hnd (by omega) W h1 hby h2)
  have CB := hide (fun fv W (h1 : Rd .u8 W A2 nd c2 d) (h2 : Rd2 W A3 ns c3 s g) => rraw15 fv T fl st pad A2 nd c2 d A3 ns c3 s g wt pa al pm la co sp hfl hnd (by omega) W h1 hby h2)
  have CR := hide (fun W (h1 : Rd .u8 W A2 nd c2 d) (h2 : Rd2 W A3 ns c3 s g) => eright15 T fl st pad A2 nd c2 d A3 ns c3 s g wt pa al pm la co sp hfl hnd (by omega) W h1 hby h2)
  rw [← hX] at CA CB CR hok
  have HOK := hide hok
  have HFR := hide hfr
  clear a1 hd hs2 hby hX hok hfr
  obtain ⟨x0, x1, x2, x3, x4, x5, x6, x7, x8, x9, x10, x11, x12⟩ := row13 RF.out
  go_enter Try.func3, Try.ntmps3
  go_upto_region 1 with (fail)
  generalize hW : w.alloc (.cells #[.int .i64 T, .int .i64 fl, .int .i64 st, .int .i64 pad, .slice A2 nd c2, .slice A3 ns c3, .int .i64 wt, .int .i64 pa, .bool al, .int .i64 pm, .int .i64 la, .int .i64 co, .int .i64 sp] 25) = U0 at *
  clear hW
  go_wp2_with fail
  refine (large15 _ _ _ _ A2 nd c2 A3 ns c3 _ _ _ _ _ _ _ U0).mono ?_
  rintro e U1 ⟨rfl, hb⟩
  rw [dl]
  have E1 := hide (E0.out.of hb)
  have RF1 := hide (keepRow RF.out hb)
  clear hb dl x0 x1 x2 x3 x4 x5 x6 x7 x8 x9 x10 x11 x12
  obtain ⟨x0, x1, x2, x3, x4, x5, x6, x7, x8, x9, x10, x11, x12⟩ := row13 RF1.out
  go_wp2_with fail
  refine (CA.out _ (HD.out.below E1.out) (HS2.out.below E1.out)).mono ?_
  intro e V0 hV
  obtain ⟨hb, rfl⟩ := hV.no (fun h => HFR.out h.1)
  have a3 := (Below.refl V0.heap.size V0).alloc (Nat.le_refl _) (.cells #[.int .i64 0, .int .i64 0, .int .i64 0, .int .i64 0, .bool false, .slice none 0 0] 29)
  have G0 := hide (heap_alloc_new V0 (.cells #[.int .i64 0, .int .i64 0, .int .i64 0, .int .i64 0, .bool false, .slice none 0 0] 29))
  have E2 := hide ((E1.out.of hb).of a3)
  have RF2 := hide (keepRow (keepRow RF1.out hb) a3)
  clear hV hb a3 x0 x1 x2 x3 x4 x5 x6 x7 x8 x9 x10 x11 x12
  go_upto_region 4 with (fail)
  generalize hW : V0.alloc (.cells #[.int .i64 0, .int .i64 0, .int .i64 0, .int .i64 0, .bool false, .slice none 0 0] 29) = U2 at *
  generalize hQ : V0.heap.size = q0 at *
  clear hW hQ
  obtain ⟨x0, x1, x2, x3, x4, x5, x6, x7, x8, x9, x10, x11, x12⟩ := row13 RF2.out
  go_wp2_with fail
  refine (CB.out from_ _ (HD.out.below E2.out) (HS2.out.below E2.out)).mono ?_
  intro e V1 hV
  obtain ⟨hb, rfl⟩ := hV.no (fun h => HFR.out h.1)
  have a3 := (Below.refl V1.heap.size V1).alloc (Nat.le_refl _) (.cells #[.int .i64 0, .int .i64 0, .int .i64 0, .int .i64 0, .bool false, .slice none 0 0] 29)
  have G1 := hide (heap_alloc_new V1 (.cells #[.int .i64 0, .int .i64 0, .int .i64 0, .int .i64 0, .bool false, .slice none 0 0] 29))
  have E3 := hide ((E2.out.of hb).of a3)
  have RF3 := hide (keepRow (keepRow RF2.out hb) a3)
  have G0n := hide (keepRow (keepRow G0.out hb) a3)
  clear hV hb a3 x0 x1 x2 x3 x4 x5 x6 x7 x8 x9 x10 x11 x12
  go_upto_region 5 with (fail)
  generalize hW : V1.alloc (.cells #[.int .i64 0, .int .i64 0, .int .i64 0, .int .i64 0, .bool false, .slice none 0 0] 29) = U3 at *
  generalize hQ : V1.heap.size = q1 at *
  clear hW hQ
  obtain ⟨x0, x1, x2, x3, x4, x5, x6, x7, x8, x9, x10, x11, x12⟩ := row13 RF3.out
  go_wp2_with fail
  refine (CB.out 0 _ (HD.out.below E3.out) (HS2.out.below E3.out)).mono ?_
  intro e V2 hV
  obtain ⟨hb, B2, k2, rfl, hr⟩ := hV.yes ⟨.inl rfl, HOK.out⟩
  have a3 := (Below.refl V2.heap.size V2).alloc (Nat.le_refl _) (.cells #[.int .i64 0, .int .i64 X.T, .int .i64 X.fl, .int .i64 X.st, .bool false, .slice B2 X.emL.length k2] 29)
  have G2 := hide (heap_alloc_new V2 (.cells #[.int .i64 0, .int .i64 X.T, .int .i64 X.fl, .int .i64 X.st, .bool false, .slice B2 X.emL.length k2] 29))
  have E4 := hide ((E3.out.of hb).of a3)
  have RF4 := hide (keepRow (keepRow RF3.out hb) a3)
  have G0nn := hide (keepRow (keepRow G0n.out hb) a3)
  have G1n := hide (keepRow (keepRow G1.out hb) a3)
  have D2 := hide (hr.below a3)
  clear hV hb a3 x0 x1 x2 x3 x4 x5 x6 x7 x8 x9 x10 x11 x12 hr
  go_upto_region 6 with (fail)
  generalize hW : V2.alloc (.cells #[.int .i64 0, .int .i64 X.T, .int .i64 X.fl, .int .i64 X.st, .bool false, .slice B2 X.emL.length k2] 29) = U4 at *
  generalize hQ : V2.heap.size = q2 at *
  clear hW hQ
  obtain ⟨x0, x1, x2, x3, x4, x5, x6, x7, x8, x9, x10, x11, x12⟩ := row13 RF4.out
  go_wp2_with fail
  refine (CR.out _ (HD.out.below E4.out) (HS2.out.below E4.out)).mono ?_
  rintro e U9 ⟨rb, rfl, hiff, hb⟩
  have hrb : rb = true := by exact hiff.2 HOK.out
  subst hrb
  have E9 := hide (E4.out.of hb)
  have J0 := keepRow G0nn.out hb
  have J1 := keepRow G1n.out hb
  obtain ⟨y0, y1, y2, y3, y4, y5⟩ := row6 J0
  obtain ⟨z0, z1, z2, z3, z4, z5⟩ := row6 J1
  clear hb hiff x0 x1 x2 x3 x4 x5 x6 x7 x8 x9 x10 x11 x12
  go_wp2_with fail
  refine (rsame7 0 0 0 0 false none none 0 0 0 (fun _ => 0) U9 (Rd.nil _ _ _) (Rd.nil _ _ _)).mono ?_
  rintro e U10 ⟨rfl, hb⟩
  have E10 := hide (E9.out.of hb)
  clear hb J0 J1 y0 y1 y2 y3 y4 y5 z0 z1 z2 z3 z4 z5
  go_wp2_with fail
  refine (alive15 U10).mono ?_
  rintro e U11 ⟨rfl, hb⟩
  have E11 := hide (E10.out.of hb)
  clear hb
  go_wp2_with fail
  go_ret
  exact ⟨rfl, E11.out⟩
set_option maxRecDepth 20000 in
set_option maxHeartbeats 6400000 in
theorem raws_nn (from_ : Int) (T fl st pad : Int) (A2 : Option Addr) (nd c2 : Nat) (d : Nat → Int) (A3 : Option Addr) (ns c3 : Nat) (s g : Nat → Int) (wt pa : Int) (al : Bool) (pm la co sp : Int) (hfl : fl ≤ 9223372036854775807) (w : World) (hd : Rd .u8 w A2 nd c2 d) (hby : Byt nd d) (hs2 : Rd2 w A3 ns c3 s g) (hnd : nd ≤ 2000) (hns : ns ≤ 100) (hok : ¬ Fm5.Ok (⟨T, fl, st, pad, nd, d, ns, s, g, wt, pa, al, pm, la, co, sp⟩ : Fm5)) :
    Calls Try.prog 3 #[.agg #[.int .i64 T, .int .i64 fl, .int .i64 st, .int .i64 pad, .slice A2 nd c2, .slice A3 ns c3, .int .i64 wt, .int .i64 pa, .bool al, .int .i64 pm, .int .i64 la, .int .i64 co, .int .i64 sp], .int .i64 from_] w (Yes w) := by
  have a1 := (Below.refl w.heap.size w).alloc (Nat.le_refl _) (.cells #[.int .i64 T, .int .i64 fl, .int .i64 st, .int .i64 pad, .slice A2 nd c2, .slice A3 ns c3, .int .i64 wt, .int .i64 pa, .bool al, .int .i64 pm, .int .i64 la, .int .i64 co, .int .i64 sp] 25)
  have RF := hide (heap_alloc_new w (.cells #[.int .i64 T, .int .i64 fl, .int .i64 st, .int .i64 pad, .slice A2 nd c2, .slice A3 ns c3, .int .i64 wt, .int .i64 pa, .bool al, .int .i64 pm, .int .i64 la, .int .i64 co, .int .i64 sp] 25))
  have E0 := hide a1
  have HD := hide hd
  have HS2 := hide hs2
  have HB := hide hby
  have dl : (decide ((2000 : Int) < (nd : Int)) || decide ((100 : Int) < (ns : Int))) = false := by rw [decide_eq_false (by omega), decide_eq_false (by omega)]; rfl
  obtain ⟨X, hX⟩ : ∃ X : Fm5, X = (⟨T, fl, st, pad, nd, d, ns, s, g, wt, pa, al, pm, la, co, sp⟩ : Fm5) := ⟨_, rfl⟩
  have CA := hide (fun W (h1 : Rd .u8 W A2 nd c2 d) (h2 : Rd2 W A3 ns c3 s g) => raw15 from_ T fl st pad A2 nd c2 d A3 ns c3 s g wt pa al pm la co sp hfl hnd (by omega) W h1 hby h2)
  have CB := hide (fun fv W (h1 : Rd .u8 W A2 nd c2 d) (h2 : Rd2 W A3 ns c3 s g) => rraw15 fv T fl st pad A2 nd c2 d A3 ns c3 s g wt pa al pm la co sp hfl hnd (by omega) W h1 hby h2)
  have CR := hide (fun W (h1 : Rd .u8 W A2 nd c2 d) (h2 : Rd2 W A3 ns c3 s g) => eright15 T fl st pad A2 nd c2 d A3 ns c3 s g wt pa al pm la co sp hfl hnd (by omega) W h1 hby h2)
  rw [← hX] at CA CB CR hok
  have HOK := hide hok
  clear a1 hd hs2 hby hX hok
  obtain ⟨x0, x1, x2, x3, x4, x5, x6, x7, x8, x9, x10, x11, x12⟩ := row13 RF.out
  go_enter Try.func3, Try.ntmps3
  go_upto_region 1 with (fail)
  generalize hW : w.alloc (.cells #[.int .i64 T, .int .i64 fl, .int .i64 st, .int .i64 pad, .slice A2 nd c2, .slice A3 ns c3, .int .i64 wt, .int .i64 pa, .bool al, .int .i64 pm, .int .i64 la, .int .i64 co, .int .i64 sp] 25) = U0 at *
  clear hW
  go_wp2_with fail
  refine (large15 _ _ _ _ A2 nd c2 A3 ns c3 _ _ _ _ _ _ _ U0).mono ?_
  rintro e U1 ⟨rfl, hb⟩
  rw [dl]
  have E1 := hide (E0.out.of hb)
  have RF1 := hide (keepRow RF.out hb)
  clear hb dl x0 x1 x2 x3 x4 x5 x6 x7 x8 x9 x10 x11 x12
  obtain ⟨x0, x1, x2, x3, x4, x5, x6, x7, x8, x9, x10, x11, x12⟩ := row13 RF1.out
  go_wp2_with fail
  refine (CA.out _ (HD.out.below E1.out) (HS2.out.below E1.out)).mono ?_
  intro e V0 hV
  obtain ⟨hb, rfl⟩ := hV.no (fun h => HOK.out h.2)
  have a3 := (Below.refl V0.heap.size V0).alloc (Nat.le_refl _) (.cells #[.int .i64 0, .int .i64 0, .int .i64 0, .int .i64 0, .bool false, .slice none 0 0] 29)
  have G0 := hide (heap_alloc_new V0 (.cells #[.int .i64 0, .int .i64 0, .int .i64 0, .int .i64 0, .bool false, .slice none 0 0] 29))
  have E2 := hide ((E1.out.of hb).of a3)
  have RF2 := hide (keepRow (keepRow RF1.out hb) a3)
  clear hV hb a3 x0 x1 x2 x3 x4 x5 x6 x7 x8 x9 x10 x11 x12
  go_upto_region 4 with (fail)
  generalize hW : V0.alloc (.cells #[.int .i64 0, .int .i64 0, .int .i64 0, .int .i64 0, .bool false, .slice none 0 0] 29) = U2 at *
  generalize hQ : V0.heap.size = q0 at *
  clear hW hQ
  obtain ⟨x0, x1, x2, x3, x4, x5, x6, x7, x8, x9, x10, x11, x12⟩ := row13 RF2.out
  go_wp2_with fail
  refine (CB.out from_ _ (HD.out.below E2.out) (HS2.out.below E2.out)).mono ?_
  intro e V1 hV
  obtain ⟨hb, rfl⟩ := hV.no (fun h => HOK.out h.2)
  have a3 := (Below.refl V1.heap.size V1).alloc (Nat.le_refl _) (.cells #[.int .i64 0, .int .i64 0, .int .i64 0, .int .i64 0, .bool false, .slice none 0 0] 29)
  have G1 := hide (heap_alloc_new V1 (.cells #[.int .i64 0, .int .i64 0, .int .i64 0, .int .i64 0, .bool false, .slice none 0 0] 29))
  have E3 := hide ((E2.out.of hb).of a3)
  have RF3 := hide (keepRow (keepRow RF2.out hb) a3)
  have G0n := hide (keepRow (keepRow G0.out hb) a3)
  clear hV hb a3 x0 x1 x2 x3 x4 x5 x6 x7 x8 x9 x10 x11 x12
  go_upto_region 5 with (fail)
  generalize hW : V1.alloc (.cells #[.int .i64 0, .int .i64 0, .int .i64 0, .int .i64 0, .bool false, .slice none 0 0] 29) = U3 at *
  generalize hQ : V1.heap.size = q1 at *
  clear hW hQ
  obtain ⟨x0, x1, x2, x3, x4, x5, x6, x7, x8, x9, x10, x11, x12⟩ := row13 RF3.out
  go_wp2_with fail
  refine (CB.out 0 _ (HD.out.below E3.out) (HS2.out.below E3.out)).mono ?_
  intro e V2 hV
  obtain ⟨hb, rfl⟩ := hV.no (fun h => HOK.out h.2)
  have a3 := (Below.refl V2.heap.size V2).alloc (Nat.le_refl _) (.cells #[.int .i64 0, .int .i64 0, .int .i64 0, .int .i64 0, .bool false, .slice none 0 0] 29)
  have G2 := hide (heap_alloc_new V2 (.cells #[.int .i64 0, .int .i64 0, .int .i64 0, .int .i64 0, .bool false, .slice none 0 0] 29))
  have E4 := hide ((E3.out.of hb).of a3)
  have RF4 := hide (keepRow (keepRow RF3.out hb) a3)
  have G0nn := hide (keepRow (keepRow G0n.out hb) a3)
  have G1n := hide (keepRow (keepRow G1.out hb) a3)
  clear hV hb a3 x0 x1 x2 x3 x4 x5 x6 x7 x8 x9 x10 x11 x12
  go_upto_region 6 with (fail)
  generalize hW : V2.alloc (.cells #[.int .i64 0, .int .i64 0, .int .i64 0, .int .i64 0, .bool false, .slice none 0 0] 29) = U4 at *
  generalize hQ : V2.heap.size = q2 at *
  clear hW hQ
  obtain ⟨x0, x1, x2, x3, x4, x5, x6, x7, x8, x9, x10, x11, x12⟩ := row13 RF4.out
  go_wp2_with fail
  refine (CR.out _ (HD.out.below E4.out) (HS2.out.below E4.out)).mono ?_
  rintro e U9 ⟨rb, rfl, hiff, hb⟩
  have hrb : rb = false := by cases rb; rfl; exact absurd (hiff.1 rfl) HOK.out
  subst hrb
  have E9 := hide (E4.out.of hb)
  have J0 := keepRow G0nn.out hb
  have J1 := keepRow G1n.out hb
  obtain ⟨y0, y1, y2, y3, y4, y5⟩ := row6 J0
  obtain ⟨z0, z1, z2, z3, z4, z5⟩ := row6 J1
  clear hb hiff x0 x1 x2 x3 x4 x5 x6 x7 x8 x9 x10 x11 x12
  go_wp2_with fail
  refine (rsame7 0 0 0 0 false none none 0 0 0 (fun _ => 0) U9 (Rd.nil _ _ _) (Rd.nil _ _ _)).mono ?_
  rintro e U10 ⟨rfl, hb⟩
  have E10 := hide (E9.out.of hb)
  clear hb J0 J1 y0 y1 y2 y3 y4 y5 z0 z1 z2 z3 z4 z5
  go_wp2_with fail
  refine (alive15 U10).mono ?_
  rintro e U11 ⟨rfl, hb⟩
  have E11 := hide (E10.out.of hb)
  clear hb
  go_wp2_with fail
  go_ret
  exact ⟨rfl, E11.out⟩
set_option maxRecDepth 20000 in
set_option maxHeartbeats 1600000 in
theorem raws_walk15 (T fl st pad : Int) (A2 : Option Addr) (nd c2 : Nat) (d : Nat → Int) (A3 : Option Addr) (ns c3 : Nat) (s g : Nat → Int) (wt pa : Int) (al : Bool) (pm la co sp : Int) (from_ : Int) (hfl : fl ≤ 9223372036854775807) (w : World) (hd : Rd .u8 w A2 nd c2 d) (hby : Byt nd d) (hs2 : Rd2 w A3 ns c3 s g) :
    Calls Try.prog 3 #[.agg #[.int .i64 T, .int .i64 fl, .int .i64 st, .int .i64 pad, .slice A2 nd c2, .slice A3 ns c3, .int .i64 wt, .int .i64 pa, .bool al, .int .i64 pm, .int .i64 la, .int .i64 co, .int .i64 sp], .int .i64 from_] w (Yes w) := by
  by_cases hl : nd ≤ 2000 ∧ ns ≤ 100
  · by_cases hok : Fm5.Ok (⟨T, fl, st, pad, nd, d, ns, s, g, wt, pa, al, pm, la, co, sp⟩ : Fm5)
    · by_cases hfr : from_ = 0 ∨ from_ = 1
      · exact raws_yy from_ T fl st pad A2 nd c2 d A3 ns c3 s g wt pa al pm la co sp hfl w hd hby hs2 hl.1 hl.2 hok hfr
      · exact raws_yn from_ T fl st pad A2 nd c2 d A3 ns c3 s g wt pa al pm la co sp hfl w hd hby hs2 hl.1 hl.2 hok hfr
    · exact raws_nn from_ T fl st pad A2 nd c2 d A3 ns c3 s g wt pa al pm la co sp hfl w hd hby hs2 hl.1 hl.2 hok
  have dl : (decide ((2000 : Int) < (nd : Int)) || decide ((100 : Int) < (ns : Int))) = true := by
    by_cases h1 : nd ≤ 2000
    · rw [decide_eq_true (show (100 : Int) < (ns : Int) by omega), Bool.or_true]
    · rw [decide_eq_true (show (2000 : Int) < (nd : Int) by omega), Bool.true_or]
  have RF := hide (heap_alloc_new w (.cells #[.int .i64 T, .int .i64 fl, .int .i64 st, .int .i64 pad, .slice A2 nd c2, .slice A3 ns c3, .int .i64 wt, .int .i64 pa, .bool al, .int .i64 pm, .int .i64 la, .int .i64 co, .int .i64 sp] 25))
  have E0 := hide ((Below.refl w.heap.size w).alloc (Nat.le_refl _) (.cells #[.int .i64 T, .int .i64 fl, .int .i64 st, .int .i64 pad, .slice A2 nd c2, .slice A3 ns c3, .int .i64 wt, .int .i64 pa, .bool al, .int .i64 pm, .int .i64 la, .int .i64 co, .int .i64 sp] 25))
  obtain ⟨x0, x1, x2, x3, x4, x5, x6, x7, x8, x9, x10, x11, x12⟩ := row13 RF.out
  clear hd hs2
  go_enter Try.func3, Try.ntmps3
  go_upto_region 1 with (fail)
  generalize hW : w.alloc (.cells #[.int .i64 T, .int .i64 fl, .int .i64 st, .int .i64 pad, .slice A2 nd c2, .slice A3 ns c3, .int .i64 wt, .int .i64 pa, .bool al, .int .i64 pm, .int .i64 la, .int .i64 co, .int .i64 sp] 25) = U0 at *
  clear hW
  go_wp2_with fail
  refine (large15 _ _ _ _ A2 nd c2 A3 ns c3 _ _ _ _ _ _ _ U0).mono ?_
  rintro e U1 ⟨rfl, hb⟩
  rw [dl]
  have E1 := hide (E0.out.of hb)
  clear hb
  go_wp2_with fail
  refine (alive15 U1).mono ?_
  rintro e U2 ⟨rfl, hb⟩
  have E2 := hide (E1.out.of hb)
  clear hb
  go_wp2_with fail
  go_ret
  exact ⟨rfl, E2.out⟩
end Go.Proofs.Ytpnjamomkpkkeaa
