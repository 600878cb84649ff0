/- Layer 15: a frame's raw form, by the document. -/
import Derived.Test.YtpnjamomkpkkeaaEma
import Derived.Test.YtpnjamomkpkkeaaEm9
import Derived.Test.YtpnjamomkpkkeaaEmq
import Derived.Test.YtpnjamomkpkkeaaEmr
import Derived.Test.YtpnjamomkpkkeaaFsd
import Derived.Test.YtpnjamomkpkkeaaFrf
namespace Go.Proofs.Ytpnjamomkpkkeaa
set_option linter.unusedVariables false
set_option linter.unusedSimpArgs false
open Go.RowKit

theorem rbody15 (T fl st pad : Int) (A2 : Option Addr) (nd c2 : Nat) (d : Nat → Int) (A3 : Option Addr) (ns c3 : Nat) (s g : Nat → Int) (wt pa : Int) (al : Bool) (pm la co sp : Int) (hfl : fl ≤ 9223372036854775807) (hnd : nd ≤ 100000) (hns : ns ≤ 1000) (w : World) (hd : Rd .u8 w A2 nd c2 d) (hs2 : Rd2 w A3 ns c3 s g) :
    Calls Try.prog 61 #[.agg #[.int .i64 T, .int .i64 fl, .int .i64 st, .int .i64 pad, .slice A2 nd c2, .slice A3 ns c3, .int .i64 wt, .int .i64 pa, .bool al, .int .i64 pm, .int .i64 la, .int .i64 co, .int .i64 sp]] w (Rb5 (⟨T, fl, st, pad, nd, d, ns, s, g, wt, pa, al, pm, la, co, sp⟩ : Fm5) w) := by
  by_cases h2 : T = 2
  · have e3 : hsB T fl 3 = false := by subst h2; exact hsB3_no (by decide)
    exact rb_f_two T fl st pad A2 nd c2 d A3 ns c3 s g wt pa al pm la co sp hfl hnd hns e3 (by simpa using h2) w hd hs2
  have t2 : (T == 2) = false := by simpa using h2
  cases e3 : hsB T fl 3 <;> cases e5 : hsB T fl 5
  · exact rb_f_no T fl st pad A2 nd c2 d A3 ns c3 s g wt pa al pm la co sp hfl hnd hns e3 t2 e5 w hd hs2
  · exact rb_f_yes T fl st pad A2 nd c2 d A3 ns c3 s g wt pa al pm la co sp hfl hnd hns e3 t2 e5 w hd hs2
  · exact rb_t_no T fl st pad A2 nd c2 d A3 ns c3 s g wt pa al pm la co sp hfl hnd hns e3 t2 e5 w hd hs2
  · exact rb_t_yes T fl st pad A2 nd c2 d A3 ns c3 s g wt pa al pm la co sp hfl hnd hns e3 t2 e5 w hd hs2
set_option maxRecDepth 20000 in
set_option maxHeartbeats 6400000 in
theorem rraw15 (from_ : Int) (T fl st pad : Int) (A2 : Option Addr) (nd c2 : Nat) (d : Nat → Int) (A3 : Option Addr) (ns c3 : Nat) (s g : Nat → Int) (wt pa : Int) (al : Bool) (pm la co sp : Int) (hfl : fl ≤ 9223372036854775807) (hnd : nd ≤ 2000) (hns : ns ≤ 1000) (w : World) (hd : Rd .u8 w A2 nd c2 d) (hby : Byt nd d) (hs2 : Rd2 w A3 ns c3 s g) :
    Calls Try.prog 16 #[.agg #[.int .i64 T, .int .i64 fl, .int .i64 st, .int .i64 pad, .slice A2 nd c2, .slice A3 ns c3, .int .i64 wt, .int .i64 pa, .bool al, .int .i64 pm, .int .i64 la, .int .i64 co, .int .i64 sp], .int .i64 from_] w (Rw5 (⟨T, fl, st, pad, nd, d, ns, s, g, wt, pa, al, pm, la, co, sp⟩ : Fm5) from_ (.bool true) (.bool false) w) := by
  have a1 := (Below.refl w.heap.size w).alloc (Nat.le_refl _) (.cells #[.int .i64 T, .int .i64 fl, .int .i64 st, .int .i64 pad, .slice A2 nd c2, .slice A3 ns c3, .int .i64 wt, .int .i64 pa, .bool al, .int .i64 pm, .int .i64 la, .int .i64 co, .int .i64 sp] 25)
  have a2 := a1.alloc (by simp) (.cells #[.int .i64 0, .int .i64 0, .int .i64 0, .int .i64 0, .bool false, .slice none 0 0] 29)
  have hs1 : (w.alloc (.cells #[.int .i64 T, .int .i64 fl, .int .i64 st, .int .i64 pad, .slice A2 nd c2, .slice A3 ns c3, .int .i64 wt, .int .i64 pa, .bool al, .int .i64 pm, .int .i64 la, .int .i64 co, .int .i64 sp] 25)).heap.size = w.heap.size + 1 := by simp
  have RF := hide (keepRow (heap_alloc_new w (.cells #[.int .i64 T, .int .i64 fl, .int .i64 st, .int .i64 pad, .slice A2 nd c2, .slice A3 ns c3, .int .i64 wt, .int .i64 pa, .bool al, .int .i64 pm, .int .i64 la, .int .i64 co, .int .i64 sp] 25)) ((Below.refl (w.alloc (.cells #[.int .i64 T, .int .i64 fl, .int .i64 st, .int .i64 pad, .slice A2 nd c2, .slice A3 ns c3, .int .i64 wt, .int .i64 pa, .bool al, .int .i64 pm, .int .i64 la, .int .i64 co, .int .i64 sp] 25)).heap.size _).alloc (Nat.le_refl _) (.cells #[.int .i64 0, .int .i64 0, .int .i64 0, .int .i64 0, .bool false, .slice none 0 0] 29)))
  have rz0 := heap_alloc_new (w.alloc (.cells #[.int .i64 T, .int .i64 fl, .int .i64 st, .int .i64 pad, .slice A2 nd c2, .slice A3 ns c3, .int .i64 wt, .int .i64 pa, .bool al, .int .i64 pm, .int .i64 la, .int .i64 co, .int .i64 sp] 25)) (.cells #[.int .i64 0, .int .i64 0, .int .i64 0, .int .i64 0, .bool false, .slice none 0 0] 29)
  rw [hs1] at rz0
  have RZ := hide rz0
  have E0 := hide a2
  have HD := hide hd
  have HS2 := hide hs2
  have HB := hide hby
  obtain ⟨X, hX⟩ : ∃ X : Fm5, X = (⟨T, fl, st, pad, nd, d, ns, s, g, wt, pa, al, pm, la, co, sp⟩ : Fm5) := ⟨_, rfl⟩
  have HX := hide hX
  have HI := hide (Fm5.ok_iff (X := (⟨T, fl, st, pad, nd, d, ns, s, g, wt, pa, al, pm, la, co, sp⟩ : Fm5)) hby)
  have C := hide (fun W (h1 : Rd .u8 W A2 nd c2 d) (h2 : Rd2 W A3 ns c3 s g) => rbody15 T fl st pad A2 nd c2 d A3 ns c3 s g wt pa al pm la co sp hfl (by omega) (by omega) W h1 h2)
  rw [← hX] at C HI ⊢
  obtain ⟨x0, x1, x2, x3, x4, x5, x6, x7, x8, x9, x10, x11, x12⟩ := row13 RF.out
  clear a1 a2 hs1 rz0 hd hs2 hby hX
  go_enter Try.func16, Try.ntmps16
  go_upto_region 1 with (fail)
  generalize hW : (w.alloc (.cells #[.int .i64 T, .int .i64 fl, .int .i64 st, .int .i64 pad, .slice A2 nd c2, .slice A3 ns c3, .int .i64 wt, .int .i64 pa, .bool al, .int .i64 pm, .int .i64 la, .int .i64 co, .int .i64 sp] 25)).alloc (.cells #[.int .i64 0, .int .i64 0, .int .i64 0, .int .i64 0, .bool false, .slice none 0 0] 29) = U0 at *
  clear hW
  go_wp2_with fail
  refine (C.out _ (HD.out.below E0.out) (HS2.out.below E0.out)).mono ?_
  rintro e U1 ⟨hb1, ⟨hp, A1, c1, rfl, hr1⟩ | ⟨hp, rfl⟩⟩
  rotate_left
  · have HP := hide hp
    have a3 := (Below.refl U1.heap.size U1).alloc (Nat.le_refl _) (.cells #[.int .i64 from_, .int .i64 T, .int .i64 fl, .int .i64 st, .bool false, .slice none 0 0] 29)
    have RZ1 := hide (keepRow (keepRow RZ.out hb1) a3)
    have E1 := hide ((E0.out.of hb1).of a3)
    have RF1 := hide (keepRow RF.out hb1)
    clear hb1 hp a3 x0 x1 x2 x3 x4 x5 x6 x7 x8 x9 x10 x11 x12
    obtain ⟨x0, x1, x2, x3, x4, x5, x6, x7, x8, x9, x10, x11, x12⟩ := row13 RF1.out
    go_upto_region 3 with (fail)
    generalize hW : U1.alloc (.cells #[.int .i64 from_, .int .i64 T, .int .i64 fl, .int .i64 st, .bool false, .slice none 0 0] 29) = U2 at *
    clear hW x0 x1 x2 x3 x4 x5 x6 x7 x8 x9 x10 x11 x12 RF1
    obtain ⟨⟨l0, m0_⟩, ⟨l1, m1_⟩, ⟨l2, m2_⟩, ⟨l3, m3_⟩, ⟨l4, m4_⟩, ⟨l5, m5_⟩, rz, -, hbz⟩ := store6 RZ1.out (.int .i64 0) (.int .i64 0) (.int .i64 0) (.int .i64 0) (.bool false) (.slice none 0 0)
    obtain ⟨n0, n1, n2, n3, n4, n5⟩ := row6 rz
    have HBZ := hide (hbz w.heap.size w (by omega) E1.out)
    clear rz hbz
    go_wp2_with fail
    refine bodyPost_ret (v := .tuple #[.agg #[.int .i64 0, .int .i64 0, .int .i64 0, .int .i64 0, .bool false, .slice none 0 0], .bool false]) ?_ rfl ?_
    · rw [results_cell_tmp rfl]
      go_simp
    · exact ⟨HBZ.out, .inr ⟨fun h => HP.out (HI.out.1 h.2).1, rfl⟩⟩
  have HP := hide hp
  have hl3 := emL_le hp.p (by rw [HX.out]; exact hnd) (by rw [HX.out]; exact hns)
  have byl : Byt X.emL.length (lF X.emL) := (Fm5.bytL (by rw [HX.out]; exact HB.out)).byt
  have HBy := hide byl
  have E1 := hide (E0.out.of hb1)
  have RF1 := hide (keepRow RF.out hb1)
  have RZ1 := hide (keepRow RZ.out hb1)
  have a3 := (Below.refl U1.heap.size U1).alloc (Nat.le_refl _) (.cells #[.int .i64 from_, .int .i64 T, .int .i64 fl, .int .i64 st, .bool false, .slice A1 X.emL.length c1] 29)
  have RR := hide (heap_alloc_new U1 (.cells #[.int .i64 from_, .int .i64 T, .int .i64 fl, .int .i64 st, .bool false, .slice A1 X.emL.length c1] 29))
  have RF2 := hide (keepRow RF1.out a3)
  have RZ2 := hide (keepRow RZ1.out a3)
  have E2 := hide (E1.out.of a3)
  have R2 := hide (hr1.below a3)
  have hu1 : Hid (w.heap.size + 1 < U1.heap.size) := rowLt RZ1.out
  clear hb1 hp byl hr1 a3 x0 x1 x2 x3 x4 x5 x6 x7 x8 x9 x10 x11 x12
  obtain ⟨x0, x1, x2, x3, x4, x5, x6, x7, x8, x9, x10, x11, x12⟩ := row13 RF1.out
  go_upto_region 3 with (fail)
  clear x0 x1 x2 x3 x4 x5 x6 x7 x8 x9 x10 x11 x12
  generalize hW : U1.alloc (.cells #[.int .i64 from_, .int .i64 T, .int .i64 fl, .int .i64 st, .bool false, .slice A1 X.emL.length c1] 29) = U2 at *
  generalize hQ : U1.heap.size = q at *
  clear hW hQ
  obtain ⟨y0, y1, y2, y3, y4, y5⟩ := row6 RR.out
  by_cases hhd : HdR X.emL.length T fl st
  rotate_left
  · have hno : Hid (¬ X.Ok) := fun h => hhd (by have h1 := (HI.out.1 h).2.1; rw [HX.out] at h1 ⊢; exact h1)
    go_wp2_with fail
    refine (rright14 from_ T fl st false A1 X.emL.length c1 false (decide_eq_false hhd) U2).mono ?_
    rintro e U3 ⟨rfl, hb3⟩
    have RZ3 := hide (keepRow RZ2.out hb3)
    have E3 := hide (E2.out.of hb3)
    clear hb3 y0 y1 y2 y3 y4 y5 hhd
    obtain ⟨⟨l0, m0_⟩, ⟨l1, m1_⟩, ⟨l2, m2_⟩, ⟨l3, m3_⟩, ⟨l4, m4_⟩, ⟨l5, m5_⟩, rz, -, hbz⟩ := store6 RZ3.out (.int .i64 0) (.int .i64 0) (.int .i64 0) (.int .i64 0) (.bool false) (.slice none 0 0)
    obtain ⟨n0, n1, n2, n3, n4, n5⟩ := row6 rz
    have HBZ := hide (hbz w.heap.size w (by omega) E3.out)
    clear rz hbz
    go_wp2_with fail
    refine bodyPost_ret (v := .tuple #[.agg #[.int .i64 0, .int .i64 0, .int .i64 0, .int .i64 0, .bool false, .slice none 0 0], .bool false]) ?_ rfl ?_
    · rw [results_cell_tmp rfl]
      go_simp
    · exact ⟨HBZ.out, .inr ⟨fun h => hno.out h.2, rfl⟩⟩
  go_wp2_with fail
  refine (rright14 from_ T fl st false A1 X.emL.length c1 true (decide_eq_true hhd) U2).mono ?_
  rintro e U3 ⟨rfl, hb3⟩
  have RZ3 := hide (keepRow RZ2.out hb3)
  have RR3 := hide (keepRow RR.out hb3)
  have RF3 := hide (keepRow RF2.out hb3)
  have E3 := hide (E2.out.of hb3)
  have R3 := hide (R2.out.below hb3)
  have HHD := hide hhd
  have hu2 : Hid (q < U3.heap.size) := rowLt RR3.out
  clear hb3 y0 y1 y2 y3 y4 y5 hhd
  by_cases hfr : from_ = 0 ∨ from_ = 1
  rotate_left
  · have hf' := hide hfr
    have f0 : (from_ != 0) = true := by simp; omega
    have f1 : (from_ != 1) = true := by simp; omega
    clear hfr
    obtain ⟨⟨l0, m0_⟩, ⟨l1, m1_⟩, ⟨l2, m2_⟩, ⟨l3, m3_⟩, ⟨l4, m4_⟩, ⟨l5, m5_⟩, rz, -, hbz⟩ := store6 RZ3.out (.int .i64 0) (.int .i64 0) (.int .i64 0) (.int .i64 0) (.bool false) (.slice none 0 0)
    obtain ⟨n0, n1, n2, n3, n4, n5⟩ := row6 rz
    have HBZ := hide (hbz w.heap.size w (by omega) E3.out)
    clear rz hbz
    go_wp2_with fail
    refine bodyPost_ret (v := .tuple #[.agg #[.int .i64 0, .int .i64 0, .int .i64 0, .int .i64 0, .bool false, .slice none 0 0], .bool false]) ?_ rfl ?_
    · rw [results_cell_tmp rfl]
      go_simp
    · exact ⟨HBZ.out, .inr ⟨fun h => hf'.out h.1, rfl⟩⟩
  obtain ⟨y0, y1, y2, y3, y4, y5⟩ := row6 RR3.out
  have HFR := hide hfr
  have hG : frR T fl st X.emL.length (lF X.emL) = X.gR := by rw [HX.out]; rfl
  have CP := hide (rparse14 from_ T fl st false A1 X.emL.length c1 (lF X.emL) HHD.out (by omega) U3 R3.out HBy.out)
  rw [hG] at CP
  obtain ⟨G, hGG⟩ : ∃ G, G = X.gR := ⟨_, rfl⟩
  have HG := hide hGG
  rw [← hGG] at CP
  have hN : G.off + G.N ≤ X.emL.length := by rw [hGG, ← hG]; exact frR_le _ _ _ _ _
  have hKb : Byt G.N (fun i => lF X.emL (G.off + i)) := fun i hi => HBy.out (G.off + i) (by omega)
  have HKb := hide hKb
  clear hGG hG hN hKb
  have f01 : from_ = 0 ∨ (from_ != 0) = true ∧ (from_ != 1) = false := by
    rcases hfr with h | h
    · exact .inl h
    · subst h; exact .inr ⟨rfl, rfl⟩
  clear hfr
  rcases f01 with rfl | ⟨f0, f1⟩
  · go_wp2_with fail
    refine CP.out.mono ?_
    rintro e U4 ⟨A4, c4, A5, c5, rfl, hr4, hr5, hb3⟩
    have a4 := (Below.refl U4.heap.size U4).alloc (Nat.le_refl _) (.cells #[.int .i64 G.T, .int .i64 G.fl, .int .i64 G.st, .int .i64 G.pad, .slice A4 G.N c4, .slice A5 G.sn c5, .int .i64 G.wt, .int .i64 G.pa, .bool G.al, .int .i64 G.pm, .int .i64 G.la, .int .i64 G.co, .int .i64 G.sp] 25)
    have a5 := a4.alloc (by simp) (.cells #[.int .i64 G.fs, .int .i64 G.fc] 38)
    have hs3 : (U4.alloc (.cells #[.int .i64 G.T, .int .i64 G.fl, .int .i64 G.st, .int .i64 G.pad, .slice A4 G.N c4, .slice A5 G.sn c5, .int .i64 G.wt, .int .i64 G.pa, .bool G.al, .int .i64 G.pm, .int .i64 G.la, .int .i64 G.co, .int .i64 G.sp] 25)).heap.size = U4.heap.size + 1 := by simp
    have RG := hide (keepRow (heap_alloc_new U4 (.cells #[.int .i64 G.T, .int .i64 G.fl, .int .i64 G.st, .int .i64 G.pad, .slice A4 G.N c4, .slice A5 G.sn c5, .int .i64 G.wt, .int .i64 G.pa, .bool G.al, .int .i64 G.pm, .int .i64 G.la, .int .i64 G.co, .int .i64 G.sp] 25)) ((Below.refl (U4.alloc (.cells #[.int .i64 G.T, .int .i64 G.fl, .int .i64 G.st, .int .i64 G.pad, .slice A4 G.N c4, .slice A5 G.sn c5, .int .i64 G.wt, .int .i64 G.pa, .bool G.al, .int .i64 G.pm, .int .i64 G.la, .int .i64 G.co, .int .i64 G.sp] 25)).heap.size _).alloc (Nat.le_refl _) (.cells #[.int .i64 G.fs, .int .i64 G.fc] 38)))
    have rl0 := heap_alloc_new (U4.alloc (.cells #[.int .i64 G.T, .int .i64 G.fl, .int .i64 G.st, .int .i64 G.pad, .slice A4 G.N c4, .slice A5 G.sn c5, .int .i64 G.wt, .int .i64 G.pa, .bool G.al, .int .i64 G.pm, .int .i64 G.la, .int .i64 G.co, .int .i64 G.sp] 25)) (.cells #[.int .i64 G.fs, .int .i64 G.fc] 38)
    rw [hs3] at rl0
    have RL := hide rl0
    have b35 := hb3.of a5
    have RF4 := hide (keepRow RF3.out b35)
    have RZ4 := hide (keepRow RZ3.out b35)
    have RR4 := hide (keepRow RR3.out b35)
    have E4 := hide (E3.out.of b35)
    have R4 := hide (R3.out.below b35)
    have K4 := hide (hr4.below a5)
    have K5 := hide (hr5.below a5)
    have hu3 : Hid (q < U4.heap.size) := Nat.lt_of_lt_of_le (rowLt RR3.out) hb3.size
    clear hb3 a4 a5 hs3 rl0 b35 hr4 hr5 y0 y1 y2 y3 y4 y5
    go_upto_region 6 with (fail)
    generalize hW : (U4.alloc (.cells #[.int .i64 G.T, .int .i64 G.fl, .int .i64 G.st, .int .i64 G.pad, .slice A4 G.N c4, .slice A5 G.sn c5, .int .i64 G.wt, .int .i64 G.pa, .bool G.al, .int .i64 G.pm, .int .i64 G.la, .int .i64 G.co, .int .i64 G.sp] 25)).alloc (.cells #[.int .i64 G.fs, .int .i64 G.fc] 38) = U5 at *
    generalize hQ : U4.heap.size = r at *
    clear hW hQ
    obtain ⟨x0, x1, x2, x3, x4, x5, x6, x7, x8, x9, x10, x11, x12⟩ := row13 RF4.out
    obtain ⟨z0, z1, z2, z3, z4, z5, z6, z7, z8, z9, z10, z11, z12⟩ := row13 RG.out
    obtain ⟨y0, y1, y2, y3, y4, y5⟩ := row6 RR4.out
    obtain ⟨v0, v1⟩ := row2 RL.out
    by_cases hfs : G.fs = 0
    rotate_left
    · have dfs : (G.fs != 0) = true := by simpa using hfs
      have hno : Hid (¬ X.Ok) := fun h => hfs (by rw [HG.out]; exact h.2.2.1)
      clear hfs
      obtain ⟨⟨l0, m0_⟩, ⟨l1, m1_⟩, ⟨l2, m2_⟩, ⟨l3, m3_⟩, ⟨l4, m4_⟩, ⟨l5, m5_⟩, rz, -, hbz⟩ := store6 RZ4.out (.int .i64 0) (.int .i64 0) (.int .i64 0) (.int .i64 0) (.bool false) (.slice none 0 0)
      obtain ⟨n0, n1, n2, n3, n4, n5⟩ := row6 rz
      have HBZ := hide (hbz w.heap.size w (by omega) E4.out)
      clear rz hbz
      go_wp2_with fail
      refine bodyPost_ret (v := .tuple #[.agg #[.int .i64 0, .int .i64 0, .int .i64 0, .int .i64 0, .bool false, .slice none 0 0], .bool false]) ?_ rfl ?_
      · rw [results_cell_tmp rfl]
        go_simp
      · exact ⟨HBZ.out, .inr ⟨fun h => hno.out h.2, rfl⟩⟩
    have dfs : (G.fs != 0) = false := by simpa using hfs
    have Hfs := hide hfs
    clear hfs
    go_wp2_with fail
    refine (rfsame14 T fl st pad G.T G.fl G.st G.pad A2 A4 nd c2 G.N c4 d (fun i => lF X.emL (G.off + i)) A3 A5 ns c3 G.sn c5 s g (sF (lF X.emL)) (sG (lF X.emL)) wt pa pm la co sp G.wt G.pa G.pm G.la G.co G.sp al G.al U5 (HD.out.below E4.out) K4.out HB.out HKb.out (HS2.out.below E4.out) K5.out).mono ?_
    rintro e U6 ⟨rfl, hb5⟩
    have RZ5 := hide (keepRow RZ4.out hb5)
    have RR5 := hide (keepRow RR4.out hb5)
    have E5 := hide (E4.out.of hb5)
    have R5 := hide (R4.out.below hb5)
    obtain ⟨sm, hsm⟩ : ∃ sm, sm = smB T fl st pad G.T G.fl G.st G.pad nd G.N d (fun i => lF X.emL (G.off + i)) ns G.sn s g (sF (lF X.emL)) (sG (lF X.emL)) wt pa pm la co sp G.wt G.pa G.pm G.la G.co G.sp al G.al := ⟨_, rfl⟩
    rw [← hsm]
    have hiff : sm = true ↔ X.Sm := by
      have h1 := Fm5.sm_iff' X
      rw [hsm, ← h1, HG.out, HX.out]
    clear hb5 hsm x0 x1 x2 x3 x4 x5 x6 x7 x8 x9 x10 x11 x12 z0 z1 z2 z3 z4 z5 z6 z7 z8 z9 z10 z11 z12 y0 y1 y2 y3 y4 y5 v0 v1
    cases sm
    · have hno : Hid (¬ X.Ok) := fun h => by have := hiff.2 h.2.2.2; cases this
      clear hiff
      obtain ⟨⟨l0, m0_⟩, ⟨l1, m1_⟩, ⟨l2, m2_⟩, ⟨l3, m3_⟩, ⟨l4, m4_⟩, ⟨l5, m5_⟩, rz, -, hbz⟩ := store6 RZ5.out (.int .i64 0) (.int .i64 0) (.int .i64 0) (.int .i64 0) (.bool false) (.slice none 0 0)
      obtain ⟨n0, n1, n2, n3, n4, n5⟩ := row6 rz
      have HBZ := hide (hbz w.heap.size w (by omega) E5.out)
      clear rz hbz
      go_wp2_with fail
      refine bodyPost_ret (v := .tuple #[.agg #[.int .i64 0, .int .i64 0, .int .i64 0, .int .i64 0, .bool false, .slice none 0 0], .bool false]) ?_ rfl ?_
      · rw [results_cell_tmp rfl]
        go_simp
      · exact ⟨HBZ.out, .inr ⟨fun h => hno.out h.2, rfl⟩⟩
    have hyes : Hid X.Ok := HI.out.2 ⟨HP.out, (by have h1 := HHD.out; rw [HX.out] at h1 ⊢; exact h1), by rw [← HG.out]; exact Hfs.out, hiff.1 rfl⟩
    clear hiff
    obtain ⟨y0, y1, y2, y3, y4, y5⟩ := row6 RR5.out
    obtain ⟨⟨l0, m0_⟩, ⟨l1, m1_⟩, ⟨l2, m2_⟩, ⟨l3, m3_⟩, ⟨l4, m4_⟩, ⟨l5, m5_⟩, rz, -, hbz⟩ := store6 RZ5.out (.int .i64 0) (.int .i64 T) (.int .i64 fl) (.int .i64 st) (.bool false) (.slice A1 X.emL.length c1)
    obtain ⟨n0, n1, n2, n3, n4, n5⟩ := row6 rz
    have HBZ := hide (hbz w.heap.size w (by omega) E5.out)
    clear rz hbz
    go_wp2_with fail
    refine bodyPost_ret (v := .tuple #[.agg #[.int .i64 0, .int .i64 T, .int .i64 fl, .int .i64 st, .bool false, .slice A1 X.emL.length c1], .bool true]) ?_ rfl ?_
    · rw [results_cell_tmp rfl]
      go_simp
    · refine ⟨HBZ.out, .inl ⟨⟨(by first | exact HFR.out | exact .inl rfl), hyes.out⟩, A1, c1, by rw [HX.out], ?_⟩⟩
      exact ((((((rd_set5 R5.out (u8_apart6 R5.out (fun y e => by cases e) RZ5.out) 0 _)).set6 (u8_apart6 R5.out (fun y e => by cases e) RZ5.out) 1 _).set6 (u8_apart6 R5.out (fun y e => by cases e) RZ5.out) 2 _).set6 (u8_apart6 R5.out (fun y e => by cases e) RZ5.out) 3 _).set6 (u8_apart6 R5.out (fun y e => by cases e) RZ5.out) 4 _).set6 (u8_apart6 R5.out (fun y e => by cases e) RZ5.out) 5 _
  · go_wp2_with fail
    refine CP.out.mono ?_
    rintro e U4 ⟨A4, c4, A5, c5, rfl, hr4, hr5, hb3⟩
    have a4 := (Below.refl U4.heap.size U4).alloc (Nat.le_refl _) (.cells #[.int .i64 G.T, .int .i64 G.fl, .int .i64 G.st, .int .i64 G.pad, .slice A4 G.N c4, .slice A5 G.sn c5, .int .i64 G.wt, .int .i64 G.pa, .bool G.al, .int .i64 G.pm, .int .i64 G.la, .int .i64 G.co, .int .i64 G.sp] 25)
    have a5 := a4.alloc (by simp) (.cells #[.int .i64 G.fs, .int .i64 G.fc] 38)
    have hs3 : (U4.alloc (.cells #[.int .i64 G.T, .int .i64 G.fl, .int .i64 G.st, .int .i64 G.pad, .slice A4 G.N c4, .slice A5 G.sn c5, .int .i64 G.wt, .int .i64 G.pa, .bool G.al, .int .i64 G.pm, .int .i64 G.la, .int .i64 G.co, .int .i64 G.sp] 25)).heap.size = U4.heap.size + 1 := by simp
    have RG := hide (keepRow (heap_alloc_new U4 (.cells #[.int .i64 G.T, .int .i64 G.fl, .int .i64 G.st, .int .i64 G.pad, .slice A4 G.N c4, .slice A5 G.sn c5, .int .i64 G.wt, .int .i64 G.pa, .bool G.al, .int .i64 G.pm, .int .i64 G.la, .int .i64 G.co, .int .i64 G.sp] 25)) ((Below.refl (U4.alloc (.cells #[.int .i64 G.T, .int .i64 G.fl, .int .i64 G.st, .int .i64 G.pad, .slice A4 G.N c4, .slice A5 G.sn c5, .int .i64 G.wt, .int .i64 G.pa, .bool G.al, .int .i64 G.pm, .int .i64 G.la, .int .i64 G.co, .int .i64 G.sp] 25)).heap.size _).alloc (Nat.le_refl _) (.cells #[.int .i64 G.fs, .int .i64 G.fc] 38)))
    have rl0 := heap_alloc_new (U4.alloc (.cells #[.int .i64 G.T, .int .i64 G.fl, .int .i64 G.st, .int .i64 G.pad, .slice A4 G.N c4, .slice A5 G.sn c5, .int .i64 G.wt, .int .i64 G.pa, .bool G.al, .int .i64 G.pm, .int .i64 G.la, .int .i64 G.co, .int .i64 G.sp] 25)) (.cells #[.int .i64 G.fs, .int .i64 G.fc] 38)
    rw [hs3] at rl0
    have RL := hide rl0
    have b35 := hb3.of a5
    have RF4 := hide (keepRow RF3.out b35)
    have RZ4 := hide (keepRow RZ3.out b35)
    have RR4 := hide (keepRow RR3.out b35)
    have E4 := hide (E3.out.of b35)
    have R4 := hide (R3.out.below b35)
    have K4 := hide (hr4.below a5)
    have K5 := hide (hr5.below a5)
    have hu3 : Hid (q < U4.heap.size) := Nat.lt_of_lt_of_le (rowLt RR3.out) hb3.size
    clear hb3 a4 a5 hs3 rl0 b35 hr4 hr5 y0 y1 y2 y3 y4 y5
    go_upto_region 6 with (fail)
    generalize hW : (U4.alloc (.cells #[.int .i64 G.T, .int .i64 G.fl, .int .i64 G.st, .int .i64 G.pad, .slice A4 G.N c4, .slice A5 G.sn c5, .int .i64 G.wt, .int .i64 G.pa, .bool G.al, .int .i64 G.pm, .int .i64 G.la, .int .i64 G.co, .int .i64 G.sp] 25)).alloc (.cells #[.int .i64 G.fs, .int .i64 G.fc] 38) = U5 at *
    generalize hQ : U4.heap.size = r at *
    clear hW hQ
    obtain ⟨x0, x1, x2, x3, x4, x5, x6, x7, x8, x9, x10, x11, x12⟩ := row13 RF4.out
    obtain ⟨z0, z1, z2, z3, z4, z5, z6, z7, z8, z9, z10, z11, z12⟩ := row13 RG.out
    obtain ⟨y0, y1, y2, y3, y4, y5⟩ := row6 RR4.out
    obtain ⟨v0, v1⟩ := row2 RL.out
    by_cases hfs : G.fs = 0
    rotate_left
    · have dfs : (G.fs != 0) = true := by simpa using hfs
      have hno : Hid (¬ X.Ok) := fun h => hfs (by rw [HG.out]; exact h.2.2.1)
      clear hfs
      obtain ⟨⟨l0, m0_⟩, ⟨l1, m1_⟩, ⟨l2, m2_⟩, ⟨l3, m3_⟩, ⟨l4, m4_⟩, ⟨l5, m5_⟩, rz, -, hbz⟩ := store6 RZ4.out (.int .i64 0) (.int .i64 0) (.int .i64 0) (.int .i64 0) (.bool false) (.slice none 0 0)
      obtain ⟨n0, n1, n2, n3, n4, n5⟩ := row6 rz
      have HBZ := hide (hbz w.heap.size w (by omega) E4.out)
      clear rz hbz
      go_wp2_with fail
      refine bodyPost_ret (v := .tuple #[.agg #[.int .i64 0, .int .i64 0, .int .i64 0, .int .i64 0, .bool false, .slice none 0 0], .bool false]) ?_ rfl ?_
      · rw [results_cell_tmp rfl]
        go_simp
      · exact ⟨HBZ.out, .inr ⟨fun h => hno.out h.2, rfl⟩⟩
    have dfs : (G.fs != 0) = false := by simpa using hfs
    have Hfs := hide hfs
    clear hfs
    go_wp2_with fail
    refine (rfsame14 T fl st pad G.T G.fl G.st G.pad A2 A4 nd c2 G.N c4 d (fun i => lF X.emL (G.off + i)) A3 A5 ns c3 G.sn c5 s g (sF (lF X.emL)) (sG (lF X.emL)) wt pa pm la co sp G.wt G.pa G.pm G.la G.co G.sp al G.al U5 (HD.out.below E4.out) K4.out HB.out HKb.out (HS2.out.below E4.out) K5.out).mono ?_
    rintro e U6 ⟨rfl, hb5⟩
    have RZ5 := hide (keepRow RZ4.out hb5)
    have RR5 := hide (keepRow RR4.out hb5)
    have E5 := hide (E4.out.of hb5)
    have R5 := hide (R4.out.below hb5)
    obtain ⟨sm, hsm⟩ : ∃ sm, sm = smB T fl st pad G.T G.fl G.st G.pad nd G.N d (fun i => lF X.emL (G.off + i)) ns G.sn s g (sF (lF X.emL)) (sG (lF X.emL)) wt pa pm la co sp G.wt G.pa G.pm G.la G.co G.sp al G.al := ⟨_, rfl⟩
    rw [← hsm]
    have hiff : sm = true ↔ X.Sm := by
      have h1 := Fm5.sm_iff' X
      rw [hsm, ← h1, HG.out, HX.out]
    clear hb5 hsm x0 x1 x2 x3 x4 x5 x6 x7 x8 x9 x10 x11 x12 z0 z1 z2 z3 z4 z5 z6 z7 z8 z9 z10 z11 z12 y0 y1 y2 y3 y4 y5 v0 v1
    cases sm
    · have hno : Hid (¬ X.Ok) := fun h => by have := hiff.2 h.2.2.2; cases this
      clear hiff
      obtain ⟨⟨l0, m0_⟩, ⟨l1, m1_⟩, ⟨l2, m2_⟩, ⟨l3, m3_⟩, ⟨l4, m4_⟩, ⟨l5, m5_⟩, rz, -, hbz⟩ := store6 RZ5.out (.int .i64 0) (.int .i64 0) (.int .i64 0) (.int .i64 0) (.bool false) (.slice none 0 0)
      obtain ⟨n0, n1, n2, n3, n4, n5⟩ := row6 rz
      have HBZ := hide (hbz w.heap.size w (by omega) E5.out)
      clear rz hbz
      go_wp2_with fail
      refine bodyPost_ret (v := .tuple #[.agg #[.int .i64 0, .int .i64 0, .int .i64 0, .int .i64 0, .bool false, .slice none 0 0], .bool false]) ?_ rfl ?_
      · rw [results_cell_tmp rfl]
        go_simp
      · exact ⟨HBZ.out, .inr ⟨fun h => hno.out h.2, rfl⟩⟩
    have hyes : Hid X.Ok := HI.out.2 ⟨HP.out, (by have h1 := HHD.out; rw [HX.out] at h1 ⊢; exact h1), by rw [← HG.out]; exact Hfs.out, hiff.1 rfl⟩
    clear hiff
    obtain ⟨y0, y1, y2, y3, y4, y5⟩ := row6 RR5.out
    obtain ⟨⟨l0, m0_⟩, ⟨l1, m1_⟩, ⟨l2, m2_⟩, ⟨l3, m3_⟩, ⟨l4, m4_⟩, ⟨l5, m5_⟩, rz, -, hbz⟩ := store6 RZ5.out (.int .i64 from_) (.int .i64 T) (.int .i64 fl) (.int .i64 st) (.bool false) (.slice A1 X.emL.length c1)
    obtain ⟨n0, n1, n2, n3, n4, n5⟩ := row6 rz
    have HBZ := hide (hbz w.heap.size w (by omega) E5.out)
    clear rz hbz
    go_wp2_with fail
    refine bodyPost_ret (v := .tuple #[.agg #[.int .i64 from_, .int .i64 T, .int .i64 fl, .int .i64 st, .bool false, .slice A1 X.emL.length c1], .bool true]) ?_ rfl ?_
    · rw [results_cell_tmp rfl]
      go_simp
    · refine ⟨HBZ.out, .inl ⟨⟨(by first | exact HFR.out | exact .inl rfl), hyes.out⟩, A1, c1, by rw [HX.out], ?_⟩⟩
      exact ((((((rd_set5 R5.out (u8_apart6 R5.out (fun y e => by cases e) RZ5.out) 0 _)).set6 (u8_apart6 R5.out (fun y e => by cases e) RZ5.out) 1 _).set6 (u8_apart6 R5.out (fun y e => by cases e) RZ5.out) 2 _).set6 (u8_apart6 R5.out (fun y e => by cases e) RZ5.out) 3 _).set6 (u8_apart6 R5.out (fun y e => by cases e) RZ5.out) 4 _).set6 (u8_apart6 R5.out (fun y e => by cases e) RZ5.out) 5 _
end Go.Proofs.Ytpnjamomkpkkeaa
