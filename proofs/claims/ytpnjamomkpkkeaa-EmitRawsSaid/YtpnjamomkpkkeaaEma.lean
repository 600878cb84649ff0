/- Layer 15: a frame's raw form, whether it is right, its bytes. -/
import Derived.Test.YtpnjamomkpkkeaaEm8
import Derived.Test.YtpnjamomkpkkeaaM3
namespace Go.Proofs.Ytpnjamomkpkkeaa
set_option linter.unusedVariables false
set_option linter.unusedSimpArgs false
open Go.RowKit

/-- What either side's 'Raw' gives. -/
def Rw5 (X : Fm5) (from_ : Int) (yes no : Value) (w : World) (e : Ending) (w' : World) : Prop :=
  Below w.heap.size w w' ∧ ((((from_ = 0 ∨ from_ = 1) ∧ X.Ok) ∧ ∃ A c, e = .returned (.tuple #[.agg #[.int .i64 from_, .int .i64 X.T, .int .i64 X.fl, .int .i64 X.st, .bool false, .slice A X.emL.length c], yes]) ∧ Rd .u8 w' A X.emL.length c (lF X.emL)) ∨
    (¬ ((from_ = 0 ∨ from_ = 1) ∧ X.Ok) ∧ e = .returned (.tuple #[.agg #[.int .i64 0, .int .i64 0, .int .i64 0, .int .i64 0, .bool false, .slice none 0 0], no])))
theorem emL_top {X : Fm5} (h : X.Ok) (hn : X.nd ≤ 2000) (hs : X.ns ≤ 1000) : X.emL.length ≤ 9000 := emL_le h.1 hn hs
set_option maxRecDepth 20000 in
set_option maxHeartbeats 3200000 in
theorem raw15_n (from_ : Int) (hfr : ¬ (from_ = 0 ∨ from_ = 1)) (T fl st pad : Int) (A2 : Option Addr) (nd c2 : Nat) (d : Nat → Int) (A3 : Option Addr) (ns c3 : Nat) (s g : Nat → Int) (wt pa : Int) (al : Bool) (pm la co sp : Int) (hfl : fl ≤ 9223372036854775807) (hnd : nd ≤ 2000) (hns : ns ≤ 1000) (w : World) (hd : Rd .u8 w A2 nd c2 d) (hby : Byt nd d) (hs2 : Rd2 w A3 ns c3 s g) :
    Calls Try.prog 15 #[.agg #[.int .i64 T, .int .i64 fl, .int .i64 st, .int .i64 pad, .slice A2 nd c2, .slice A3 ns c3, .int .i64 wt, .int .i64 pa, .bool al, .int .i64 pm, .int .i64 la, .int .i64 co, .int .i64 sp], .int .i64 from_] w (Rw5 (⟨T, fl, st, pad, nd, d, ns, s, g, wt, pa, al, pm, la, co, sp⟩ : Fm5) from_ (.int .i64 0) (.int .i64 1) w) := by
  have a1 := (Below.refl w.heap.size w).alloc (Nat.le_refl _) (.cells #[.int .i64 T, .int .i64 fl, .int .i64 st, .int .i64 pad, .slice A2 nd c2, .slice A3 ns c3, .int .i64 wt, .int .i64 pa, .bool al, .int .i64 pm, .int .i64 la, .int .i64 co, .int .i64 sp] 25)
  have a2 := a1.alloc (by simp) (.cells #[.int .i64 0, .int .i64 0, .int .i64 0, .int .i64 0, .bool false, .slice none 0 0] 29)
  have hs1 : (w.alloc (.cells #[.int .i64 T, .int .i64 fl, .int .i64 st, .int .i64 pad, .slice A2 nd c2, .slice A3 ns c3, .int .i64 wt, .int .i64 pa, .bool al, .int .i64 pm, .int .i64 la, .int .i64 co, .int .i64 sp] 25)).heap.size = w.heap.size + 1 := by simp
  have RF := hide (keepRow (heap_alloc_new w (.cells #[.int .i64 T, .int .i64 fl, .int .i64 st, .int .i64 pad, .slice A2 nd c2, .slice A3 ns c3, .int .i64 wt, .int .i64 pa, .bool al, .int .i64 pm, .int .i64 la, .int .i64 co, .int .i64 sp] 25)) ((Below.refl (w.alloc (.cells #[.int .i64 T, .int .i64 fl, .int .i64 st, .int .i64 pad, .slice A2 nd c2, .slice A3 ns c3, .int .i64 wt, .int .i64 pa, .bool al, .int .i64 pm, .int .i64 la, .int .i64 co, .int .i64 sp] 25)).heap.size _).alloc (Nat.le_refl _) (.cells #[.int .i64 0, .int .i64 0, .int .i64 0, .int .i64 0, .bool false, .slice none 0 0] 29)))
  have rz0 := heap_alloc_new (w.alloc (.cells #[.int .i64 T, .int .i64 fl, .int .i64 st, .int .i64 pad, .slice A2 nd c2, .slice A3 ns c3, .int .i64 wt, .int .i64 pa, .bool al, .int .i64 pm, .int .i64 la, .int .i64 co, .int .i64 sp] 25)) (.cells #[.int .i64 0, .int .i64 0, .int .i64 0, .int .i64 0, .bool false, .slice none 0 0] 29)
  rw [hs1] at rz0
  have RZ := hide rz0
  have E0 := hide a2
  have HD := hide hd
  have HS2 := hide hs2
  obtain ⟨X, hX⟩ : ∃ X : Fm5, X = (⟨T, fl, st, pad, nd, d, ns, s, g, wt, pa, al, pm, la, co, sp⟩ : Fm5) := ⟨_, rfl⟩
  have HX := hide hX
  have C := hide (fun W (h1 : Rd .u8 W A2 nd c2 d) (h2 : Rd2 W A3 ns c3 s g) => written15 T fl st pad A2 nd c2 d A3 ns c3 s g wt pa al pm la co sp hfl hnd hns W h1 hby h2)
  rw [← hX] at C ⊢
  obtain ⟨x0, x1, x2, x3, x4, x5, x6, x7, x8, x9, x10, x11, x12⟩ := row13 RF.out
  clear a1 a2 hs1 rz0 hd hs2 hby hX
  have f0 : (from_ != 0) = true := by simp; omega
  have f1 : (from_ != 1) = true := by simp; omega
  have hfr' := hide hfr
  clear hfr
  go_enter Try.func15, Try.ntmps15
  go_upto_region 1 with (fail)
  generalize hW : (w.alloc (.cells #[.int .i64 T, .int .i64 fl, .int .i64 st, .int .i64 pad, .slice A2 nd c2, .slice A3 ns c3, .int .i64 wt, .int .i64 pa, .bool al, .int .i64 pm, .int .i64 la, .int .i64 co, .int .i64 sp] 25)).alloc (.cells #[.int .i64 0, .int .i64 0, .int .i64 0, .int .i64 0, .bool false, .slice none 0 0] 29) = U0 at *
  clear hW
  clear C
  obtain ⟨⟨l0, m0_⟩, ⟨l1, m1_⟩, ⟨l2, m2_⟩, ⟨l3, m3_⟩, ⟨l4, m4_⟩, ⟨l5, m5_⟩, rz, -, hbz⟩ := store6 RZ.out (.int .i64 0) (.int .i64 0) (.int .i64 0) (.int .i64 0) (.bool false) (.slice none 0 0)
  obtain ⟨n0, n1, n2, n3, n4, n5⟩ := row6 rz
  have HBZ := hide (hbz w.heap.size w (by omega) E0.out)
  clear rz hbz
  go_wp2_with fail
  refine bodyPost_ret (v := .tuple #[.agg #[.int .i64 0, .int .i64 0, .int .i64 0, .int .i64 0, .bool false, .slice none 0 0], .int .i64 1]) ?_ rfl ?_
  · rw [results_cell_tmp rfl]
    go_simp
  · exact ⟨HBZ.out, .inr ⟨fun h => hfr'.out h.1, rfl⟩⟩
set_option maxRecDepth 20000 in
set_option maxHeartbeats 3200000 in
theorem raw15_0 (from_ : Int) (hfr : from_ = 0) (T fl st pad : Int) (A2 : Option Addr) (nd c2 : Nat) (d : Nat → Int) (A3 : Option Addr) (ns c3 : Nat) (s g : Nat → Int) (wt pa : Int) (al : Bool) (pm la co sp : Int) (hfl : fl ≤ 9223372036854775807) (hnd : nd ≤ 2000) (hns : ns ≤ 1000) (w : World) (hd : Rd .u8 w A2 nd c2 d) (hby : Byt nd d) (hs2 : Rd2 w A3 ns c3 s g) :
    Calls Try.prog 15 #[.agg #[.int .i64 T, .int .i64 fl, .int .i64 st, .int .i64 pad, .slice A2 nd c2, .slice A3 ns c3, .int .i64 wt, .int .i64 pa, .bool al, .int .i64 pm, .int .i64 la, .int .i64 co, .int .i64 sp], .int .i64 from_] w (Rw5 (⟨T, fl, st, pad, nd, d, ns, s, g, wt, pa, al, pm, la, co, sp⟩ : Fm5) from_ (.int .i64 0) (.int .i64 1) w) := by
  have a1 := (Below.refl w.heap.size w).alloc (Nat.le_refl _) (.cells #[.int .i64 T, .int .i64 fl, .int .i64 st, .int .i64 pad, .slice A2 nd c2, .slice A3 ns c3, .int .i64 wt, .int .i64 pa, .bool al, .int .i64 pm, .int .i64 la, .int .i64 co, .int .i64 sp] 25)
  have a2 := a1.alloc (by simp) (.cells #[.int .i64 0, .int .i64 0, .int .i64 0, .int .i64 0, .bool false, .slice none 0 0] 29)
  have hs1 : (w.alloc (.cells #[.int .i64 T, .int .i64 fl, .int .i64 st, .int .i64 pad, .slice A2 nd c2, .slice A3 ns c3, .int .i64 wt, .int .i64 pa, .bool al, .int .i64 pm, .int .i64 la, .int .i64 co, .int .i64 sp] 25)).heap.size = w.heap.size + 1 := by simp
  have RF := hide (keepRow (heap_alloc_new w (.cells #[.int .i64 T, .int .i64 fl, .int .i64 st, .int .i64 pad, .slice A2 nd c2, .slice A3 ns c3, .int .i64 wt, .int .i64 pa, .bool al, .int .i64 pm, .int .i64 la, .int .i64 co, .int .i64 sp] 25)) ((Below.refl (w.alloc (.cells #[.int .i64 T, .int .i64 fl, .int .i64 st, .int .i64 pad, .slice A2 nd c2, .slice A3 ns c3, .int .i64 wt, .int .i64 pa, .bool al, .int .i64 pm, .int .i64 la, .int .i64 co, .int .i64 sp] 25)).heap.size _).alloc (Nat.le_refl _) (.cells #[.int .i64 0, .int .i64 0, .int .i64 0, .int .i64 0, .bool false, .slice none 0 0] 29)))
  have rz0 := heap_alloc_new (w.alloc (.cells #[.int .i64 T, .int .i64 fl, .int .i64 st, .int .i64 pad, .slice A2 nd c2, .slice A3 ns c3, .int .i64 wt, .int .i64 pa, .bool al, .int .i64 pm, .int .i64 la, .int .i64 co, .int .i64 sp] 25)) (.cells #[.int .i64 0, .int .i64 0, .int .i64 0, .int .i64 0, .bool false, .slice none 0 0] 29)
  rw [hs1] at rz0
  have RZ := hide rz0
  have E0 := hide a2
  have HD := hide hd
  have HS2 := hide hs2
  obtain ⟨X, hX⟩ : ∃ X : Fm5, X = (⟨T, fl, st, pad, nd, d, ns, s, g, wt, pa, al, pm, la, co, sp⟩ : Fm5) := ⟨_, rfl⟩
  have HX := hide hX
  have C := hide (fun W (h1 : Rd .u8 W A2 nd c2 d) (h2 : Rd2 W A3 ns c3 s g) => written15 T fl st pad A2 nd c2 d A3 ns c3 s g wt pa al pm la co sp hfl hnd hns W h1 hby h2)
  rw [← hX] at C ⊢
  obtain ⟨x0, x1, x2, x3, x4, x5, x6, x7, x8, x9, x10, x11, x12⟩ := row13 RF.out
  clear a1 a2 hs1 rz0 hd hs2 hby hX
  subst hfr
  go_enter Try.func15, Try.ntmps15
  go_upto_region 1 with (fail)
  generalize hW : (w.alloc (.cells #[.int .i64 T, .int .i64 fl, .int .i64 st, .int .i64 pad, .slice A2 nd c2, .slice A3 ns c3, .int .i64 wt, .int .i64 pa, .bool al, .int .i64 pm, .int .i64 la, .int .i64 co, .int .i64 sp] 25)).alloc (.cells #[.int .i64 0, .int .i64 0, .int .i64 0, .int .i64 0, .bool false, .slice none 0 0] 29) = U0 at *
  clear hW
  go_wp2_with fail
  refine (C.out _ (HD.out.below E0.out) (HS2.out.below E0.out)).mono ?_
  rintro e U1 ⟨hb1, ⟨hp, A1, c1, rfl, hr1⟩ | ⟨hp, rfl⟩⟩
  · have HP := hide hp
    have a3 := (Below.refl U1.heap.size U1).alloc (Nat.le_refl _) (.cells #[.int .i64 0, .int .i64 X.T, .int .i64 X.fl, .int .i64 X.st, .bool false, .slice A1 X.emL.length c1] 29)
    have RR := hide (heap_alloc_new U1 (.cells #[.int .i64 0, .int .i64 X.T, .int .i64 X.fl, .int .i64 X.st, .bool false, .slice A1 X.emL.length c1] 29))
    have RZ2 := hide (keepRow (keepRow RZ.out hb1) a3)
    have E2 := hide ((E0.out.of hb1).of a3)
    have R2 := hide (hr1.below a3)
    clear hb1 hp a3 x0 x1 x2 x3 x4 x5 x6 x7 x8 x9 x10 x11 x12 hr1
    go_upto_region 7 with (fail)
    generalize hW : U1.alloc (.cells #[.int .i64 0, .int .i64 X.T, .int .i64 X.fl, .int .i64 X.st, .bool false, .slice A1 X.emL.length c1] 29) = U2 at *
    generalize hQ : U1.heap.size = q at *
    clear hW hQ
    obtain ⟨y0, y1, y2, y3, y4, y5⟩ := row6 RR.out
    obtain ⟨⟨l0, m0_⟩, ⟨l1, m1_⟩, ⟨l2, m2_⟩, ⟨l3, m3_⟩, ⟨l4, m4_⟩, ⟨l5, m5_⟩, rz, -, hbz⟩ := store6 RZ2.out (.int .i64 0) (.int .i64 X.T) (.int .i64 X.fl) (.int .i64 X.st) (.bool false) (.slice A1 X.emL.length c1)
    obtain ⟨n0, n1, n2, n3, n4, n5⟩ := row6 rz
    have HBZ := hide (hbz w.heap.size w (by omega) E2.out)
    clear rz hbz
    go_wp2_with fail
    refine bodyPost_ret (v := .tuple #[.agg #[.int .i64 0, .int .i64 X.T, .int .i64 X.fl, .int .i64 X.st, .bool false, .slice A1 X.emL.length c1], .int .i64 0]) ?_ rfl ?_
    · rw [results_cell_tmp rfl]
      go_simp
    · refine ⟨HBZ.out, .inl ⟨⟨.inl rfl, HP.out⟩, A1, c1, rfl, ?_⟩⟩
      exact ((((((rd_set5 R2.out (u8_apart6 R2.out (fun y e => by cases e) RZ2.out) 0 _)).set6 (u8_apart6 R2.out (fun y e => by cases e) RZ2.out) 1 _).set6 (u8_apart6 R2.out (fun y e => by cases e) RZ2.out) 2 _).set6 (u8_apart6 R2.out (fun y e => by cases e) RZ2.out) 3 _).set6 (u8_apart6 R2.out (fun y e => by cases e) RZ2.out) 4 _).set6 (u8_apart6 R2.out (fun y e => by cases e) RZ2.out) 5 _
  · have HP := hide hp
    have a3 := (Below.refl U1.heap.size U1).alloc (Nat.le_refl _) (.cells #[.int .i64 0, .int .i64 0, .int .i64 0, .int .i64 0, .bool false, .slice none 0 0] 29)
    have RR := hide (heap_alloc_new U1 (.cells #[.int .i64 0, .int .i64 0, .int .i64 0, .int .i64 0, .bool false, .slice none 0 0] 29))
    have RZ2 := hide (keepRow (keepRow RZ.out hb1) a3)
    have E2 := hide ((E0.out.of hb1).of a3)
    clear hb1 hp a3 x0 x1 x2 x3 x4 x5 x6 x7 x8 x9 x10 x11 x12
    go_upto_region 5 with (fail)
    generalize hW : U1.alloc (.cells #[.int .i64 0, .int .i64 0, .int .i64 0, .int .i64 0, .bool false, .slice none 0 0] 29) = U2 at *
    generalize hQ : U1.heap.size = q at *
    clear hW hQ
    obtain ⟨⟨l0, m0_⟩, ⟨l1, m1_⟩, ⟨l2, m2_⟩, ⟨l3, m3_⟩, ⟨l4, m4_⟩, ⟨l5, m5_⟩, rz, -, hbz⟩ := store6 RZ2.out (.int .i64 0) (.int .i64 0) (.int .i64 0) (.int .i64 0) (.bool false) (.slice none 0 0)
    obtain ⟨n0, n1, n2, n3, n4, n5⟩ := row6 rz
    have HBZ := hide (hbz w.heap.size w (by omega) E2.out)
    clear rz hbz
    go_wp2_with fail
    refine bodyPost_ret (v := .tuple #[.agg #[.int .i64 0, .int .i64 0, .int .i64 0, .int .i64 0, .bool false, .slice none 0 0], .int .i64 1]) ?_ rfl ?_
    · rw [results_cell_tmp rfl]
      go_simp
    · exact ⟨HBZ.out, .inr ⟨fun h => HP.out h.2, rfl⟩⟩
set_option maxRecDepth 20000 in
set_option maxHeartbeats 3200000 in
theorem raw15_1 (from_ : Int) (hfr : from_ = 1) (T fl st pad : Int) (A2 : Option Addr) (nd c2 : Nat) (d : Nat → Int) (A3 : Option Addr) (ns c3 : Nat) (s g : Nat → Int) (wt pa : Int) (al : Bool) (pm la co sp : Int) (hfl : fl ≤ 9223372036854775807) (hnd : nd ≤ 2000) (hns : ns ≤ 1000) (w : World) (hd : Rd .u8 w A2 nd c2 d) (hby : Byt nd d) (hs2 : Rd2 w A3 ns c3 s g) :
    Calls Try.prog 15 #[.agg #[.int .i64 T, .int .i64 fl, .int .i64 st, .int .i64 pad, .slice A2 nd c2, .slice A3 ns c3, .int .i64 wt, .int .i64 pa, .bool al, .int .i64 pm, .int .i64 la, .int .i64 co, .int .i64 sp], .int .i64 from_] w (Rw5 (⟨T, fl, st, pad, nd, d, ns, s, g, wt, pa, al, pm, la, co, sp⟩ : Fm5) from_ (.int .i64 0) (.int .i64 1) w) := by
  have a1 := (Below.refl w.heap.size w).alloc (Nat.le_refl _) (.cells #[.int .i64 T, .int .i64 fl, .int .i64 st, .int .i64 pad, .slice A2 nd c2, .slice A3 ns c3, .int .i64 wt, .int .i64 pa, .bool al, .int .i64 pm, .int .i64 la, .int .i64 co, .int .i64 sp] 25)
  have a2 := a1.alloc (by simp) (.cells #[.int .i64 0, .int .i64 0, .int .i64 0, .int .i64 0, .bool false, .slice none 0 0] 29)
  have hs1 : (w.alloc (.cells #[.int .i64 T, .int .i64 fl, .int .i64 st, .int .i64 pad, .slice A2 nd c2, .slice A3 ns c3, .int .i64 wt, .int .i64 pa, .bool al, .int .i64 pm, .int .i64 la, .int .i64 co, .int .i64 sp] 25)).heap.size = w.heap.size + 1 := by simp
  have RF := hide (keepRow (heap_alloc_new w (.cells #[.int .i64 T, .int .i64 fl, .int .i64 st, .int .i64 pad, .slice A2 nd c2, .slice A3 ns c3, .int .i64 wt, .int .i64 pa, .bool al, .int .i64 pm, .int .i64 la, .int .i64 co, .int .i64 sp] 25)) ((Below.refl (w.alloc (.cells #[.int .i64 T, .int .i64 fl, .int .i64 st, .int .i64 pad, .slice A2 nd c2, .slice A3 ns c3, .int .i64 wt, .int .i64 pa, .bool al, .int .i64 pm, .int .i64 la, .int .i64 co, .int .i64 sp] 25)).heap.size _).alloc (Nat.le_refl _) (.cells #[.int .i64 0, .int .i64 0, .int .i64 0, .int .i64 0, .bool false, .slice none 0 0] 29)))
  have rz0 := heap_alloc_new (w.alloc (.cells #[.int .i64 T, .int .i64 fl, .int .i64 st, .int .i64 pad, .slice A2 nd c2, .slice A3 ns c3, .int .i64 wt, .int .i64 pa, .bool al, .int .i64 pm, .int .i64 la, .int .i64 co, .int .i64 sp] 25)) (.cells #[.int .i64 0, .int .i64 0, .int .i64 0, .int .i64 0, .bool false, .slice none 0 0] 29)
  rw [hs1] at rz0
  have RZ := hide rz0
  have E0 := hide a2
  have HD := hide hd
  have HS2 := hide hs2
  obtain ⟨X, hX⟩ : ∃ X : Fm5, X = (⟨T, fl, st, pad, nd, d, ns, s, g, wt, pa, al, pm, la, co, sp⟩ : Fm5) := ⟨_, rfl⟩
  have HX := hide hX
  have C := hide (fun W (h1 : Rd .u8 W A2 nd c2 d) (h2 : Rd2 W A3 ns c3 s g) => written15 T fl st pad A2 nd c2 d A3 ns c3 s g wt pa al pm la co sp hfl hnd hns W h1 hby h2)
  rw [← hX] at C ⊢
  obtain ⟨x0, x1, x2, x3, x4, x5, x6, x7, x8, x9, x10, x11, x12⟩ := row13 RF.out
  clear a1 a2 hs1 rz0 hd hs2 hby hX
  subst hfr
  go_enter Try.func15, Try.ntmps15
  go_upto_region 1 with (fail)
  generalize hW : (w.alloc (.cells #[.int .i64 T, .int .i64 fl, .int .i64 st, .int .i64 pad, .slice A2 nd c2, .slice A3 ns c3, .int .i64 wt, .int .i64 pa, .bool al, .int .i64 pm, .int .i64 la, .int .i64 co, .int .i64 sp] 25)).alloc (.cells #[.int .i64 0, .int .i64 0, .int .i64 0, .int .i64 0, .bool false, .slice none 0 0] 29) = U0 at *
  clear hW
  go_wp2_with fail
  refine (C.out _ (HD.out.below E0.out) (HS2.out.below E0.out)).mono ?_
  rintro e U1 ⟨hb1, ⟨hp, A1, c1, rfl, hr1⟩ | ⟨hp, rfl⟩⟩
  · have HP := hide hp
    have a3 := (Below.refl U1.heap.size U1).alloc (Nat.le_refl _) (.cells #[.int .i64 1, .int .i64 X.T, .int .i64 X.fl, .int .i64 X.st, .bool false, .slice A1 X.emL.length c1] 29)
    have RR := hide (heap_alloc_new U1 (.cells #[.int .i64 1, .int .i64 X.T, .int .i64 X.fl, .int .i64 X.st, .bool false, .slice A1 X.emL.length c1] 29))
    have RZ2 := hide (keepRow (keepRow RZ.out hb1) a3)
    have E2 := hide ((E0.out.of hb1).of a3)
    have R2 := hide (hr1.below a3)
    clear hb1 hp a3 x0 x1 x2 x3 x4 x5 x6 x7 x8 x9 x10 x11 x12 hr1
    go_upto_region 7 with (fail)
    generalize hW : U1.alloc (.cells #[.int .i64 1, .int .i64 X.T, .int .i64 X.fl, .int .i64 X.st, .bool false, .slice A1 X.emL.length c1] 29) = U2 at *
    generalize hQ : U1.heap.size = q at *
    clear hW hQ
    obtain ⟨y0, y1, y2, y3, y4, y5⟩ := row6 RR.out
    obtain ⟨⟨l0, m0_⟩, ⟨l1, m1_⟩, ⟨l2, m2_⟩, ⟨l3, m3_⟩, ⟨l4, m4_⟩, ⟨l5, m5_⟩, rz, -, hbz⟩ := store6 RZ2.out (.int .i64 1) (.int .i64 X.T) (.int .i64 X.fl) (.int .i64 X.st) (.bool false) (.slice A1 X.emL.length c1)
    obtain ⟨n0, n1, n2, n3, n4, n5⟩ := row6 rz
    have HBZ := hide (hbz w.heap.size w (by omega) E2.out)
    clear rz hbz
    go_wp2_with fail
    refine bodyPost_ret (v := .tuple #[.agg #[.int .i64 1, .int .i64 X.T, .int .i64 X.fl, .int .i64 X.st, .bool false, .slice A1 X.emL.length c1], .int .i64 0]) ?_ rfl ?_
    · rw [results_cell_tmp rfl]
      go_simp
    · refine ⟨HBZ.out, .inl ⟨⟨.inr rfl, HP.out⟩, A1, c1, rfl, ?_⟩⟩
      exact ((((((rd_set5 R2.out (u8_apart6 R2.out (fun y e => by cases e) RZ2.out) 0 _)).set6 (u8_apart6 R2.out (fun y e => by cases e) RZ2.out) 1 _).set6 (u8_apart6 R2.out (fun y e => by cases e) RZ2.out) 2 _).set6 (u8_apart6 R2.out (fun y e => by cases e) RZ2.out) 3 _).set6 (u8_apart6 R2.out (fun y e => by cases e) RZ2.out) 4 _).set6 (u8_apart6 R2.out (fun y e => by cases e) RZ2.out) 5 _
  · have HP := hide hp
    have a3 := (Below.refl U1.heap.size U1).alloc (Nat.le_refl _) (.cells #[.int .i64 0, .int .i64 0, .int .i64 0, .int .i64 0, .bool false, .slice none 0 0] 29)
    have RR := hide (heap_alloc_new U1 (.cells #[.int .i64 0, .int .i64 0, .int .i64 0, .int .i64 0, .bool false, .slice none 0 0] 29))
    have RZ2 := hide (keepRow (keepRow RZ.out hb1) a3)
    have E2 := hide ((E0.out.of hb1).of a3)
    clear hb1 hp a3 x0 x1 x2 x3 x4 x5 x6 x7 x8 x9 x10 x11 x12
    go_upto_region 5 with (fail)
    generalize hW : U1.alloc (.cells #[.int .i64 0, .int .i64 0, .int .i64 0, .int .i64 0, .bool false, .slice none 0 0] 29) = U2 at *
    generalize hQ : U1.heap.size = q at *
    clear hW hQ
    obtain ⟨⟨l0, m0_⟩, ⟨l1, m1_⟩, ⟨l2, m2_⟩, ⟨l3, m3_⟩, ⟨l4, m4_⟩, ⟨l5, m5_⟩, rz, -, hbz⟩ := store6 RZ2.out (.int .i64 0) (.int .i64 0) (.int .i64 0) (.int .i64 0) (.bool false) (.slice none 0 0)
    obtain ⟨n0, n1, n2, n3, n4, n5⟩ := row6 rz
    have HBZ := hide (hbz w.heap.size w (by omega) E2.out)
    clear rz hbz
    go_wp2_with fail
    refine bodyPost_ret (v := .tuple #[.agg #[.int .i64 0, .int .i64 0, .int .i64 0, .int .i64 0, .bool false, .slice none 0 0], .int .i64 1]) ?_ rfl ?_
    · rw [results_cell_tmp rfl]
      go_simp
    · exact ⟨HBZ.out, .inr ⟨fun h => HP.out h.2, rfl⟩⟩
theorem raw15 (from_ : Int) (T fl st pad : Int) (A2 : Option Addr) (nd c2 : Nat) (d : Nat → Int) (A3 : Option Addr) (ns c3 : Nat) (s g : Nat → Int) (wt pa : Int) (al : Bool) (pm la co sp : Int) (hfl : fl ≤ 9223372036854775807) (hnd : nd ≤ 2000) (hns : ns ≤ 1000) (w : World) (hd : Rd .u8 w A2 nd c2 d) (hby : Byt nd d) (hs2 : Rd2 w A3 ns c3 s g) :
    Calls Try.prog 15 #[.agg #[.int .i64 T, .int .i64 fl, .int .i64 st, .int .i64 pad, .slice A2 nd c2, .slice A3 ns c3, .int .i64 wt, .int .i64 pa, .bool al, .int .i64 pm, .int .i64 la, .int .i64 co, .int .i64 sp], .int .i64 from_] w (Rw5 (⟨T, fl, st, pad, nd, d, ns, s, g, wt, pa, al, pm, la, co, sp⟩ : Fm5) from_ (.int .i64 0) (.int .i64 1) w) := by
  by_cases h0 : from_ = 0
  · exact raw15_0 from_ h0 T fl st pad A2 nd c2 d A3 ns c3 s g wt pa al pm la co sp hfl hnd hns w hd hby hs2
  by_cases h1 : from_ = 1
  · exact raw15_1 from_ h1 T fl st pad A2 nd c2 d A3 ns c3 s g wt pa al pm la co sp hfl hnd hns w hd hby hs2
  exact raw15_n from_ (by omega) T fl st pad A2 nd c2 d A3 ns c3 s g wt pa al pm la co sp hfl hnd hns w hd hby hs2
set_option maxRecDepth 20000 in
set_option maxHeartbeats 1600000 in
theorem eright15 (T fl st pad : Int) (A2 : Option Addr) (nd c2 : Nat) (d : Nat → Int) (A3 : Option Addr) (ns c3 : Nat) (s g : Nat → Int) (wt pa : Int) (al : Bool) (pm la co sp : Int) (hfl : fl ≤ 9223372036854775807) (hnd : nd ≤ 2000) (hns : ns ≤ 1000) (w : World) (hd : Rd .u8 w A2 nd c2 d) (hby : Byt nd d) (hs2 : Rd2 w A3 ns c3 s g) :
    Calls Try.prog 17 #[.agg #[.int .i64 T, .int .i64 fl, .int .i64 st, .int .i64 pad, .slice A2 nd c2, .slice A3 ns c3, .int .i64 wt, .int .i64 pa, .bool al, .int .i64 pm, .int .i64 la, .int .i64 co, .int .i64 sp]] w fun e w' => ∃ b, e = .returned (.bool b) ∧ (b = true ↔ Fm5.Ok (⟨T, fl, st, pad, nd, d, ns, s, g, wt, pa, al, pm, la, co, sp⟩ : Fm5)) ∧ Below w.heap.size w w' := by
  have a1 := (Below.refl w.heap.size w).alloc (Nat.le_refl _) (.cells #[.int .i64 T, .int .i64 fl, .int .i64 st, .int .i64 pad, .slice A2 nd c2, .slice A3 ns c3, .int .i64 wt, .int .i64 pa, .bool al, .int .i64 pm, .int .i64 la, .int .i64 co, .int .i64 sp] 25)
  have RF := hide (heap_alloc_new w (.cells #[.int .i64 T, .int .i64 fl, .int .i64 st, .int .i64 pad, .slice A2 nd c2, .slice A3 ns c3, .int .i64 wt, .int .i64 pa, .bool al, .int .i64 pm, .int .i64 la, .int .i64 co, .int .i64 sp] 25))
  have E0 := hide a1
  have C := hide (fun W (h1 : Rd .u8 W A2 nd c2 d) (h2 : Rd2 W A3 ns c3 s g) => written15 T fl st pad A2 nd c2 d A3 ns c3 s g wt pa al pm la co sp hfl hnd hns W h1 hby h2)
  have HD := hide hd
  have HS2 := hide hs2
  obtain ⟨x0, x1, x2, x3, x4, x5, x6, x7, x8, x9, x10, x11, x12⟩ := row13 RF.out
  obtain ⟨X, hX⟩ : ∃ X : Fm5, X = (⟨T, fl, st, pad, nd, d, ns, s, g, wt, pa, al, pm, la, co, sp⟩ : Fm5) := ⟨_, rfl⟩
  rw [← hX] at C ⊢
  clear a1 hd hs2 hby hX
  go_enter Try.func17, Try.ntmps17
  go_upto_region 1 with (fail)
  generalize hW : w.alloc (.cells #[.int .i64 T, .int .i64 fl, .int .i64 st, .int .i64 pad, .slice A2 nd c2, .slice A3 ns c3, .int .i64 wt, .int .i64 pa, .bool al, .int .i64 pm, .int .i64 la, .int .i64 co, .int .i64 sp] 25) = U0 at *
  clear hW
  go_wp2_with fail
  refine (C.out _ (HD.out.below E0.out) (HS2.out.below E0.out)).mono ?_
  rintro e U1 ⟨hb1, ⟨hp, A1, c1, rfl, hr1⟩ | ⟨hp, rfl⟩⟩
  · have HP := hide hp
    have E1 := hide ((E0.out.of hb1).of ((Below.refl U1.heap.size U1).alloc (Nat.le_refl _) (.cells #[.int .i64 0, .int .i64 X.T, .int .i64 X.fl, .int .i64 X.st, .bool false, .slice A1 X.emL.length c1] 29)))
    clear hp hb1 hr1
    go_wp2_with fail
    go_ret
    exact ⟨true, rfl, ⟨fun _ => HP.out, fun _ => rfl⟩, E1.out⟩
  · have HP := hide hp
    have E1 := hide ((E0.out.of hb1).of ((Below.refl U1.heap.size U1).alloc (Nat.le_refl _) (.cells #[.int .i64 0, .int .i64 0, .int .i64 0, .int .i64 0, .bool false, .slice none 0 0] 29)))
    clear hp hb1
    go_wp2_with fail
    go_ret
    exact ⟨false, rfl, ⟨fun h => (by cases h), fun h => absurd h HP.out⟩, E1.out⟩
def Eb5 (X : Fm5) (no : Value) (yes : Value) (w : World) (e : Ending) (w' : World) : Prop :=
  Below w.heap.size w w' ∧ ((X.Ok ∧ ∃ A c, e = .returned (.tuple #[.slice A (9 + X.emL.length) c, yes]) ∧ Rd .u8 w' A (9 + X.emL.length) c (catF 9 (hdF X.emL.length X.T X.fl (hdX X.st false)) (lF X.emL))) ∨ (¬ X.Ok ∧ e = .returned (.tuple #[.slice none 0 0, no])))
set_option maxRecDepth 20000 in
set_option maxHeartbeats 1600000 in
theorem ebytes15 (T fl st pad : Int) (A2 : Option Addr) (nd c2 : Nat) (d : Nat → Int) (A3 : Option Addr) (ns c3 : Nat) (s g : Nat → Int) (wt pa : Int) (al : Bool) (pm la co sp : Int) (hfl : fl ≤ 9223372036854775807) (hnd : nd ≤ 2000) (hns : ns ≤ 1000) (w : World) (hd : Rd .u8 w A2 nd c2 d) (hby : Byt nd d) (hs2 : Rd2 w A3 ns c3 s g) :
    Calls Try.prog 24 #[.agg #[.int .i64 T, .int .i64 fl, .int .i64 st, .int .i64 pad, .slice A2 nd c2, .slice A3 ns c3, .int .i64 wt, .int .i64 pa, .bool al, .int .i64 pm, .int .i64 la, .int .i64 co, .int .i64 sp]] w (Eb5 (⟨T, fl, st, pad, nd, d, ns, s, g, wt, pa, al, pm, la, co, sp⟩ : Fm5) (.int .i64 1) (.int .i64 0) w) := by
  have a1 := (Below.refl w.heap.size w).alloc (Nat.le_refl _) (.cells #[.int .i64 T, .int .i64 fl, .int .i64 st, .int .i64 pad, .slice A2 nd c2, .slice A3 ns c3, .int .i64 wt, .int .i64 pa, .bool al, .int .i64 pm, .int .i64 la, .int .i64 co, .int .i64 sp] 25)
  have RF := hide (heap_alloc_new w (.cells #[.int .i64 T, .int .i64 fl, .int .i64 st, .int .i64 pad, .slice A2 nd c2, .slice A3 ns c3, .int .i64 wt, .int .i64 pa, .bool al, .int .i64 pm, .int .i64 la, .int .i64 co, .int .i64 sp] 25))
  have E0 := hide a1
  have C := hide (fun W (h1 : Rd .u8 W A2 nd c2 d) (h2 : Rd2 W A3 ns c3 s g) => written15 T fl st pad A2 nd c2 d A3 ns c3 s g wt pa al pm la co sp hfl hnd hns W h1 hby h2)
  have HD := hide hd
  have HS2 := hide hs2
  obtain ⟨x0, x1, x2, x3, x4, x5, x6, x7, x8, x9, x10, x11, x12⟩ := row13 RF.out
  obtain ⟨X, hX⟩ : ∃ X : Fm5, X = (⟨T, fl, st, pad, nd, d, ns, s, g, wt, pa, al, pm, la, co, sp⟩ : Fm5) := ⟨_, rfl⟩
  rw [← hX] at C ⊢
  have hlen : X.Ok → X.emL.length ≤ 9000 := fun h => emL_top h (by rw [hX]; exact hnd) (by rw [hX]; exact hns)
  clear a1 hd hs2 hby hX
  go_enter Try.func24, Try.ntmps24
  go_upto_region 1 with (fail)
  generalize hW : w.alloc (.cells #[.int .i64 T, .int .i64 fl, .int .i64 st, .int .i64 pad, .slice A2 nd c2, .slice A3 ns c3, .int .i64 wt, .int .i64 pa, .bool al, .int .i64 pm, .int .i64 la, .int .i64 co, .int .i64 sp] 25) = U0 at *
  clear hW
  go_wp2_with fail
  refine (C.out _ (HD.out.below E0.out) (HS2.out.below E0.out)).mono ?_
  rintro e U1 ⟨hb1, ⟨hp, A1, c1, rfl, hr1⟩ | ⟨hp, rfl⟩⟩
  · have HP := hide hp
    have hl := hlen hp
    have a3 := (Below.refl U1.heap.size U1).alloc (Nat.le_refl _) (.cells #[.int .i64 0, .int .i64 X.T, .int .i64 X.fl, .int .i64 X.st, .bool false, .slice A1 X.emL.length c1] 29)
    have RR := hide (heap_alloc_new U1 (.cells #[.int .i64 0, .int .i64 X.T, .int .i64 X.fl, .int .i64 X.st, .bool false, .slice A1 X.emL.length c1] 29))
    have E1 := hide ((E0.out.of hb1).of a3)
    have R1 := hide (hr1.below a3)
    have hhd : Hid (HdR X.emL.length X.T X.fl X.st) := (frR_good (T := X.T) (fl := X.fl) (st := X.st) hp.2.2.1 hp.2.1).2
    clear hp hb1 hr1 a3 x0 x1 x2 x3 x4 x5 x6 x7 x8 x9 x10 x11 x12 hlen
    go_upto_region 4 with (fail)
    generalize hW : U1.alloc (.cells #[.int .i64 0, .int .i64 X.T, .int .i64 X.fl, .int .i64 X.st, .bool false, .slice A1 X.emL.length c1] 29) = U2 at *
    generalize hQ : U1.heap.size = q at *
    clear hW hQ
    obtain ⟨y0, y1, y2, y3, y4, y5⟩ := row6 RR.out
    go_wp2_with fail
    refine (hbytes_ok 0 X.T X.fl X.st false A1 X.emL.length c1 (lF X.emL) U2 R1.out (by omega) hhd.out).mono ?_
    rintro e U3 ⟨A4, c4, rfl, hr4, hb4⟩
    have E3 := hide (E1.out.of hb4)
    have R3 := hide hr4
    clear hr4 hb4 y0 y1 y2 y3 y4 y5
    go_wp2_with fail
    go_ret2
    exact ⟨E3.out, .inl ⟨HP.out, A4, c4, rfl, R3.out⟩⟩
  · have HP := hide hp
    have E1 := hide ((E0.out.of hb1).of ((Below.refl U1.heap.size U1).alloc (Nat.le_refl _) (.cells #[.int .i64 0, .int .i64 0, .int .i64 0, .int .i64 0, .bool false, .slice none 0 0] 29)))
    clear hp hb1 hlen
    go_wp2_with fail
    go_ret2
    exact ⟨E1.out, .inr ⟨HP.out, rfl⟩⟩
end Go.Proofs.Ytpnjamomkpkkeaa
