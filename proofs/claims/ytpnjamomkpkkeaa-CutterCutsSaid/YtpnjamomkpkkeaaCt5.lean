/- Layer 12: a part is fed: the whole walk of 'feed'. -/
import Derived.Test.YtpnjamomkpkkeaaCt4
namespace Go.Proofs.Ytpnjamomkpkkeaa
set_option linter.unusedVariables false
set_option linter.unusedSimpArgs false
open Go.RowKit

def FdP (R : Pt → Value → Obj) (sd : Int) (p B : Nat) (L M : List Int) (fs : List Rl) (w : World) (v0 : Value) (e : Ending) (w' : World) : Prop :=
  ∃ (gs : List Rl) (s : Pt) (v ve : Value) (F : Nat → Rw) (A : Option Addr) (c : Nat), e = .returned ve ∧ FdJ R p B w v0 [] gs s v ve A c F w' ∧ Hw sd (L ++ M) (fs ++ gs) s ∧ (s.g.length : Int) < s.want sd
theorem jump_monoC {l : Nat} {J J' : Act → World → Prop} {Q : Exit → Act → World → Prop} (h : ∀ a w, J a w → J' a w) : ∀ (e : Exit) (a : Act) (w : World), Exit.jump l J Q e a w → Exit.jump l J' Q e a w := by
  intro e a w he
  cases e with
  | goto l' => exact ⟨he.1, h a w he.2⟩
  | _ => exact he
theorem raw_info12 : (Try.prog.info? 29).map (fun i => (i.zero, i.size, i.bytes)) = some (some (.agg #[.int .i64 0, .int .i64 0, .int .i64 0, .int .i64 0, .bool false, .slice none 0 0]), 6, 64) := by kernel_rfl
theorem rdV_raw {W : World} {q : Nat} {T : TypeId} {X : Rw} (h : W.heap[q]? = some (.cells #[.int .i64 X.fm, .int .i64 X.T, .int .i64 X.fl, .int .i64 X.st, .bool X.rs, .slice X.A X.n X.c] T (0, 0))) : RdV 6 W (some ⟨q, 0, none⟩) 1 1 (rwV fun _ => X) := by
  obtain ⟨c0, c1, c2, c3, c4, c5⟩ := row6c h
  refine ⟨Nat.le_refl _, by simp [maxLen], fun e => (by cases e), fun _ => ⟨q, 0, rfl, fun i hi => ?_⟩⟩
  match i, hi with
  | 0, _ => exact c0
  | 1, _ => exact c1
  | 2, _ => exact c2
  | 3, _ => exact c3
  | 4, _ => exact c4
  | 5, _ => exact c5
  | i + 6, hi => omega
def muC (off p : Nat) (a : Act) (w : World) : Nat := 2 * lenV (a.tmps.getD 2 undef) + twoV (w.cell? ⟨p, off, none⟩)
theorem mucOf {off p : Nat} {a : Act} {w : World} {A : Option Addr} {n c k : Nat} (h : a.tmps.getD 2 undef = .slice A n c) (hc : w.cell? ⟨p, off, none⟩ = some (.int .i64 (k : Int))) : muC off p a w = 2 * n + (if k = 2 then 1 else 0) := by
  unfold muC
  rw [h, hc]
  show 2 * n + (if (k : Int) = 2 then 1 else 0) = _
  by_cases hk : k = 2
  · subst hk; rfl
  · rw [if_neg hk, if_neg (by omega)]
def ctR0 (u0 u1 u2 u3 u4 u5 u6 : Value) (s : Pt) (v : Value) : Obj := (.cells #[.int .i64 s.k, .int .i64 (gL (lyF s.h)), .int .i64 (lyF s.h 3), .int .i64 (lyF s.h 4), .int .i64 (lowN (gX (lyF s.h))), .bool (lowB (gX (lyF s.h))), v, u0, u1, u2, u3, u4, u5, u6] 60 (0, 0))
def JFd0 (L M : List Int) (fs : List Rl) (p B : Nat) (w : World) (v0 u0 u1 u2 u3 u4 u5 u6 : Value) (a' : Act) (w' : World) : Prop :=
  ∃ (C D : List Int) (gs : List Rl) (s : Pt) (v ve : Value) (A : Option Addr) (c : Nat) (F : Nat → Rw) (t3 t4 t5 t6 t8 t9 t10 t11 t12 t13 t14 t15 t16 t17 t18 t19 t20 t21 t22 t23 t24 t25 t26 t27 t28 t29 t30 t31 t32 t33 t34 t35 t36 t37 t38 t39 t40 t41 t42 t43 t44 t45 t46 t47 t48 t49 t50 t51 t52 t53 t54 t55 t56 t57 : Value), a' = { tmps := #[.pointer (some ⟨p, 0, none⟩), .int .i64 0, .slice A D.length c, t3, t4, t5, t6, ve, t8, t9, t10, t11, t12, t13, t14, t15, t16, t17, t18, t19, t20, t21, t22, t23, t24, t25, t26, t27, t28, t29, t30, t31, t32, t33, t34, t35, t36, t37, t38, t39, t40, t41, t42, t43, t44, t45, t46, t47, t48, t49, t50, t51, t52, t53, t54, t55, t56, t57], defers := [] } ∧ M = C ++ D ∧ Hw 0 (L ++ C) (fs ++ gs) s ∧ FdJ (ctR0 u0 u1 u2 u3 u4 u5 u6) p B w v0 D gs s v ve A c F w'
set_option maxRecDepth 100000 in
set_option maxHeartbeats 12800000 in
theorem feed0 (p B : Nat) (L M : List Int) (fs : List Rl) (s : Pt) (v : Value) (A : Option Addr) (c : Nat) (u0 u1 u2 u3 u4 u5 u6 : Value) (w : World) (hrow : w.heap[p]? = some (ctR0 u0 u1 u2 u3 u4 u5 u6 s v)) (hown : Own .u8 5 B w v s.g.length (lyF s.g)) (hw : Hw 0 L fs s) (hB : B ≤ w.heap.size) (hM : ByL M) (hr : Rd .u8 w A M.length c (lyF M)) (hap : 0 < M.length → ∀ a, A = some a → v.ownBlock ≠ some a.block ∧ a.block ≠ p) (hsz : L.length + M.length ≤ 10000000) :
    Calls Try.prog 74 #[.pointer (some ⟨p, 0, none⟩), .int .i64 0, .slice A M.length c] w (FdP (ctR0 u0 u1 u2 u3 u4 u5 u6) 0 p B L M fs w v) := by
  obtain ⟨i0, hi, hz0, hz1, hz2⟩ := info_parts c8_info
  obtain ⟨iR, hiR, zR0, zR1, zR2⟩ := info_parts raw_info12
  have J0 : FdJ (ctR0 u0 u1 u2 u3 u4 u5 u6) p B w v M [] s v (.slice none 0 0) A c default w := ⟨hrow, hown, fun i e => .inl e, own_ne_row12 hown hrow (by decide), rowLt hrow, FrQ.refl _ _, hr, hM, fun hn a ha => ⟨by
      obtain ⟨b, off, hA, hlt, _⟩ := hr.block hn
      obtain rfl := Option.some.inj (ha.symm.trans hA)
      exact hlt, (hap hn a ha).1, (hap hn a ha).2⟩, OwnV.nil _ _ _ _ _, fun i x hx => (by simp at hx)⟩
  have HJ0 := hide J0
  have HW0 : Hid (Hw 0 (L ++ []) (fs ++ []) s) := by rw [List.append_nil, List.append_nil]; exact hw
  have HSZ := hide hsz
  have HBB := hide hB
  clear J0 hrow hown hw hM hr hap hsz hB
  go_enter Try.func74, Try.ntmps74
  go_wp2
  refine (fun (key : ∀ a w', JFd0 L M fs p B w v u0 u1 u2 u3 u4 u5 u6 a w' → Code.wp Try.prog _ (Exit.jump 0 (fun a2 w2 => JFd0 L M fs p B w v u0 u1 u2 u3 u4 u5 u6 a2 w2 ∧ muC 0 p a2 w2 < muC 0 p a w') _) a w') => wp_scope_jumps 0 (JFd0 L M fs p B w v u0 u1 u2 u3 u4 u5 u6) (fun a' w' => muC 0 p a' w') rfl ?_ (fun a w' h => wp_seq (wp_skip (key a w' h)))) ?_
  · go_wp2_with fail
    go_step3
    rename_i K hK
    refine hK _ _ ?_
    exact Code.wp_mono (jump_monoC fun _ _ h => h.1) (key _ _ ⟨[], M, [], s, v, _, A, c, _, _, _, _, _, _, _, _, _, _, _, _, _, _, _, _, _, _, _, _, _, _, _, _, _, _, _, _, _, _, _, _, _, _, _, _, _, _, _, _, _, _, _, _, _, _, _, _, _, _, _, _, _, _, _, rfl, rfl, HW0.out, HJ0.out⟩)
  · clear HJ0 HW0
    rintro a' w1 ⟨C, D, gs, ⟨k, h, g⟩, v1, ve, A, c, F, t3, t4, t5, t6, t8, t9, t10, t11, t12, t13, t14, t15, t16, t17, t18, t19, t20, t21, t22, t23, t24, t25, t26, t27, t28, t29, t30, t31, t32, t33, t34, t35, t36, t37, t38, t39, t40, t41, t42, t43, t44, t45, t46, t47, t48, t49, t50, t51, t52, t53, t54, t55, t56, t57, rfl, hMC, hHw, hJ⟩
    obtain ⟨Av, cv, rfl, _, _⟩ := hJ.own.rd
    obtain ⟨Ae, ce, rfl, _, _⟩ := hJ.ov.rd
    obtain ⟨wz, hwz⟩ : ∃ z, (⟨k, h, g⟩ : Pt).want 0 = z := ⟨_, rfl⟩
    obtain ⟨hw0, hw1⟩ := Pt.want_le hHw
    have hgle := hHw.le
    have hlt2 := hHw.lt
    rw [hwz] at hw0 hw1 hgle
    have hk2 : k ≤ 2 := by
      rcases hHw.st with ⟨h1, _⟩ | ⟨h1, _⟩ | ⟨h1, _⟩ <;> (have h1' : k = _ := h1; omega)
    have hwe : (if k = 2 then gL (lyF h) else (if k = 0 then 24 else 9)) = wz := by
      rw [← hwz]
      unfold Pt.want
      simp
    have hgn : gs.length ≤ 10000000 := by
      have h1 := hHw.ok.many
      have h2 := congrArg List.length hHw.eq
      rw [List.length_append, List.length_append] at h2
      rw [List.length_append] at h1
      have h3 := congrArg List.length hMC
      rw [List.length_append] at h3
      have := HSZ.out
      omega
    have hgl : g.length ≤ 16777215 := by
      have : ((⟨k, h, g⟩ : Pt).g.length : Int) = (g.length : Int) := rfl
      omega
    have hgI : (g.length : Int) ≤ wz := hgle
    have hDc : D.length ≤ c := hJ.rd.1
    have hDM : D.length ≤ 10000000 := by
      have h3 := congrArg List.length hMC
      rw [List.length_append] at h3
      have := HSZ.out
      omega
    have hbase : B ≤ w1.heap.size := Nat.le_trans HBB.out hJ.fr.size
    have HJ := hide hJ
    have HHW := hide hHw
    have HWZ := hide hwz
    have HMC := hide hMC
    have HLT := hide hlt2
    have P1 : Hid (w1.heap[p]? = some (.cells #[.int .i64 k, .int .i64 (gL (lyF h)), .int .i64 (lyF h 3), .int .i64 (lyF h 4), .int .i64 (lowN (gX (lyF h))), .bool (lowB (gX (lyF h))), (.slice Av g.length cv), u0, u1, u2, u3, u4, u5, u6] 60 (0, 0))) := hJ.row
    have hrdF : ∀ nn, nn ≤ D.length → Rd .u8 w1 (cutA A c 0) nn c (lyF (D.take nn)) := fun nn hnn => (hJ.rd.front hnn).congr fun i hi => (lyF_take D hi).symm
    have HRF := hide hrdF
    have HBD := hide hJ.byt
    have HC0 : Hid (w1.cell? ⟨p, 0, none⟩ = some (.int .i64 (k : Int))) := (row14 P1.out).1
    clear hJ hHw hwz hMC hgle hlt2 hrdF
    obtain ⟨c0, c1, c2, c3, c4, c5, c6, c7, c8, c9, c10, c11, c12, c13⟩ := row14 P1.out
    go_wp2_with fail
    refine (wanted0 p k _ _ _ _ _ (.slice Av g.length cv) u0 u1 u2 u3 u4 u5 u6 w1 hk2 P1.out).mono ?_
    rintro e w2 ⟨rfl, rfl⟩
    rw [hwe]
    have HK2 := hide hk2
    clear hwe hk2
    by_cases hfull : wz ≤ (g.length : Int) + (D.length : Int)
    rotate_left
    · have hmin : min (wz - (g.length : Int)) (D.length : Int) = (D.length : Int) := by omega
      have hcut : ∀ W, (Instr.slice 22 (.slice A D.length c) none (some (.int .i64 (D.length : Int))) none).run Try.prog W = .ok (.slice (cutA A c 0) D.length c) W := fun W => bytes_cut_h A D.length c D.length (by omega) W
      have hcut2 : ∀ W, (Instr.slice 22 (.slice A D.length c) (some (.int .i64 (D.length : Int))) none none).run Try.prog W = .ok (.slice (cutA A c D.length) (D.length - D.length) (c - D.length)) W := fun W => bytes_cut A D.length c D.length (by omega) W
      have HX := hide (HRF.out D.length (by omega))
      go_upto_region 4 with (fail)
      go_region_law (refine step_appQ rfl (.tmp 29) (.tmp 32) _ rfl i0 _ 1 Try.underlying22 hi hz0 hz1 hz2 B (.slice Av g.length cv) g.length (lyF g) rfl HJ.out.own _ D.length c (lyF (D.take D.length)) rfl HX.out (by simp only [maxLen]; omega) (by omega) hbase ?_; intro v5 w5 hown5 hg5 hb5; obtain ⟨Aq, cq, rfl, _, _⟩ := hown5.rd; have HO5 := hide hown5; have hg6 : w1.grownBy w5 (Value.slice Av g.length cv).ownBlock := ⟨hg5.os, hg5.tape, hg5.output, hg5.size, hg5.block⟩; have HG5 := hide hg6; have HB5 := hide hb5; have P5 : Hid (w5.heap[p]? = some (.cells #[.int .i64 k, .int .i64 (gL (lyF h)), .int .i64 (lyF h 3), .int .i64 (lyF h 4), .int .i64 (lowN (gX (lyF h))), .bool (lowB (gX (lyF h))), (.slice Av g.length cv), u0, u1, u2, u3, u4, u5, u6] 60 (0, 0))) := (hg5.block p (rowLt P1.out) (fun e => HJ.out.nep e.symm)).trans P1.out; have zz := frozenRow P5.out 6; clear hown5 hg5 hg6 hb5 c0 c1 c2 c3 c4 c5 c6 c7 c8 c9 c10 c11 c12 c13; obtain ⟨c0, c1, c2, c3, c4, c5, c6, c7, c8, c9, c10, c11, c12, c13⟩ := row14 P5.out)
      all_goals
        have s5 := setRow w5 p 6 (.slice Aq (g.length + D.length) cq) P5.out
        simp only [List.setIfInBounds_toArray, List.set_cons_zero, List.set_cons_succ] at s5
        have J5 := hide (HJ.out.fed (nn := D.length) (by omega) HO5.out HG5.out HB5.out s5 P5.out)
        clear zz c0 c1 c2 c3 c4 c5 c6 c7 c8 c9 c10 c11 c12 c13 s5 HO5 HG5 HB5 P5 HJ P1 hcut HX
        generalize hW : w5.setCell ⟨p, 6, none⟩ (.slice Aq (g.length + D.length) cq) = W5 at *
        clear hW
        have P6 : Hid (W5.heap[p]? = some (.cells #[.int .i64 k, .int .i64 (gL (lyF h)), .int .i64 (lyF h 3), .int .i64 (lyF h 4), .int .i64 (lowN (gX (lyF h))), .bool (lowB (gX (lyF h))), (.slice Aq (g.length + D.length) cq), u0, u1, u2, u3, u4, u5, u6] 60 (0, 0))) := J5.out.row
        obtain ⟨c0, c1, c2, c3, c4, c5, c6, c7, c8, c9, c10, c11, c12, c13⟩ := row14 P6.out
        have dlt : decide (((g.length + D.length : Nat) : Int) < wz) = true := decide_eq_true (by omega)
        go_wp2_with fail
        simp only [Exit.jump]
        go_ret
        have hlt3 : (((⟨k, h, g⟩ : Pt).g ++ D).length : Int) < (⟨k, h, g⟩ : Pt).want 0 := by
          rw [HWZ.out]
          show ((g ++ D).length : Int) < wz
          rw [List.length_append]
          omega
        have hst := HHW.out.stay (M := D) HBD.out hlt3
        refine ⟨gs, ⟨k, h, g ++ D⟩, .slice Aq (g.length + D.length) cq, .slice Ae gs.length ce, F, cutA A c D.length, c - D.length, rfl, ?_, ?_, hlt3⟩
        · have h1 := J5.out
          rw [List.drop_length, List.take_length] at h1
          exact h1
        · rw [HMC.out, ← List.append_assoc]
          exact hst
    · obtain ⟨nn, hnn⟩ : ∃ nn : Nat, wz = (g.length : Int) + (nn : Int) := ⟨(wz - (g.length : Int)).toNat, by omega⟩
      have hnD : nn ≤ D.length := by omega
      have hmin : min (wz - (g.length : Int)) (D.length : Int) = (nn : Int) := by omega
      have hge : wz ≤ (g.length : Int) + (nn : Int) := by omega
      have hnW : nn ≤ 16777215 := by omega
      have HNN := hide hnn
      clear hnn
      have hk3 : k = 0 ∨ k = 1 ∨ k = 2 := by have := HK2.out; omega
      rcases hk3 with rfl | rfl | rfl
      · have hcut : ∀ W, (Instr.slice 22 (.slice A D.length c) none (some (.int .i64 (nn : Int))) none).run Try.prog W = .ok (.slice (cutA A c 0) nn c) W := fun W => bytes_cut_h A D.length c nn (by omega) W
        have hcut2 : ∀ W, (Instr.slice 22 (.slice A D.length c) (some (.int .i64 (nn : Int))) none none).run Try.prog W = .ok (.slice (cutA A c nn) (D.length - nn) (c - nn)) W := fun W => bytes_cut A D.length c nn (by omega) W
        have HX := hide (HRF.out nn (by omega))
        go_upto_region 4 with (fail)
        go_region_law (refine step_appQ rfl (.tmp 29) (.tmp 32) _ rfl i0 _ 1 Try.underlying22 hi hz0 hz1 hz2 B (.slice Av g.length cv) g.length (lyF g) rfl HJ.out.own _ nn c (lyF (D.take nn)) rfl HX.out (by simp only [maxLen]; omega) (by omega) hbase ?_; intro v5 w5 hown5 hg5 hb5; obtain ⟨Aq, cq, rfl, _, _⟩ := hown5.rd; have HO5 := hide hown5; have hg6 : w1.grownBy w5 (Value.slice Av g.length cv).ownBlock := ⟨hg5.os, hg5.tape, hg5.output, hg5.size, hg5.block⟩; have HG5 := hide hg6; have HB5 := hide hb5; have P5 : Hid (w5.heap[p]? = some (.cells #[.int .i64 ((0 : Nat) : Int), .int .i64 (gL (lyF h)), .int .i64 (lyF h 3), .int .i64 (lyF h 4), .int .i64 (lowN (gX (lyF h))), .bool (lowB (gX (lyF h))), (.slice Av g.length cv), u0, u1, u2, u3, u4, u5, u6] 60 (0, 0))) := (hg5.block p (rowLt P1.out) (fun e => HJ.out.nep e.symm)).trans P1.out; have zz := frozenRow P5.out 6; clear hown5 hg5 hg6 hb5 c0 c1 c2 c3 c4 c5 c6 c7 c8 c9 c10 c11 c12 c13; obtain ⟨c0, c1, c2, c3, c4, c5, c6, c7, c8, c9, c10, c11, c12, c13⟩ := row14 P5.out)
        all_goals
          have s5 := setRow w5 p 6 (.slice Aq (g.length + nn) cq) P5.out
          simp only [List.setIfInBounds_toArray, List.set_cons_zero, List.set_cons_succ] at s5
          have J5 := hide (HJ.out.fed (nn := nn) hnD HO5.out HG5.out HB5.out s5 P5.out)
          clear zz c0 c1 c2 c3 c4 c5 c6 c7 c8 c9 c10 c11 c12 c13 s5 HO5 HG5 HB5 P5 HJ P1 hcut HX
          generalize hW : w5.setCell ⟨p, 6, none⟩ (.slice Aq (g.length + nn) cq) = W5 at *
          clear hW
          have P6 : Hid (W5.heap[p]? = some (.cells #[.int .i64 ((0 : Nat) : Int), .int .i64 (gL (lyF h)), .int .i64 (lyF h 3), .int .i64 (lyF h 4), .int .i64 (lowN (gX (lyF h))), .bool (lowB (gX (lyF h))), (.slice Aq (g.length + nn) cq), u0, u1, u2, u3, u4, u5, u6] 60 (0, 0))) := J5.out.row
          obtain ⟨c0, c1, c2, c3, c4, c5, c6, c7, c8, c9, c10, c11, c12, c13⟩ := row14 P6.out
        have dge : decide (((g.length + nn : Nat) : Int) < wz) = false := decide_eq_false (by omega)
        go_wp2_with fail
        have hlen : (g ++ D.take nn).length = g.length + nn := by rw [List.length_append, List.length_take]; omega
        have hM2 : M = (C ++ D.take nn) ++ D.drop nn := by rw [HMC.out, List.append_assoc, List.take_append_drop]
        have hMt : ByL (D.take nn) := HBD.out.take nn
        have hee : ((({ k := 0, h := h, g := g } : Pt).g ++ D.take nn).length : Int) = ({ k := 0, h := h, g := g } : Pt).want 0 := by
          rw [HWZ.out]
          show ((g ++ D.take nn).length : Int) = wz
          rw [hlen]
          have := HNN.out
          omega
        refine (whole_pre0 p _ _ _ _ _ Aq (g.length + nn) cq u0 u1 u2 u3 u4 u5 u6 W5 P6.out).mono ?_
        rintro e V ⟨rfl, hrow, hq⟩
        obtain ⟨J6, hold⟩ := J5.out.gone (s' := ⟨1, h, []⟩) rfl hq hrow
        obtain ⟨hrdX, hnX, hX⟩ := hold Aq (g.length + nn) cq rfl
        have HW6 := hide (HHW.out.pre (M := D.take nn) hMt rfl hee)
        have HRW : Hid (RwIs V ⟨0, -1, 0, 0, false, Aq, g.length + nn, cq, lyF (g ++ D.take nn)⟩ (preOf (g ++ D.take nn))) := hide ⟨rfl, rfl, rfl, rfl, rfl, hlen.symm, hrdX⟩
        have HJ6 := hide J6
        have HXX := hide hX
        have HM2 := hide hM2
        clear J6 hold hrdX hnX hX hrow hq hee hMt hM2 J5 P6 c0 c1 c2 c3 c4 c5 c6 c7 c8 c9 c10 c11 c12 c13 hcut2 hmin dge
        have a2 : Below V.heap.size V ((V.alloc (.cells #[.int .i64 0, .int .i64 (-1), .int .i64 0, .int .i64 0, .bool false, .slice Aq (g.length + nn) cq] 29)).alloc (.cells #[.int .i64 0, .int .i64 (-1), .int .i64 0, .int .i64 0, .bool false, .slice Aq (g.length + nn) cq] 29)) := ((Below.refl _ _).alloc (Nat.le_refl _) _).alloc (by simp) _
        have HJ7 := hide (HJ6.out.below a2)
        have HRW7 := hide (HRW.out.below a2)
        have HRX : Hid (RdV 6 ((V.alloc (.cells #[.int .i64 0, .int .i64 (-1), .int .i64 0, .int .i64 0, .bool false, .slice Aq (g.length + nn) cq] 29)).alloc (.cells #[.int .i64 0, .int .i64 (-1), .int .i64 0, .int .i64 0, .bool false, .slice Aq (g.length + nn) cq] 29)) (some ⟨V.heap.size + 1, 0, none⟩) 1 1 (rwV fun _ => ⟨0, -1, 0, 0, false, Aq, g.length + nn, cq, lyF (g ++ D.take nn)⟩)) := hide (rdV_raw (X := ⟨0, -1, 0, 0, false, Aq, g.length + nn, cq, lyF (g ++ D.take nn)⟩) (by have h1 := heap_alloc_new (V.alloc (.cells #[.int .i64 0, .int .i64 (-1), .int .i64 0, .int .i64 0, .bool false, .slice Aq (g.length + nn) cq] 29)) (.cells #[.int .i64 0, .int .i64 (-1), .int .i64 0, .int .i64 0, .bool false, .slice Aq (g.length + nn) cq] 29); rw [World.size_alloc] at h1; exact h1))
        have hxx7 : ∀ a : Addr, Aq = some a → (v.ownBlock = some a.block ∨ w.heap.size ≤ a.block) ∧ a.block ≠ p ∧ (Value.slice Ae gs.length ce).ownBlock ≠ some a.block ∧ a.block < ((V.alloc (.cells #[.int .i64 0, .int .i64 (-1), .int .i64 0, .int .i64 0, .bool false, .slice Aq (g.length + nn) cq] 29)).alloc (.cells #[.int .i64 0, .int .i64 (-1), .int .i64 0, .int .i64 0, .bool false, .slice Aq (g.length + nn) cq] 29)).heap.size := fun a e => ⟨(HXX.out a e).1, (HXX.out a e).2.1, (HXX.out a e).2.2.1, Nat.lt_of_lt_of_le (HXX.out a e).2.2.2 a2.size⟩
        have HX7 := hide hxx7
        have hsz7 : w.heap.size ≤ V.heap.size := HJ6.out.fr.size
        clear HJ6 HRW HXX a2 hxx7
        go_wp2_with (at_builtin; refine wp_appV rfl _ _ _ rfl 6 iR _ 64 Try.underlying61 hiR zR0 zR1 zR2 rfl (by omega) w.heap.size (.slice Ae gs.length ce) gs.length (rwV F) rfl HJ7.out.ov _ 1 1 (rwV fun _ => ⟨0, -1, 0, 0, false, Aq, g.length + nn, cq, lyF (g ++ D.take nn)⟩) rfl HRX.out (rwV_one _ _) (by simp only [maxLen]; omega) (by omega) (by simp; omega) ?_; intro ve7 w7 h7 hg7 hb7; have HJ8 := hide (HJ7.out.app HRW7.out HX7.out h7 hg7 hb7); obtain ⟨Ae7, ce7, rfl, _, _⟩ := h7.rd; clear h7 hg7 hb7)
        have hnx : D.length - nn = (D.drop nn).length := List.length_drop.symm
        rw [hnx]
        refine wp_goto (show _ ∧ _ ∧ _ from ⟨rfl, ⟨C ++ D.take nn, D.drop nn, gs ++ [preOf (g ++ D.take nn)], ⟨1, h, []⟩, .slice none 0 0, .slice Ae7 (gs.length + 1) ce7, cutA A c nn, c - nn, _, _, _, _, _, _, _, _, _, _, _, _, _, _, _, _, _, _, _, _, _, _, _, _, _, _, _, _, _, _, _, _, _, _, _, _, _, _, _, _, _, _, _, _, _, _, _, _, _, _, _, _, _, _, _, rfl, HM2.out, ?_, HJ8.out⟩, ?_⟩)
        · rw [← List.append_assoc, ← List.append_assoc]
          exact HW6.out
        · rw [mucOf (k := 1) rfl (row14 HJ8.out.row).1, mucOf rfl HC0.out]
          have hlt := HLT.out
          have hz := HNN.out
          simp only [List.length_drop]
          have h2 := hlt (show (0 : Nat) ≠ 2 by decide)
          rw [HWZ.out] at h2
          simp
          have h3 : ((g.length : Nat) : Int) < wz := h2
          omega

      · have hcut : ∀ W, (Instr.slice 22 (.slice A D.length c) none (some (.int .i64 (nn : Int))) none).run Try.prog W = .ok (.slice (cutA A c 0) nn c) W := fun W => bytes_cut_h A D.length c nn (by omega) W
        have hcut2 : ∀ W, (Instr.slice 22 (.slice A D.length c) (some (.int .i64 (nn : Int))) none none).run Try.prog W = .ok (.slice (cutA A c nn) (D.length - nn) (c - nn)) W := fun W => bytes_cut A D.length c nn (by omega) W
        have HX := hide (HRF.out nn (by omega))
        go_upto_region 4 with (fail)
        go_region_law (refine step_appQ rfl (.tmp 29) (.tmp 32) _ rfl i0 _ 1 Try.underlying22 hi hz0 hz1 hz2 B (.slice Av g.length cv) g.length (lyF g) rfl HJ.out.own _ nn c (lyF (D.take nn)) rfl HX.out (by simp only [maxLen]; omega) (by omega) hbase ?_; intro v5 w5 hown5 hg5 hb5; obtain ⟨Aq, cq, rfl, _, _⟩ := hown5.rd; have HO5 := hide hown5; have hg6 : w1.grownBy w5 (Value.slice Av g.length cv).ownBlock := ⟨hg5.os, hg5.tape, hg5.output, hg5.size, hg5.block⟩; have HG5 := hide hg6; have HB5 := hide hb5; have P5 : Hid (w5.heap[p]? = some (.cells #[.int .i64 ((1 : Nat) : Int), .int .i64 (gL (lyF h)), .int .i64 (lyF h 3), .int .i64 (lyF h 4), .int .i64 (lowN (gX (lyF h))), .bool (lowB (gX (lyF h))), (.slice Av g.length cv), u0, u1, u2, u3, u4, u5, u6] 60 (0, 0))) := (hg5.block p (rowLt P1.out) (fun e => HJ.out.nep e.symm)).trans P1.out; have zz := frozenRow P5.out 6; clear hown5 hg5 hg6 hb5 c0 c1 c2 c3 c4 c5 c6 c7 c8 c9 c10 c11 c12 c13; obtain ⟨c0, c1, c2, c3, c4, c5, c6, c7, c8, c9, c10, c11, c12, c13⟩ := row14 P5.out)
        all_goals
          have s5 := setRow w5 p 6 (.slice Aq (g.length + nn) cq) P5.out
          simp only [List.setIfInBounds_toArray, List.set_cons_zero, List.set_cons_succ] at s5
          have J5 := hide (HJ.out.fed (nn := nn) hnD HO5.out HG5.out HB5.out s5 P5.out)
          clear zz c0 c1 c2 c3 c4 c5 c6 c7 c8 c9 c10 c11 c12 c13 s5 HO5 HG5 HB5 P5 HJ P1 hcut HX
          generalize hW : w5.setCell ⟨p, 6, none⟩ (.slice Aq (g.length + nn) cq) = W5 at *
          clear hW
          have P6 : Hid (W5.heap[p]? = some (.cells #[.int .i64 ((1 : Nat) : Int), .int .i64 (gL (lyF h)), .int .i64 (lyF h 3), .int .i64 (lyF h 4), .int .i64 (lowN (gX (lyF h))), .bool (lowB (gX (lyF h))), (.slice Aq (g.length + nn) cq), u0, u1, u2, u3, u4, u5, u6] 60 (0, 0))) := J5.out.row
          obtain ⟨c0, c1, c2, c3, c4, c5, c6, c7, c8, c9, c10, c11, c12, c13⟩ := row14 P6.out
        have dge : decide (((g.length + nn : Nat) : Int) < wz) = false := decide_eq_false (by omega)
        go_wp2_with fail
        have hlen : (g ++ D.take nn).length = g.length + nn := by rw [List.length_append, List.length_take]; omega
        have hM2 : M = (C ++ D.take nn) ++ D.drop nn := by rw [HMC.out, List.append_assoc, List.take_append_drop]
        have hMt : ByL (D.take nn) := HBD.out.take nn
        have hee : ((({ k := 1, h := h, g := g } : Pt).g ++ D.take nn).length : Int) = ({ k := 1, h := h, g := g } : Pt).want 0 := by
          rw [HWZ.out]
          show ((g ++ D.take nn).length : Int) = wz
          rw [hlen]
          have := HNN.out
          omega
        obtain ⟨hw6, h9⟩ := HHW.out.head (M := D.take nn) hMt (show (1 : Nat) ≠ 2 by decide) (show ¬ ((1 : Nat) = 0 ∧ (0 : Int) = 0) by decide) hee
        have e9 : g.length + nn = 9 := by rw [← hlen]; exact h9
        have P7 : Hid (W5.heap[p]? = some (.cells #[.int .i64 1, .int .i64 (gL (lyF h)), .int .i64 (lyF h 3), .int .i64 (lyF h 4), .int .i64 (lowN (gX (lyF h))), .bool (lowB (gX (lyF h))), (.slice Aq 9 cq), u0, u1, u2, u3, u4, u5, u6] 60 (0, 0))) := hide (by have h1 := P6.out; rw [e9] at h1; exact h1)
        have hA9 : ∀ a : Addr, Aq = some a → a.block ≠ p := fun a e e2 => J5.out.nep (by rw [e]; exact congrArg some e2)
        have hrd9 : Rd .u8 W5 Aq 9 cq (lyF (g ++ D.take nn)) := by
          obtain ⟨A', c', e1, hrd, _⟩ := J5.out.own.rd
          injection e1 with e1 e2 e3
          subst e1 e3
          have e4 : ({ k := 1, h := h, g := g } : Pt).g ++ D.take nn = g ++ D.take nn := rfl
          rw [show (⟨1, h, g ++ D.take nn⟩ : Pt).g.length = 9 from h9] at hrd
          exact hrd
        have hb9 : Byt 9 (lyF (g ++ D.take nn)) := by
          have h1 := hw6.byt
          rw [hw6.eq] at h1
          have h3 : ByL ((g ++ D.take nn) ++ []) := h1.right
          have h4 := h3.left.byt
          rw [show (g ++ D.take nn).length = 9 from h9] at h4
          exact h4
        refine (whole_head10 p _ _ _ _ _ Aq cq (lyF (g ++ D.take nn)) hb9 u0 u1 u2 u3 u4 u5 u6 W5 P7.out hrd9 hA9).mono ?_
        rintro e V ⟨rfl, hrow, hq⟩
        obtain ⟨J6, -⟩ := J5.out.gone (s' := ⟨2, g ++ D.take nn, []⟩) rfl hq hrow
        have HW6 := hide hw6
        have HJ8 := hide (J6.below (W := V.alloc (.cells #[.int .i64 0, .int .i64 0, .int .i64 0, .int .i64 0, .bool false, .slice none 0 0] 29)) ((Below.refl _ _).alloc (Nat.le_refl _) _))
        have HM2 := hide hM2
        clear J6 hrow hq hee hMt hM2 J5 P6 P7 hw6 h9 e9 hA9 hrd9 hb9 c0 c1 c2 c3 c4 c5 c6 c7 c8 c9 c10 c11 c12 c13 hcut2 hmin dge
        go_wp2_with fail
        have hnx : D.length - nn = (D.drop nn).length := List.length_drop.symm
        rw [hnx]
        refine wp_goto (show _ ∧ _ ∧ _ from ⟨rfl, ⟨C ++ D.take nn, D.drop nn, gs, ⟨2, g ++ D.take nn, []⟩, .slice none 0 0, .slice Ae gs.length ce, cutA A c nn, c - nn, _, _, _, _, _, _, _, _, _, _, _, _, _, _, _, _, _, _, _, _, _, _, _, _, _, _, _, _, _, _, _, _, _, _, _, _, _, _, _, _, _, _, _, _, _, _, _, _, _, _, _, _, _, _, _, rfl, HM2.out, ?_, HJ8.out⟩, ?_⟩)
        · rw [← List.append_assoc]
          exact HW6.out
        · rw [mucOf (k := 2) rfl (row14 HJ8.out.row).1, mucOf rfl HC0.out]
          have hlt := HLT.out
          have hz := HNN.out
          have h2 := hlt (show (1 : Nat) ≠ 2 by decide)
          rw [HWZ.out] at h2
          simp only [List.length_drop]
          simp
          have h3 : ((g.length : Nat) : Int) < wz := h2
          omega

      · have hcut : ∀ W, (Instr.slice 22 (.slice A D.length c) none (some (.int .i64 (nn : Int))) none).run Try.prog W = .ok (.slice (cutA A c 0) nn c) W := fun W => bytes_cut_h A D.length c nn (by omega) W
        have hcut2 : ∀ W, (Instr.slice 22 (.slice A D.length c) (some (.int .i64 (nn : Int))) none none).run Try.prog W = .ok (.slice (cutA A c nn) (D.length - nn) (c - nn)) W := fun W => bytes_cut A D.length c nn (by omega) W
        have HX := hide (HRF.out nn (by omega))
        go_upto_region 4 with (fail)
        go_region_law (refine step_appQ rfl (.tmp 29) (.tmp 32) _ rfl i0 _ 1 Try.underlying22 hi hz0 hz1 hz2 B (.slice Av g.length cv) g.length (lyF g) rfl HJ.out.own _ nn c (lyF (D.take nn)) rfl HX.out (by simp only [maxLen]; omega) (by omega) hbase ?_; intro v5 w5 hown5 hg5 hb5; obtain ⟨Aq, cq, rfl, _, _⟩ := hown5.rd; have HO5 := hide hown5; have hg6 : w1.grownBy w5 (Value.slice Av g.length cv).ownBlock := ⟨hg5.os, hg5.tape, hg5.output, hg5.size, hg5.block⟩; have HG5 := hide hg6; have HB5 := hide hb5; have P5 : Hid (w5.heap[p]? = some (.cells #[.int .i64 ((2 : Nat) : Int), .int .i64 (gL (lyF h)), .int .i64 (lyF h 3), .int .i64 (lyF h 4), .int .i64 (lowN (gX (lyF h))), .bool (lowB (gX (lyF h))), (.slice Av g.length cv), u0, u1, u2, u3, u4, u5, u6] 60 (0, 0))) := (hg5.block p (rowLt P1.out) (fun e => HJ.out.nep e.symm)).trans P1.out; have zz := frozenRow P5.out 6; clear hown5 hg5 hg6 hb5 c0 c1 c2 c3 c4 c5 c6 c7 c8 c9 c10 c11 c12 c13; obtain ⟨c0, c1, c2, c3, c4, c5, c6, c7, c8, c9, c10, c11, c12, c13⟩ := row14 P5.out)
        all_goals
          have s5 := setRow w5 p 6 (.slice Aq (g.length + nn) cq) P5.out
          simp only [List.setIfInBounds_toArray, List.set_cons_zero, List.set_cons_succ] at s5
          have J5 := hide (HJ.out.fed (nn := nn) hnD HO5.out HG5.out HB5.out s5 P5.out)
          clear zz c0 c1 c2 c3 c4 c5 c6 c7 c8 c9 c10 c11 c12 c13 s5 HO5 HG5 HB5 P5 HJ P1 hcut HX
          generalize hW : w5.setCell ⟨p, 6, none⟩ (.slice Aq (g.length + nn) cq) = W5 at *
          clear hW
          have P6 : Hid (W5.heap[p]? = some (.cells #[.int .i64 ((2 : Nat) : Int), .int .i64 (gL (lyF h)), .int .i64 (lyF h 3), .int .i64 (lyF h 4), .int .i64 (lowN (gX (lyF h))), .bool (lowB (gX (lyF h))), (.slice Aq (g.length + nn) cq), u0, u1, u2, u3, u4, u5, u6] 60 (0, 0))) := J5.out.row
          obtain ⟨c0, c1, c2, c3, c4, c5, c6, c7, c8, c9, c10, c11, c12, c13⟩ := row14 P6.out
        have dge : decide (((g.length + nn : Nat) : Int) < wz) = false := decide_eq_false (by omega)
        go_wp2_with fail
        have hlen : (g ++ D.take nn).length = g.length + nn := by rw [List.length_append, List.length_take]; omega
        have hM2 : M = (C ++ D.take nn) ++ D.drop nn := by rw [HMC.out, List.append_assoc, List.take_append_drop]
        have hMt : ByL (D.take nn) := HBD.out.take nn
        have hee : ((({ k := 2, h := h, g := g } : Pt).g ++ D.take nn).length : Int) = ({ k := 2, h := h, g := g } : Pt).want 0 := by
          rw [HWZ.out]
          show ((g ++ D.take nn).length : Int) = wz
          rw [hlen]
          have := HNN.out
          omega
        refine (whole_body0 p _ _ _ _ _ Aq (g.length + nn) cq u0 u1 u2 u3 u4 u5 u6 W5 P6.out).mono ?_
        rintro e V ⟨rfl, hrow, hq⟩
        obtain ⟨J6, hold⟩ := J5.out.gone (s' := ⟨1, h, []⟩) rfl hq hrow
        obtain ⟨hrdX, hnX, hX⟩ := hold Aq (g.length + nn) cq rfl
        have HW6 := hide (HHW.out.body (M := D.take nn) hMt rfl hee)
        have HRW : Hid (RwIs V ⟨0, lyF h 3, lyF h 4, lowN (gX (lyF h)), lowB (gX (lyF h)), Aq, g.length + nn, cq, lyF (g ++ D.take nn)⟩ (rlOf 0 h (g ++ D.take nn))) := hide ⟨rfl, rfl, rfl, rfl, rfl, hlen.symm, hrdX⟩
        have HJ6 := hide J6
        have HXX := hide hX
        have HM2 := hide hM2
        clear J6 hold hrdX hnX hX hrow hq hee hMt hM2 J5 P6 c0 c1 c2 c3 c4 c5 c6 c7 c8 c9 c10 c11 c12 c13 hcut2 hmin dge
        have a2 : Below V.heap.size V ((V.alloc (.cells #[.int .i64 0, .int .i64 (lyF h 3), .int .i64 (lyF h 4), .int .i64 (lowN (gX (lyF h))), .bool (lowB (gX (lyF h))), .slice Aq (g.length + nn) cq] 29)).alloc (.cells #[.int .i64 0, .int .i64 (lyF h 3), .int .i64 (lyF h 4), .int .i64 (lowN (gX (lyF h))), .bool (lowB (gX (lyF h))), .slice Aq (g.length + nn) cq] 29)) := ((Below.refl _ _).alloc (Nat.le_refl _) _).alloc (by simp) _
        have HJ7 := hide (HJ6.out.below a2)
        have HRW7 := hide (HRW.out.below a2)
        have HRX : Hid (RdV 6 ((V.alloc (.cells #[.int .i64 0, .int .i64 (lyF h 3), .int .i64 (lyF h 4), .int .i64 (lowN (gX (lyF h))), .bool (lowB (gX (lyF h))), .slice Aq (g.length + nn) cq] 29)).alloc (.cells #[.int .i64 0, .int .i64 (lyF h 3), .int .i64 (lyF h 4), .int .i64 (lowN (gX (lyF h))), .bool (lowB (gX (lyF h))), .slice Aq (g.length + nn) cq] 29)) (some ⟨V.heap.size + 1, 0, none⟩) 1 1 (rwV fun _ => ⟨0, lyF h 3, lyF h 4, lowN (gX (lyF h)), lowB (gX (lyF h)), Aq, g.length + nn, cq, lyF (g ++ D.take nn)⟩)) := hide (rdV_raw (X := ⟨0, lyF h 3, lyF h 4, lowN (gX (lyF h)), lowB (gX (lyF h)), Aq, g.length + nn, cq, lyF (g ++ D.take nn)⟩) (by have h1 := heap_alloc_new (V.alloc (.cells #[.int .i64 0, .int .i64 (lyF h 3), .int .i64 (lyF h 4), .int .i64 (lowN (gX (lyF h))), .bool (lowB (gX (lyF h))), .slice Aq (g.length + nn) cq] 29)) (.cells #[.int .i64 0, .int .i64 (lyF h 3), .int .i64 (lyF h 4), .int .i64 (lowN (gX (lyF h))), .bool (lowB (gX (lyF h))), .slice Aq (g.length + nn) cq] 29); rw [World.size_alloc] at h1; exact h1))
        have hxx7 : ∀ a : Addr, Aq = some a → (v.ownBlock = some a.block ∨ w.heap.size ≤ a.block) ∧ a.block ≠ p ∧ (Value.slice Ae gs.length ce).ownBlock ≠ some a.block ∧ a.block < ((V.alloc (.cells #[.int .i64 0, .int .i64 (lyF h 3), .int .i64 (lyF h 4), .int .i64 (lowN (gX (lyF h))), .bool (lowB (gX (lyF h))), .slice Aq (g.length + nn) cq] 29)).alloc (.cells #[.int .i64 0, .int .i64 (lyF h 3), .int .i64 (lyF h 4), .int .i64 (lowN (gX (lyF h))), .bool (lowB (gX (lyF h))), .slice Aq (g.length + nn) cq] 29)).heap.size := fun a e => ⟨(HXX.out a e).1, (HXX.out a e).2.1, (HXX.out a e).2.2.1, Nat.lt_of_lt_of_le (HXX.out a e).2.2.2 a2.size⟩
        have HX7 := hide hxx7
        have hsz7 : w.heap.size ≤ V.heap.size := HJ6.out.fr.size
        clear HJ6 HRW HXX a2 hxx7
        go_wp2_with (at_builtin; refine wp_appV rfl _ _ _ rfl 6 iR _ 64 Try.underlying61 hiR zR0 zR1 zR2 rfl (by omega) w.heap.size (.slice Ae gs.length ce) gs.length (rwV F) rfl HJ7.out.ov _ 1 1 (rwV fun _ => ⟨0, lyF h 3, lyF h 4, lowN (gX (lyF h)), lowB (gX (lyF h)), Aq, g.length + nn, cq, lyF (g ++ D.take nn)⟩) rfl HRX.out (rwV_one _ _) (by simp only [maxLen]; omega) (by omega) (by simp; omega) ?_; intro ve7 w7 h7 hg7 hb7; have HJ8 := hide (HJ7.out.app HRW7.out HX7.out h7 hg7 hb7); obtain ⟨Ae7, ce7, rfl, _, _⟩ := h7.rd; clear h7 hg7 hb7)
        have hnx : D.length - nn = (D.drop nn).length := List.length_drop.symm
        rw [hnx]
        refine wp_goto (show _ ∧ _ ∧ _ from ⟨rfl, ⟨C ++ D.take nn, D.drop nn, gs ++ [rlOf 0 h (g ++ D.take nn)], ⟨1, h, []⟩, .slice none 0 0, .slice Ae7 (gs.length + 1) ce7, cutA A c nn, c - nn, _, _, _, _, _, _, _, _, _, _, _, _, _, _, _, _, _, _, _, _, _, _, _, _, _, _, _, _, _, _, _, _, _, _, _, _, _, _, _, _, _, _, _, _, _, _, _, _, _, _, _, _, _, _, _, rfl, HM2.out, ?_, HJ8.out⟩, ?_⟩)
        · rw [← List.append_assoc, ← List.append_assoc]
          exact HW6.out
        · rw [mucOf (k := 1) rfl (row14 HJ8.out.row).1, mucOf rfl HC0.out]
          have hlt := HLT.out
          have hz := HNN.out
          simp only [List.length_drop]
          simp
          omega

def ctR1 (u0 u1 u2 u3 u4 u5 u6 : Value) (s : Pt) (v : Value) : Obj := (.cells #[u0, u1, u2, u3, u4, u5, u6, .int .i64 s.k, .int .i64 (gL (lyF s.h)), .int .i64 (lyF s.h 3), .int .i64 (lyF s.h 4), .int .i64 (lowN (gX (lyF s.h))), .bool (lowB (gX (lyF s.h))), v] 60 (0, 0))
def JFd1 (L M : List Int) (fs : List Rl) (p B : Nat) (w : World) (v0 u0 u1 u2 u3 u4 u5 u6 : Value) (a' : Act) (w' : World) : Prop :=
  ∃ (C D : List Int) (gs : List Rl) (s : Pt) (v ve : Value) (A : Option Addr) (c : Nat) (F : Nat → Rw) (t3 t4 t5 t6 t8 t9 t10 t11 t12 t13 t14 t15 t16 t17 t18 t19 t20 t21 t22 t23 t24 t25 t26 t27 t28 t29 t30 t31 t32 t33 t34 t35 t36 t37 t38 t39 t40 t41 t42 t43 t44 t45 t46 t47 t48 t49 t50 t51 t52 t53 t54 t55 t56 t57 : Value), a' = { tmps := #[.pointer (some ⟨p, 7, none⟩), .int .i64 1, .slice A D.length c, t3, t4, t5, t6, ve, t8, t9, t10, t11, t12, t13, t14, t15, t16, t17, t18, t19, t20, t21, t22, t23, t24, t25, t26, t27, t28, t29, t30, t31, t32, t33, t34, t35, t36, t37, t38, t39, t40, t41, t42, t43, t44, t45, t46, t47, t48, t49, t50, t51, t52, t53, t54, t55, t56, t57], defers := [] } ∧ M = C ++ D ∧ Hw 1 (L ++ C) (fs ++ gs) s ∧ FdJ (ctR1 u0 u1 u2 u3 u4 u5 u6) p B w v0 D gs s v ve A c F w'
set_option maxRecDepth 100000 in
set_option maxHeartbeats 12800000 in
theorem feed1 (p B : Nat) (L M : List Int) (fs : List Rl) (s : Pt) (v : Value) (A : Option Addr) (c : Nat) (u0 u1 u2 u3 u4 u5 u6 : Value) (w : World) (hrow : w.heap[p]? = some (ctR1 u0 u1 u2 u3 u4 u5 u6 s v)) (hown : Own .u8 5 B w v s.g.length (lyF s.g)) (hw : Hw 1 L fs s) (hB : B ≤ w.heap.size) (hM : ByL M) (hr : Rd .u8 w A M.length c (lyF M)) (hap : 0 < M.length → ∀ a, A = some a → v.ownBlock ≠ some a.block ∧ a.block ≠ p) (hsz : L.length + M.length ≤ 10000000) :
    Calls Try.prog 74 #[.pointer (some ⟨p, 7, none⟩), .int .i64 1, .slice A M.length c] w (FdP (ctR1 u0 u1 u2 u3 u4 u5 u6) 1 p B L M fs w v) := by
  obtain ⟨i0, hi, hz0, hz1, hz2⟩ := info_parts c8_info
  obtain ⟨iR, hiR, zR0, zR1, zR2⟩ := info_parts raw_info12
  have J0 : FdJ (ctR1 u0 u1 u2 u3 u4 u5 u6) p B w v M [] s v (.slice none 0 0) A c default w := ⟨hrow, hown, fun i e => .inl e, own_ne_row12 hown hrow (by decide), rowLt hrow, FrQ.refl _ _, hr, hM, fun hn a ha => ⟨by
      obtain ⟨b, off, hA, hlt, _⟩ := hr.block hn
      obtain rfl := Option.some.inj (ha.symm.trans hA)
      exact hlt, (hap hn a ha).1, (hap hn a ha).2⟩, OwnV.nil _ _ _ _ _, fun i x hx => (by simp at hx)⟩
  have HJ0 := hide J0
  have HW0 : Hid (Hw 1 (L ++ []) (fs ++ []) s) := by rw [List.append_nil, List.append_nil]; exact hw
  have HSZ := hide hsz
  have HBB := hide hB
  clear J0 hrow hown hw hM hr hap hsz hB
  go_enter Try.func74, Try.ntmps74
  go_wp2
  refine (fun (key : ∀ a w', JFd1 L M fs p B w v u0 u1 u2 u3 u4 u5 u6 a w' → Code.wp Try.prog _ (Exit.jump 0 (fun a2 w2 => JFd1 L M fs p B w v u0 u1 u2 u3 u4 u5 u6 a2 w2 ∧ muC 7 p a2 w2 < muC 7 p a w') _) a w') => wp_scope_jumps 0 (JFd1 L M fs p B w v u0 u1 u2 u3 u4 u5 u6) (fun a' w' => muC 7 p a' w') rfl ?_ (fun a w' h => wp_seq (wp_skip (key a w' h)))) ?_
  · go_wp2_with fail
    go_step3
    rename_i K hK
    refine hK _ _ ?_
    exact Code.wp_mono (jump_monoC fun _ _ h => h.1) (key _ _ ⟨[], M, [], s, v, _, A, c, _, _, _, _, _, _, _, _, _, _, _, _, _, _, _, _, _, _, _, _, _, _, _, _, _, _, _, _, _, _, _, _, _, _, _, _, _, _, _, _, _, _, _, _, _, _, _, _, _, _, _, _, _, _, _, rfl, rfl, HW0.out, HJ0.out⟩)
  · clear HJ0 HW0
    rintro a' w1 ⟨C, D, gs, ⟨k, h, g⟩, v1, ve, A, c, F, t3, t4, t5, t6, t8, t9, t10, t11, t12, t13, t14, t15, t16, t17, t18, t19, t20, t21, t22, t23, t24, t25, t26, t27, t28, t29, t30, t31, t32, t33, t34, t35, t36, t37, t38, t39, t40, t41, t42, t43, t44, t45, t46, t47, t48, t49, t50, t51, t52, t53, t54, t55, t56, t57, rfl, hMC, hHw, hJ⟩
    obtain ⟨Av, cv, rfl, _, _⟩ := hJ.own.rd
    obtain ⟨Ae, ce, rfl, _, _⟩ := hJ.ov.rd
    obtain ⟨wz, hwz⟩ : ∃ z, (⟨k, h, g⟩ : Pt).want 1 = z := ⟨_, rfl⟩
    obtain ⟨hw0, hw1⟩ := Pt.want_le hHw
    have hgle := hHw.le
    have hlt2 := hHw.lt
    rw [hwz] at hw0 hw1 hgle
    have hk2 : k ≤ 2 := by
      rcases hHw.st with ⟨h1, _⟩ | ⟨h1, _⟩ | ⟨h1, _⟩ <;> (have h1' : k = _ := h1; omega)
    have hwe : (if k = 2 then gL (lyF h) else 9) = wz := by
      rw [← hwz]
      unfold Pt.want
      simp
    have hgn : gs.length ≤ 10000000 := by
      have h1 := hHw.ok.many
      have h2 := congrArg List.length hHw.eq
      rw [List.length_append, List.length_append] at h2
      rw [List.length_append] at h1
      have h3 := congrArg List.length hMC
      rw [List.length_append] at h3
      have := HSZ.out
      omega
    have hgl : g.length ≤ 16777215 := by
      have : ((⟨k, h, g⟩ : Pt).g.length : Int) = (g.length : Int) := rfl
      omega
    have hgI : (g.length : Int) ≤ wz := hgle
    have hDc : D.length ≤ c := hJ.rd.1
    have hDM : D.length ≤ 10000000 := by
      have h3 := congrArg List.length hMC
      rw [List.length_append] at h3
      have := HSZ.out
      omega
    have hbase : B ≤ w1.heap.size := Nat.le_trans HBB.out hJ.fr.size
    have HJ := hide hJ
    have HHW := hide hHw
    have HWZ := hide hwz
    have HMC := hide hMC
    have HLT := hide hlt2
    have P1 : Hid (w1.heap[p]? = some (.cells #[u0, u1, u2, u3, u4, u5, u6, .int .i64 k, .int .i64 (gL (lyF h)), .int .i64 (lyF h 3), .int .i64 (lyF h 4), .int .i64 (lowN (gX (lyF h))), .bool (lowB (gX (lyF h))), (.slice Av g.length cv)] 60 (0, 0))) := hJ.row
    have hrdF : ∀ nn, nn ≤ D.length → Rd .u8 w1 (cutA A c 0) nn c (lyF (D.take nn)) := fun nn hnn => (hJ.rd.front hnn).congr fun i hi => (lyF_take D hi).symm
    have HRF := hide hrdF
    have HBD := hide hJ.byt
    have HC0 : Hid (w1.cell? ⟨p, 7, none⟩ = some (.int .i64 (k : Int))) := (row14 P1.out).2.2.2.2.2.2.2.1
    clear hJ hHw hwz hMC hgle hlt2 hrdF
    obtain ⟨c0, c1, c2, c3, c4, c5, c6, c7, c8, c9, c10, c11, c12, c13⟩ := row14 P1.out
    go_wp2_with fail
    refine (wanted1 p k _ _ _ _ _ (.slice Av g.length cv) u0 u1 u2 u3 u4 u5 u6 w1 hk2 P1.out).mono ?_
    rintro e w2 ⟨rfl, rfl⟩
    rw [hwe]
    have HK2 := hide hk2
    clear hwe hk2
    by_cases hfull : wz ≤ (g.length : Int) + (D.length : Int)
    rotate_left
    · have hmin : min (wz - (g.length : Int)) (D.length : Int) = (D.length : Int) := by omega
      have hcut : ∀ W, (Instr.slice 22 (.slice A D.length c) none (some (.int .i64 (D.length : Int))) none).run Try.prog W = .ok (.slice (cutA A c 0) D.length c) W := fun W => bytes_cut_h A D.length c D.length (by omega) W
      have hcut2 : ∀ W, (Instr.slice 22 (.slice A D.length c) (some (.int .i64 (D.length : Int))) none none).run Try.prog W = .ok (.slice (cutA A c D.length) (D.length - D.length) (c - D.length)) W := fun W => bytes_cut A D.length c D.length (by omega) W
      have HX := hide (HRF.out D.length (by omega))
      go_upto_region 4 with (fail)
      go_region_law (refine step_appQ rfl (.tmp 29) (.tmp 32) _ rfl i0 _ 1 Try.underlying22 hi hz0 hz1 hz2 B (.slice Av g.length cv) g.length (lyF g) rfl HJ.out.own _ D.length c (lyF (D.take D.length)) rfl HX.out (by simp only [maxLen]; omega) (by omega) hbase ?_; intro v5 w5 hown5 hg5 hb5; obtain ⟨Aq, cq, rfl, _, _⟩ := hown5.rd; have HO5 := hide hown5; have hg6 : w1.grownBy w5 (Value.slice Av g.length cv).ownBlock := ⟨hg5.os, hg5.tape, hg5.output, hg5.size, hg5.block⟩; have HG5 := hide hg6; have HB5 := hide hb5; have P5 : Hid (w5.heap[p]? = some (.cells #[u0, u1, u2, u3, u4, u5, u6, .int .i64 k, .int .i64 (gL (lyF h)), .int .i64 (lyF h 3), .int .i64 (lyF h 4), .int .i64 (lowN (gX (lyF h))), .bool (lowB (gX (lyF h))), (.slice Av g.length cv)] 60 (0, 0))) := (hg5.block p (rowLt P1.out) (fun e => HJ.out.nep e.symm)).trans P1.out; have zz := frozenRow P5.out 13; clear hown5 hg5 hg6 hb5 c0 c1 c2 c3 c4 c5 c6 c7 c8 c9 c10 c11 c12 c13; obtain ⟨c0, c1, c2, c3, c4, c5, c6, c7, c8, c9, c10, c11, c12, c13⟩ := row14 P5.out)
      all_goals
        have s5 := setRow w5 p 13 (.slice Aq (g.length + D.length) cq) P5.out
        simp only [List.setIfInBounds_toArray, List.set_cons_zero, List.set_cons_succ] at s5
        have J5 := hide (HJ.out.fed (nn := D.length) (by omega) HO5.out HG5.out HB5.out s5 P5.out)
        clear zz c0 c1 c2 c3 c4 c5 c6 c7 c8 c9 c10 c11 c12 c13 s5 HO5 HG5 HB5 P5 HJ P1 hcut HX
        generalize hW : w5.setCell ⟨p, 13, none⟩ (.slice Aq (g.length + D.length) cq) = W5 at *
        clear hW
        have P6 : Hid (W5.heap[p]? = some (.cells #[u0, u1, u2, u3, u4, u5, u6, .int .i64 k, .int .i64 (gL (lyF h)), .int .i64 (lyF h 3), .int .i64 (lyF h 4), .int .i64 (lowN (gX (lyF h))), .bool (lowB (gX (lyF h))), (.slice Aq (g.length + D.length) cq)] 60 (0, 0))) := J5.out.row
        obtain ⟨c0, c1, c2, c3, c4, c5, c6, c7, c8, c9, c10, c11, c12, c13⟩ := row14 P6.out
        have dlt : decide (((g.length + D.length : Nat) : Int) < wz) = true := decide_eq_true (by omega)
        go_wp2_with fail
        simp only [Exit.jump]
        go_ret
        have hlt3 : (((⟨k, h, g⟩ : Pt).g ++ D).length : Int) < (⟨k, h, g⟩ : Pt).want 1 := by
          rw [HWZ.out]
          show ((g ++ D).length : Int) < wz
          rw [List.length_append]
          omega
        have hst := HHW.out.stay (M := D) HBD.out hlt3
        refine ⟨gs, ⟨k, h, g ++ D⟩, .slice Aq (g.length + D.length) cq, .slice Ae gs.length ce, F, cutA A c D.length, c - D.length, rfl, ?_, ?_, hlt3⟩
        · have h1 := J5.out
          rw [List.drop_length, List.take_length] at h1
          exact h1
        · rw [HMC.out, ← List.append_assoc]
          exact hst
    · obtain ⟨nn, hnn⟩ : ∃ nn : Nat, wz = (g.length : Int) + (nn : Int) := ⟨(wz - (g.length : Int)).toNat, by omega⟩
      have hnD : nn ≤ D.length := by omega
      have hmin : min (wz - (g.length : Int)) (D.length : Int) = (nn : Int) := by omega
      have hge : wz ≤ (g.length : Int) + (nn : Int) := by omega
      have hnW : nn ≤ 16777215 := by omega
      have HNN := hide hnn
      clear hnn
      have hk3 : k = 0 ∨ k = 1 ∨ k = 2 := by have := HK2.out; omega
      rcases hk3 with rfl | rfl | rfl
      · have hcut : ∀ W, (Instr.slice 22 (.slice A D.length c) none (some (.int .i64 (nn : Int))) none).run Try.prog W = .ok (.slice (cutA A c 0) nn c) W := fun W => bytes_cut_h A D.length c nn (by omega) W
        have hcut2 : ∀ W, (Instr.slice 22 (.slice A D.length c) (some (.int .i64 (nn : Int))) none none).run Try.prog W = .ok (.slice (cutA A c nn) (D.length - nn) (c - nn)) W := fun W => bytes_cut A D.length c nn (by omega) W
        have HX := hide (HRF.out nn (by omega))
        go_upto_region 4 with (fail)
        go_region_law (refine step_appQ rfl (.tmp 29) (.tmp 32) _ rfl i0 _ 1 Try.underlying22 hi hz0 hz1 hz2 B (.slice Av g.length cv) g.length (lyF g) rfl HJ.out.own _ nn c (lyF (D.take nn)) rfl HX.out (by simp only [maxLen]; omega) (by omega) hbase ?_; intro v5 w5 hown5 hg5 hb5; obtain ⟨Aq, cq, rfl, _, _⟩ := hown5.rd; have HO5 := hide hown5; have hg6 : w1.grownBy w5 (Value.slice Av g.length cv).ownBlock := ⟨hg5.os, hg5.tape, hg5.output, hg5.size, hg5.block⟩; have HG5 := hide hg6; have HB5 := hide hb5; have P5 : Hid (w5.heap[p]? = some (.cells #[u0, u1, u2, u3, u4, u5, u6, .int .i64 ((0 : Nat) : Int), .int .i64 (gL (lyF h)), .int .i64 (lyF h 3), .int .i64 (lyF h 4), .int .i64 (lowN (gX (lyF h))), .bool (lowB (gX (lyF h))), (.slice Av g.length cv)] 60 (0, 0))) := (hg5.block p (rowLt P1.out) (fun e => HJ.out.nep e.symm)).trans P1.out; have zz := frozenRow P5.out 13; clear hown5 hg5 hg6 hb5 c0 c1 c2 c3 c4 c5 c6 c7 c8 c9 c10 c11 c12 c13; obtain ⟨c0, c1, c2, c3, c4, c5, c6, c7, c8, c9, c10, c11, c12, c13⟩ := row14 P5.out)
        all_goals
          have s5 := setRow w5 p 13 (.slice Aq (g.length + nn) cq) P5.out
          simp only [List.setIfInBounds_toArray, List.set_cons_zero, List.set_cons_succ] at s5
          have J5 := hide (HJ.out.fed (nn := nn) hnD HO5.out HG5.out HB5.out s5 P5.out)
          clear zz c0 c1 c2 c3 c4 c5 c6 c7 c8 c9 c10 c11 c12 c13 s5 HO5 HG5 HB5 P5 HJ P1 hcut HX
          generalize hW : w5.setCell ⟨p, 13, none⟩ (.slice Aq (g.length + nn) cq) = W5 at *
          clear hW
          have P6 : Hid (W5.heap[p]? = some (.cells #[u0, u1, u2, u3, u4, u5, u6, .int .i64 ((0 : Nat) : Int), .int .i64 (gL (lyF h)), .int .i64 (lyF h 3), .int .i64 (lyF h 4), .int .i64 (lowN (gX (lyF h))), .bool (lowB (gX (lyF h))), (.slice Aq (g.length + nn) cq)] 60 (0, 0))) := J5.out.row
          obtain ⟨c0, c1, c2, c3, c4, c5, c6, c7, c8, c9, c10, c11, c12, c13⟩ := row14 P6.out
        have dge : decide (((g.length + nn : Nat) : Int) < wz) = false := decide_eq_false (by omega)
        go_wp2_with fail
        have hlen : (g ++ D.take nn).length = g.length + nn := by rw [List.length_append, List.length_take]; omega
        have hM2 : M = (C ++ D.take nn) ++ D.drop nn := by rw [HMC.out, List.append_assoc, List.take_append_drop]
        have hMt : ByL (D.take nn) := HBD.out.take nn
        have hee : ((({ k := 0, h := h, g := g } : Pt).g ++ D.take nn).length : Int) = ({ k := 0, h := h, g := g } : Pt).want 1 := by
          rw [HWZ.out]
          show ((g ++ D.take nn).length : Int) = wz
          rw [hlen]
          have := HNN.out
          omega
        obtain ⟨hw6, h9⟩ := HHW.out.head (M := D.take nn) hMt (show (0 : Nat) ≠ 2 by decide) (show ¬ ((0 : Nat) = 0 ∧ (1 : Int) = 0) by decide) hee
        have e9 : g.length + nn = 9 := by rw [← hlen]; exact h9
        have P7 : Hid (W5.heap[p]? = some (.cells #[u0, u1, u2, u3, u4, u5, u6, .int .i64 0, .int .i64 (gL (lyF h)), .int .i64 (lyF h 3), .int .i64 (lyF h 4), .int .i64 (lowN (gX (lyF h))), .bool (lowB (gX (lyF h))), (.slice Aq 9 cq)] 60 (0, 0))) := hide (by have h1 := P6.out; rw [e9] at h1; exact h1)
        have hA9 : ∀ a : Addr, Aq = some a → a.block ≠ p := fun a e e2 => J5.out.nep (by rw [e]; exact congrArg some e2)
        have hrd9 : Rd .u8 W5 Aq 9 cq (lyF (g ++ D.take nn)) := by
          obtain ⟨A', c', e1, hrd, _⟩ := J5.out.own.rd
          injection e1 with e1 e2 e3
          subst e1 e3
          have e4 : ({ k := 0, h := h, g := g } : Pt).g ++ D.take nn = g ++ D.take nn := rfl
          rw [show (⟨0, h, g ++ D.take nn⟩ : Pt).g.length = 9 from h9] at hrd
          exact hrd
        have hb9 : Byt 9 (lyF (g ++ D.take nn)) := by
          have h1 := hw6.byt
          rw [hw6.eq] at h1
          have h3 : ByL ((g ++ D.take nn) ++ []) := h1.right
          have h4 := h3.left.byt
          rw [show (g ++ D.take nn).length = 9 from h9] at h4
          exact h4
        refine (whole_head01 p _ _ _ _ _ Aq cq (lyF (g ++ D.take nn)) hb9 u0 u1 u2 u3 u4 u5 u6 W5 P7.out hrd9 hA9).mono ?_
        rintro e V ⟨rfl, hrow, hq⟩
        obtain ⟨J6, -⟩ := J5.out.gone (s' := ⟨2, g ++ D.take nn, []⟩) rfl hq hrow
        have HW6 := hide hw6
        have HJ8 := hide (J6.below (W := V.alloc (.cells #[.int .i64 0, .int .i64 0, .int .i64 0, .int .i64 0, .bool false, .slice none 0 0] 29)) ((Below.refl _ _).alloc (Nat.le_refl _) _))
        have HM2 := hide hM2
        clear J6 hrow hq hee hMt hM2 J5 P6 P7 hw6 h9 e9 hA9 hrd9 hb9 c0 c1 c2 c3 c4 c5 c6 c7 c8 c9 c10 c11 c12 c13 hcut2 hmin dge
        go_wp2_with fail
        have hnx : D.length - nn = (D.drop nn).length := List.length_drop.symm
        rw [hnx]
        refine wp_goto (show _ ∧ _ ∧ _ from ⟨rfl, ⟨C ++ D.take nn, D.drop nn, gs, ⟨2, g ++ D.take nn, []⟩, .slice none 0 0, .slice Ae gs.length ce, cutA A c nn, c - nn, _, _, _, _, _, _, _, _, _, _, _, _, _, _, _, _, _, _, _, _, _, _, _, _, _, _, _, _, _, _, _, _, _, _, _, _, _, _, _, _, _, _, _, _, _, _, _, _, _, _, _, _, _, _, _, rfl, HM2.out, ?_, HJ8.out⟩, ?_⟩)
        · rw [← List.append_assoc]
          exact HW6.out
        · rw [mucOf (k := 2) rfl (row14 HJ8.out.row).2.2.2.2.2.2.2.1, mucOf rfl HC0.out]
          have hlt := HLT.out
          have hz := HNN.out
          have h2 := hlt (show (0 : Nat) ≠ 2 by decide)
          rw [HWZ.out] at h2
          simp only [List.length_drop]
          simp
          have h3 : ((g.length : Nat) : Int) < wz := h2
          omega

      · have hcut : ∀ W, (Instr.slice 22 (.slice A D.length c) none (some (.int .i64 (nn : Int))) none).run Try.prog W = .ok (.slice (cutA A c 0) nn c) W := fun W => bytes_cut_h A D.length c nn (by omega) W
        have hcut2 : ∀ W, (Instr.slice 22 (.slice A D.length c) (some (.int .i64 (nn : Int))) none none).run Try.prog W = .ok (.slice (cutA A c nn) (D.length - nn) (c - nn)) W := fun W => bytes_cut A D.length c nn (by omega) W
        have HX := hide (HRF.out nn (by omega))
        go_upto_region 4 with (fail)
        go_region_law (refine step_appQ rfl (.tmp 29) (.tmp 32) _ rfl i0 _ 1 Try.underlying22 hi hz0 hz1 hz2 B (.slice Av g.length cv) g.length (lyF g) rfl HJ.out.own _ nn c (lyF (D.take nn)) rfl HX.out (by simp only [maxLen]; omega) (by omega) hbase ?_; intro v5 w5 hown5 hg5 hb5; obtain ⟨Aq, cq, rfl, _, _⟩ := hown5.rd; have HO5 := hide hown5; have hg6 : w1.grownBy w5 (Value.slice Av g.length cv).ownBlock := ⟨hg5.os, hg5.tape, hg5.output, hg5.size, hg5.block⟩; have HG5 := hide hg6; have HB5 := hide hb5; have P5 : Hid (w5.heap[p]? = some (.cells #[u0, u1, u2, u3, u4, u5, u6, .int .i64 ((1 : Nat) : Int), .int .i64 (gL (lyF h)), .int .i64 (lyF h 3), .int .i64 (lyF h 4), .int .i64 (lowN (gX (lyF h))), .bool (lowB (gX (lyF h))), (.slice Av g.length cv)] 60 (0, 0))) := (hg5.block p (rowLt P1.out) (fun e => HJ.out.nep e.symm)).trans P1.out; have zz := frozenRow P5.out 13; clear hown5 hg5 hg6 hb5 c0 c1 c2 c3 c4 c5 c6 c7 c8 c9 c10 c11 c12 c13; obtain ⟨c0, c1, c2, c3, c4, c5, c6, c7, c8, c9, c10, c11, c12, c13⟩ := row14 P5.out)
        all_goals
          have s5 := setRow w5 p 13 (.slice Aq (g.length + nn) cq) P5.out
          simp only [List.setIfInBounds_toArray, List.set_cons_zero, List.set_cons_succ] at s5
          have J5 := hide (HJ.out.fed (nn := nn) hnD HO5.out HG5.out HB5.out s5 P5.out)
          clear zz c0 c1 c2 c3 c4 c5 c6 c7 c8 c9 c10 c11 c12 c13 s5 HO5 HG5 HB5 P5 HJ P1 hcut HX
          generalize hW : w5.setCell ⟨p, 13, none⟩ (.slice Aq (g.length + nn) cq) = W5 at *
          clear hW
          have P6 : Hid (W5.heap[p]? = some (.cells #[u0, u1, u2, u3, u4, u5, u6, .int .i64 ((1 : Nat) : Int), .int .i64 (gL (lyF h)), .int .i64 (lyF h 3), .int .i64 (lyF h 4), .int .i64 (lowN (gX (lyF h))), .bool (lowB (gX (lyF h))), (.slice Aq (g.length + nn) cq)] 60 (0, 0))) := J5.out.row
          obtain ⟨c0, c1, c2, c3, c4, c5, c6, c7, c8, c9, c10, c11, c12, c13⟩ := row14 P6.out
        have dge : decide (((g.length + nn : Nat) : Int) < wz) = false := decide_eq_false (by omega)
        go_wp2_with fail
        have hlen : (g ++ D.take nn).length = g.length + nn := by rw [List.length_append, List.length_take]; omega
        have hM2 : M = (C ++ D.take nn) ++ D.drop nn := by rw [HMC.out, List.append_assoc, List.take_append_drop]
        have hMt : ByL (D.take nn) := HBD.out.take nn
        have hee : ((({ k := 1, h := h, g := g } : Pt).g ++ D.take nn).length : Int) = ({ k := 1, h := h, g := g } : Pt).want 1 := by
          rw [HWZ.out]
          show ((g ++ D.take nn).length : Int) = wz
          rw [hlen]
          have := HNN.out
          omega
        obtain ⟨hw6, h9⟩ := HHW.out.head (M := D.take nn) hMt (show (1 : Nat) ≠ 2 by decide) (show ¬ ((1 : Nat) = 0 ∧ (1 : Int) = 0) by decide) hee
        have e9 : g.length + nn = 9 := by rw [← hlen]; exact h9
        have P7 : Hid (W5.heap[p]? = some (.cells #[u0, u1, u2, u3, u4, u5, u6, .int .i64 1, .int .i64 (gL (lyF h)), .int .i64 (lyF h 3), .int .i64 (lyF h 4), .int .i64 (lowN (gX (lyF h))), .bool (lowB (gX (lyF h))), (.slice Aq 9 cq)] 60 (0, 0))) := hide (by have h1 := P6.out; rw [e9] at h1; exact h1)
        have hA9 : ∀ a : Addr, Aq = some a → a.block ≠ p := fun a e e2 => J5.out.nep (by rw [e]; exact congrArg some e2)
        have hrd9 : Rd .u8 W5 Aq 9 cq (lyF (g ++ D.take nn)) := by
          obtain ⟨A', c', e1, hrd, _⟩ := J5.out.own.rd
          injection e1 with e1 e2 e3
          subst e1 e3
          have e4 : ({ k := 1, h := h, g := g } : Pt).g ++ D.take nn = g ++ D.take nn := rfl
          rw [show (⟨1, h, g ++ D.take nn⟩ : Pt).g.length = 9 from h9] at hrd
          exact hrd
        have hb9 : Byt 9 (lyF (g ++ D.take nn)) := by
          have h1 := hw6.byt
          rw [hw6.eq] at h1
          have h3 : ByL ((g ++ D.take nn) ++ []) := h1.right
          have h4 := h3.left.byt
          rw [show (g ++ D.take nn).length = 9 from h9] at h4
          exact h4
        refine (whole_head11 p _ _ _ _ _ Aq cq (lyF (g ++ D.take nn)) hb9 u0 u1 u2 u3 u4 u5 u6 W5 P7.out hrd9 hA9).mono ?_
        rintro e V ⟨rfl, hrow, hq⟩
        obtain ⟨J6, -⟩ := J5.out.gone (s' := ⟨2, g ++ D.take nn, []⟩) rfl hq hrow
        have HW6 := hide hw6
        have HJ8 := hide (J6.below (W := V.alloc (.cells #[.int .i64 0, .int .i64 0, .int .i64 0, .int .i64 0, .bool false, .slice none 0 0] 29)) ((Below.refl _ _).alloc (Nat.le_refl _) _))
        have HM2 := hide hM2
        clear J6 hrow hq hee hMt hM2 J5 P6 P7 hw6 h9 e9 hA9 hrd9 hb9 c0 c1 c2 c3 c4 c5 c6 c7 c8 c9 c10 c11 c12 c13 hcut2 hmin dge
        go_wp2_with fail
        have hnx : D.length - nn = (D.drop nn).length := List.length_drop.symm
        rw [hnx]
        refine wp_goto (show _ ∧ _ ∧ _ from ⟨rfl, ⟨C ++ D.take nn, D.drop nn, gs, ⟨2, g ++ D.take nn, []⟩, .slice none 0 0, .slice Ae gs.length ce, cutA A c nn, c - nn, _, _, _, _, _, _, _, _, _, _, _, _, _, _, _, _, _, _, _, _, _, _, _, _, _, _, _, _, _, _, _, _, _, _, _, _, _, _, _, _, _, _, _, _, _, _, _, _, _, _, _, _, _, _, _, rfl, HM2.out, ?_, HJ8.out⟩, ?_⟩)
        · rw [← List.append_assoc]
          exact HW6.out
        · rw [mucOf (k := 2) rfl (row14 HJ8.out.row).2.2.2.2.2.2.2.1, mucOf rfl HC0.out]
          have hlt := HLT.out
          have hz := HNN.out
          have h2 := hlt (show (1 : Nat) ≠ 2 by decide)
          rw [HWZ.out] at h2
          simp only [List.length_drop]
          simp
          have h3 : ((g.length : Nat) : Int) < wz := h2
          omega

      · have hcut : ∀ W, (Instr.slice 22 (.slice A D.length c) none (some (.int .i64 (nn : Int))) none).run Try.prog W = .ok (.slice (cutA A c 0) nn c) W := fun W => bytes_cut_h A D.length c nn (by omega) W
        have hcut2 : ∀ W, (Instr.slice 22 (.slice A D.length c) (some (.int .i64 (nn : Int))) none none).run Try.prog W = .ok (.slice (cutA A c nn) (D.length - nn) (c - nn)) W := fun W => bytes_cut A D.length c nn (by omega) W
        have HX := hide (HRF.out nn (by omega))
        go_upto_region 4 with (fail)
        go_region_law (refine step_appQ rfl (.tmp 29) (.tmp 32) _ rfl i0 _ 1 Try.underlying22 hi hz0 hz1 hz2 B (.slice Av g.length cv) g.length (lyF g) rfl HJ.out.own _ nn c (lyF (D.take nn)) rfl HX.out (by simp only [maxLen]; omega) (by omega) hbase ?_; intro v5 w5 hown5 hg5 hb5; obtain ⟨Aq, cq, rfl, _, _⟩ := hown5.rd; have HO5 := hide hown5; have hg6 : w1.grownBy w5 (Value.slice Av g.length cv).ownBlock := ⟨hg5.os, hg5.tape, hg5.output, hg5.size, hg5.block⟩; have HG5 := hide hg6; have HB5 := hide hb5; have P5 : Hid (w5.heap[p]? = some (.cells #[u0, u1, u2, u3, u4, u5, u6, .int .i64 ((2 : Nat) : Int), .int .i64 (gL (lyF h)), .int .i64 (lyF h 3), .int .i64 (lyF h 4), .int .i64 (lowN (gX (lyF h))), .bool (lowB (gX (lyF h))), (.slice Av g.length cv)] 60 (0, 0))) := (hg5.block p (rowLt P1.out) (fun e => HJ.out.nep e.symm)).trans P1.out; have zz := frozenRow P5.out 13; clear hown5 hg5 hg6 hb5 c0 c1 c2 c3 c4 c5 c6 c7 c8 c9 c10 c11 c12 c13; obtain ⟨c0, c1, c2, c3, c4, c5, c6, c7, c8, c9, c10, c11, c12, c13⟩ := row14 P5.out)
        all_goals
          have s5 := setRow w5 p 13 (.slice Aq (g.length + nn) cq) P5.out
          simp only [List.setIfInBounds_toArray, List.set_cons_zero, List.set_cons_succ] at s5
          have J5 := hide (HJ.out.fed (nn := nn) hnD HO5.out HG5.out HB5.out s5 P5.out)
          clear zz c0 c1 c2 c3 c4 c5 c6 c7 c8 c9 c10 c11 c12 c13 s5 HO5 HG5 HB5 P5 HJ P1 hcut HX
          generalize hW : w5.setCell ⟨p, 13, none⟩ (.slice Aq (g.length + nn) cq) = W5 at *
          clear hW
          have P6 : Hid (W5.heap[p]? = some (.cells #[u0, u1, u2, u3, u4, u5, u6, .int .i64 ((2 : Nat) : Int), .int .i64 (gL (lyF h)), .int .i64 (lyF h 3), .int .i64 (lyF h 4), .int .i64 (lowN (gX (lyF h))), .bool (lowB (gX (lyF h))), (.slice Aq (g.length + nn) cq)] 60 (0, 0))) := J5.out.row
          obtain ⟨c0, c1, c2, c3, c4, c5, c6, c7, c8, c9, c10, c11, c12, c13⟩ := row14 P6.out
        have dge : decide (((g.length + nn : Nat) : Int) < wz) = false := decide_eq_false (by omega)
        go_wp2_with fail
        have hlen : (g ++ D.take nn).length = g.length + nn := by rw [List.length_append, List.length_take]; omega
        have hM2 : M = (C ++ D.take nn) ++ D.drop nn := by rw [HMC.out, List.append_assoc, List.take_append_drop]
        have hMt : ByL (D.take nn) := HBD.out.take nn
        have hee : ((({ k := 2, h := h, g := g } : Pt).g ++ D.take nn).length : Int) = ({ k := 2, h := h, g := g } : Pt).want 1 := by
          rw [HWZ.out]
          show ((g ++ D.take nn).length : Int) = wz
          rw [hlen]
          have := HNN.out
          omega
        refine (whole_body1 p _ _ _ _ _ Aq (g.length + nn) cq u0 u1 u2 u3 u4 u5 u6 W5 P6.out).mono ?_
        rintro e V ⟨rfl, hrow, hq⟩
        obtain ⟨J6, hold⟩ := J5.out.gone (s' := ⟨1, h, []⟩) rfl hq hrow
        obtain ⟨hrdX, hnX, hX⟩ := hold Aq (g.length + nn) cq rfl
        have HW6 := hide (HHW.out.body (M := D.take nn) hMt rfl hee)
        have HRW : Hid (RwIs V ⟨1, lyF h 3, lyF h 4, lowN (gX (lyF h)), lowB (gX (lyF h)), Aq, g.length + nn, cq, lyF (g ++ D.take nn)⟩ (rlOf 1 h (g ++ D.take nn))) := hide ⟨rfl, rfl, rfl, rfl, rfl, hlen.symm, hrdX⟩
        have HJ6 := hide J6
        have HXX := hide hX
        have HM2 := hide hM2
        clear J6 hold hrdX hnX hX hrow hq hee hMt hM2 J5 P6 c0 c1 c2 c3 c4 c5 c6 c7 c8 c9 c10 c11 c12 c13 hcut2 hmin dge
        have a2 : Below V.heap.size V ((V.alloc (.cells #[.int .i64 1, .int .i64 (lyF h 3), .int .i64 (lyF h 4), .int .i64 (lowN (gX (lyF h))), .bool (lowB (gX (lyF h))), .slice Aq (g.length + nn) cq] 29)).alloc (.cells #[.int .i64 1, .int .i64 (lyF h 3), .int .i64 (lyF h 4), .int .i64 (lowN (gX (lyF h))), .bool (lowB (gX (lyF h))), .slice Aq (g.length + nn) cq] 29)) := ((Below.refl _ _).alloc (Nat.le_refl _) _).alloc (by simp) _
        have HJ7 := hide (HJ6.out.below a2)
        have HRW7 := hide (HRW.out.below a2)
        have HRX : Hid (RdV 6 ((V.alloc (.cells #[.int .i64 1, .int .i64 (lyF h 3), .int .i64 (lyF h 4), .int .i64 (lowN (gX (lyF h))), .bool (lowB (gX (lyF h))), .slice Aq (g.length + nn) cq] 29)).alloc (.cells #[.int .i64 1, .int .i64 (lyF h 3), .int .i64 (lyF h 4), .int .i64 (lowN (gX (lyF h))), .bool (lowB (gX (lyF h))), .slice Aq (g.length + nn) cq] 29)) (some ⟨V.heap.size + 1, 0, none⟩) 1 1 (rwV fun _ => ⟨1, lyF h 3, lyF h 4, lowN (gX (lyF h)), lowB (gX (lyF h)), Aq, g.length + nn, cq, lyF (g ++ D.take nn)⟩)) := hide (rdV_raw (X := ⟨1, lyF h 3, lyF h 4, lowN (gX (lyF h)), lowB (gX (lyF h)), Aq, g.length + nn, cq, lyF (g ++ D.take nn)⟩) (by have h1 := heap_alloc_new (V.alloc (.cells #[.int .i64 1, .int .i64 (lyF h 3), .int .i64 (lyF h 4), .int .i64 (lowN (gX (lyF h))), .bool (lowB (gX (lyF h))), .slice Aq (g.length + nn) cq] 29)) (.cells #[.int .i64 1, .int .i64 (lyF h 3), .int .i64 (lyF h 4), .int .i64 (lowN (gX (lyF h))), .bool (lowB (gX (lyF h))), .slice Aq (g.length + nn) cq] 29); rw [World.size_alloc] at h1; exact h1))
        have hxx7 : ∀ a : Addr, Aq = some a → (v.ownBlock = some a.block ∨ w.heap.size ≤ a.block) ∧ a.block ≠ p ∧ (Value.slice Ae gs.length ce).ownBlock ≠ some a.block ∧ a.block < ((V.alloc (.cells #[.int .i64 1, .int .i64 (lyF h 3), .int .i64 (lyF h 4), .int .i64 (lowN (gX (lyF h))), .bool (lowB (gX (lyF h))), .slice Aq (g.length + nn) cq] 29)).alloc (.cells #[.int .i64 1, .int .i64 (lyF h 3), .int .i64 (lyF h 4), .int .i64 (lowN (gX (lyF h))), .bool (lowB (gX (lyF h))), .slice Aq (g.length + nn) cq] 29)).heap.size := fun a e => ⟨(HXX.out a e).1, (HXX.out a e).2.1, (HXX.out a e).2.2.1, Nat.lt_of_lt_of_le (HXX.out a e).2.2.2 a2.size⟩
        have HX7 := hide hxx7
        have hsz7 : w.heap.size ≤ V.heap.size := HJ6.out.fr.size
        clear HJ6 HRW HXX a2 hxx7
        go_wp2_with (at_builtin; refine wp_appV rfl _ _ _ rfl 6 iR _ 64 Try.underlying61 hiR zR0 zR1 zR2 rfl (by omega) w.heap.size (.slice Ae gs.length ce) gs.length (rwV F) rfl HJ7.out.ov _ 1 1 (rwV fun _ => ⟨1, lyF h 3, lyF h 4, lowN (gX (lyF h)), lowB (gX (lyF h)), Aq, g.length + nn, cq, lyF (g ++ D.take nn)⟩) rfl HRX.out (rwV_one _ _) (by simp only [maxLen]; omega) (by omega) (by simp; omega) ?_; intro ve7 w7 h7 hg7 hb7; have HJ8 := hide (HJ7.out.app HRW7.out HX7.out h7 hg7 hb7); obtain ⟨Ae7, ce7, rfl, _, _⟩ := h7.rd; clear h7 hg7 hb7)
        have hnx : D.length - nn = (D.drop nn).length := List.length_drop.symm
        rw [hnx]
        refine wp_goto (show _ ∧ _ ∧ _ from ⟨rfl, ⟨C ++ D.take nn, D.drop nn, gs ++ [rlOf 1 h (g ++ D.take nn)], ⟨1, h, []⟩, .slice none 0 0, .slice Ae7 (gs.length + 1) ce7, cutA A c nn, c - nn, _, _, _, _, _, _, _, _, _, _, _, _, _, _, _, _, _, _, _, _, _, _, _, _, _, _, _, _, _, _, _, _, _, _, _, _, _, _, _, _, _, _, _, _, _, _, _, _, _, _, _, _, _, _, _, rfl, HM2.out, ?_, HJ8.out⟩, ?_⟩)
        · rw [← List.append_assoc, ← List.append_assoc]
          exact HW6.out
        · rw [mucOf (k := 1) rfl (row14 HJ8.out.row).2.2.2.2.2.2.2.1, mucOf rfl HC0.out]
          have hlt := HLT.out
          have hz := HNN.out
          simp only [List.length_drop]
          simp
          omega

end Go.Proofs.Ytpnjamomkpkkeaa
