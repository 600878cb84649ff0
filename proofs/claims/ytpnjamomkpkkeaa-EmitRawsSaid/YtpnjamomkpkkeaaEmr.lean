/- Layer 15: the body of a frame, by the document: a priority and padding. -/
import Derived.Test.YtpnjamomkpkkeaaEm9
namespace Go.Proofs.Ytpnjamomkpkkeaa
set_option linter.unusedVariables false
set_option linter.unusedSimpArgs false
open Go.RowKit

set_option maxRecDepth 20000 in
set_option maxHeartbeats 6400000 in
theorem rb_t_yes (T fl st pad : Int) (A2 : Option Addr) (nd c2 : Nat) (d : Nat → Int) (A3 : Option Addr) (ns c3 : Nat) (s g : Nat → Int) (wt pa : Int) (al : Bool) (pm la co sp : Int) (hfl : fl ≤ 9223372036854775807) (hnd : nd ≤ 100000) (hns : ns ≤ 1000) (e3 : hsB T fl 3 = true) (hT : (T == 2) = false) (e5 : hsB T fl 5 = true) (w : World) (hd : Rd .u8 w A2 nd c2 d) (hs2 : Rd2 w A3 ns c3 s g) :
    Calls Try.prog 61 #[.agg #[.int .i64 T, .int .i64 fl, .int .i64 st, .int .i64 pad, .slice A2 nd c2, .slice A3 ns c3, .int .i64 wt, .int .i64 pa, .bool al, .int .i64 pm, .int .i64 la, .int .i64 co, .int .i64 sp]] w (Rb5 (⟨T, fl, st, pad, nd, d, ns, s, g, wt, pa, al, pm, la, co, sp⟩ : Fm5) w) := by
  obtain ⟨i0, hi, hz0, hz1, hz2⟩ := info_parts u8_info
  have hP3 : Hid ((⟨T, fl, st, pad, nd, d, ns, s, g, wt, pa, al, pm, la, co, sp⟩ : Fm5).P3 = true) := e3
  have hP5 : Hid ((⟨T, fl, st, pad, nd, d, ns, s, g, wt, pa, al, pm, la, co, sp⟩ : Fm5).P5) := by
    show (T = 2 ∨ hsB T fl 5 = true)
    exact .inr e5
  have S0 : Hid (St5 w (w.alloc (.cells #[.int .i64 T, .int .i64 fl, .int .i64 st, .int .i64 pad, .slice A2 nd c2, .slice A3 ns c3, .int .i64 wt, .int .i64 pa, .bool al, .int .i64 pm, .int .i64 la, .int .i64 co, .int .i64 sp] 25)) (.slice none 0 0) [] #[.int .i64 T, .int .i64 fl, .int .i64 st, .int .i64 pad, .slice A2 nd c2, .slice A3 ns c3, .int .i64 wt, .int .i64 pa, .bool al, .int .i64 pm, .int .i64 la, .int .i64 co, .int .i64 sp]) := ⟨Own.nil _ _ _ _ _, heap_alloc_new _ _, (Below.refl _ _).alloc (Nat.le_refl _) _⟩
  have HD := hide hd
  have HS2 := hide hs2
  clear hd hs2
  go_enter Try.func61, Try.ntmps61
  go_upto_region 2 with (fail)
  generalize hW : w.alloc (.cells #[.int .i64 T, .int .i64 fl, .int .i64 st, .int .i64 pad, .slice A2 nd c2, .slice A3 ns c3, .int .i64 wt, .int .i64 pa, .bool al, .int .i64 pm, .int .i64 la, .int .i64 co, .int .i64 sp] 25) = U0 at *
  clear hW
  obtain ⟨x_0, x_1, x_2, x_3, x_4, x_5, x_6, x_7, x_8, x_9, x_10, x_11, x_12⟩ := row13 S0.out.rf
  go_wp2_with fail
  refine (rhasA_3 T fl hfl _).mono ?_
  rintro e u0 ⟨rfl, rfl⟩
  rw [e3]
  by_cases p0 : pad < 0
  · have q0 : decide (pad < 0) = true := decide_eq_true p0
    go_wp2_with fail
    go_ret2
    exact ⟨S0.out.be, .inr ⟨fun h => by have h1 := (h.1 hP3.out).1; have h2 : 0 ≤ pad := h1; omega, rfl⟩⟩
  have q0 : decide (pad < 0) = false := decide_eq_false p0
  by_cases p1 : 255 < pad
  · have q1 : decide ((255 : Int) < pad) = true := decide_eq_true p1
    go_wp2_with fail
    go_ret2
    exact ⟨S0.out.be, .inr ⟨fun h => by have h1 := (h.1 hP3.out).2; have h2 : pad ≤ 255 := h1; omega, rfl⟩⟩
  have q1 : decide ((255 : Int) < pad) = false := decide_eq_false p1
  have qw : IntKind.u8.wrap pad = pad := by rw [IntKind.wrap_u8]; omega
  have HP : Hid (0 ≤ pad ∧ pad ≤ 255) := ⟨by omega, by omega⟩
  clear p0 p1
  go_upto_region 6 with (first | (at_builtin; refine wp_app rfl (.tmp 30) (.tmp 34) _ rfl i0 0 1 Try.underlying22 hi hz0 hz1 hz2 (w.heap.size + 1) _ _ _ rfl (S0.out.below ((Below.refl U0.heap.size U0).alloc (Nat.le_refl _) (.cells #[.int .u8 pad] 5))).ow (some ⟨U0.heap.size, 0, none⟩) 1 1 (lF (numL pad 1)) rfl (rd_one5 U0 pad HP.out) (by simp only [maxLen]; simp) (by simp) (by have := (S0.out.below ((Below.refl U0.heap.size U0).alloc (Nat.le_refl _) (.cells #[.int .u8 pad] 5))).be.size; simp at this ⊢; have := S0.out.be.size; have := rowLt S0.out.rf; omega) ?_; intro v45 u45 ho45 hg45; have S45 := hide ((S0.out.below ((Below.refl U0.heap.size U0).alloc (Nat.le_refl _) (.cells #[.int .u8 pad] 5))).app ho45 hg45 rfl rfl rfl (fun _ _ => rfl)); obtain ⟨A45_, c45_, rfl, _, _⟩ := ho45.rd; clear ho45 hg45))
  clear q0 q1 qw
  obtain ⟨y_0, y_1, y_2, y_3, y_4, y_5, y_6, y_7, y_8, y_9, y_10, y_11, y_12⟩ := row13 S45.out.rf
  go_wp2_with fail
  refine (rhasA_5 T fl hfl _).mono ?_
  rintro e u0 ⟨rfl, rfl⟩
  rw [e5]
  go_wp2_with fail
  refine (word15 pa al _).mono ?_
  rintro e u1 (⟨hpa, Aw, cw, rfl, hrw, hbw⟩ | ⟨hpa, rfl, hbw⟩)
  rotate_left
  · have SW := hide (S45.out.below hbw)
    have HPA := hide hpa
    clear hbw hpa
    go_wp2_with fail
    go_ret2
    exact ⟨SW.out.be, .inr ⟨fun h => HPA.out ⟨(h.2.1 hP5.out).1, (h.2.1 hP5.out).2.1⟩, rfl⟩⟩
  have SW := hide (S45.out.below hbw)
  have RW := hide hrw
  have HPA := hide hpa
  clear hbw hpa hrw
  obtain ⟨z_0, z_1, z_2, z_3, z_4, z_5, z_6, z_7, z_8, z_9, z_10, z_11, z_12⟩ := row13 SW.out.rf
  by_cases p2 : wt < 0
  · have q2 : decide (wt < 0) = true := decide_eq_true p2
    go_wp2_with fail
    go_ret2
    exact ⟨SW.out.be, .inr ⟨fun h => by have h1 := (h.2.1 hP5.out).2.2.1; have h2 : 0 ≤ wt := h1; omega, rfl⟩⟩
  have q2 : decide (wt < 0) = false := decide_eq_false p2
  by_cases p3 : 255 < wt
  · have q3 : decide ((255 : Int) < wt) = true := decide_eq_true p3
    go_wp2_with fail
    go_ret2
    exact ⟨SW.out.be, .inr ⟨fun h => by have h1 := (h.2.1 hP5.out).2.2.2; have h2 : wt ≤ 255 := h1; omega, rfl⟩⟩
  have q3 : decide ((255 : Int) < wt) = false := decide_eq_false p3
  have qw : IntKind.u8.wrap wt = wt := by rw [IntKind.wrap_u8]; omega
  have HWT : Hid (0 ≤ wt ∧ wt ≤ 255) := ⟨by omega, by omega⟩
  clear p2 p3
  go_upto_region 10 with (fail)
  clear q2 q3
  have hq0 : Hid (w.heap.size < u1.heap.size) := rowLt SW.out.rf
  have SD := hide SW.out.drew
  have SL := hide (SW.out.below ((Below.refl u1.heap.size u1).alloc (Nat.le_refl _) (.cells #[.int .u8 wt] 5))).drew
  have RD : Hid (Rd .u8 u1.drew Aw 4 cw (lF (numL (wrd5 pa al) 4))) := RW.out
  have RL : Hid (Rd .u8 (u1.alloc (.cells #[.int .u8 wt] 5)).drew Aw 4 cw (lF (numL (wrd5 pa al) 4))) := RW.out.below ((Below.refl _ _).alloc (Nat.le_refl _) _).drew
  have OL : Hid (Rd .u8 (u1.alloc (.cells #[.int .u8 wt] 5)).drew (some ⟨u1.heap.size, 0, none⟩) 1 1 (lF (numL wt 1))) := rd_one5 u1 wt HWT.out
  have kt : ∀ {a : Array Value} {q0 : Nat}, True := trivial
  have K0 := (row13 SW.out.rf).2.2.2.2.2.2.1
  go_region_held3 (fun W => W.cell? ⟨w.heap.size, 6, none⟩ = some (.int .i64 wt))
    ((first | exact K0 | exact KB | exact KS | (go_keep; done)))
    ((first
      | (refine step_app1 rfl (.tmp 68) (.tmp 72) _ rfl i0 0 1 Try.underlying22 hi hz0 hz1 hz2 (w.heap.size + 1) _ _ _ rfl SA.out.ow _ 1 1 _ rfl OA.out (by simp only [maxLen]; first | (simp [numL_len]; done) | (simp [numL_len]; omega)) (by first | (simp [numL_len]; done) | (simp [numL_len]; omega)) (by have := SA.out.be.size; have := rowLt SA.out.rf; simp at this ⊢; omega) ?_; intro vb ub hob hgb; have SB := hide (SA.out.app hob hgb rfl rfl rfl (fun _ _ => rfl)); obtain ⟨Ab, cb, rfl, _, _⟩ := hob.rd; have KB := (row13 SB.out.rf).2.2.2.2.2.2.1; clear hob hgb)
      | (refine step_app1 rfl (.tmp 68) (.tmp 72) _ rfl i0 0 1 Try.underlying22 hi hz0 hz1 hz2 (w.heap.size + 1) _ _ _ rfl (SA.out.below ((Below.refl ua.heap.size ua).alloc (Nat.le_refl _) (.cells #[.int .u8 wt] 5))).ow _ 1 1 _ rfl (rd_one5 ua wt HWT.out) (by simp only [maxLen]; first | (simp [numL_len]; done) | (simp [numL_len]; omega)) (by first | (simp [numL_len]; done) | (simp [numL_len]; omega)) (by have := SA.out.be.size; have := rowLt SA.out.rf; simp at this ⊢; omega) ?_; intro vb ub hob hgb; have SB := hide ((SA.out.below ((Below.refl ua.heap.size ua).alloc (Nat.le_refl _) (.cells #[.int .u8 wt] 5))).app hob hgb rfl rfl rfl (fun _ _ => rfl)); obtain ⟨Ab, cb, rfl, _, _⟩ := hob.rd; have KB := (row13 SB.out.rf).2.2.2.2.2.2.1; clear hob hgb)
      | (refine step_app1 rfl (.tmp 66) (.tmp 67) _ rfl i0 0 1 Try.underlying22 hi hz0 hz1 hz2 (w.heap.size + 1) _ _ _ rfl SL.out.ow Aw 4 cw _ rfl RL.out (by simp only [maxLen]; first | (simp [numL_len]; done) | (simp [numL_len]; omega)) (by first | (simp [numL_len]; done) | (simp [numL_len]; omega)) (by have := SL.out.be.size; have := hq0.out; simp at this ⊢; omega) ?_; intro va ua hoa hga; have SA := hide (SL.out.app hoa hga rfl rfl rfl (fun _ _ => rfl)); obtain ⟨Aa, ca, rfl, _, _⟩ := hoa.rd; have KS := (row13 SA.out.rf).2.2.2.2.2.2.1; have OA := hide (rd_grown5 OL.out hga (fun k e a ha => by obtain rfl := Option.some.inj ha; exact Nat.ne_of_lt (World.ownsRow.lt SW.out.ow k e).2)); clear hoa hga)
      | (refine step_app1 rfl (.tmp 66) (.tmp 67) _ rfl i0 0 1 Try.underlying22 hi hz0 hz1 hz2 (w.heap.size + 1) _ _ _ rfl SD.out.ow Aw 4 cw _ rfl RD.out (by simp only [maxLen]; first | (simp [numL_len]; done) | (simp [numL_len]; omega)) (by first | (simp [numL_len]; done) | (simp [numL_len]; omega)) (by have := SD.out.be.size; have := hq0.out; simp at this ⊢; omega) ?_; intro va ua hoa hga; have SA := hide (SD.out.app hoa hga rfl rfl rfl (fun _ _ => rfl)); obtain ⟨Aa, ca, rfl, _, _⟩ := hoa.rd; have KS := (row13 SA.out.rf).2.2.2.2.2.2.1; clear hoa hga)))
  all_goals
    clear SD SL RD RL OL K0 kt qw SW RW
    try clear OA
    clear SA KS KB
    obtain ⟨a_0, a_1, a_2, a_3, a_4, a_5, a_6, a_7, a_8, a_9, a_10, a_11, a_12⟩ := row13 SB.out.rf
    have hl0 : ((([] : List Int) ++ numL pad 1) ++ numL (wrd5 pa al) 4 ++ numL wt 1).length ≤ 6 := by simp [numL_len]
    obtain ⟨L0, hL0⟩ : ∃ L0, L0 = ((([] : List Int) ++ numL pad 1) ++ numL (wrd5 pa al) 4 ++ numL wt 1) := ⟨_, rfl⟩
    have SG_ := SB.out
    rw [← hL0] at SG_ hl0
    have SG := hide SG_
    have HL0 := hide hL0
    clear hL0 SG_
    go_wp2_with fail
    by_cases hco : 0 ≤ co ∧ co ≤ 4294967295
    rotate_left
    · refine (rputR none 0 0 4 co 4 rfl _ (by decide) (by decide) (by rw [show pw ((4 : Nat) : Int) = 4294967296 by decide]; omega)).mono ?_
      rintro e ux ⟨rfl, rfl⟩
      go_wp2_with fail
      refine (wordG la false _).mono ?_
      rintro e m0_la ⟨X0_la, n0_la, k0_la, o0_la, rfl, hbq⟩
      have T0_la := hide (SG.out.below hbq)
      clear hbq
      obtain ⟨w0la_0, w0la_1, w0la_2, w0la_3, w0la_4, w0la_5, w0la_6, w0la_7, w0la_8, w0la_9, w0la_10, w0la_11, w0la_12⟩ := row13 T0_la.out.rf
      go_wp2_with fail
      refine (wordG sp false _).mono ?_
      rintro e m0_sp ⟨X0_sp, n0_sp, k0_sp, o0_sp, rfl, hbq⟩
      have T0_sp := hide (T0_la.out.below hbq)
      clear hbq
      obtain ⟨w0sp_0, w0sp_1, w0sp_2, w0sp_3, w0sp_4, w0sp_5, w0sp_6, w0sp_7, w0sp_8, w0sp_9, w0sp_10, w0sp_11, w0sp_12⟩ := row13 T0_sp.out.rf
      go_wp2_with fail
      refine (wordG pm false _).mono ?_
      rintro e m0_pm ⟨X0_pm, n0_pm, k0_pm, o0_pm, rfl, hbq⟩
      have T0_pm := hide (T0_sp.out.below hbq)
      clear hbq
      obtain ⟨w0pm_0, w0pm_1, w0pm_2, w0pm_3, w0pm_4, w0pm_5, w0pm_6, w0pm_7, w0pm_8, w0pm_9, w0pm_10, w0pm_11, w0pm_12⟩ := row13 T0_pm.out.rf
      go_wp2_with fail
      go_ret2
      exact ⟨T0_pm.out.be, .inr ⟨fun h => hco h.2.2.1.1, rfl⟩⟩
    have C := hide (fun W => rputL none 0 0 4 4 4 co rfl rfl (fun _ => 0) W (Rd.nil _ _ _) (by decide) (by decide) (by decide) hco.1 (show co < pw 4 by rw [show pw 4 = 4294967296 by decide]; omega))
    have HCO := hide hco
    clear hco
    refine (C.out _).mono ?_
    rintro e ux ⟨Ac, cc, rfl, hoc, hbq⟩
    have Rco := hide (Gave0.lst hoc)
    have HNE := hide (ne_own5 SG.out.ow hoc)
    have Sco := hide (SG.out.below hbq)
    clear hbq hoc C
    obtain ⟨b_0, b_1, b_2, b_3, b_4, b_5, b_6, b_7, b_8, b_9, b_10, b_11, b_12⟩ := row13 Sco.out.rf
    go_wp2_with fail
    refine (word15 la false _).mono ?_
    rintro e ula (⟨hla, Ala, cla, rfl, hr, hbq⟩ | ⟨hla, rfl, hbq⟩)
    rotate_left
    · skip
      have Tn := hide (Sco.out.below hbq)
      have HN := hide hla
      clear hbq hla
      obtain ⟨g0_0, g0_1, g0_2, g0_3, g0_4, g0_5, g0_6, g0_7, g0_8, g0_9, g0_10, g0_11, g0_12⟩ := row13 Tn.out.rf
      go_wp2_with fail
      refine (wordG sp false _).mono ?_
      rintro e m1_sp ⟨X1_sp, n1_sp, k1_sp, o1_sp, rfl, hbq⟩
      have T1_sp := hide (Tn.out.below hbq)
      clear hbq
      obtain ⟨w1sp_0, w1sp_1, w1sp_2, w1sp_3, w1sp_4, w1sp_5, w1sp_6, w1sp_7, w1sp_8, w1sp_9, w1sp_10, w1sp_11, w1sp_12⟩ := row13 T1_sp.out.rf
      go_wp2_with fail
      refine (wordG pm false _).mono ?_
      rintro e m1_pm ⟨X1_pm, n1_pm, k1_pm, o1_pm, rfl, hbq⟩
      have T1_pm := hide (T1_sp.out.below hbq)
      clear hbq
      obtain ⟨w1pm_0, w1pm_1, w1pm_2, w1pm_3, w1pm_4, w1pm_5, w1pm_6, w1pm_7, w1pm_8, w1pm_9, w1pm_10, w1pm_11, w1pm_12⟩ := row13 T1_pm.out.rf
      go_wp2_with fail
      go_ret2
      exact ⟨T1_pm.out.be, .inr ⟨fun h => HN.out h.2.2.1.2.1, rfl⟩⟩
    have Sla := hide (Sco.out.below hbq)
    have Rla := hide hr
    have Hla := hide hla
    have Rcola := hide (Rco.out.below hbq)
    clear hbq hr hla
    obtain ⟨hla_0, hla_1, hla_2, hla_3, hla_4, hla_5, hla_6, hla_7, hla_8, hla_9, hla_10, hla_11, hla_12⟩ := row13 Sla.out.rf
    go_wp2_with fail
    refine (word15 sp false _).mono ?_
    rintro e usp (⟨hsp, Asp, csp, rfl, hr, hbq⟩ | ⟨hsp, rfl, hbq⟩)
    rotate_left
    · skip
      have Tn := hide (Sla.out.below hbq)
      have HN := hide hsp
      clear hbq hsp
      obtain ⟨g1_0, g1_1, g1_2, g1_3, g1_4, g1_5, g1_6, g1_7, g1_8, g1_9, g1_10, g1_11, g1_12⟩ := row13 Tn.out.rf
      go_wp2_with fail
      refine (wordG pm false _).mono ?_
      rintro e m2_pm ⟨X2_pm, n2_pm, k2_pm, o2_pm, rfl, hbq⟩
      have T2_pm := hide (Tn.out.below hbq)
      clear hbq
      obtain ⟨w2pm_0, w2pm_1, w2pm_2, w2pm_3, w2pm_4, w2pm_5, w2pm_6, w2pm_7, w2pm_8, w2pm_9, w2pm_10, w2pm_11, w2pm_12⟩ := row13 T2_pm.out.rf
      go_wp2_with fail
      go_ret2
      exact ⟨T2_pm.out.be, .inr ⟨fun h => HN.out h.2.2.1.2.2.1, rfl⟩⟩
    have Ssp := hide (Sla.out.below hbq)
    have Rsp := hide hr
    have Hsp := hide hsp
    have Rcolasp := hide (Rcola.out.below hbq)
    have Rlasp := hide (Rla.out.below hbq)
    clear hbq hr hsp
    obtain ⟨hsp_0, hsp_1, hsp_2, hsp_3, hsp_4, hsp_5, hsp_6, hsp_7, hsp_8, hsp_9, hsp_10, hsp_11, hsp_12⟩ := row13 Ssp.out.rf
    go_wp2_with fail
    refine (word15 pm false _).mono ?_
    rintro e upm (⟨hpm, Apm, cpm, rfl, hr, hbq⟩ | ⟨hpm, rfl, hbq⟩)
    rotate_left
    · skip
      have Tn := hide (Ssp.out.below hbq)
      have HN := hide hpm
      clear hbq hpm
      obtain ⟨g2_0, g2_1, g2_2, g2_3, g2_4, g2_5, g2_6, g2_7, g2_8, g2_9, g2_10, g2_11, g2_12⟩ := row13 Tn.out.rf
      go_wp2_with fail
      go_ret2
      exact ⟨Tn.out.be, .inr ⟨fun h => HN.out h.2.2.1.2.2.2, rfl⟩⟩
    have Spm := hide (Ssp.out.below hbq)
    have Rpm := hide hr
    have Hpm := hide hpm
    have Rcolasppm := hide (Rcolasp.out.below hbq)
    have Rlasppm := hide (Rlasp.out.below hbq)
    have Rsppm := hide (Rsp.out.below hbq)
    clear hbq hr hpm
    obtain ⟨hpm_0, hpm_1, hpm_2, hpm_3, hpm_4, hpm_5, hpm_6, hpm_7, hpm_8, hpm_9, hpm_10, hpm_11, hpm_12⟩ := row13 Spm.out.rf
    by_cases t3 : T = 3
    · subst t3
      go_upto_region 31 with (first | (at_builtin; refine wp_app rfl (.tmp 116) (.tmp 117) _ rfl i0 0 1 Try.underlying22 hi hz0 hz1 hz2 (w.heap.size + 1) _ _ _ rfl Spm.out.ow Ac 4 cc (lF (numL co 4)) rfl Rcolasppm.out (by simp only [maxLen]; first | (simp [numL_len]; done) | (simp [numL_len]; omega) | omega) (by first | (simp [numL_len]; done) | (simp [numL_len]; omega) | omega) (by have := Spm.out.be.size; have hz := rowLt Spm.out.rf; omega) ?_; intro v46 u46 ho46 hg46; have S46 := hide (Spm.out.app ho46 hg46 rfl rfl rfl (fun _ _ => rfl)); obtain ⟨A46_, c46_, rfl, _, _⟩ := ho46.rd; clear ho46 hg46))
      obtain ⟨p_0, p_1, p_2, p_3, p_4, p_5, p_6, p_7, p_8, p_9, p_10, p_11, p_12⟩ := row13 S46.out.rf
      have hpl : (L0 ++ (numL co 4)).length ≤ 6006 := by first | (simp [numL_len]; done) | (simp [numL_len]; omega) | omega
      obtain ⟨L, hL⟩ : ∃ L, L = (L0 ++ (numL co 4)) := ⟨_, rfl⟩
      have SL_ := S46.out
      rw [← hL] at SL_ hpl
      have SL := hide SL_
      have HL := hide hL
      clear hL SL_
      have hsz := rowLt SL.out.rf
      go_upto_region 32 with (first | (at_builtin; refine wp_app rfl (.tmp 149) (.tmp 151) _ rfl i0 0 1 Try.underlying22 hi hz0 hz1 hz2 (w.heap.size + 1) _ _ _ rfl SL.out.ow A2 nd c2 (lF ((List.range nd).map d)) rfl (rd_list (HD.out.below SL.out.be)) (by simp only [maxLen]; omega) (by omega) (by have := SL.out.be.size; have := rowLt SL.out.rf; omega) ?_; intro v47 u47 ho47 hg47; have S47 := hide (SL.out.app ho47 hg47 rfl (by simp) rfl (fun _ _ => rfl)); obtain ⟨A47_, c47_, rfl, _, _⟩ := ho47.rd; clear ho47 hg47))
      obtain ⟨r_0, r_1, r_2, r_3, r_4, r_5, r_6, r_7, r_8, r_9, r_10, r_11, r_12⟩ := row13 S47.out.rf
      go_wp2_with fail
      refine (rhasA_3 3 fl hfl _).mono ?_
      rintro e uu ⟨rfl, rfl⟩
      rw [e3]
      obtain ⟨N, rfl⟩ : ∃ N : Nat, pad = (N : Int) := ⟨pad.toNat, by have h := HP.out; omega⟩
      have hN : N ≤ 255 := by have h := HP.out; omega
      go_wp2_with (first | (at_builtin; refine wp_appZ rfl (.tmp 158) (.tmp 160) _ _ 9 rfl i0 Try.underlying22 Try.underlying3 Try.underlying9 hi hz0 hz1 hz2 (w.heap.size + 1) _ _ _ rfl S47.out.ow N rfl (by rw [List.length_append, List.length_map, List.length_range]; omega) (by have := rowLt S47.out.rf; omega) ?_; intro v48 u48 ho48 hg48; have S48 := hide (S47.out.app (M := List.replicate N 0) ho48 hg48 rfl (by simp) rfl (fun i hi => (rep_F N i hi).symm)); obtain ⟨A48_, c48_, rfl, _, _⟩ := ho48.rd; clear ho48 hg48))
      go_ret2
      have hem : (⟨3, fl, st, (N : Int), nd, d, ns, s, g, wt, pa, al, pm, la, co, sp⟩ : Fm5).emL = L ++ (List.range nd).map d ++ List.replicate N 0 := by
        rw [HL.out, HL0.out]
        simp [Fm5.emL, Fm5.padL, Fm5.prL, Fm5.tyL, Fm5.dL, Fm5.zL, Fm5.setL, hP3.out, hP5.out, wrd5_f, hT]
      have hfin := S48.out.rd
      refine ⟨S48.out.be, .inl ⟨⟨fun _ => HP.out, fun _ => ⟨HPA.out.1, HPA.out.2, HWT.out.1, HWT.out.2⟩, ⟨HCO.out, Hla.out, Hsp.out, Hpm.out⟩, fun (h : (3 : Int) = 4) => absurd h (by decide)⟩, A48_, c48_, ?_, by rw [hem]; exact hfin.2⟩⟩
      have hn2 : L.length + nd + N = (L ++ (List.range nd).map d ++ List.replicate N 0).length := by simp; omega
      rw [hem, ← hn2]
      rfl
    have n3 : (T == 3) = false := by simpa using t3
    by_cases t4 : T = 4
    · subst t4
      go_wp2_with fail
      refine (rsput_any A3 ns c3 s g _ (HS2.out.below Spm.out.be) (by omega)).mono ?_
      rintro e Us (⟨hyes, As, cs, rfl, hrs, hbs⟩ | ⟨hno, rfl, hbs⟩)
      rotate_left
      · have Tn := hide (Spm.out.below hbs)
        have HN := hide hno
        clear hbs hno
        go_wp2_with fail
        go_ret2
        exact ⟨Tn.out.be, .inr ⟨fun h => HN.out (h.2.2.2 rfl), rfl⟩⟩
      have HY := hide hyes
      have Ss := hide (Spm.out.below hbs)
      have Rs := hide (sb_list hrs)
      clear hyes hrs hbs
      obtain ⟨j_0, j_1, j_2, j_3, j_4, j_5, j_6, j_7, j_8, j_9, j_10, j_11, j_12⟩ := row13 Ss.out.rf
      go_upto_region 31 with (first | (at_builtin; refine wp_app rfl (.tmp 129) (.tmp 130) _ rfl i0 0 1 Try.underlying22 hi hz0 hz1 hz2 (w.heap.size + 1) _ _ _ rfl Ss.out.ow As (ns * 6) cs (lF ((List.range (ns * 6)).map (sB s g))) rfl Rs.out (by simp only [maxLen]; first | (simp [numL_len]; done) | (simp [numL_len]; omega) | omega) (by first | (simp [numL_len]; done) | (simp [numL_len]; omega) | omega) (by have := Ss.out.be.size; have hz := rowLt Ss.out.rf; omega) ?_; intro v49 u49 ho49 hg49; have S49 := hide (Ss.out.app ho49 hg49 rfl (by simp) rfl (fun _ _ => rfl)); obtain ⟨A49_, c49_, rfl, _, _⟩ := ho49.rd; clear ho49 hg49))
      obtain ⟨p_0, p_1, p_2, p_3, p_4, p_5, p_6, p_7, p_8, p_9, p_10, p_11, p_12⟩ := row13 S49.out.rf
      have hpl : (L0 ++ (List.range (ns * 6)).map (sB s g)).length ≤ 6006 := by first | (simp [numL_len]; done) | (simp [numL_len]; omega) | omega
      obtain ⟨L, hL⟩ : ∃ L, L = (L0 ++ (List.range (ns * 6)).map (sB s g)) := ⟨_, rfl⟩
      have SL_ := S49.out
      rw [← hL] at SL_ hpl
      have SL := hide SL_
      have HL := hide hL
      clear hL SL_
      have hsz := rowLt SL.out.rf
      go_upto_region 32 with (first | (at_builtin; refine wp_app rfl (.tmp 149) (.tmp 151) _ rfl i0 0 1 Try.underlying22 hi hz0 hz1 hz2 (w.heap.size + 1) _ _ _ rfl SL.out.ow A2 nd c2 (lF ((List.range nd).map d)) rfl (rd_list (HD.out.below SL.out.be)) (by simp only [maxLen]; omega) (by omega) (by have := SL.out.be.size; have := rowLt SL.out.rf; omega) ?_; intro v50 u50 ho50 hg50; have S50 := hide (SL.out.app ho50 hg50 rfl (by simp) rfl (fun _ _ => rfl)); obtain ⟨A50_, c50_, rfl, _, _⟩ := ho50.rd; clear ho50 hg50))
      obtain ⟨r_0, r_1, r_2, r_3, r_4, r_5, r_6, r_7, r_8, r_9, r_10, r_11, r_12⟩ := row13 S50.out.rf
      go_wp2_with fail
      refine (rhasA_3 4 fl hfl _).mono ?_
      rintro e uu ⟨rfl, rfl⟩
      rw [e3]
      obtain ⟨N, rfl⟩ : ∃ N : Nat, pad = (N : Int) := ⟨pad.toNat, by have h := HP.out; omega⟩
      have hN : N ≤ 255 := by have h := HP.out; omega
      go_wp2_with (first | (at_builtin; refine wp_appZ rfl (.tmp 158) (.tmp 160) _ _ 9 rfl i0 Try.underlying22 Try.underlying3 Try.underlying9 hi hz0 hz1 hz2 (w.heap.size + 1) _ _ _ rfl S50.out.ow N rfl (by rw [List.length_append, List.length_map, List.length_range]; omega) (by have := rowLt S50.out.rf; omega) ?_; intro v51 u51 ho51 hg51; have S51 := hide (S50.out.app (M := List.replicate N 0) ho51 hg51 rfl (by simp) rfl (fun i hi => (rep_F N i hi).symm)); obtain ⟨A51_, c51_, rfl, _, _⟩ := ho51.rd; clear ho51 hg51))
      go_ret2
      have hem : (⟨4, fl, st, (N : Int), nd, d, ns, s, g, wt, pa, al, pm, la, co, sp⟩ : Fm5).emL = L ++ (List.range nd).map d ++ List.replicate N 0 := by
        rw [HL.out, HL0.out]
        simp [Fm5.emL, Fm5.padL, Fm5.prL, Fm5.tyL, Fm5.dL, Fm5.zL, Fm5.setL, hP3.out, hP5.out, wrd5_f, hT]
      have hfin := S51.out.rd
      refine ⟨S51.out.be, .inl ⟨⟨fun _ => HP.out, fun _ => ⟨HPA.out.1, HPA.out.2, HWT.out.1, HWT.out.2⟩, ⟨HCO.out, Hla.out, Hsp.out, Hpm.out⟩, fun _ => HY.out⟩, A51_, c51_, ?_, by rw [hem]; exact hfin.2⟩⟩
      have hn2 : L.length + nd + N = (L ++ (List.range nd).map d ++ List.replicate N 0).length := by simp; omega
      rw [hem, ← hn2]
      rfl
    have n4 : (T == 4) = false := by simpa using t4
    by_cases t5 : T = 5
    · subst t5
      go_upto_region 31 with (first | (at_builtin; refine wp_app rfl (.tmp 134) (.tmp 135) _ rfl i0 0 1 Try.underlying22 hi hz0 hz1 hz2 (w.heap.size + 1) _ _ _ rfl Spm.out.ow Apm 4 cpm (lF (numL (wrd5 pm false) 4)) rfl Rpm.out (by simp only [maxLen]; first | (simp [numL_len]; done) | (simp [numL_len]; omega) | omega) (by first | (simp [numL_len]; done) | (simp [numL_len]; omega) | omega) (by have := Spm.out.be.size; have hz := rowLt Spm.out.rf; omega) ?_; intro v52 u52 ho52 hg52; have S52 := hide (Spm.out.app ho52 hg52 rfl rfl rfl (fun _ _ => rfl)); obtain ⟨A52_, c52_, rfl, _, _⟩ := ho52.rd; clear ho52 hg52))
      obtain ⟨p_0, p_1, p_2, p_3, p_4, p_5, p_6, p_7, p_8, p_9, p_10, p_11, p_12⟩ := row13 S52.out.rf
      have hpl : (L0 ++ (numL (wrd5 pm false) 4)).length ≤ 6006 := by first | (simp [numL_len]; done) | (simp [numL_len]; omega) | omega
      obtain ⟨L, hL⟩ : ∃ L, L = (L0 ++ (numL (wrd5 pm false) 4)) := ⟨_, rfl⟩
      have SL_ := S52.out
      rw [← hL] at SL_ hpl
      have SL := hide SL_
      have HL := hide hL
      clear hL SL_
      have hsz := rowLt SL.out.rf
      go_upto_region 32 with (first | (at_builtin; refine wp_app rfl (.tmp 149) (.tmp 151) _ rfl i0 0 1 Try.underlying22 hi hz0 hz1 hz2 (w.heap.size + 1) _ _ _ rfl SL.out.ow A2 nd c2 (lF ((List.range nd).map d)) rfl (rd_list (HD.out.below SL.out.be)) (by simp only [maxLen]; omega) (by omega) (by have := SL.out.be.size; have := rowLt SL.out.rf; omega) ?_; intro v53 u53 ho53 hg53; have S53 := hide (SL.out.app ho53 hg53 rfl (by simp) rfl (fun _ _ => rfl)); obtain ⟨A53_, c53_, rfl, _, _⟩ := ho53.rd; clear ho53 hg53))
      obtain ⟨r_0, r_1, r_2, r_3, r_4, r_5, r_6, r_7, r_8, r_9, r_10, r_11, r_12⟩ := row13 S53.out.rf
      go_wp2_with fail
      refine (rhasA_3 5 fl hfl _).mono ?_
      rintro e uu ⟨rfl, rfl⟩
      rw [e3]
      obtain ⟨N, rfl⟩ : ∃ N : Nat, pad = (N : Int) := ⟨pad.toNat, by have h := HP.out; omega⟩
      have hN : N ≤ 255 := by have h := HP.out; omega
      go_wp2_with (first | (at_builtin; refine wp_appZ rfl (.tmp 158) (.tmp 160) _ _ 9 rfl i0 Try.underlying22 Try.underlying3 Try.underlying9 hi hz0 hz1 hz2 (w.heap.size + 1) _ _ _ rfl S53.out.ow N rfl (by rw [List.length_append, List.length_map, List.length_range]; omega) (by have := rowLt S53.out.rf; omega) ?_; intro v54 u54 ho54 hg54; have S54 := hide (S53.out.app (M := List.replicate N 0) ho54 hg54 rfl (by simp) rfl (fun i hi => (rep_F N i hi).symm)); obtain ⟨A54_, c54_, rfl, _, _⟩ := ho54.rd; clear ho54 hg54))
      go_ret2
      have hem : (⟨5, fl, st, (N : Int), nd, d, ns, s, g, wt, pa, al, pm, la, co, sp⟩ : Fm5).emL = L ++ (List.range nd).map d ++ List.replicate N 0 := by
        rw [HL.out, HL0.out]
        simp [Fm5.emL, Fm5.padL, Fm5.prL, Fm5.tyL, Fm5.dL, Fm5.zL, Fm5.setL, hP3.out, hP5.out, wrd5_f, hT]
      have hfin := S54.out.rd
      refine ⟨S54.out.be, .inl ⟨⟨fun _ => HP.out, fun _ => ⟨HPA.out.1, HPA.out.2, HWT.out.1, HWT.out.2⟩, ⟨HCO.out, Hla.out, Hsp.out, Hpm.out⟩, fun (h : (5 : Int) = 4) => absurd h (by decide)⟩, A54_, c54_, ?_, by rw [hem]; exact hfin.2⟩⟩
      have hn2 : L.length + nd + N = (L ++ (List.range nd).map d ++ List.replicate N 0).length := by simp; omega
      rw [hem, ← hn2]
      rfl
    have n5 : (T == 5) = false := by simpa using t5
    by_cases t7 : T = 7
    · subst t7
      go_upto_region 31 with (first | (at_builtin; refine wp_app rfl (.tmp 141) (.tmp 142) _ rfl i0 0 1 Try.underlying22 hi hz0 hz1 hz2 (w.heap.size + 1) _ _ _ rfl Sb.out.ow Ac 4 cc (lF (numL co 4)) rfl RX.out (by simp only [maxLen]; first | (simp [numL_len]; done) | (simp [numL_len]; omega) | omega) (by first | (simp [numL_len]; done) | (simp [numL_len]; omega) | omega) (by have := Sb.out.be.size; have hz := rowLt Sb.out.rf; omega) ?_; intro v56 u56 ho56 hg56; have S56 := hide (Sb.out.app ho56 hg56 rfl rfl rfl (fun _ _ => rfl)); obtain ⟨A56_, c56_, rfl, _, _⟩ := ho56.rd; clear ho56 hg56) | (at_builtin; refine wp_app rfl (.tmp 139) (.tmp 140) _ rfl i0 0 1 Try.underlying22 hi hz0 hz1 hz2 (w.heap.size + 1) _ _ _ rfl Spm.out.ow Ala 4 cla (lF (numL (wrd5 la false) 4)) rfl Rlasppm.out (by simp only [maxLen]; first | (simp [numL_len]; done) | (simp [numL_len]; omega) | omega) (by first | (simp [numL_len]; done) | (simp [numL_len]; omega) | omega) (by have := Spm.out.be.size; have hz := rowLt Spm.out.rf; omega) ?_; intro v55 u55 ho55 hg55; have S55 := hide (Spm.out.app ho55 hg55 rfl rfl rfl (fun _ _ => rfl)); obtain ⟨A55_, c55_, rfl, _, _⟩ := ho55.rd; have RX := hide (rd_grown5 Rcolasppm.out hg55 HNE.out); obtain ⟨L1, hL1⟩ : ∃ L1, L1 = (L0 ++ (numL (wrd5 la false) 4)) := ⟨_, rfl⟩; have Sb_ := S55.out; rw [← hL1] at Sb_; have Sb := hide Sb_; have hl1 : L1.length ≤ 10 := (by rw [hL1]; have := hl0; simp [numL_len]; omega); have HL1 := hide hL1; clear hL1 Sb_ ho55 hg55))
      obtain ⟨p_0, p_1, p_2, p_3, p_4, p_5, p_6, p_7, p_8, p_9, p_10, p_11, p_12⟩ := row13 S56.out.rf
      have hpl : (L1 ++ (numL co 4)).length ≤ 6006 := by first | (simp [numL_len]; done) | (simp [numL_len]; omega) | omega
      obtain ⟨L, hL⟩ : ∃ L, L = (L1 ++ (numL co 4)) := ⟨_, rfl⟩
      have SL_ := S56.out
      rw [← hL] at SL_ hpl
      have SL := hide SL_
      have HL := hide hL
      clear hL SL_
      have hsz := rowLt SL.out.rf
      go_upto_region 32 with (first | (at_builtin; refine wp_app rfl (.tmp 149) (.tmp 151) _ rfl i0 0 1 Try.underlying22 hi hz0 hz1 hz2 (w.heap.size + 1) _ _ _ rfl SL.out.ow A2 nd c2 (lF ((List.range nd).map d)) rfl (rd_list (HD.out.below SL.out.be)) (by simp only [maxLen]; omega) (by omega) (by have := SL.out.be.size; have := rowLt SL.out.rf; omega) ?_; intro v57 u57 ho57 hg57; have S57 := hide (SL.out.app ho57 hg57 rfl (by simp) rfl (fun _ _ => rfl)); obtain ⟨A57_, c57_, rfl, _, _⟩ := ho57.rd; clear ho57 hg57))
      obtain ⟨r_0, r_1, r_2, r_3, r_4, r_5, r_6, r_7, r_8, r_9, r_10, r_11, r_12⟩ := row13 S57.out.rf
      go_wp2_with fail
      refine (rhasA_3 7 fl hfl _).mono ?_
      rintro e uu ⟨rfl, rfl⟩
      rw [e3]
      obtain ⟨N, rfl⟩ : ∃ N : Nat, pad = (N : Int) := ⟨pad.toNat, by have h := HP.out; omega⟩
      have hN : N ≤ 255 := by have h := HP.out; omega
      go_wp2_with (first | (at_builtin; refine wp_appZ rfl (.tmp 158) (.tmp 160) _ _ 9 rfl i0 Try.underlying22 Try.underlying3 Try.underlying9 hi hz0 hz1 hz2 (w.heap.size + 1) _ _ _ rfl S57.out.ow N rfl (by rw [List.length_append, List.length_map, List.length_range]; omega) (by have := rowLt S57.out.rf; omega) ?_; intro v58 u58 ho58 hg58; have S58 := hide (S57.out.app (M := List.replicate N 0) ho58 hg58 rfl (by simp) rfl (fun i hi => (rep_F N i hi).symm)); obtain ⟨A58_, c58_, rfl, _, _⟩ := ho58.rd; clear ho58 hg58))
      go_ret2
      have hem : (⟨7, fl, st, (N : Int), nd, d, ns, s, g, wt, pa, al, pm, la, co, sp⟩ : Fm5).emL = L ++ (List.range nd).map d ++ List.replicate N 0 := by
        rw [HL.out, HL1.out, HL0.out]
        simp [Fm5.emL, Fm5.padL, Fm5.prL, Fm5.tyL, Fm5.dL, Fm5.zL, Fm5.setL, hP3.out, hP5.out, wrd5_f, hT]
      have hfin := S58.out.rd
      refine ⟨S58.out.be, .inl ⟨⟨fun _ => HP.out, fun _ => ⟨HPA.out.1, HPA.out.2, HWT.out.1, HWT.out.2⟩, ⟨HCO.out, Hla.out, Hsp.out, Hpm.out⟩, fun (h : (7 : Int) = 4) => absurd h (by decide)⟩, A58_, c58_, ?_, by rw [hem]; exact hfin.2⟩⟩
      have hn2 : L.length + nd + N = (L ++ (List.range nd).map d ++ List.replicate N 0).length := by simp; omega
      rw [hem, ← hn2]
      rfl
    have n7 : (T == 7) = false := by simpa using t7
    by_cases t8 : T = 8
    · subst t8
      go_upto_region 31 with (first | (at_builtin; refine wp_app rfl (.tmp 146) (.tmp 147) _ rfl i0 0 1 Try.underlying22 hi hz0 hz1 hz2 (w.heap.size + 1) _ _ _ rfl Spm.out.ow Asp 4 csp (lF (numL (wrd5 sp false) 4)) rfl Rsppm.out (by simp only [maxLen]; first | (simp [numL_len]; done) | (simp [numL_len]; omega) | omega) (by first | (simp [numL_len]; done) | (simp [numL_len]; omega) | omega) (by have := Spm.out.be.size; have hz := rowLt Spm.out.rf; omega) ?_; intro v59 u59 ho59 hg59; have S59 := hide (Spm.out.app ho59 hg59 rfl rfl rfl (fun _ _ => rfl)); obtain ⟨A59_, c59_, rfl, _, _⟩ := ho59.rd; clear ho59 hg59))
      obtain ⟨p_0, p_1, p_2, p_3, p_4, p_5, p_6, p_7, p_8, p_9, p_10, p_11, p_12⟩ := row13 S59.out.rf
      have hpl : (L0 ++ (numL (wrd5 sp false) 4)).length ≤ 6006 := by first | (simp [numL_len]; done) | (simp [numL_len]; omega) | omega
      obtain ⟨L, hL⟩ : ∃ L, L = (L0 ++ (numL (wrd5 sp false) 4)) := ⟨_, rfl⟩
      have SL_ := S59.out
      rw [← hL] at SL_ hpl
      have SL := hide SL_
      have HL := hide hL
      clear hL SL_
      have hsz := rowLt SL.out.rf
      go_upto_region 32 with (first | (at_builtin; refine wp_app rfl (.tmp 149) (.tmp 151) _ rfl i0 0 1 Try.underlying22 hi hz0 hz1 hz2 (w.heap.size + 1) _ _ _ rfl SL.out.ow A2 nd c2 (lF ((List.range nd).map d)) rfl (rd_list (HD.out.below SL.out.be)) (by simp only [maxLen]; omega) (by omega) (by have := SL.out.be.size; have := rowLt SL.out.rf; omega) ?_; intro v60 u60 ho60 hg60; have S60 := hide (SL.out.app ho60 hg60 rfl (by simp) rfl (fun _ _ => rfl)); obtain ⟨A60_, c60_, rfl, _, _⟩ := ho60.rd; clear ho60 hg60))
      obtain ⟨r_0, r_1, r_2, r_3, r_4, r_5, r_6, r_7, r_8, r_9, r_10, r_11, r_12⟩ := row13 S60.out.rf
      go_wp2_with fail
      refine (rhasA_3 8 fl hfl _).mono ?_
      rintro e uu ⟨rfl, rfl⟩
      rw [e3]
      obtain ⟨N, rfl⟩ : ∃ N : Nat, pad = (N : Int) := ⟨pad.toNat, by have h := HP.out; omega⟩
      have hN : N ≤ 255 := by have h := HP.out; omega
      go_wp2_with (first | (at_builtin; refine wp_appZ rfl (.tmp 158) (.tmp 160) _ _ 9 rfl i0 Try.underlying22 Try.underlying3 Try.underlying9 hi hz0 hz1 hz2 (w.heap.size + 1) _ _ _ rfl S60.out.ow N rfl (by rw [List.length_append, List.length_map, List.length_range]; omega) (by have := rowLt S60.out.rf; omega) ?_; intro v61 u61 ho61 hg61; have S61 := hide (S60.out.app (M := List.replicate N 0) ho61 hg61 rfl (by simp) rfl (fun i hi => (rep_F N i hi).symm)); obtain ⟨A61_, c61_, rfl, _, _⟩ := ho61.rd; clear ho61 hg61))
      go_ret2
      have hem : (⟨8, fl, st, (N : Int), nd, d, ns, s, g, wt, pa, al, pm, la, co, sp⟩ : Fm5).emL = L ++ (List.range nd).map d ++ List.replicate N 0 := by
        rw [HL.out, HL0.out]
        simp [Fm5.emL, Fm5.padL, Fm5.prL, Fm5.tyL, Fm5.dL, Fm5.zL, Fm5.setL, hP3.out, hP5.out, wrd5_f, hT]
      have hfin := S61.out.rd
      refine ⟨S61.out.be, .inl ⟨⟨fun _ => HP.out, fun _ => ⟨HPA.out.1, HPA.out.2, HWT.out.1, HWT.out.2⟩, ⟨HCO.out, Hla.out, Hsp.out, Hpm.out⟩, fun (h : (8 : Int) = 4) => absurd h (by decide)⟩, A61_, c61_, ?_, by rw [hem]; exact hfin.2⟩⟩
      have hn2 : L.length + nd + N = (L ++ (List.range nd).map d ++ List.replicate N 0).length := by simp; omega
      rw [hem, ← hn2]
      rfl
    have n8 : (T == 8) = false := by simpa using t8
    go_upto_region 31 with (fail)
    obtain ⟨p_0, p_1, p_2, p_3, p_4, p_5, p_6, p_7, p_8, p_9, p_10, p_11, p_12⟩ := row13 Spm.out.rf
    have hpl : L0.length ≤ 6006 := by first | (simp [numL_len]; done) | (simp [numL_len]; omega) | omega
    obtain ⟨L, hL⟩ : ∃ L, L = L0 := ⟨_, rfl⟩
    have SL_ := Spm.out
    rw [← hL] at SL_ hpl
    have SL := hide SL_
    have HL := hide hL
    clear hL SL_
    have hsz := rowLt SL.out.rf
    go_upto_region 32 with (first | (at_builtin; refine wp_app rfl (.tmp 149) (.tmp 151) _ rfl i0 0 1 Try.underlying22 hi hz0 hz1 hz2 (w.heap.size + 1) _ _ _ rfl SL.out.ow A2 nd c2 (lF ((List.range nd).map d)) rfl (rd_list (HD.out.below SL.out.be)) (by simp only [maxLen]; omega) (by omega) (by have := SL.out.be.size; have := rowLt SL.out.rf; omega) ?_; intro v62 u62 ho62 hg62; have S62 := hide (SL.out.app ho62 hg62 rfl (by simp) rfl (fun _ _ => rfl)); obtain ⟨A62_, c62_, rfl, _, _⟩ := ho62.rd; clear ho62 hg62))
    obtain ⟨r_0, r_1, r_2, r_3, r_4, r_5, r_6, r_7, r_8, r_9, r_10, r_11, r_12⟩ := row13 S62.out.rf
    go_wp2_with fail
    refine (rhasA_3 T fl hfl _).mono ?_
    rintro e uu ⟨rfl, rfl⟩
    rw [e3]
    obtain ⟨N, rfl⟩ : ∃ N : Nat, pad = (N : Int) := ⟨pad.toNat, by have h := HP.out; omega⟩
    have hN : N ≤ 255 := by have h := HP.out; omega
    go_wp2_with (first | (at_builtin; refine wp_appZ rfl (.tmp 158) (.tmp 160) _ _ 9 rfl i0 Try.underlying22 Try.underlying3 Try.underlying9 hi hz0 hz1 hz2 (w.heap.size + 1) _ _ _ rfl S62.out.ow N rfl (by rw [List.length_append, List.length_map, List.length_range]; omega) (by have := rowLt S62.out.rf; omega) ?_; intro v63 u63 ho63 hg63; have S63 := hide (S62.out.app (M := List.replicate N 0) ho63 hg63 rfl (by simp) rfl (fun i hi => (rep_F N i hi).symm)); obtain ⟨A63_, c63_, rfl, _, _⟩ := ho63.rd; clear ho63 hg63))
    go_ret2
    have hem : (⟨T, fl, st, (N : Int), nd, d, ns, s, g, wt, pa, al, pm, la, co, sp⟩ : Fm5).emL = L ++ (List.range nd).map d ++ List.replicate N 0 := by
      rw [HL.out, HL0.out]
      simp [Fm5.emL, Fm5.padL, Fm5.prL, Fm5.tyL, Fm5.dL, Fm5.zL, Fm5.setL, hP3.out, hP5.out, wrd5_f, t3, t4, t5, t7, t8]
    have hfin := S63.out.rd
    refine ⟨S63.out.be, .inl ⟨⟨fun _ => HP.out, fun _ => ⟨HPA.out.1, HPA.out.2, HWT.out.1, HWT.out.2⟩, ⟨HCO.out, Hla.out, Hsp.out, Hpm.out⟩, fun h => absurd h t4⟩, A63_, c63_, ?_, by rw [hem]; exact hfin.2⟩⟩
    have hn2 : L.length + nd + N = (L ++ (List.range nd).map d ++ List.replicate N 0).length := by simp; omega
    rw [hem, ← hn2]
    rfl
end Go.Proofs.Ytpnjamomkpkkeaa
