/- Layer 23: the table is bounded. -/
import Derived.Test.YtnkcbljhgcgpaaaDoorDee
namespace Go.Proofs.YtnkcbljhgcgpaaaDoor
set_option linter.unusedVariables false
set_option linter.unusedSimpArgs false
open Go.RowKit Go.Deep Go.ChangeShapes Go.WideShapes

theorem sumL_cons (f : Fd) (l : List Fd) : sumL (f :: l) = wt f + sumL l := by
  unfold sumL
  rw [List.length_cons, sumW_first, fn_shift, fn_zero]
theorem sumL_fit : ∀ (l : List Fd) (most : Int), 0 ≤ most → (sumL (fitL most l) : Int) ≤ most
  | [], most, h => by show ((0 : Nat) : Int) ≤ most; omega
  | f :: r, most, h => by
    by_cases e : (wt f : Int) ≤ most
    · rw [fitL_cons_yes e, sumL_cons]
      have := sumL_fit r (most - (wt f : Int)) (by omega)
      omega
    · rw [fitL_cons_no e]
      show ((0 : Nat) : Int) ≤ most
      omega
theorem sumL_add (mx : Nat) (f : Fd) (l : List Fd) : sumL (addL mx f l) ≤ mx := by
  unfold addL
  by_cases h : mx < wt f
  · rw [if_pos h]; exact Nat.zero_le _
  · rw [if_neg h, sumL_cons]
    have h1 := sumL_fit l ((mx : Int) - (wt f : Int)) (by omega)
    have h2 : wt (Fd.mk f.name f.val false) = wt f := rfl
    omega
/-- The max is the last size told, if there is one; the table is within it. -/
def BdS (m0 : Nat) (σ : Ds) : Prop := sumL σ.tb ≤ σ.mx ∧ ((σ.szs.length = 0 ∧ σ.mx = m0) ∨ (0 < σ.szs.length ∧ σ.szs.getD (σ.szs.length - 1) 0 = (σ.mx : Int)))
theorem DcR.bds {f : Nat → Int} {n t m0 : Nat} {σ σ' : Ds} (h : DcR f n t σ (.inl σ')) (hb : Byt n f) (hn : n ≤ 100000) (hs : BdS m0 σ) : BdS m0 σ' := by
  generalize hr : (Sum.inl σ' : Ds ⊕ Int) = r at h
  induction h with
  | done h1 => cases hr; exact hs
  | bad _ _ _ => cases hr
  | fault _ _ _ => cases hr
  | @go t σ σ1 k i z m ns vs a b r h1 hg he _ ih =>
    have hq := gtr_rng (fun j hj => hb _ (by omega)) hg
    refine ih ?_ hr
    unfold dstep at he
    by_cases h5 : k = 5
    · rw [if_pos h5] at he
      by_cases h6 : σ.fs.length = 0
      · rw [if_pos h6] at he
        cases he
        refine ⟨?_, .inr ⟨by simp, ?_⟩⟩
        · have := sumL_fit σ.tb z (by omega)
          show sumL (fitL z σ.tb) ≤ z.toNat
          omega
        · show (σ.szs ++ [z]).getD ((σ.szs ++ [z]).length - 1) 0 = ((z.toNat : Nat) : Int)
          rw [List.getD_eq_getElem?_getD, List.getElem?_append_right (by simp), show (σ.szs ++ [z]).length - 1 - σ.szs.length = 0 by simp]
          show z = _
          omega
      · rw [if_neg h6] at he; cases he
    · rw [if_neg h5] at he
      cases hd : dfld σ.tb k i ns vs with
      | none => rw [hd] at he; cases he
      | some f =>
        rw [hd] at he
        simp only [Sum.inl.injEq] at he
        subst he
        refine ⟨?_, hs.2⟩
        show sumL (if k = 2 then _ else _) ≤ σ.mx
        by_cases h2 : k = 2
        · rw [if_pos h2]; exact sumL_add _ _ _
        · rw [if_neg h2]; exact hs.1
/-- What a block does to the max, as the law sees it. -/
theorem out_bds {f : Nat → Int} {n mx : Nat} {tb : List Fd} {r : Ds ⊕ Int} (h : DcR f n 0 ⟨[], [], mx, tb⟩ r) (hb : Byt n f) (hn : n ≤ 100000) (hs : sumL tb ≤ mx) :
    sumL (oT tb r) ≤ oM mx r ∧ (((oS r).length = 0 ∧ oM mx r = mx) ∨ (0 < (oS r).length ∧ oE r = 0 ∧ (oS r).getD ((oS r).length - 1) 0 = (oM mx r : Int))) := by
  cases r with
  | inr er => exact ⟨hs, .inl ⟨rfl, rfl⟩⟩
  | inl σ =>
    have h1 := h.bds hb hn (m0 := mx) ⟨hs, .inl ⟨rfl, rfl⟩⟩
    exact ⟨h1.1, h1.2.imp id fun h => ⟨h.1, rfl, h.2⟩⟩
structure BdK (w : World) (p : Nat) (W : World) (g : Option Nat) (mx : Nat) (tb : List Fd) (T : Nat) : Prop where
  tl : TL w.heap.size W p g mx tb
  e : Below w.heap.size w W
  sm : ∀ f ∈ tb, SmF f
  len : tb.length ≤ T
  bd : sumL tb ≤ mx
theorem BdK.below {w W W' : World} {p : Nat} {g : Option Nat} {mx : Nat} {tb : List Fd} {T : Nat} (h : BdK w p W g mx tb T) (hb : Below W.heap.size W W') : BdK w p W' g mx tb T :=
  ⟨h.tl.below hb, h.e.of hb, h.sm, h.len, h.bd⟩
set_option maxRecDepth 20000 in
set_option maxHeartbeats 12800000 in
theorem bounds_walk23 (mx : Int) (A : Option Addr) (n c : Nat) (F : Nat → Bb) (w : World) (ha : RdBb w A n c F) (T : TypeId) (fr : Nat × Nat) (hg : w.heap[0]? = some (.cells formsV T fr)) :
    Calls Tryd.prog 4 #[.int .i64 mx, .slice A n c] w (Yes w) := by
  have G0 := hide hg
  have hgl := rowLt hg
  have Ha := hide ha
  have hn63 : (n : Int) ≤ 9223372036854775807 := by have h1 := ha.1; have h2 := ha.2.1; simp only [maxLen] at h2; omega
  clear hg ha
  go_enter Tryd.func4, Tryd.ntmps4
  go_wp2_with fail
  refine (large23 Ha.out).mono ?_
  rintro e w0 ⟨h1, rfl⟩
  rcases h1 with rfl | ⟨rfl, h20, hsm⟩
  · go_wp2_with fail
    refine (alive23 _ T fr G0.out).mono ?_
    rintro e wz ⟨rfl, hbz⟩
    have HBz := hide hbz
    clear hbz
    go_wp2_with fail
    go_ret
    exact ⟨rfl, HBz.out⟩
  have H20 := hide h20
  have HSm := hide hsm
  clear h20 hsm
  by_cases hmx : 0 ≤ mx ∧ mx ≤ 2147483647
  rotate_left
  · go_wp2_with fail
    refine (dnewNo mx hmx w).mono ?_
    rintro e w1 ⟨rfl, rfl⟩
    go_wp2_with fail
    refine (alive23 _ T fr G0.out).mono ?_
    rintro e wz ⟨rfl, hbz⟩
    have HBz := hide hbz
    clear hbz
    go_wp2_with fail
    go_ret
    exact ⟨rfl, HBz.out⟩
  obtain ⟨m0, rfl⟩ : ∃ m0 : Nat, mx = (m0 : Int) := ⟨mx.toNat, by omega⟩
  go_wp2_with fail
  refine (dnew m0 (by omega) w).mono ?_
  rintro e w1 ⟨p, rfl, ht1, hb1⟩
  have P0 : Hid (BdK w p w1 none m0 [] (120 * 0)) := ⟨ht1, hb1, fun f hf => absurd hf (by simp), Nat.le_refl _, Nat.zero_le _⟩
  have hpw : w.heap.size ≤ p ∧ p < w1.heap.size := ht1.lt p (.inl rfl)
  have hm2 : m0 ≤ 2147483647 := by omega
  have hfp : Hid (0 ≠ p) := by show _ ≠ _; omega
  have hfl : Hid (0 < w.heap.size) := hgl
  clear ht1 hb1 hmx hgl hpw
  go_wp2_with fail
  go_loopw [7, 29] (fun last i wr => ∃ k : Nat, k ≤ n ∧ i = .int .i64 k ∧ ∃ (g : Option Nat) (mx : Nat) (tb : List Fd), last = .int .i64 (mx : Int) ∧ BdK w p wr g mx tb (120 * k)) (fun _ i _ => n - (intOf i).toNat)
  case atStart => exact ⟨0, Nat.zero_le _, rfl, _, _, _, rfl, P0.out⟩
  case round =>
    obtain ⟨k, hk, rfl, g, mx, tb, rfl, hpl⟩ := hrel
    have PL := hide hpl
    clear P0 hpl
    by_cases hlt : k < n
    rotate_left
    · obtain rfl : n = k := by omega
      have GG := hide ((PL.out.e.block _ hfl.out).trans G0.out)
      go_wp2_with fail
      refine (alive23 _ T fr GG.out).mono ?_
      rintro e wz ⟨rfl, hbz⟩
      have HBz := hide hbz
      clear hbz
      go_wp2_with fail
      go_ret
      exact ⟨rfl, PL.out.e.of HBz.out⟩
    have hkn' : (k : Int) < (n : Int) := by omega
    have hk20 : k < 20 := by have := H20.out; omega
    obtain ⟨b, off, rfl, hc0⟩ := (Ha.out.below PL.out.e).at_ hlt
    have hFn : (F k).n ≤ 120 := HSm.out k hlt
    have HF := hide (Ha.out.2.2.2.2 k hlt)
    generalize F k = X at *
    obtain ⟨XA, XN, XC, xf⟩ := X
    simp only at hc0 hFn HF
    have GW := hide ((PL.out.e.block _ hfl.out).trans G0.out)
    have hmxl := PL.out.tl.mle
    have hlen := PL.out.len
    go_wp2_with fail
    refine (decodeQ PL.out.tl PL.out.e.size PL.out.sm hlen (by omega) XA XN XC xf (HF.out.1.below PL.out.e) HF.out.2 (by omega) T fr GW.out).mono ?_
    rintro e w2 ⟨r, A1, c1, A2, c2, g', rfl, hr, ho1, ho2, ht2, hf2, _⟩
    have hok := out_ok hr HF.out.2 (by omega) PL.out.sm hlen hmxl
    have hbd := out_bds hr HF.out.2 (by omega) PL.out.bd
    have hnt : (oT tb r).length ≤ 1000000 := by have := hok.2.1; omega
    have hnz : (oS r).length ≤ 1000000 := by have := hok.2.2.2.2; omega
    have al := (Below.refl w2.heap.size w2).alloc (Nat.le_refl _) (.cells #[.slice A1 (oF r).length c1, .slice A2 (oS r).length c2] 32)
    have Q2 := hide (heap_alloc_new w2 (.cells #[.slice A1 (oF r).length c1, .slice A2 (oS r).length c2] 32))
    have P2 : Hid (BdK w p (w2.alloc (.cells #[.slice A1 (oF r).length c1, .slice A2 (oS r).length c2] 32)) g' (oM mx r) (oT tb r) (120 * (k + 1))) := ⟨ht2.below al, (PL.out.e.trans hf2.below).of al, hok.1, by have := hok.2.1; omega, hbd.1⟩
    have R2 := hide (ho2.rdS.below36O al)
    have HB := hide hbd.2
    have Hwl : Hid (∀ f ∈ oT tb r, wt f ≤ 1000000) := fun f hf => (hok.1 f hf).wt
    clear al hr ho1 ho2 ht2 hf2 hok hc0 GW hbd
    go_upto_region 11 with (fail)
    generalize hW : w2.alloc (.cells #[.slice A1 (oF r).length c1, .slice A2 (oS r).length c2] 32) = W2 at *
    generalize hP : w2.heap.size = q2 at *
    clear hW hP
    obtain ⟨x0, x1⟩ := row2 Q2.out
    generalize hM : oM mx r = M at *
    generalize hL : oT tb r = L at *
    generalize hE : oE r = er at *
    have hcase : Hid (((oS r).length = 0 ∧ M = mx) ∨ (0 < (oS r).length ∧ er = 0 ∧ (oS r).getD ((oS r).length - 1) 0 = (M : Int))) := HB.out
    clear HB
    have hMs := P2.out.tl.mle
    by_cases her : er = 0
    · subst her
      rcases hcase.out with ⟨hz, hMm⟩ | ⟨hz, _, hlast⟩
      · have hdz : decide (0 < (oS r).length) = false := decide_eq_false (by omega)
        have hdz' : decide ((0 : Int) < ((oS r).length : Int)) = false := decide_eq_false (by omega)
        have HMm := hide hMm
        clear hz hMm
        rw [← HMm.out]
        have C := hide (dall P2.out.tl hnt)
        go_wp2_with fail
        refine C.out.mono ?_
        rintro e w3 ⟨v3, rfl, ho3, hb3⟩
        obtain ⟨A3, c3, rfl, _, _⟩ := ho3.rd
        have P3 := hide (P2.out.below hb3)
        have O3 := hide ho3.rdS2
        clear ho3 hb3 P2 C Q2 R2 x0 x1
        go_wp2_with fail
        go_loopw [12, 58] (fun s j W => ∃ q : Nat, q ≤ L.length ∧ j = .int .i64 q ∧ s = .int .i64 (sumW (fn L) q : Int) ∧ Below w3.heap.size w3 W) (fun _ j _ => L.length - (intOf j).toNat)
        case atStart => exact ⟨0, Nat.zero_le _, rfl, rfl, Below.refl _ _⟩
        case round =>
          obtain ⟨q, hq, rfl, rfl, hbq⟩ := hrel
          have HBQ := hide hbq
          clear hbq
          by_cases hql : q < L.length
          · have hql' : (q : Int) < (L.length : Int) := by omega
            obtain ⟨bb, oo, rfl, d0, d1, d2⟩ := row_at21 (O3.out.below36O HBQ.out) hql
            have hw := Hwl.out _ (fn_mem hql)
            have hsum : sumW (fn L) q ≤ 1000000 * q := sumW_le fun i hi => Hwl.out _ (fn_mem (by omega))
            have hnx : Hid (sumW (fn L) (q + 1) = sumW (fn L) q + wt (fn L q)) := rfl
            obtain ⟨S1, hS1⟩ : ∃ S1 : Nat, S1 = sumW (fn L) q := ⟨_, rfl⟩
            have HS1 := hide hS1
            rw [← hS1] at hsum hnx ⊢
            clear hS1
            generalize fn L q = fx at *
            obtain ⟨nm, vl, nv⟩ := fx
            unfold wt at hw
            simp only at d0 d1 d2 hw
            have hwr : IntKind.i64.wrap ((S1 : Int) + ((nm.size + vl.size + 32 : Nat) : Int)) = ((S1 + (nm.size + vl.size + 32) : Nat) : Int) := by rw [IntWalk.i64_in _ (by omega)]; omega
            obtain ⟨xw, hxw⟩ : ∃ xw : Int, xw = ((nm.size + vl.size + 32 : Nat) : Int) := ⟨_, rfl⟩
            rw [← hxw] at hwr
            have Hxw := hide hxw
            have al := (Below.refl wr.heap.size wr).alloc (Nat.le_refl _) (.cells #[.string nm, .string vl, .bool nv] 51)
            have Q4 := hide (heap_alloc_new wr (.cells #[.string nm, .string vl, .bool nv] 51))
            have E4 := hide (HBQ.out.of al)
            obtain ⟨g0, g1, g2⟩ := rowT Q4.out
            have C := hide (fun W => rweight21 nm vl nv (by omega) (by omega) W)
            clear al hxw hw
            go_wp2_with fail
            generalize hW : wr.alloc (.cells #[.string nm, .string vl, .bool nv] 51) = W4 at *
            clear hW
            refine (C.out _).mono ?_
            rintro e w5 ⟨rfl, hw5⟩
            rw [← Hxw.out]
            have E5 : Hid (Below w3.heap.size w3 w5) := by rw [hw5]; exact E4.out.alloc E4.out.size _
            clear hw5 C g0 g1 g2 E4 Q4
            go_wp2_with fail
            go_roundw
            case rel => exact ⟨q + 1, by omega, by go_num, by rw [hnx.out]; rfl, E5.out⟩
            case measure => simp [intOf]; omega
          · obtain rfl : L.length = q := by omega
            have P4 := hide (P3.out.below HBQ.out)
            have hsb := P4.out.bd
            have Hmm := hide (dmax P4.out.tl)
            have Hss := hide (dsize P4.out.tl)
            have hm1 : ((M : Int) != (M : Int)) = false := by simp
            have hs1 : ((sumL L : Int) != (sumL L : Int)) = false := by simp
            have hd9 : decide ((M : Int) < (sumL L : Int)) = false := decide_eq_false (by omega)
            have hd9' : decide (M < sumL L) = false := decide_eq_false (by omega)
            have hsl : Hid (sumW (fn L) L.length = sumL L) := rfl
            rw [hsl.out]
            clear hsb O3 P3
            go_wp2_with fail
            refine Hmm.out.mono ?_
            rintro e w6 ⟨rfl, rfl⟩
            go_wp2_with fail
            refine Hss.out.mono ?_
            rintro e w6 ⟨rfl, rfl⟩
            go_wp2_with fail
            go_roundw
            case rel => exact ⟨k + 1, by omega, by go_num, _, _, _, rfl, P4.out⟩
            case measure => simp [intOf]; omega
      · have hdz : decide (0 < (oS r).length) = true := decide_eq_true (by omega)
        have hdz' : decide ((0 : Int) < ((oS r).length : Int)) = true := decide_eq_true (by omega)
        have hwr : IntKind.i64.wrap (((oS r).length : Int) - 1) = (((oS r).length - 1 : Nat) : Int) := by rw [IntWalk.i64_in _ (by omega)]; omega
        obtain ⟨b9, o9, rfl, hc9⟩ := R2.out.2.2.2 (by omega)
        have hcl := hc9 ((oS r).length - 1) (by omega)
        have hcv : inV (oS r) ((oS r).length - 1) = .int .i64 (M : Int) := by unfold inV; rw [hlast]
        rw [hcv] at hcl
        have hi9 : (oS r).length - 1 < (oS r).length := by omega
        have hi8 : (((oS r).length - 1 : Nat) : Int) < ((oS r).length : Int) := by omega
        clear hlast hc9 hcv
        go_upto_region 13 with (fail)
        have C := hide (dall P2.out.tl hnt)
        go_wp2_with fail
        refine C.out.mono ?_
        rintro e w3 ⟨v3, rfl, ho3, hb3⟩
        obtain ⟨A3, c3, rfl, _, _⟩ := ho3.rd
        have P3 := hide (P2.out.below hb3)
        have O3 := hide ho3.rdS2
        clear ho3 hb3 P2 C Q2 R2 x0 x1
        go_wp2_with fail
        go_loopw [12, 58] (fun s j W => ∃ q : Nat, q ≤ L.length ∧ j = .int .i64 q ∧ s = .int .i64 (sumW (fn L) q : Int) ∧ Below w3.heap.size w3 W) (fun _ j _ => L.length - (intOf j).toNat)
        case atStart => exact ⟨0, Nat.zero_le _, rfl, rfl, Below.refl _ _⟩
        case round =>
          obtain ⟨q, hq, rfl, rfl, hbq⟩ := hrel
          have HBQ := hide hbq
          clear hbq
          by_cases hql : q < L.length
          · have hql' : (q : Int) < (L.length : Int) := by omega
            obtain ⟨bb, oo, rfl, d0, d1, d2⟩ := row_at21 (O3.out.below36O HBQ.out) hql
            have hw := Hwl.out _ (fn_mem hql)
            have hsum : sumW (fn L) q ≤ 1000000 * q := sumW_le fun i hi => Hwl.out _ (fn_mem (by omega))
            have hnx : Hid (sumW (fn L) (q + 1) = sumW (fn L) q + wt (fn L q)) := rfl
            obtain ⟨S1, hS1⟩ : ∃ S1 : Nat, S1 = sumW (fn L) q := ⟨_, rfl⟩
            have HS1 := hide hS1
            rw [← hS1] at hsum hnx ⊢
            clear hS1
            generalize fn L q = fx at *
            obtain ⟨nm, vl, nv⟩ := fx
            unfold wt at hw
            simp only at d0 d1 d2 hw
            have hwr : IntKind.i64.wrap ((S1 : Int) + ((nm.size + vl.size + 32 : Nat) : Int)) = ((S1 + (nm.size + vl.size + 32) : Nat) : Int) := by rw [IntWalk.i64_in _ (by omega)]; omega
            obtain ⟨xw, hxw⟩ : ∃ xw : Int, xw = ((nm.size + vl.size + 32 : Nat) : Int) := ⟨_, rfl⟩
            rw [← hxw] at hwr
            have Hxw := hide hxw
            have al := (Below.refl wr.heap.size wr).alloc (Nat.le_refl _) (.cells #[.string nm, .string vl, .bool nv] 51)
            have Q4 := hide (heap_alloc_new wr (.cells #[.string nm, .string vl, .bool nv] 51))
            have E4 := hide (HBQ.out.of al)
            obtain ⟨g0, g1, g2⟩ := rowT Q4.out
            have C := hide (fun W => rweight21 nm vl nv (by omega) (by omega) W)
            clear al hxw hw
            go_wp2_with fail
            generalize hW : wr.alloc (.cells #[.string nm, .string vl, .bool nv] 51) = W4 at *
            clear hW
            refine (C.out _).mono ?_
            rintro e w5 ⟨rfl, hw5⟩
            rw [← Hxw.out]
            have E5 : Hid (Below w3.heap.size w3 w5) := by rw [hw5]; exact E4.out.alloc E4.out.size _
            clear hw5 C g0 g1 g2 E4 Q4
            go_wp2_with fail
            go_roundw
            case rel => exact ⟨q + 1, by omega, by go_num, by rw [hnx.out]; rfl, E5.out⟩
            case measure => simp [intOf]; omega
          · obtain rfl : L.length = q := by omega
            have P4 := hide (P3.out.below HBQ.out)
            have hsb := P4.out.bd
            have Hmm := hide (dmax P4.out.tl)
            have Hss := hide (dsize P4.out.tl)
            have hm1 : ((M : Int) != (M : Int)) = false := by simp
            have hs1 : ((sumL L : Int) != (sumL L : Int)) = false := by simp
            have hd9 : decide ((M : Int) < (sumL L : Int)) = false := decide_eq_false (by omega)
            have hd9' : decide (M < sumL L) = false := decide_eq_false (by omega)
            have hsl : Hid (sumW (fn L) L.length = sumL L) := rfl
            rw [hsl.out]
            clear hsb O3 P3
            go_wp2_with fail
            refine Hmm.out.mono ?_
            rintro e w6 ⟨rfl, rfl⟩
            go_wp2_with fail
            refine Hss.out.mono ?_
            rintro e w6 ⟨rfl, rfl⟩
            go_wp2_with fail
            go_roundw
            case rel => exact ⟨k + 1, by omega, by go_num, _, _, _, rfl, P4.out⟩
            case measure => simp [intOf]; omega
    · have hz' : ((er : Int) == 0) = false := by simpa using her
      rcases hcase.out with ⟨_, hMm⟩ | ⟨_, h9, _⟩
      rotate_left
      · exact absurd h9 her
      have HMm := hide hMm
      clear hMm her
      rw [← HMm.out]
      have C := hide (dall P2.out.tl hnt)
      go_wp2_with fail
      refine C.out.mono ?_
      rintro e w3 ⟨v3, rfl, ho3, hb3⟩
      obtain ⟨A3, c3, rfl, _, _⟩ := ho3.rd
      have P3 := hide (P2.out.below hb3)
      have O3 := hide ho3.rdS2
      clear ho3 hb3 P2 C Q2 R2 x0 x1
      go_wp2_with fail
      go_loopw [12, 58] (fun s j W => ∃ q : Nat, q ≤ L.length ∧ j = .int .i64 q ∧ s = .int .i64 (sumW (fn L) q : Int) ∧ Below w3.heap.size w3 W) (fun _ j _ => L.length - (intOf j).toNat)
      case atStart => exact ⟨0, Nat.zero_le _, rfl, rfl, Below.refl _ _⟩
      case round =>
        obtain ⟨q, hq, rfl, rfl, hbq⟩ := hrel
        have HBQ := hide hbq
        clear hbq
        by_cases hql : q < L.length
        · have hql' : (q : Int) < (L.length : Int) := by omega
          obtain ⟨bb, oo, rfl, d0, d1, d2⟩ := row_at21 (O3.out.below36O HBQ.out) hql
          have hw := Hwl.out _ (fn_mem hql)
          have hsum : sumW (fn L) q ≤ 1000000 * q := sumW_le fun i hi => Hwl.out _ (fn_mem (by omega))
          have hnx : Hid (sumW (fn L) (q + 1) = sumW (fn L) q + wt (fn L q)) := rfl
          obtain ⟨S1, hS1⟩ : ∃ S1 : Nat, S1 = sumW (fn L) q := ⟨_, rfl⟩
          have HS1 := hide hS1
          rw [← hS1] at hsum hnx ⊢
          clear hS1
          generalize fn L q = fx at *
          obtain ⟨nm, vl, nv⟩ := fx
          unfold wt at hw
          simp only at d0 d1 d2 hw
          have hwr : IntKind.i64.wrap ((S1 : Int) + ((nm.size + vl.size + 32 : Nat) : Int)) = ((S1 + (nm.size + vl.size + 32) : Nat) : Int) := by rw [IntWalk.i64_in _ (by omega)]; omega
          obtain ⟨xw, hxw⟩ : ∃ xw : Int, xw = ((nm.size + vl.size + 32 : Nat) : Int) := ⟨_, rfl⟩
          rw [← hxw] at hwr
          have Hxw := hide hxw
          have al := (Below.refl wr.heap.size wr).alloc (Nat.le_refl _) (.cells #[.string nm, .string vl, .bool nv] 51)
          have Q4 := hide (heap_alloc_new wr (.cells #[.string nm, .string vl, .bool nv] 51))
          have E4 := hide (HBQ.out.of al)
          obtain ⟨g0, g1, g2⟩ := rowT Q4.out
          have C := hide (fun W => rweight21 nm vl nv (by omega) (by omega) W)
          clear al hxw hw
          go_wp2_with fail
          generalize hW : wr.alloc (.cells #[.string nm, .string vl, .bool nv] 51) = W4 at *
          clear hW
          refine (C.out _).mono ?_
          rintro e w5 ⟨rfl, hw5⟩
          rw [← Hxw.out]
          have E5 : Hid (Below w3.heap.size w3 w5) := by rw [hw5]; exact E4.out.alloc E4.out.size _
          clear hw5 C g0 g1 g2 E4 Q4
          go_wp2_with fail
          go_roundw
          case rel => exact ⟨q + 1, by omega, by go_num, by rw [hnx.out]; rfl, E5.out⟩
          case measure => simp [intOf]; omega
        · obtain rfl : L.length = q := by omega
          have P4 := hide (P3.out.below HBQ.out)
          have hsb := P4.out.bd
          have Hmm := hide (dmax P4.out.tl)
          have Hss := hide (dsize P4.out.tl)
          have hm1 : ((M : Int) != (M : Int)) = false := by simp
          have hs1 : ((sumL L : Int) != (sumL L : Int)) = false := by simp
          have hd9 : decide ((M : Int) < (sumL L : Int)) = false := decide_eq_false (by omega)
          have hd9' : decide (M < sumL L) = false := decide_eq_false (by omega)
          have hsl : Hid (sumW (fn L) L.length = sumL L) := rfl
          rw [hsl.out]
          clear hsb O3 P3
          go_wp2_with fail
          refine Hmm.out.mono ?_
          rintro e w6 ⟨rfl, rfl⟩
          go_wp2_with fail
          refine Hss.out.mono ?_
          rintro e w6 ⟨rfl, rfl⟩
          go_wp2_with fail
          go_roundw
          case rel => exact ⟨k + 1, by omega, by go_num, _, _, _, rfl, P4.out⟩
          case measure => simp [intOf]; omega
end Go.Proofs.YtnkcbljhgcgpaaaDoor
