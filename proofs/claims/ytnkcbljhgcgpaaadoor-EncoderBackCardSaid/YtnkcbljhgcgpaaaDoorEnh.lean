/- Layer 24: what is written in any way is read as it was. -/
import Derived.Test.YtnkcbljhgcgpaaaDoorEnk
import Derived.Test.YtnkcbljhgcgpaaaDoorEng
namespace Go.Proofs.YtnkcbljhgcgpaaaDoor
set_option linter.unusedVariables false
set_option linter.unusedSimpArgs false
open Go.RowKit Go.Deep Go.ChangeShapes Go.WideShapes

theorem decodeB {B : Nat} {w : World} {pd : Nat} {g : Option Nat} {mx : Nat} {tb : List Fd} {T : Nat} (hd : TL B w pd g mx tb) (hB : B ≤ w.heap.size) (hok : EsOk T ⟨mx, tb, []⟩) (hT2 : T ≤ 700000) (A : Option Addr) (n c : Nat) (f : Nat → Int) (ha : RdV 1 w A n c (byV f)) (hb : Byt n f) (hn : n ≤ 100000)
    (Ty : TypeId) (fr : Nat × Nat) (hg : w.heap[0]? = some (.cells formsV Ty fr)) {G : Nat → Fd} {n2 : Nat} {z : Nat → Int} {n1 mx' : Nat} {tb' : List Fd} (hr : DcR f n 0 ⟨[], [], mx, tb⟩ (.inl ⟨(List.range n2).map G, (List.range n1).map z, mx', tb'⟩)) :
    Calls Tryd.prog 10 #[.pointer (some ⟨pd, 0, none⟩), .slice A n c] w fun e w' => ∃ A1 c1 A2 c2 g', e = .returned (.tuple #[.agg #[.slice A1 n2 c1, .slice A2 n1 c2], .int .i64 0]) ∧ RdV 3 w' A1 n2 c1 (fdV G) ∧ RdV 1 w' A2 n1 c2 (izV z) ∧
      TL B w' pd g' mx' tb' ∧ FrO B (fun i => i = pd) w w' ∧ (g' = g ∨ ∀ i, g' = some i → w.heap.size ≤ i) := by
  refine (decodeQ hd hB (fun f hf => ⟨Nat.le_trans (hok.tb f hf).1 (by decide), Nat.le_trans (hok.tb f hf).2 (by decide)⟩) hok.len hT2 A n c f (V_rd ha) hb hn Ty fr hg).mono ?_
  rintro e w' ⟨r, A1, c1, A2, c2, g', rfl, hr', ho1, ho2, ht, hf, hg'⟩
  obtain rfl := hr'.same hr
  have r1 := ho1.rdS
  have r2 := ho2.rdS
  simp only [oF, oS, List.length_map, List.length_range] at r1 r2
  refine ⟨A1, c1, A2, c2, g', ?_, r1.congr21 (fdV_congr (fn_map G n2)), r2.congr21 (fun i hi => ?_), ht, hf, hg'⟩
  · simp [oF, oS, oE]
  · have h : i < n1 := by omega
    simp [inV, izV, List.getD_eq_getElem?_getD, h]
theorem rdz_I {w : World} {A : Option Addr} {n c : Nat} {z : Nat → Int} (h : RdV 1 w A n c (izV z)) : Rd .i64 w A n c z :=
  ⟨h.1, h.2.1, h.2.2.1, fun hn => by
    obtain ⟨b, off, hA, hc⟩ := h.2.2.2 hn
    exact ⟨b, off, hA, fun i hi => hc i (by omega)⟩⟩
theorem same3Z {w : World} {A A2 : Option Addr} {n c c2 : Nat} {z : Nat → Int} (h : RdV 1 w A n c (izV z)) (k : RdV 1 w A2 n c2 (izV z)) :
    Calls Tryd.prog 16 #[.slice A n c, .slice A2 n c2] w fun e w' => e = .returned (.bool true) ∧ Below w.heap.size w w' :=
  (rsame3_yes A A2 n c c2 _ _ w (rdz_I h) (rdz_I k) fun _ _ => rfl).mono fun e w' ⟨h1, h2⟩ => ⟨h1, drawn_below h2 _⟩
theorem large300 {w : World} {A : Option Addr} {n c : Nat} {F : Nat → Bk4} (ha : RdBk w A n c F) :
    Calls Tryd.prog 22 #[.slice A n c, .int .i64 300] w fun e w' => ∃ b, e = .returned (.bool b) ∧ Drawn w w' ∧ (b = false → n ≤ 12 ∧ ∀ i, i < n → (F i).n1 ≤ 10 ∧ (F i).n3 ≤ 10 ∧ (F i).n2 ≤ 12 ∧ ∀ j, j < (F i).n2 → Sm4 ((F i).G j)) := by
  refine (large24 ha 300).mono ?_
  rintro e w' ⟨b, rfl, hd, hb⟩
  refine ⟨b, rfl, hd, fun h => ⟨(hb h).1, fun i hi => ?_⟩⟩
  obtain ⟨h1, h2, h3, h4⟩ := (hb h).2 i hi
  exact ⟨h1, h2, h3, fun j hj => ⟨Nat.le_trans (h4 j hj).1 (by decide), Nat.le_trans (h4 j hj).2 (by decide)⟩⟩
/-- The writer and the reader: both tables are alike. -/
structure PlB (w : World) (p pd : Nat) (W : World) (g gd : Option Nat) (mx : Nat) (tb : List Fd) (T : Nat) : Prop where
  te : TL w.heap.size W p g mx tb
  td : TL w.heap.size W pd gd mx tb
  ap : ∀ i, tfp pd gd i → ¬ tfp p g i
  e : Below w.heap.size w W
  ok : EsOk T ⟨mx, tb, []⟩
theorem PlB.below {w W W' : World} {p pd : Nat} {g gd : Option Nat} {mx : Nat} {tb : List Fd} {T : Nat} (h : PlB w p pd W g gd mx tb T) (hb : Below W.heap.size W W') : PlB w p pd W' g gd mx tb T :=
  ⟨h.te.below hb, h.td.below hb, h.ap, h.e.of hb, h.ok⟩
theorem PlB.drew {w W : World} {p pd : Nat} {g gd : Option Nat} {mx : Nat} {tb : List Fd} {T : Nat} (h : PlB w p pd W g gd mx tb T) : PlB w p pd W.drew g gd mx tb T :=
  ⟨h.te.at_ fun _ _ => rfl, h.td.at_ fun _ _ => rfl, h.ap, h.e.drew, h.ok⟩
/-- Behind a block that is not written. -/
theorem PlB.skip {w W W' : World} {p pd : Nat} {g gd g1 : Option Nat} {mx : Nat} {tb : List Fd} {T T' : Nat} {v : Value} {rs : List Rpv} (h : PlB w p pd W g gd mx tb T) (hs : EcS w.heap.size W p g W' v g1 ⟨mx, tb, rs⟩) (hT : T ≤ T') : PlB w p pd W' g1 gd mx tb T' :=
  ⟨hs.tl, h.td.frO hs.fr h.ap, fun i hi hq => by
    rcases hs.tfpS i hq with h1 | h1
    · exact h.ap i hi h1
    · have := (h.td.lt i hi).2; omega, h.e.trans hs.fr.below, ⟨h.ok.tb, h.ok.nv, Nat.le_trans h.ok.len hT, h.ok.mx, h.ok.rs⟩⟩
set_option maxRecDepth 20000 in
set_option maxHeartbeats 12800000 in
theorem back_walk24 (mx : Int) (A : Option Addr) (n c : Nat) (F : Nat → Bk4) (w : World) (ha : RdBk w A n c F) (T : TypeId) (fr : Nat × Nat) (hg : w.heap[0]? = some (.cells formsV T fr)) :
    Calls Tryd.prog 8 #[.int .i64 mx, .slice A n c] w (Yes w) := by
  have G0 := hide hg
  have hgl := rowLt hg
  have Ha := hide ha
  have hn63 : (n : Int) ≤ 9223372036854775807 := by have h1 := ha.1; have h2 := ha.2.1; simp only [maxLen] at h2; omega
  clear hg ha
  go_enter Tryd.func8, Tryd.ntmps8
  go_wp2_with fail
  refine (large300 Ha.out).mono ?_
  rintro e w0 ⟨b, rfl, hd0, hsm⟩
  have hb0 := drawn_below hd0 w.heap.size
  have E0 := hide hb0
  have GA := hide ((hb0.block _ hgl).trans G0.out)
  have HA := hide (Ha.out.below hb0)
  have hgl0 := rowLt GA.out
  clear hd0 hb0 Ha G0 hgl
  cases b with
  | true =>
    go_wp2_with fail
    refine (alive24 _ T fr GA.out).mono ?_
    rintro e wz ⟨rfl, hbz⟩
    have HBz := hide hbz
    clear hbz
    go_wp2_with fail
    go_ret
    exact ⟨rfl, E0.out.of HBz.out⟩
  | false =>
  have H12 := hide (hsm rfl).1
  have HSm := hide (hsm rfl).2
  clear hsm
  by_cases hmx : 0 ≤ mx ∧ mx ≤ 2147483647
  rotate_left
  · go_wp2_with fail
    refine (enewNo mx hmx w0).mono ?_
    rintro e w1 ⟨rfl, rfl⟩
    go_wp2_with fail
    refine (dnewNo mx hmx w0).mono ?_
    rintro e w1 ⟨rfl, rfl⟩
    go_wp2_with fail
    refine (alive24 _ T fr GA.out).mono ?_
    rintro e wz ⟨rfl, hbz⟩
    have HBz := hide hbz
    clear hbz
    go_wp2_with fail
    go_ret
    exact ⟨rfl, E0.out.of HBz.out⟩
  obtain ⟨m0, rfl⟩ : ∃ m0 : Nat, mx = (m0 : Int) := ⟨mx.toNat, by omega⟩
  go_wp2_with fail
  refine (enew m0 (by omega) w0).mono ?_
  rintro e w1 ⟨p, rfl, ht1, hb1⟩
  have T1 := hide ht1
  have E1 := hide hb1
  clear ht1 hb1
  go_wp2_with fail
  refine (dnew m0 (by omega) w1).mono ?_
  rintro e w2 ⟨pd, rfl, ht2, hb2⟩
  have P0 : Hid (PlB w0 p pd w2 none none m0 [] (12 * 0)) :=
    ⟨T1.out.below hb2, ht2.base E1.out.size, (fun i hi hq => by
      rcases hi with rfl | hi
      · rcases hq with hq | hq
        · have h1 := (ht2.lt i (.inl rfl)).1
          have h2 := (T1.out.lt p (.inl rfl)).2
          omega
        · cases hq
      · cases hi), E1.out.of hb2, ⟨fun f hf => absurd hf (by simp), fun f hf => absurd hf (by simp), Nat.le_refl _, by show m0 ≤ _; omega, fun r hr => absurd hr (by simp)⟩⟩
  have hfl : Hid (0 < w0.heap.size) := hgl0
  clear ht2 hb2 T1 E1 hmx hgl0
  go_upto_region 8 with (fail)
  go_loopw [42] (fun i wr => ∃ k : Nat, k ≤ n ∧ i = .int .i64 k ∧ ∃ g gd mx tb, PlB w0 p pd wr g gd mx tb (12 * k)) (fun i _ => n - (intOf i).toNat)
  case atStart => exact ⟨0, Nat.zero_le _, rfl, _, _, _, _, P0.out⟩
  case round =>
    obtain ⟨k, hk, rfl, g, gd, mx, tb, hpl⟩ := hrel
    have PL := hide hpl
    clear P0 hpl
    by_cases hlt : k < n
    rotate_left
    · obtain rfl : n = k := by omega
      have GG := hide ((PL.out.e.block _ hfl.out).trans GA.out)
      go_wp2_with fail
      refine (alive24 _ T fr GG.out).mono ?_
      rintro e wz ⟨rfl, hbz⟩
      have HBz := hide hbz
      clear hbz
      go_wp2_with fail
      go_ret
      exact ⟨rfl, E0.out.of (PL.out.e.of HBz.out)⟩
    have hkn' : (k : Int) < (n : Int) := by omega
    have hk12 : k < 12 := by have := H12.out; omega
    obtain ⟨b, off, rfl, hc0⟩ := (HA.out.below PL.out.e).at_ hlt
    have HF := hide (HA.out.2.2.2.2 k hlt)
    have HS0 := hide (HSm.out k hlt)
    generalize F k = X at *
    obtain ⟨A1, n1, c1, z, A2, n2, c2, G, A3, n3, c3, O⟩ := X
    obtain ⟨d0, d1, d2⟩ := hc0
    simp only at d0 d1 d2
    have hn1 : n1 ≤ 10 := HS0.out.1
    have hn3 : n3 ≤ 10 := HS0.out.2.1
    have hn2 : n2 ≤ 12 := HS0.out.2.2.1
    have HG : Hid (∀ j, j < n2 → Sm4 (G j)) := HS0.out.2.2.2
    have al := (Below.refl wr.heap.size wr).alloc (Nat.le_refl _) (.cells #[.slice A1 n1 c1, .slice A2 n2 c2, .slice A3 n3 c3] 57)
    have Q1 := hide (heap_alloc_new wr (.cells #[.slice A1 n1 c1, .slice A2 n2 c2, .slice A3 n3 c3] 57))
    have P1 := hide (PL.out.below al).drew
    have HB1 := hide (HF.out.below P1.out.e)
    have hqp : Hid (¬ tfp p g wr.heap.size) := fun hq => by have := (PL.out.te.lt _ hq).2; omega
    have hqd : Hid (wr.heap.size ≠ pd) := fun hq => by have := (PL.out.td.lt _ (.inl rfl)).2; omega
    clear HS0 al
    go_upto_region 10 with (fail)
    clear d0 d1 d2
    generalize hW : wr.alloc (.cells #[.slice A1 n1 c1, .slice A2 n2 c2, .slice A3 n3 c3] 57) = W1 at *
    generalize hq : wr.heap.size = q at *
    clear hW hq
    obtain ⟨q0, q1, q2⟩ := rowT Q1.out
    have HO3 : Hid (RdV 4 W1.drew A3 n3 c3 (opV O)) := HB1.out.r3
    clear Q1 PL
    go_region_held3 (fun W => W.cell? ⟨q, 0, none⟩ = some (.slice A1 n1 c1) ∧ W.cell? ⟨q, 1, none⟩ = some (.slice A2 n2 c2) ∧ W.cell? ⟨q, 2, none⟩ = some (.slice A3 n3 c3))
      ((first | exact ⟨q0, q1, q2⟩ | exact S1.out | exact S2.out | (go_keep; done)))
      ((first
        | (go_at_call 25
           (with_reducible refine (options24 HO3.out (by omega)).mono ?_)
           rintro e wa ⟨vo, rfl, ho, hb⟩
           obtain ⟨Ao, co, rfl, _, _⟩ := ho.rd
           have P2 := hide (P1.out.below hb)
           have HB2 := hide (HB1.out.below hb)
           have V2 := hide ho.rdS2
           have hz : Hid (∀ a, Ao = some a → 0 < n3 → ¬ tfp p g a.block) := fun a ha _ hq => by
             subst ha
             have h1 := (World.ownsRow.lt ho a.block rfl).1
             have h2 := (P1.out.te.lt _ hq).2
             omega
           have kc := fun {a : Addr} {v : Value} (h : W1.drew.cell? a = some v) => (hb.cell (World.block_lt_of_cell? W1.drew _ h)).trans h
           have S1 := hide (And.intro (kc q0) (And.intro (kc q1) (kc q2)))
           clear kc hb ho)
        | (go_at_call 24
           have hpt : ∀ (b o : Nat) (v : Value), w0.cell? ⟨b, o, none⟩ = some v → ¬ tfp p g b := fun b o v hc hq => by
             have h1 := World.block_lt_of_cell? w0 _ hc
             have h2 := (P2.out.te.lt _ hq).1
             simp only at h1
             omega
           have k1 : RdV 1 wa A1 n1 c1 (izV z) := HB2.out.r1
           have k2 : RdV 3 wa A2 n2 c2 (fdV G) := rdV_of_rdFd HB2.out.r2
           have t1 : ∀ a, A1 = some a → 0 < n1 → ¬ tfp p g a.block := fun a ha hn => by
             obtain ⟨b, off, hA, hc⟩ := HF.out.r1.2.2.2 hn
             obtain rfl := Option.some.inj (ha.symm.trans hA)
             exact hpt _ _ _ (hc 0 (by show 0 < n1 * 1; omega))
           have t2 : ∀ a, A2 = some a → 0 < n2 → ¬ tfp p g a.block := fun a ha hn => by
             obtain ⟨b, off, hA, hc⟩ := (rdV_of_rdFd HF.out.r2).2.2.2 hn
             obtain rfl := Option.some.inj (ha.symm.trans hA)
             exact hpt _ _ _ (hc 0 (by show 0 < n2 * 3; omega))
           (with_reducible refine (encodeQ P2.out.te P2.out.e.size P2.out.ok (by omega) A1 n1 c1 z k1 (by omega) t1 A2 n2 c2 G k2 (by omega) t2 HG.out _ n3 _ O V2.out (by omega) hz.out T fr ((P2.out.e.block _ hfl.out).trans GA.out) (fun hq => by have h1 := hfl.out; have h2 := (P2.out.te.lt _ hq).1; omega)).mono ?_)
           rintro e wb ⟨σ, Av, cv, g1, ok, cd, rfl, hc1, hc0, hr, hs⟩
           have HR := hide hr
           have HS := hide hs
           have HC1 := hide hc1
           have HC0 := hide hc0
           have S2 := hide (And.intro (cell_frO hs.fr S1.out.1 hqp.out) (And.intro (cell_frO hs.fr S1.out.2.1 hqp.out) (cell_frO hs.fr S1.out.2.2 hqp.out)))
           clear hpt t1 t2 k1 k2 hr hs hc1 hc0)))
    cases ok
    · obtain rfl := HC0.out rfl
      have hσ : σ = ⟨mx, tb, []⟩ := by
        rcases HR.out with ⟨h, _⟩ | ⟨_, _, h⟩
        · cases h
        · exact h
      subst hσ
      have P3 := hide (P2.out.skip (T' := 12 * (k + 1)) HS.out (by omega))
      clear HR HS P2 P1 S1 S2
      go_wp2_with fail
      go_roundw
      case rel => exact ⟨k + 1, by omega, by go_num, _, _, _, _, P3.out⟩
      case measure => simp [intOf]; omega
    · obtain rfl := HC1.out rfl
      have HE : Hid (szok z n1 ∧ EnR G (optAt O n3) (ezN z n1 ⟨mx, tb, []⟩) n2 σ) := by
        rcases HR.out with ⟨_, h, h2⟩ | ⟨h, _⟩
        · exact ⟨h, h2⟩
        · cases h
      have HD := hide (written_back P2.out.ok (by omega) HE.out.1 HG.out HE.out.2)
      have hokr := (en_ok HE.out.2 (ez_ok P2.out.ok n1 HE.out.1) (by omega) HG.out).rs
      have HByt := hide (bF_byt σ.rs hokr)
      have hlenr := (en_len HE.out.2).trans (congrArg (· + n2) (ez_len z ⟨mx, tb, []⟩ n1))
      have hN : bN σ.rs ≤ 100000 := by
        have h1 := bN_top hokr
        have h2 : σ.rs.length ≤ 22 := by simp only [List.length_nil] at hlenr; omega
        omega
      have OK3 := hide (HR.out.es P2.out.ok (by omega) HG.out)
      have OKt := hide P2.out.ok
      have E3 := hide (P2.out.e.trans HS.out.fr.below)
      have HB3 := hide (HF.out.below E3.out)
      have X3 := hide HS.out.ov.rdS2
      have T3 := hide HS.out.tl
      have D3 := hide (P2.out.td.frO HS.out.fr P2.out.ap)
      have AP3 : Hid (∀ i, tfp pd gd i → ¬ tfp p g1 i) := fun i hi hq => by
        rcases HS.out.tfpS i hq with h1 | h1
        · exact P2.out.ap i hi h1
        · have := (P2.out.td.lt i hi).2; omega
      obtain ⟨s0, s1, s2⟩ := S2.out
      clear P1 P2 HS S1 S2 HB1 HB2 V2 hz q0 q1 q2 hokr hlenr HR HE
      go_wp2_with fail
      refine (decodeB D3.out E3.out.size OKt.out (by omega) Av (bN σ.rs) cv (bF σ.rs) X3.out HByt.out hN T fr ((E3.out.block _ hfl.out).trans GA.out) HD.out).mono ?_
      rintro e w3 ⟨F1, d1, F2, d2, gd', rfl, hr1, hr2, htd, hfd, hgd⟩
      have al := (Below.refl w3.heap.size w3).alloc (Nat.le_refl _) (.cells #[.slice F1 n2 d1, .slice F2 n1 d2] 32)
      have T4 := hide ((T3.out.frO hfd fun i hi e => AP3.out i (.inl e) hi).below al)
      have D4 := hide (htd.below al)
      have AP4 : Hid (∀ i, tfp pd gd' i → ¬ tfp p g1 i) := fun i hi hq => by
        rcases hi with hi | hi
        · exact AP3.out i (.inl hi) hq
        · rcases hgd with e | e
          · exact AP3.out i (.inr (e ▸ hi)) hq
          · have h1 := e i hi
            have h2 := (T3.out.lt i hq).2
            omega
      have P4 : Hid (PlB w0 p pd (w3.alloc (.cells #[.slice F1 n2 d1, .slice F2 n1 d2] 32)) g1 gd' σ.mx σ.tb (12 * (k + 1))) :=
        ⟨T4.out, D4.out, AP4.out, (E3.out.trans hfd.below).of al, ⟨OK3.out.tb, OK3.out.nv, Nat.le_trans OK3.out.len (by omega), OK3.out.mx, OK3.out.rs⟩⟩
      have kk := fun {o : Nat} {v : Value} (h : wb.cell? ⟨q, o, none⟩ = some v) => (al.cell (World.block_lt_of_cell? w3 _ (cell_frO hfd h hqd.out))).trans (cell_frO hfd h hqd.out)
      have K0 := kk s0
      have K1 := kk s1
      have HB4 := hide (HF.out.below P4.out.e)
      have R1 := hide (hr1.below36O al)
      have R2 := hide (hr2.below36O al)
      have Q4 := heap_alloc_new w3 (.cells #[.slice F1 n2 d1, .slice F2 n1 d2] 32)
      obtain ⟨y0, y1⟩ := row2 Q4
      have hltn : Hid (σ.tb.length ≤ 1000000) := Nat.le_trans OK3.out.len (by omega)
      clear s0 s1 s2 kk al hr1 hr2 htd hfd hgd T3 D3 AP3 T4 D4 AP4 E3 HB3 X3 Q4
      go_upto_region 13 with (fail)
      generalize hW : w3.alloc (.cells #[.slice F1 n2 d1, .slice F2 n1 d2] 32) = W4 at *
      generalize hP : w3.heap.size = qd at *
      clear hW hP
      have k1 : RdV 1 W4 A1 n1 c1 (izV z) := HB4.out.r1
      have k2 : RdV 3 W4 A2 n2 c2 (fdV G) := rdV_of_rdFd HB4.out.r2
      have KA := hide k1
      have KB := hide k2
      have CC := hide (And.intro y0 (And.intro y1 (And.intro K0 K1)))
      have hmm : ((σ.mx : Int) != (σ.mx : Int)) = false := by simp
      clear k1 k2 HB4
      go_wp2_with fail
      refine (rsame21 R1.out KB.out (by omega)).mono ?_
      rintro e w5 ⟨rfl, hb5⟩
      have P5 := hide (P4.out.below hb5)
      have R2b := hide (R2.out.below36O hb5)
      have KAb := hide (KA.out.below36O hb5)
      have kc := fun {a : Addr} {v : Value} (h : W4.cell? a = some v) => (hb5.cell (World.block_lt_of_cell? W4 _ h)).trans h
      have CC5 := hide (And.intro (kc CC.out.1) (And.intro (kc CC.out.2.1) (And.intro (kc CC.out.2.2.1) (kc CC.out.2.2.2))))
      clear kc hb5 y0 y1 K0 K1 CC P4 R2 KA KB R1
      obtain ⟨y0, y1, K0, K1⟩ := CC5.out
      go_wp2_with fail
      refine (same3Z R2b.out KAb.out).mono ?_
      rintro e w6 ⟨rfl, hb6⟩
      have P6 := hide (P5.out.below hb6)
      clear hb6 y0 y1 K0 K1 CC5 P5 R2b KAb
      go_wp2_with fail
      refine (emax P6.out.te).mono ?_
      rintro e wl ⟨rfl, rfl⟩
      go_wp2_with fail
      refine (dmax P6.out.td).mono ?_
      rintro e wl ⟨rfl, rfl⟩
      go_wp2_with fail
      refine (eall P6.out.te hltn.out).mono ?_
      rintro e w7 ⟨v6, rfl, ho6, hb7⟩
      obtain ⟨A6, c6, rfl, _, _⟩ := ho6.rd
      have P7 := hide (P6.out.below hb7)
      have V6 := hide ho6.rdS2
      clear hb7 ho6 P6
      go_wp2_with fail
      refine (dall P7.out.td hltn.out).mono ?_
      rintro e w8 ⟨v7, rfl, ho7, hb8⟩
      obtain ⟨A7, c7, rfl, _, _⟩ := ho7.rd
      have P8 := hide (P7.out.below hb8)
      have V7 := hide ho7.rdS2
      have V6b := hide (V6.out.below36O hb8)
      clear hb8 ho7 P7 V6
      go_wp2_with fail
      refine (same21L V6b.out V7.out hltn.out).mono ?_
      rintro e w9 ⟨rfl, hb9⟩
      have P9 := hide (P8.out.below hb9)
      clear hb9 P8 V6b V7
      go_wp2_with fail
      go_roundw
      case rel => exact ⟨k + 1, by omega, by go_num, _, _, _, _, P9.out⟩
      case measure => simp [intOf]; omega
end Go.Proofs.YtnkcbljhgcgpaaaDoor
