/- Layer 23: whatever blocks come. -/
import Derived.Test.YtnkcbljhgcgpaaaDoorDed
namespace Go.Proofs.YtnkcbljhgcgpaaaDoor
set_option linter.unusedVariables false
set_option linter.unusedSimpArgs false
open Go.RowKit Go.Deep Go.ChangeShapes Go.WideShapes

/-- Both sides' tables. -/
structure PlS (w : World) (p pr : Nat) (W : World) (g : Option Nat) (mx : Nat) (tb : List Fd) (An : Option Addr) (cn : Nat) (T : Nat) : Prop where
  tl : TL w.heap.size W p g mx tb
  row : W.heap[pr]? = some (.cells #[.slice An tb.length cn, .int .i64 (mx : Int)] 37 (0, 0))
  rd : RdV 3 W An tb.length cn (fdV (fn tb))
  al : ∀ a, An = some a → w.heap.size ≤ a.block ∧ a.block < W.heap.size ∧ a.block ≠ p ∧ a.block ≠ pr
  e : Below w.heap.size w W
  sm : ∀ f ∈ tb, SmF f
  len : tb.length ≤ T
  pp : p < pr
  hp : w.heap.size ≤ p
  ng : g ≠ some pr
theorem PlS.below {w W W' : World} {p pr : Nat} {g : Option Nat} {mx : Nat} {tb : List Fd} {An : Option Addr} {cn T : Nat} (h : PlS w p pr W g mx tb An cn T) (hb : Below W.heap.size W W') : PlS w p pr W' g mx tb An cn T :=
  ⟨h.tl.below hb, keepRow h.row hb, h.rd.below36O hb, fun a ha => ⟨(h.al a ha).1, Nat.lt_of_lt_of_le (h.al a ha).2.1 hb.size, (h.al a ha).2.2⟩, h.e.of hb, h.sm, h.len, h.pp, h.hp, h.ng⟩
theorem PlS.drew {w W : World} {p pr : Nat} {g : Option Nat} {mx : Nat} {tb : List Fd} {An : Option Addr} {cn T : Nat} (h : PlS w p pr W g mx tb An cn T) : PlS w p pr W.drew g mx tb An cn T :=
  ⟨h.tl.at_ fun _ _ => rfl, h.row, h.rd, h.al, h.e.drew, h.sm, h.len, h.pp, h.hp, h.ng⟩
/-- The state behind a block. -/
theorem PlS.next {w W3 : World} {p pr : Nat} {g : Option Nat} {mx T : Nat} {tb : List Fd} {x0 x1 : Value} {An' : Option Addr} {cn' : Nat} (tl : TL w.heap.size W3 p g mx tb) (row : W3.heap[pr]? = some (.cells #[x0, x1] 37 (0, 0))) (rd : RdV 3 W3 An' tb.length cn' (fdV (fn tb)))
    (al : ∀ a, An' = some a → w.heap.size ≤ a.block ∧ a.block < W3.heap.size ∧ a.block ≠ p ∧ a.block ≠ pr) (e : Below w.heap.size w W3) (sm : ∀ f ∈ tb, SmF f) (len : tb.length ≤ T) (pp : p < pr) (hp : w.heap.size ≤ p) (hg : g ≠ some pr) :
    PlS w p pr ((W3.setCell ⟨pr, 0, none⟩ (.slice An' tb.length cn')).setCell ⟨pr, 1, none⟩ (.int .i64 (mx : Int))) g mx tb An' cn' T :=
  ⟨tl.at_ fun i hi => heap2d (fun e => by subst e; rcases hi with h | h; (· omega); (· exact hg h)) _ _, set2t row _ _, (rd.set21 (fun a ha => (al a ha).2.2.2) 0 _).set21 (fun a ha => (al a ha).2.2.2) 1 _, fun a ha => ⟨(al a ha).1, by simpa [World.setCell] using (al a ha).2.1, (al a ha).2.2⟩,
   (e.setCell (p := ⟨pr, 0, none⟩) (by show _ ≤ pr; omega) _).setCell (p := ⟨pr, 1, none⟩) (by show _ ≤ pr; omega) _, sm, len, pp, hp, hg⟩
set_option maxRecDepth 20000 in
set_option maxHeartbeats 12800000 in
theorem plays_walk23 (mx : Int) (A : Option Addr) (n c : Nat) (F : Nat → Bb) (w : World) (ha : RdBb w A n c F) (T : TypeId) (fr : Nat × Nat) (hg : w.heap[0]? = some (.cells formsV T fr)) :
    Calls Tryd.prog 5 #[.int .i64 mx, .slice A n c] w (Yes w) := by
  have G0 := hide hg
  have hgl := rowLt hg
  have Ha := hide ha
  have hn63 : (n : Int) ≤ 9223372036854775807 := by have h1 := ha.1; have h2 := ha.2.1; simp only [maxLen] at h2; omega
  clear hg ha
  go_enter Tryd.func5, Tryd.ntmps5
  go_wp2_with fail
  refine (large23 Ha.out).mono ?_
  rintro e w0 ⟨h1, rfl⟩
  rcases h1 with rfl | ⟨rfl, h20, hsm⟩
  · go_wp2_with fail
    refine (alive23 _ T fr G0.out).mono ?_
    rintro e wz ⟨rfl, hbz⟩
    have HBz := hide hbz
    clear hbz
    go_wp2_with fail
    go_ret
    exact ⟨rfl, HBz.out⟩
  have H20 := hide h20
  have HSm := hide hsm
  clear h20 hsm
  by_cases hmx : 0 ≤ mx ∧ mx ≤ 2147483647
  rotate_left
  · have hdm : decide (0 ≤ mx ∧ mx ≤ 2147483647) = false := decide_eq_false hmx
    go_wp2_with fail
    refine (dnewNo mx hmx w).mono ?_
    rintro e w1 ⟨rfl, rfl⟩
    go_wp2_with fail
    refine (rmay21 mx w).mono ?_
    rintro e w1 ⟨rfl, rfl⟩
    rw [hdm]
    go_wp2_with fail
    refine (alive23 _ T fr G0.out).mono ?_
    rintro e wz ⟨rfl, hbz⟩
    have HBz := hide hbz
    clear hbz
    go_wp2_with fail
    go_ret
    exact ⟨rfl, HBz.out⟩
  have hdm : decide (0 ≤ mx ∧ mx ≤ 2147483647) = true := decide_eq_true hmx
  obtain ⟨m0, rfl⟩ : ∃ m0 : Nat, mx = (m0 : Int) := ⟨mx.toNat, by omega⟩
  go_wp2_with fail
  refine (dnew m0 (by omega) w).mono ?_
  rintro e w1 ⟨p, rfl, ht1, hb1⟩
  have T1 := hide ht1
  have E1 := hide hb1
  have hpw : w.heap.size ≤ p ∧ p < w1.heap.size := ht1.lt p (.inl rfl)
  clear ht1 hb1
  go_wp2_with fail
  refine (rmay21 (m0 : Int) w1).mono ?_
  rintro e w2 ⟨rfl, rfl⟩
  rw [hdm]
  have al := (Below.refl w1.heap.size w1).alloc (Nat.le_refl _) (.cells #[.slice none 0 0, .int .i64 (m0 : Int)] 37)
  have P0 : Hid (PlS w p w1.heap.size (w1.alloc (.cells #[.slice none 0 0, .int .i64 (m0 : Int)] 37)) none m0 [] none 0 (120 * 0)) :=
    ⟨T1.out.below al, heap_alloc_new _ _, nilRdV 3 _ _, fun a ha => (by cases ha), E1.out.of al, fun f hf => absurd hf (by simp), Nat.le_refl _, hpw.2, hpw.1, (fun e => by cases e)⟩
  have hm2 : m0 ≤ 2147483647 := by omega
  have hfp : Hid (0 ≠ p) := by show _ ≠ _; omega
  have hfl : Hid (0 < w.heap.size) := hgl
  clear al T1 E1 hdm hmx hgl hpw
  go_upto_region 10 with (fail)
  generalize hW : w1.alloc (.cells #[.slice none 0 0, .int .i64 (m0 : Int)] 37) = W1 at *
  generalize hP : w1.heap.size = pr at *
  clear hW hP
  go_loopw [42] (fun i wr => ∃ k : Nat, k ≤ n ∧ i = .int .i64 k ∧ ∃ g mx tb An cn, PlS w p pr wr g mx tb An cn (120 * k)) (fun i _ => n - (intOf i).toNat)
  case atStart => exact ⟨0, Nat.zero_le _, rfl, _, _, _, _, _, P0.out⟩
  case round =>
    obtain ⟨k, hk, rfl, g, mx, tb, An, cn, hpl⟩ := hrel
    have PL := hide hpl
    clear P0 hpl
    by_cases hlt : k < n
    rotate_left
    · obtain rfl : n = k := by omega
      have GG := hide ((PL.out.e.block _ hfl.out).trans G0.out)
      go_wp2_with fail
      refine (alive23 _ T fr GG.out).mono ?_
      rintro e wz ⟨rfl, hbz⟩
      have HBz := hide hbz
      clear hbz
      go_wp2_with fail
      go_ret
      exact ⟨rfl, PL.out.e.of HBz.out⟩
    have hkn' : (k : Int) < (n : Int) := by omega
    have hk20 : k < 20 := by have := H20.out; omega
    obtain ⟨b, off, rfl, hc0⟩ := (Ha.out.below PL.out.e).at_ hlt
    have hFn : (F k).n ≤ 120 := HSm.out k hlt
    have HF := hide (Ha.out.2.2.2.2 k hlt)
    generalize F k = X at *
    obtain ⟨XA, XN, XC, xf⟩ := X
    simp only at hc0 hFn HF
    have GW := hide ((PL.out.e.block _ hfl.out).trans G0.out)
    have hmxl := PL.out.tl.mle
    have hlen := PL.out.len
    go_wp2_with fail
    refine (decodeQ PL.out.tl PL.out.e.size PL.out.sm hlen (by omega) XA XN XC xf (HF.out.1.below PL.out.e) HF.out.2 (by omega) T fr GW.out).mono ?_
    rintro e w2 ⟨r, A1, c1, A2, c2, g', rfl, hr, ho1, ho2, ht2, hf2, hg2⟩
    have hok := out_ok hr HF.out.2 (by omega) PL.out.sm hlen hmxl
    have hnf : (oF r).length ≤ 1000000 := by have := hok.2.2.2.1; omega
    have hnt : (oT tb r).length ≤ 1000000 := by have := hok.2.1; omega
    have Hwl : Hid (∀ f ∈ oT tb r, wt f ≤ 1000000) := fun f hf => (hok.1 f hf).wt
    have HOK := hide hok
    have HR := hide hr
    have al := (Below.refl w2.heap.size w2).alloc (Nat.le_refl _) (.cells #[.slice A1 (oF r).length c1, .slice A2 (oS r).length c2] 32)
    have Q2 := hide (heap_alloc_new w2 (.cells #[.slice A1 (oF r).length c1, .slice A2 (oS r).length c2] 32))
    have hpr2 : pr ≠ p := by have := PL.out.pp; omega
    have R2 := hide (keepRow (hf2.row PL.out.row hpr2) al)
    have Z2 := hide ((PL.out.rd.at21 fun a ha => hf2.keep _ (PL.out.al a ha).2.1 (PL.out.al a ha).2.2.1).below36O al)
    have T2 := hide (ht2.below al)
    have E2 := hide ((PL.out.e.trans hf2.below).of al)
    have AL2 : Hid (∀ a, An = some a → w.heap.size ≤ a.block ∧ a.block < (w2.alloc (.cells #[.slice A1 (oF r).length c1, .slice A2 (oS r).length c2] 32)).heap.size ∧ a.block ≠ p ∧ a.block ≠ pr) := fun a ha => ⟨(PL.out.al a ha).1, Nat.lt_of_lt_of_le (PL.out.al a ha).2.1 (Nat.le_trans hf2.below.size al.size), (PL.out.al a ha).2.2⟩
    have R1 := hide (ho1.rdS.below36O al)
    have R1' := hide (ho2.rdS.below36O al)
    have hq2 : Hid (pr < w2.heap.size) := Nat.lt_of_lt_of_le (rowLt PL.out.row) hf2.below.size
    have hgn : Hid (g' ≠ some pr) := fun e => by
      have hprw := rowLt PL.out.row
      rcases hg2 with h | h
      · exact PL.out.ng (h ▸ e)
      · have := h pr e; omega
    have hA1 : Hid (∀ a, A1 = some a → a.block ≠ pr) := fun a ha => by subst ha; have := (ho1.lt a.block rfl).1; have := rowLt PL.out.row; omega
    have hA2 : Hid (∀ a, A2 = some a → a.block ≠ pr) := fun a ha => by subst ha; have := (ho2.lt a.block rfl).1; have := rowLt PL.out.row; omega
    clear al hr ho1 ho2 ht2 hf2 hok hc0 GW hg2
    go_upto_region 13 with (fail)
    generalize hW : w2.alloc (.cells #[.slice A1 (oF r).length c1, .slice A2 (oS r).length c2] 32) = W2 at *
    generalize hP : w2.heap.size = q2 at *
    clear hW hP
    obtain ⟨t0, t1⟩ := row2 R2.out
    go_wp2_with fail
    refine (rdecodeQ (mx := mx) Z2.out (fun a ha => (AL2.out a ha).2.1) hmxl PL.out.sm hlen (by omega) XA XN XC xf (HF.out.1.below E2.out) HF.out.2 (by omega)).mono ?_
    rintro e w3 ⟨r', A3, c3, A4, c4, An', cn', rfl, hr3, h3, h4, h5, h6, hb3, ha3, ha4⟩
    obtain rfl := HR.out.same hr3
    have al := (Below.refl w3.heap.size w3).alloc (Nat.le_refl _) (.cells #[.slice An' (oT tb r).length cn', .int .i64 (oM mx r : Int)] 37)
    have bb := hb3.of al
    have hpW2 : p < W2.heap.size := (T2.out.lt p (.inl rfl)).2
    have hprW2 : pr < W2.heap.size := rowLt R2.out
    have AL3 : Hid (∀ a, An' = some a → w.heap.size ≤ a.block ∧ a.block < (w3.alloc (.cells #[.slice An' (oT tb r).length cn', .int .i64 (oM mx r : Int)] 37)).heap.size ∧ a.block ≠ p ∧ a.block ≠ pr) := fun a ha => by
      obtain ⟨h7, h8⟩ := h6 a ha
      have hs := al.size
      rcases h8 with ⟨a0, h9, h10⟩ | h8
      · have h11 := AL2.out a0 h9
        rw [h10] at h11
        exact ⟨h11.1, Nat.lt_of_lt_of_le h7 hs, h11.2.2⟩
      · exact ⟨Nat.le_trans E2.out.size h8, Nat.lt_of_lt_of_le h7 hs, by omega, by omega⟩
    have Q3 := hide (heap_alloc_new w3 (.cells #[.slice An' (oT tb r).length cn', .int .i64 (oM mx r : Int)] 37))
    have Q2b := hide (keepRow Q2.out bb)
    have R3 := hide (keepRow R2.out bb)
    have P4 := hide (PlS.next (T := 120 * (k + 1)) (T2.out.below bb) R3.out (h5.below36O al) AL3.out (E2.out.of bb) HOK.out.1 (by have := HOK.out.2.1; omega) PL.out.pp PL.out.hp hgn.out)
    have X3 := hide (R1.out.below36O bb)
    have Y3 := hide (R1'.out.below36O bb)
    have X3' := hide (h3.below36O al)
    have Y3' := hide (h4.below36O al)
    have hne3 : Hid (w3.heap.size ≠ pr) := by show _ ≠ _; have := hb3.size; omega
    have hne2 : Hid (q2 ≠ pr) := by show _ ≠ _; have := hq2.out; omega
    clear bb hb3 hr3 h3 h4 h5 h6 t0 t1 T2 E2 R1 R1' R2 Q2 Z2 AL2 al hpW2
    obtain ⟨t0, t1⟩ := row2 Q3.out
    obtain ⟨⟨u0, y0⟩, ⟨u1, y1⟩, rr⟩ := store2z R3.out (.slice An' (oT tb r).length cn') (.int .i64 (oM mx r : Int))
    have Q2c := hide ((heap2d hne2.out (.slice An' (oT tb r).length cn') (.int .i64 (oM mx r : Int))).trans Q2b.out)
    have alf : ∀ {V : World} {AA : Option Addr} {N C s : Nat} {G : Nat → Value}, RdV s V AA N C G → (∀ a, AA = some a → a.block ≠ pr) → RdV s ((V.setCell ⟨pr, 0, none⟩ (.slice An' (oT tb r).length cn')).setCell ⟨pr, 1, none⟩ (.int .i64 (oM mx r : Int))) AA N C G := fun h hq => (h.set21 hq 0 _).set21 hq 1 _
    have X4 := hide (alf X3.out hA1.out)
    have Y4 := hide (alf Y3.out hA2.out)
    have X4' := hide (alf X3'.out fun a ha => by have := ha3 a ha; omega)
    have Y4' := hide (alf Y3'.out fun a ha => by have := ha4 a ha; omega)
    clear rr alf ha3 ha4 hprW2
    go_upto_region 15 with (fail)
    clear t0 t1 u0 y0 u1 y1 Q3 R3 Q2b X3 Y3 X3' Y3'
    generalize ((w3.alloc (.cells #[.slice An' (oT tb r).length cn', .int .i64 (oM mx r : Int)] 37)).setCell ⟨pr, 0, none⟩ (.slice An' (oT tb r).length cn')).setCell ⟨pr, 1, none⟩ (.int .i64 (oM mx r : Int)) = W4 at *
    obtain ⟨x0, x1⟩ := row2 Q2c.out
    have hee : (oE r != oE r) = false := by simp
    go_wp2_with fail
    refine (same21L X4.out X4'.out hnf).mono ?_
    rintro e w5 ⟨rfl, hb5⟩
    have Q5 := hide (keepRow Q2c.out hb5)
    have P5 := hide (P4.out.below hb5)
    have Y5 := hide (Y4.out.below36O hb5)
    have Y5' := hide (Y4'.out.below36O hb5)
    clear hb5 Q2c P4 X4 X4' Y4 Y4' x0 x1
    obtain ⟨x0, x1⟩ := row2 Q5.out
    go_wp2_with fail
    refine (same3L Y5.out Y5'.out).mono ?_
    rintro e w6 ⟨rfl, hb6⟩
    have P6 := hide (P5.out.below hb6)
    clear hb6 Q5 P5 Y5 Y5' x0 x1
    go_upto_region 17 with (fail)
    have P0 := hide P6.out.drew
    have Z0 := hide P0.out.rd
    obtain ⟨t0, t1⟩ := row2 P6.out.row
    have hmm : ((oM mx r : Int) != (oM mx r : Int)) = false := by simp
    have hss : ((sumL (oT tb r) : Int) != (sumL (oT tb r) : Int)) = false := by simp
    clear P6 hee
    go_region_held3 (fun W => W.cell? ⟨pr, 0, none⟩ = some (.slice An' (oT tb r).length cn') ∧ W.cell? ⟨pr, 1, none⟩ = some (.int .i64 (oM mx r : Int)))
      ((first | exact ⟨t0, t1⟩ | exact S1.out | exact S2.out | exact S3.out | (go_keep; done)))
      ((first
        | (go_at_call 12; (with_reducible refine (dmax P0.out.tl).mono ?_); rintro e wl ⟨rfl, rfl⟩)
        | (go_at_call 13; (with_reducible refine (dsize P0.out.tl).mono ?_); rintro e wl ⟨rfl, rfl⟩)
        | (go_at_call 17; (with_reducible refine (rsizeL Z0.out hnt Hwl.out).mono ?_); rintro e w1_ ⟨rfl, hb⟩; have P1 := hide (P0.out.below hb); have Z1 := hide (Z0.out.below36O hb); have kc := fun {a : Addr} {v : Value} (h : w6.drew.cell? a = some v) => (hb.cell (World.block_lt_of_cell? w6.drew _ h)).trans h; have S1 := hide (And.intro (kc t0) (kc t1)); clear kc hb)
        | (go_at_call 14; (with_reducible refine (dall P1.out.tl hnt).mono ?_); rintro e w2_ ⟨v6, rfl, ho6, hb⟩; have P2 := hide (P1.out.below hb); have Z2 := hide (Z1.out.below36O hb); have kc := fun {a : Addr} {v : Value} (h : w1_.cell? a = some v) => (hb.cell (World.block_lt_of_cell? w1_ _ h)).trans h; have S2 := hide (And.intro (kc S1.out.1) (kc S1.out.2)); clear kc hb; obtain ⟨A6, c6, rfl, _, _⟩ := ho6.rd; have V2 := hide ho6.rdS2; clear ho6)
        | (go_at_call 15; (with_reducible refine (same21L V2.out Z2.out hnt).mono ?_); rintro e w3_ ⟨rfl, hb⟩; have P3 := hide (P2.out.below hb); have Z3 := hide (Z2.out.below36O hb); have kc := fun {a : Addr} {v : Value} (h : w2_.cell? a = some v) => (hb.cell (World.block_lt_of_cell? w2_ _ h)).trans h; have S3 := hide (And.intro (kc S2.out.1) (kc S2.out.2)); clear kc hb)))
    all_goals
      go_wp2_with fail
      go_roundw
      case rel => exact ⟨k + 1, by omega, by go_num, _, _, _, _, _, P3.out⟩
      case measure => simp [intOf]; omega
end Go.Proofs.YtnkcbljhgcgpaaaDoor
