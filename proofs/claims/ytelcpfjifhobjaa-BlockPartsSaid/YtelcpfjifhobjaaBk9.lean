/- Layer 30: however a block is cut: the law's walk. -/
import Derived.Test.YtelcpfjifhobjaaBk8
import Derived.Deep.LoopGhost
namespace Go.Proofs.Ytelcpfjifhobjaa
set_option linter.unusedVariables false
set_option linter.unusedSimpArgs false
open Go.RowKit Go.Deep

abbrev set13y (w : World) (p : Nat) (b0 b1 b2 b3 b4 b5 b6 b7 b8 b9 b10 b11 b12 : Value) : World := (((((((((((((w.setCell ⟨p, 0, none⟩ b0).setCell ⟨p, 1, none⟩ b1).setCell ⟨p, 2, none⟩ b2).setCell ⟨p, 3, none⟩ b3).setCell ⟨p, 4, none⟩ b4).setCell ⟨p, 5, none⟩ b5).setCell ⟨p, 6, none⟩ b6).setCell ⟨p, 7, none⟩ b7).setCell ⟨p, 8, none⟩ b8).setCell ⟨p, 9, none⟩ b9).setCell ⟨p, 10, none⟩ b10).setCell ⟨p, 11, none⟩ b11).setCell ⟨p, 12, none⟩ b12)
theorem FrS.set13y {B p : Nat} {w : World} (hB : B ≤ p) (hg : p < w.heap.size) (b0 b1 b2 b3 b4 b5 b6 b7 b8 b9 b10 b11 b12 : Value) : FrS B (Q1 p) w (set13y w p b0 b1 b2 b3 b4 b5 b6 b7 b8 b9 b10 b11 b12) :=
  (((((((((((((FrS.set (S := Q1 p) (j := 0) (u := b0) hB hg rfl).trans (FrS.set (S := Q1 p) (j := 1) (u := b1) hB (by simpa using hg) rfl)).trans (FrS.set (S := Q1 p) (j := 2) (u := b2) hB (by simpa using hg) rfl)).trans (FrS.set (S := Q1 p) (j := 3) (u := b3) hB (by simpa using hg) rfl)).trans (FrS.set (S := Q1 p) (j := 4) (u := b4) hB (by simpa using hg) rfl)).trans (FrS.set (S := Q1 p) (j := 5) (u := b5) hB (by simpa using hg) rfl)).trans (FrS.set (S := Q1 p) (j := 6) (u := b6) hB (by simpa using hg) rfl)).trans (FrS.set (S := Q1 p) (j := 7) (u := b7) hB (by simpa using hg) rfl)).trans (FrS.set (S := Q1 p) (j := 8) (u := b8) hB (by simpa using hg) rfl)).trans (FrS.set (S := Q1 p) (j := 9) (u := b9) hB (by simpa using hg) rfl)).trans (FrS.set (S := Q1 p) (j := 10) (u := b10) hB (by simpa using hg) rfl)).trans (FrS.set (S := Q1 p) (j := 11) (u := b11) hB (by simpa using hg) rfl)).trans (FrS.set (S := Q1 p) (j := 12) (u := b12) hB (by simpa using hg) rfl))
/-- What adding the next part makes of the block. -/
def PTk (X : BS) (GT Gst Gpd : Int) (g2n : Nat) (gs gt : Nat → Int) (gwt gpa : Int) (gal : Bool) (gpm gla gco gsp : Int) (T st pm : Int) (q : Nat) (fb : Nat → Int) : Prop :=
  X.N = q ∧ takesB X GT Gst = true ∧ ∀ (m : Nat) (fm : Nat → Int) (Gfl : Int), (takeX X GT Gfl Gst Gpd m fm g2n gs gt gwt gpa gal gpm gla gco gsp).begun = true ∧ (takeX X GT Gfl Gst Gpd m fm g2n gs gt gwt gpa gal gpm gla gco gsp).T = T ∧ (takeX X GT Gfl Gst Gpd m fm g2n gs gt gwt gpa gal gpm gla gco gsp).st = st ∧ (takeX X GT Gfl Gst Gpd m fm g2n gs gt gwt gpa gal gpm gla gco gsp).pm = pm ∧ (takeX X GT Gfl Gst Gpd m fm g2n gs gt gwt gpa gal gpm gla gco gsp).N = q + m ∧ (∀ j, j < q → (takeX X GT Gfl Gst Gpd m fm g2n gs gt gwt gpa gal gpm gla gco gsp).D j = fb j) ∧ (∀ j, j < m → (takeX X GT Gfl Gst Gpd m fm g2n gs gt gwt gpa gal gpm gla gco gsp).D (q + j) = fm j)
theorem PTk.first (T st pd : Int) (hT : T = 1 ∨ T = 5) (n2 : Nat) (s t : Nat → Int) (wt pa : Int) (al : Bool) (pm la co sp : Int) (fb : Nat → Int) : PTk {} T st pd n2 s t wt pa al pm la co sp T st pm 0 fb :=
  ⟨rfl, by rcases hT with rfl | rfl <;> rfl, fun m fm Gfl => ⟨rfl, rfl, rfl, rfl, (Nat.zero_add m).symm, fun j hj => absurd hj (by omega), fun j hj => by rw [Nat.zero_add]; rfl⟩⟩
theorem PTk.next {X : BS} {T st pm : Int} {q : Nat} {fb : Nat → Int} (h1 : X.begun = true) (h2 : X.T = T) (h3 : X.st = st) (h4 : X.pm = pm) (h5 : X.N = q) (h6 : ∀ j, j < q → X.D j = fb j) (Gpd : Int) (g2n : Nat) (gs gt : Nat → Int) (gwt gpa : Int) (gal : Bool) (gpm gla gco gsp : Int) : PTk X 9 st Gpd g2n gs gt gwt gpa gal gpm gla gco gsp T st pm q fb := by
  refine ⟨h5, by unfold takesB; rw [if_pos h1, h3]; simp, fun m fm Gfl => ?_⟩
  unfold takeX
  rw [if_pos h1]
  refine ⟨h1, h2, h3, h4, by show X.N + m = _; rw [h5], fun j hj => ?_, fun j hj => ?_⟩
  · show catF X.N X.D fm j = _
    unfold catF
    rw [if_pos (by omega)]
    exact h6 j hj
  · show catF X.N X.D fm (q + j) = _
    unfold catF
    rw [if_neg (by omega), h5]
    congr 1
    omega
theorem AsOk.baseZ {B B' : Nat} {w : World} {p : Nat} {fp : Nat → Prop} {most : Int} {X : BS} (h : AsOk B w p fp most X) (hB : B' ≤ B) : AsOk B' w p fp most X := by
  obtain ⟨⟨v, A2, c2, h1, h2, h3, h4, h5⟩, hp, lo⟩ := h
  exact ⟨⟨v, A2, c2, h1, Own.baseZ h2 hB, h3, h4, h5⟩, hp, fun i hi => ⟨Nat.le_trans hB (lo i hi).1, (lo i hi).2⟩⟩
theorem hsB_flip {T fl : Int} (hT : T = 1 ∨ T = 5 ∨ T = 9) (h0 : 0 ≤ fl) (b : Bool) (hb : fl.toNat.testBit 2 = b) : hsB T fl 2 = b := by
  unfold hsB
  rw [decide_eq_true h0, hb]
  rcases hT with rfl | rfl | rfl <;> cases b <;> rfl

set_option maxRecDepth 100000 in
set_option maxHeartbeats 25600000 in
theorem parts_walk30 (T fl st pd : Int) (A : Option Addr) (n c : Nat) (f : Nat → Int) (A2 : Option Addr) (n2 c2 : Nat) (s t : Nat → Int) (wt pa : Int) (al : Bool) (pm la co sp : Int) (Ab : Option Addr) (nb cb : Nat) (fb : Nat → Int) (Ac : Option Addr) (nc cc : Nat) (fc : Nat → Int) (w : World) (ha : Rd .u8 w A n c f) (hs : Rd2 w A2 n2 c2 s t) (hb : Rd .u8 w Ab nb cb fb) (hbb : Byt nb fb) (hc : Rd .u8 w Ac nc cc fc) (hcb : Byt nc fc) (hfl64 : I64 fl) :
    Calls Try.prog 7 #[.agg #[.int .i64 T, .int .i64 fl, .int .i64 st, .int .i64 pd, .slice A n c, .slice A2 n2 c2, .int .i64 wt, .int .i64 pa, .bool al, .int .i64 pm, .int .i64 la, .int .i64 co, .int .i64 sp], .slice Ab nb cb, .slice Ac nc cc] w (Yes w) := by
  have hn63 : n ≤ 9223372036854775807 := by have h1 := ha.1; have h2 := ha.2.1; simp only [maxLen] at h2; omega
  have hb63 : nb ≤ 9223372036854775807 := by have h1 := hb.1; have h2 := hb.2.1; simp only [maxLen] at h2; omega
  have hc63 : nc ≤ 9223372036854775807 := by have h1 := hc.1; have h2 := hc.2.1; simp only [maxLen] at h2; omega
  have NBK : Hid (∀ b off, 0 < nb → Ab = some ⟨b, off, none⟩ → b < w.heap.size) := fun b off h0 e => by
    obtain ⟨b', off', e', hl, _⟩ := hb.block h0
    rw [e] at e'
    cases e'
    exact hl
  have NCK : Hid (∀ b off, 0 < nc → Ac = some ⟨b, off, none⟩ → b < w.heap.size) := fun b off h0 e => by
    obtain ⟨b', off', e', hl, _⟩ := hc.block h0
    rw [e] at e'
    cases e'
    exact hl
  have NSB : Hid (∀ b off, 0 < n2 → A2 = some ⟨b, off, none⟩ → b < w.heap.size) := fun b off h0 e => by
    obtain ⟨b', off', e', hx⟩ := hs.2.2.2 h0
    rw [e] at e'
    cases e'
    exact World.block_lt_of_cell? _ _ (hx 0 h0).1
  have R0 := hide (heap_alloc_new w (.cells #[.int .i64 T, .int .i64 fl, .int .i64 st, .int .i64 pd, .slice A n c, .slice A2 n2 c2, .int .i64 wt, .int .i64 pa, .bool al, .int .i64 pm, .int .i64 la, .int .i64 co, .int .i64 sp] 28))
  have e0 := (Below.refl w.heap.size w).alloc (Nat.le_refl _) (.cells #[.int .i64 T, .int .i64 fl, .int .i64 st, .int .i64 pd, .slice A n c, .slice A2 n2 c2, .int .i64 wt, .int .i64 pa, .bool al, .int .i64 pm, .int .i64 la, .int .i64 co, .int .i64 sp] 28)
  have E0 := hide e0
  have HS0 := hide (hs.below e0)
  have HB0 := hide (hb.below e0)
  have HC0 := hide (hc.below e0)
  have Hbb := hide hbb
  have Hcb := hide hcb
  clear ha hs hb hbb hc hcb e0
  obtain ⟨f0_, f1_, f2_, f3_, f4_, f5_, f6_, f7_, f8_, f9_, f10_, f11_, f12_⟩ := row13 R0.out
  by_cases h1 : (2000 : Int) < (nb : Int)
  · have d1 := decide_eq_true h1
    have EX := E0
    go_enter Try.func7, Try.ntmps7
    go_wp2_with fail
    refine (alive30 _).mono ?_
    rintro e w' ⟨rfl, hb⟩
    have HB := hide (EX.out.of hb)
    clear hb
    go_wp2_with fail
    go_ret
    exact ⟨rfl, HB.out⟩
  have d1 := decide_eq_false h1
  by_cases h2 : (60 : Int) < (nc : Int)
  · have d2 := decide_eq_true h2
    have EX := E0
    go_enter Try.func7, Try.ntmps7
    go_wp2_with fail
    refine (alive30 _).mono ?_
    rintro e w' ⟨rfl, hb⟩
    have HB := hide (EX.out.of hb)
    clear hb
    go_wp2_with fail
    go_ret
    exact ⟨rfl, HB.out⟩
  have d2 := decide_eq_false h2
  obtain ⟨bl, hbl⟩ : ∃ b, (decide ((2000 : Int) < (n : Int)) || decide ((100 : Int) < (n2 : Int))) = b := ⟨_, rfl⟩
  have HLG : Hid (∀ W : World, Calls Try.prog 28 #[.agg #[.int .i64 T, .int .i64 fl, .int .i64 st, .int .i64 pd, .slice A n c, .slice A2 n2 c2, .int .i64 wt, .int .i64 pa, .bool al, .int .i64 pm, .int .i64 la, .int .i64 co, .int .i64 sp]] W fun e w' => e = .returned (.bool bl) ∧ Below W.heap.size W w') := fun W => by rw [← hbl]; exact large14Z _ _ _ _ A n c A2 n2 c2 _ _ _ _ _ _ _ W
  have HBL := hide hbl
  clear hbl
  go_enter Try.func7, Try.ntmps7
  go_wp2_with fail
  refine (HLG.out _).mono ?_
  rintro e w1 ⟨rfl, hb⟩
  have R1 := hide (keepRow R0.out hb)
  have E1 := hide (E0.out.of hb)
  have HS1 := hide (HS0.out.below hb)
  have HB1 := hide (HB0.out.below hb)
  have HC1 := hide (HC0.out.below hb)
  clear hb R0 E0 HS0 HB0 HC0 f0_ f1_ f2_ f3_ f4_ f5_ f6_ f7_ f8_ f9_ f10_ f11_ f12_
  obtain ⟨f0_, f1_, f2_, f3_, f4_, f5_, f6_, f7_, f8_, f9_, f10_, f11_, f12_⟩ := row13 R1.out
  cases bl with
  | true =>
    have EX := E1
    go_wp2_with fail
    refine (alive30 _).mono ?_
    rintro e w' ⟨rfl, hb⟩
    have HB := hide (EX.out.of hb)
    clear hb
    go_wp2_with fail
    go_ret
    exact ⟨rfl, HB.out⟩
  | false =>
  have hn2 : n2 ≤ 100 := by
    have h := HBL.out
    simp at h
    omega
  by_cases h3 : T = 1 ∨ T = 5
  rotate_left
  · have t1 : (T != 1) = true := by simp; omega
    have t5 : (T != 5) = true := by simp; omega
    have EX := E1
    clear h3
    go_wp2_with fail
    refine (alive30 _).mono ?_
    rintro e w' ⟨rfl, hb⟩
    have HB := hide (EX.out.of hb)
    clear hb
    go_wp2_with fail
    go_ret
    exact ⟨rfl, HB.out⟩
  have HT := hide h3
  obtain ⟨x1, hx1⟩ : ∃ x, (T != 1) = x := ⟨_, rfl⟩
  obtain ⟨x5, hx5⟩ : ∃ x, (T != 5) = x := ⟨_, rfl⟩
  have hx : (x1 = false) ∨ (x1 = true ∧ x5 = false) := by
    rcases h3 with rfl | rfl
    · exact .inl hx1.symm
    · exact .inr ⟨hx1.symm, hx5.symm⟩
  clear h3
  by_cases h4 : fl < 0
  · have d4 := decide_eq_true h4
    have EX := E1
    rcases hx with rfl | ⟨rfl, rfl⟩
    all_goals
      go_wp2_with fail
      refine (alive30 _).mono ?_
      rintro e w' ⟨rfl, hb⟩
      have HB := hide (EX.out.of hb)
      clear hb
      go_wp2_with fail
      go_ret
      exact ⟨rfl, HB.out⟩
  have d4 := decide_eq_false h4
  by_cases h5 : (255 : Int) < fl
  · have d5 := decide_eq_true h5
    have EX := E1
    rcases hx with rfl | ⟨rfl, rfl⟩
    all_goals
      go_wp2_with fail
      refine (alive30 _).mono ?_
      rintro e w' ⟨rfl, hb⟩
      have HB := hide (EX.out.of hb)
      clear hb
      go_wp2_with fail
      go_ret
      exact ⟨rfl, HB.out⟩
  have d5 := decide_eq_false h5
  obtain ⟨q4, hq4⟩ : ∃ q, Int.tdiv fl 4 = q := ⟨_, rfl⟩
  obtain ⟨r4, hr4⟩ : ∃ r, Int.tmod q4 2 = r := ⟨_, rfl⟩
  have hq4v : q4 = fl / 4 := by rw [← hq4, Int.tdiv_eq_ediv_of_nonneg (by omega)]
  have hr4v : r4 = q4 % 2 := by rw [← hr4, Int.tmod_eq_emod_of_nonneg (by omega)]
  have wq : IntKind.i64.wrap q4 = q4 := IntWalk.i64_in _ (by omega)
  have wr4 : IntKind.i64.wrap r4 = r4 := IntWalk.i64_in _ (by omega)
  have wfl : IntKind.i64.wrap (fl - 4) = fl - 4 := IntWalk.i64_in _ (by omega)
  rcases hx with rfl | ⟨rfl, rfl⟩
  all_goals
    go_wp2_with fail
    refine (new30 2000 2000 rfl _).mono ?_
    rintro e w2 ⟨rfl, hK, hb⟩
    have hp1 := (hK.lo _ hK.hp).2
    have hw01 := E1.out.size
    have hr1 := rowLt R1.out
    have R2 := hide (keepRow R1.out hb)
    have E2 := hide (E1.out.of hb)
    have HS2 := hide (HS1.out.below hb)
    have HB2 := hide (HB1.out.below hb)
    have HC2 := hide (HC1.out.below hb)
    have K2 := hide (hK.baseZ (by omega : w.heap.size ≤ w1.heap.size))
    clear hK hb R1 E1 HS1 HB1 HC1 f0_ f1_ f2_ f3_ f4_ f5_ f6_ f7_ f8_ f9_ f10_ f11_ f12_
    obtain ⟨f0_, f1_, f2_, f3_, f4_, f5_, f6_, f7_, f8_, f9_, f10_, f11_, f12_⟩ := row13 R2.out
    have zf := frozenRow R2.out 1
    by_cases hb4 : r4 = 1
    · have db : (r4 == 1) = true := by simp [hb4]
      have db2 : (fl / 4 % 2 == 1) = true := by rw [← hq4v, ← hr4v]; exact db
      have gS := FrS.set (B := 0) (S := Q1 w.heap.size) (w := w2) (j := 1) (u := .int .i64 (fl - 4)) (Nat.zero_le _) (rowLt R2.out) rfl
      have s1_ := setRow w2 w.heap.size 1 (.int .i64 (fl - 4)) R2.out
      simp only [List.setIfInBounds_toArray, List.set_cons_zero, List.set_cons_succ] at s1_
      have R3 := hide s1_
      have E3 := hide (E2.out.setCell (p := ⟨w.heap.size, 1, none⟩) (Nat.le_refl _) (.int .i64 (fl - 4)))
      have HS3 := hide (HS2.out.frs gS (fun b off h0 e s => by have := NSB.out b off h0 e; have e2 : b = w.heap.size := s; omega))
      have HB3 := hide (HB2.out.frs gS (fun b off h0 e s => by have := NBK.out b off h0 e; have e2 : b = w.heap.size := s; omega))
      have HC3 := hide (HC2.out.frs gS (fun b off h0 e s => by have := NCK.out b off h0 e; have e2 : b = w.heap.size := s; omega))
      have K3 := hide (K2.out.frs gS (Nat.zero_le _) (fun i hi s => by have e1 : i = w1.heap.size := hi; have e2 : i = w.heap.size := s; omega))
      have HS3_ : Hid ((w2.setCell ⟨w.heap.size, 1, none⟩ (.int .i64 (fl - 4))).heap.size = w2.heap.size) := by show _ = _; simp
      have HB0_ : Hid (hsB T (fl - 4) 2 = false) := hsB_flip (HT.out.elim .inl (fun h => .inr (.inl h))) (by omega) false (by rw [Nat.testBit_eq_decide_div_mod_eq, show (2 : Nat) ^ 2 = 4 from rfl]; exact decide_eq_false (by omega))
      have HB1_ : Hid (hsB T (fl - 4 + 4) 2 = true) := hsB_flip (HT.out.elim .inl (fun h => .inr (.inl h))) (by omega) true (by rw [Nat.testBit_eq_decide_div_mod_eq, show (2 : Nat) ^ 2 = 4 from rfl]; exact decide_eq_true (by omega))
      have hbd : 0 ≤ fl - 4 ∧ fl - 4 ≤ 255 := by omega
      clear hb4 s1_ gS R2 E2 HS2 HB2 HC2 K2
      go_upto_region 6 with (fail)
      clear f0_ f1_ f2_ f3_ f4_ f5_ f6_ f7_ f8_ f9_ f10_ f11_ f12_ zf db db2
      generalize w2.setCell ⟨w.heap.size, 1, none⟩ (.int .i64 (fl - 4)) = W3 at *
      generalize fl - 4 = fl0 at *
      obtain ⟨f0_, f1_, f2_, f3_, f4_, f5_, f6_, f7_, f8_, f9_, f10_, f11_, f12_⟩ := row13 R3.out
      have hpw3 := (K3.out.lo _ K3.out.hp).2
      have e4 := (Below.refl W3.heap.size W3).alloc (Nat.le_refl _) (.cells #[.int .i64 T, .int .i64 fl0, .int .i64 st, .int .i64 pd, .slice A n c, .slice A2 n2 c2, .int .i64 wt, .int .i64 pa, .bool al, .int .i64 pm, .int .i64 la, .int .i64 co, .int .i64 sp] 28)
      have G4 := hide (heap_alloc_new W3 (.cells #[.int .i64 T, .int .i64 fl0, .int .i64 st, .int .i64 pd, .slice A n c, .slice A2 n2 c2, .int .i64 wt, .int .i64 pa, .bool al, .int .i64 pm, .int .i64 la, .int .i64 co, .int .i64 sp] 28))
      have R4 := hide (keepRow R3.out e4)
      have E4 := hide (E3.out.of e4)
      have HS4 := hide (HS3.out.below e4)
      have HB4 := hide (HB3.out.below e4)
      have HC4 := hide (HC3.out.below e4)
      have K4 := hide (K3.out.below e4)
      have hZ4 : (W3.alloc (.cells #[.int .i64 T, .int .i64 fl0, .int .i64 st, .int .i64 pd, .slice A n c, .slice A2 n2 c2, .int .i64 wt, .int .i64 pa, .bool al, .int .i64 pm, .int .i64 la, .int .i64 co, .int .i64 sp] 28)).heap.size = W3.heap.size + 1 := by simp
      clear e4 hq4 hr4 hq4v hr4v wq wr4 wfl R3 E3 HS3 HB3 HC3 K3
      go_wp2_with fail
      clear f0_ f1_ f2_ f3_ f4_ f5_ f6_ f7_ f8_ f9_ f10_ f11_ f12_
      generalize W3.alloc (.cells #[.int .i64 T, .int .i64 fl0, .int .i64 st, .int .i64 pd, .slice A n c, .slice A2 n2 c2, .int .i64 wt, .int .i64 pa, .bool al, .int .i64 pm, .int .i64 la, .int .i64 co, .int .i64 sp] 28) = W4 at *
      generalize w1.heap.size = p at *
      generalize W3.heap.size = g0 at *
      obtain ⟨Z, hZ⟩ : ∃ Z, g0 + 1 = Z := ⟨_, rfl⟩
      rw [hZ] at hZ4
      have hgZ : g0 < Z := by omega
      have hrp : w.heap.size < p := by omega
      have hrg : w.heap.size < g0 := by omega
      have hpg : p < g0 := by omega
      clear hZ
      go_loopw [8, 10] (fun left i wr => ∃ (k q : Nat) (A' : Option Addr) (c' : Nat) (fp : Nat → Prop) (X : BS) (GT Gfl Gst Gpd : Int) (vd : Value) (G2 : Option Addr) (g2n g2c : Nat) (gs gt : Nat → Int) (gwt gpa : Int) (gal : Bool) (gpm gla gco gsp : Int),
          (left = .slice A' (nb - q) c' ∧ i = .int .i64 k ∧ k ≤ nc ∧ q ≤ nb) ∧ Rd .u8 wr A' (nb - q) c' (fun j => fb (q + j)) ∧ (∀ a, 0 < nb - q → A' = some a → a.block < w.heap.size) ∧ AsOk w.heap.size wr p fp 2000 X ∧ (∀ i, fp i → i = p ∨ Z ≤ i) ∧ wr.heap[g0]? = some (.cells #[.int .i64 GT, .int .i64 Gfl, .int .i64 Gst, .int .i64 Gpd, vd, .slice G2 g2n g2c, .int .i64 gwt, .int .i64 gpa, .bool gal, .int .i64 gpm, .int .i64 gla, .int .i64 gco, .int .i64 gsp] 28 (0, 0)) ∧ wr.heap[w.heap.size]? = some (.cells #[.int .i64 T, .int .i64 fl0, .int .i64 st, .int .i64 pd, .slice A n c, .slice A2 n2 c2, .int .i64 wt, .int .i64 pa, .bool al, .int .i64 pm, .int .i64 la, .int .i64 co, .int .i64 sp] 28 (0, 0)) ∧ Rd2 wr G2 g2n g2c gs gt ∧ (∀ b off, 0 < g2n → G2 = some ⟨b, off, none⟩ → b < w.heap.size) ∧ g2n ≤ 100 ∧ (GT = 1 ∨ GT = 5 ∨ GT = 9) ∧ (0 ≤ Gfl ∧ Gfl ≤ 255 ∧ hsB GT Gfl 2 = false ∧ hsB GT (Gfl + 4) 2 = true) ∧ PTk X GT Gst Gpd g2n gs gt gwt gpa gal gpm gla gco gsp T st pm q fb ∧ Rd .u8 wr Ab nb cb fb ∧ Rd .u8 wr Ac nc cc fc ∧ Below w.heap.size w wr ∧ Z ≤ wr.heap.size) (fun _ i _ => nc - (intOf i).toNat)
      case atStart => exact ⟨0, 0, Ab, cb, Q1 p, {}, T, fl0, st, pd, .slice A n c, A2, n2, c2, s, t, wt, pa, al, pm, la, co, sp, ⟨rfl, rfl, Nat.zero_le _, Nat.zero_le _⟩, HB4.out.congr (fun j _ => by rw [Nat.zero_add]), fun a h0 e => by
          obtain ⟨b', off', e', hl, _⟩ := HB4.out.block h0
          rw [e] at e'
          cases e'
          exact NBK.out b' off' h0 e, K4.out, fun i hi => .inl hi, G4.out, R4.out, HS4.out, NSB.out, hn2, HT.out.elim .inl (fun h => .inr (.inl h)), ⟨hbd.1, hbd.2, HB0_.out, HB1_.out⟩, PTk.first T st pd HT.out n2 s t wt pa al pm la co sp fb, HB4.out, HC4.out, E4.out, by omega⟩
      case round =>
        obtain ⟨k, q, A', c', fp, X, GT, Gfl, Gst, Gpd, vd, G2, g2n, g2c, gs, gt, gwt, gpa, gal, gpm, gla, gco, gsp, ⟨rfl, rfl, hk, hq⟩, hL, hNL, hK, hfp, hg, hr, hG2, hNG, hg2n, hGT, ⟨hf0, hf1, hf2, hf3⟩, hPT, hB, hC, hE, hZw⟩ := hrel
        have hNg : ∀ i, fp i → ¬ Q1 g0 i := fun i hi s => by have e : i = g0 := s; rcases hfp i hi with h | h <;> omega
        have hNr : ∀ i, fp i → i ≠ w.heap.size := fun i hi e => by rcases hfp i hi with h | h <;> omega
        have hgw := rowLt hg
        have hL63 : nb - q ≤ 9223372036854775807 := by omega
        have hlc := hL.1
        by_cases hlt : k < nc
        · obtain ⟨cbk, coff, rfl, _, hcc⟩ := hC.block (by omega : 0 < nc)
          have hck := hcc k hlt
          have hcby := Hcb.out k hlt
          have hkn : (k : Int) < (nc : Int) := by omega
          have wk1 : IntKind.i64.wrap ((k : Int) + 1) = (k : Int) + 1 := IntWalk.i64_in _ (by omega)
          have wck : IntKind.i64.wrap (fc k) = fc k := IntWalk.i64_in _ (by omega)
          obtain ⟨m, hm⟩ : ∃ m : Nat, (m : Int) = min (fc k) ((nb - q : Nat) : Int) := ⟨(min (fc k) ((nb - q : Nat) : Int)).toNat, by omega⟩
          have hmn : m ≤ nb - q := by omega
          have HMM := hide hm
          have hmin2 : (if ((nb - q : Nat) : Int) < fc k then ((nb - q : Nat) : Int) else fc k) = (m : Int) := by split <;> omega
          clear hm
          have hcut1 := bytes_cut_h A' (nb - q) c' m (by omega)
          have hcut2 := bytes_cut A' (nb - q) c' m hmn
          have zg := frozenRow hg 4
          obtain ⟨g0_, g1_, g2_, g3_, g4_, g5_, g6_, g7_, g8_, g9_, g10_, g11_, g12_⟩ := row13 hg
          have gS := FrS.set (B := w.heap.size) (S := Q1 g0) (w := wr) (j := 4) (u := .slice (cutA A' c' 0) m c') (by omega) hgw rfl
          have s4 := setRow wr g0 4 (.slice (cutA A' c' 0) m c') hg
          simp only [List.setIfInBounds_toArray, List.set_cons_zero, List.set_cons_succ] at s4
          have G5 := hide s4
          have R5 := hide (gS.row hr (fun e => by have e2 : w.heap.size = g0 := e; omega))
          have K5 := hide (hK.frs gS (Nat.le_refl _) hNg)
          have L5 := hide (hL.frs gS (fun b off h0 e s => by have h1 := hNL _ h0 e; have e2 : b = g0 := s; simp at h1; omega))
          have P5 := hide (hG2.frs gS (fun b off h0 e s => by have h1 := hNG b off h0 e; have e2 : b = g0 := s; omega))
          have B5 := hide (hB.frs gS (fun b off h0 e s => by have h1 := NBK.out b off h0 e; have e2 : b = g0 := s; omega))
          have C5 := hide (hC.frs gS (fun b off h0 e s => by have h1 := NCK.out b off h0 e; have e2 : b = g0 := s; omega))
          have E5 := hide (hE.trans gS.bel)
          have hs5 : Z ≤ (wr.setCell ⟨g0, 4, none⟩ (.slice (cutA A' c' 0) m c')).heap.size := by simpa using hZw
          have HNL := hide hNL
          have HNG := hide hNG
          have HFP := hide hfp
          have HPT := hide hPT
          have HNg := hide hNg
          clear hL hNL hK hfp hr hG2 hNG hPT hB hC hE s4 gS hNg hcc
          go_upto_region 14 with (fail)
          clear g0_ g1_ g2_ g3_ g4_ g5_ g6_ g7_ g8_ g9_ g10_ g11_ g12_ zg hck hcut1 hcut2 hmin2
          generalize wr.setCell ⟨g0, 4, none⟩ (.slice (cutA A' c' 0) m c') = W5 at *
          obtain ⟨g0_, g1_, g2_, g3_, g4_, g5_, g6_, g7_, g8_, g9_, g10_, g11_, g12_⟩ := row13 G5.out
          have hqN := HPT.out.1
          go_wp2_with fail
          refine (addMore30 GT Gfl Gst Gpd (cutA A' c' 0) m c' (fun j => fb (q + j)) G2 g2n g2c gs gt gwt gpa gal gpm gla gco gsp w.heap.size p fp 2000 X _ K5.out (by omega) HPT.out.2.1 (by rcases hGT with rfl | rfl | rfl <;> rfl) (by decide) (by omega) (L5.out.front hmn) P5.out (by omega) (by omega) (fun b off h0 e => by
            obtain ⟨b0, e0, e1⟩ := cutA_block e
            have h1 := HNL.out b0 (by omega) e0
            simp at e1
            omega) (fun b off h0 e => by have := HNG.out b off h0 e; omega) (by omega) hf2).mono ?_
          rintro e w7 ⟨rfl, fp', hK7, hfp7, hF7⟩
          have e8 := (Below.refl w7.heap.size w7).alloc (Nat.le_refl _) (.cells z13 28)
          have hs7 := hF7.bel.size
          have G8 := hide (keepRow (hF7.row G5.out (fun h => HNg.out _ h rfl)) e8)
          have R8 := hide (keepRow (hF7.row R5.out (fun h => hNr _ h rfl)) e8)
          have K8 := hide (hK7.below e8)
          have FP8 : Hid (∀ i, fp' i → i = p ∨ Z ≤ i) := fun i hi => (hfp7 i hi).elim (HFP.out i) (fun h => .inr (by omega))
          have hq1 : ∀ b, b < w.heap.size → ¬ fp b := fun b h hf => by rcases HFP.out b hf with h1 | h1 <;> omega
          have L8 := hide ((L5.out.frs hF7 (fun b off h0 e s => by have h1 := HNL.out _ h0 e; exact hq1 b (by simpa using h1) s)).below e8)
          have B8 := hide ((B5.out.frs hF7 (fun b off h0 e s => hq1 b (NBK.out b off h0 e) s)).below e8)
          have C8 := hide ((C5.out.frs hF7 (fun b off h0 e s => hq1 b (NCK.out b off h0 e) s)).below e8)
          have E8 := hide ((E5.out.trans hF7.bel).of e8)
          have hs8 : (w7.alloc (.cells z13 28)).heap.size = w7.heap.size + 1 := by simp
          clear e8 hK7 hfp7 hF7 hq1 G5 R5 K5 L5 P5 B5 C5 E5 g0_ g1_ g2_ g3_ g4_ g5_ g6_ g7_ g8_ g9_ g10_ g11_ g12_
          go_upto_region 17 with (fail)
          generalize w7.alloc (.cells z13 28) = W8 at *
          obtain ⟨f0_, f1_, f2_, f3_, f4_, f5_, f6_, f7_, f8_, f9_, f10_, f11_, f12_⟩ := row13 R8.out
          obtain ⟨⟨k0_, z0_⟩, ⟨k1_, z1_⟩, ⟨k2_, z2_⟩, ⟨k3_, z3_⟩, ⟨k4_, z4_⟩, ⟨k5_, z5_⟩, ⟨k6_, z6_⟩, ⟨k7_, z7_⟩, ⟨k8_, z8_⟩, ⟨k9_, z9_⟩, ⟨k10_, z10_⟩, ⟨k11_, z11_⟩, ⟨k12_, z12_⟩, rz⟩ := store13 G8.out (.int .i64 9) (.int .i64 0) (.int .i64 st) (.int .i64 0) (.slice none 0 0) (.slice none 0 0) (.int .i64 0) (.int .i64 0) (.bool false) (.int .i64 0) (.int .i64 0) (.int .i64 0) (.int .i64 0)
          have g9 := FrS.set13y (B := w.heap.size) (p := g0) (by omega) (rowLt G8.out) (.int .i64 9) (.int .i64 0) (.int .i64 st) (.int .i64 0) (.slice none 0 0) (.slice none 0 0) (.int .i64 0) (.int .i64 0) (.bool false) (.int .i64 0) (.int .i64 0) (.int .i64 0) (.int .i64 0)
          have hN8 : ∀ i, fp' i → ¬ Q1 g0 i := fun i hi s => by have e : i = g0 := s; rcases FP8.out i hi with h | h <;> omega
          have NEW : Hid (set13y W8 g0 (.int .i64 9) (.int .i64 0) (.int .i64 st) (.int .i64 0) (.slice none 0 0) (.slice none 0 0) (.int .i64 0) (.int .i64 0) (.bool false) (.int .i64 0) (.int .i64 0) (.int .i64 0) (.int .i64 0) |> fun W => W.heap[g0]? = some (.cells #[.int .i64 9, .int .i64 0, .int .i64 st, .int .i64 0, .slice none 0 0, .slice none 0 0, .int .i64 0, .int .i64 0, .bool false, .int .i64 0, .int .i64 0, .int .i64 0, .int .i64 0] 28 (0, 0)) ∧ W.heap[w.heap.size]? = some (.cells #[.int .i64 T, .int .i64 fl0, .int .i64 st, .int .i64 pd, .slice A n c, .slice A2 n2 c2, .int .i64 wt, .int .i64 pa, .bool al, .int .i64 pm, .int .i64 la, .int .i64 co, .int .i64 sp] 28 (0, 0)) ∧ AsOk w.heap.size W p fp' 2000 (takeX X GT Gfl Gst Gpd m (fun j => fb (q + j)) g2n gs gt gwt gpa gal gpm gla gco gsp) ∧ Rd .u8 W A' (nb - q) c' (fun j => fb (q + j)) ∧ Rd .u8 W Ab nb cb fb ∧ Rd .u8 W (some ⟨cbk, coff, none⟩) nc cc fc ∧ Below w.heap.size w W ∧ Z ≤ W.heap.size) :=
            ⟨rz, g9.row R8.out (fun e => by have e2 : w.heap.size = g0 := e; omega), K8.out.frs g9 (Nat.le_refl _) hN8, L8.out.frs g9 (fun b off h0 e s => by have h1 := HNL.out _ h0 e; have e2 : b = g0 := s; simp at h1; omega), B8.out.frs g9 (fun b off h0 e s => by have h1 := NBK.out b off h0 e; have e2 : b = g0 := s; omega), C8.out.frs g9 (fun b off h0 e s => by have h1 := NCK.out b off h0 e; have e2 : b = g0 := s; omega), E8.out.trans g9.bel, by have := g9.bel.size; omega⟩
          clear rz g9 hN8 G8 R8 K8 L8 B8 C8 E8
          go_upto_region 10 with (fail)
          with_reducible refine absY (set13y W8 g0 (.int .i64 9) (.int .i64 0) (.int .i64 st) (.int .i64 0) (.slice none 0 0) (.slice none 0 0) (.int .i64 0) (.int .i64 0) (.bool false) (.int .i64 0) (.int .i64 0) (.int .i64 0) (.int .i64 0)) (fun W => W.heap[g0]? = some (.cells #[.int .i64 9, .int .i64 0, .int .i64 st, .int .i64 0, .slice none 0 0, .slice none 0 0, .int .i64 0, .int .i64 0, .bool false, .int .i64 0, .int .i64 0, .int .i64 0, .int .i64 0] 28 (0, 0)) ∧ W.heap[w.heap.size]? = some (.cells #[.int .i64 T, .int .i64 fl0, .int .i64 st, .int .i64 pd, .slice A n c, .slice A2 n2 c2, .int .i64 wt, .int .i64 pa, .bool al, .int .i64 pm, .int .i64 la, .int .i64 co, .int .i64 sp] 28 (0, 0)) ∧ AsOk w.heap.size W p fp' 2000 (takeX X GT Gfl Gst Gpd m (fun j => fb (q + j)) g2n gs gt gwt gpa gal gpm gla gco gsp) ∧ Rd .u8 W A' (nb - q) c' (fun j => fb (q + j)) ∧ Rd .u8 W Ab nb cb fb ∧ Rd .u8 W (some ⟨cbk, coff, none⟩) nc cc fc ∧ Below w.heap.size w W ∧ Z ≤ W.heap.size) NEW.out ?_
          clear NEW k0_ z0_ k1_ z1_ k2_ z2_ k3_ z3_ k4_ z4_ k5_ z5_ k6_ z6_ k7_ z7_ k8_ z8_ k9_ z9_ k10_ z10_ k11_ z11_ k12_ z12_ f0_ f1_ f2_ f3_ f4_ f5_ f6_ f7_ f8_ f9_ f10_ f11_ f12_
          rintro W9 ⟨n1, n2_, n3, n4, n5, n6, n7, n8⟩
          obtain ⟨y1, y2, y3, y4, y5, y6, y7⟩ := HPT.out.2.2 m (fun j => fb (q + j)) Gfl
          generalize takeX X GT Gfl Gst Gpd m (fun j => fb (q + j)) g2n gs gt gwt gpa gal gpm gla gco gsp = Y at *
          have hD : ∀ j, j < q + m → Y.D j = fb j := fun j hj => by
            by_cases h : j < q
            · exact y6 j h
            · have := y7 (j - q) (by omega)
              rw [show q + (j - q) = j by omega] at this
              exact this
          have NXT : Hid (∃ (k_ q_ : Nat) (A'_ : Option Addr) (c'_ : Nat) (fp_ : Nat → Prop) (X_ : BS) (GT_ Gfl_ Gst_ Gpd_ : Int) (vd_ : Value) (G2_ : Option Addr) (g2n_ g2c_ : Nat) (gs_ gt_ : Nat → Int) (gwt_ gpa_ : Int) (gal_ : Bool) (gpm_ gla_ gco_ gsp_ : Int),
              (Value.slice (cutA A' c' m) (nb - q - m) (c' - m) = .slice A'_ (nb - q_) c'_ ∧ Value.int .i64 ((k : Int) + 1) = .int .i64 k_ ∧ k_ ≤ nc ∧ q_ ≤ nb) ∧ Rd .u8 W9 A'_ (nb - q_) c'_ (fun j => fb (q_ + j)) ∧ (∀ a, 0 < nb - q_ → A'_ = some a → a.block < w.heap.size) ∧ AsOk w.heap.size W9 p fp_ 2000 X_ ∧ (∀ i, fp_ i → i = p ∨ Z ≤ i) ∧ W9.heap[g0]? = some (.cells #[.int .i64 GT_, .int .i64 Gfl_, .int .i64 Gst_, .int .i64 Gpd_, vd_, .slice G2_ g2n_ g2c_, .int .i64 gwt_, .int .i64 gpa_, .bool gal_, .int .i64 gpm_, .int .i64 gla_, .int .i64 gco_, .int .i64 gsp_] 28 (0, 0)) ∧ W9.heap[w.heap.size]? = some (.cells #[.int .i64 T, .int .i64 fl0, .int .i64 st, .int .i64 pd, .slice A n c, .slice A2 n2 c2, .int .i64 wt, .int .i64 pa, .bool al, .int .i64 pm, .int .i64 la, .int .i64 co, .int .i64 sp] 28 (0, 0)) ∧ Rd2 W9 G2_ g2n_ g2c_ gs_ gt_ ∧ (∀ b off, 0 < g2n_ → G2_ = some ⟨b, off, none⟩ → b < w.heap.size) ∧ g2n_ ≤ 100 ∧ (GT_ = 1 ∨ GT_ = 5 ∨ GT_ = 9) ∧ (0 ≤ Gfl_ ∧ Gfl_ ≤ 255 ∧ hsB GT_ Gfl_ 2 = false ∧ hsB GT_ (Gfl_ + 4) 2 = true) ∧ PTk X_ GT_ Gst_ Gpd_ g2n_ gs_ gt_ gwt_ gpa_ gal_ gpm_ gla_ gco_ gsp_ T st pm q_ fb ∧ Rd .u8 W9 Ab nb cb fb ∧ Rd .u8 W9 (some ⟨cbk, coff, none⟩) nc cc fc ∧ Below w.heap.size w W9 ∧ Z ≤ W9.heap.size) := ⟨k + 1, q + m, cutA A' c' m, c' - m, fp', Y, 9, 0, st, 0, .slice none 0 0, none, 0, 0, oneF 0, oneF 0, 0, 0, false, 0, 0, 0, 0, ⟨by rw [Nat.sub_sub], congrArg _ (by omega), by omega, by omega⟩, (by
              have h := n4.cutR (lo := m) (hi := nb - q) hmn (Nat.le_refl _)
              rw [Nat.sub_sub] at h
              exact h.congr (fun j _ => by rw [Nat.add_assoc])), fun a h0 e => by
              obtain ⟨b0, e0, e1⟩ := cutA_block e
              rw [← e1]
              exact HNL.out b0 (by omega) e0, n3, FP8.out, n1, n2_, Rd2.nil _ _ _, fun b off h0 _ => absurd h0 (by omega), by omega, .inr (.inr rfl), ⟨by omega, by omega, rfl, rfl⟩, PTk.next y1 y2 y3 y4 y5 hD _ _ _ _ _ _ _ _ _ _ _, n5, n6, n7, n8⟩
          clear n1 n2_ n3 n4 n5 n6 n7 n8 y1 y2 y3 y4 y5 y6 y7 hD
          go_wp2_with fail
          exact ⟨NXT.out, by simp [intOf]; omega⟩
        · obtain rfl : k = nc := by omega
          have zg4 := frozenRow hg 4
          have hf255 : IntKind.i64.wrap (Gfl + 4) = Gfl + 4 := IntWalk.i64_in _ (by omega)
          obtain ⟨g0_, g1_, g2_, g3_, g4_, g5_, g6_, g7_, g8_, g9_, g10_, g11_, g12_⟩ := row13 hg
          have gS := FrS.set (B := w.heap.size) (S := Q1 g0) (w := wr) (j := 4) (u := .slice A' (nb - q) c') (by omega) hgw rfl
          have s4 := setRow wr g0 4 (.slice A' (nb - q) c') hg
          simp only [List.setIfInBounds_toArray, List.set_cons_zero, List.set_cons_succ] at s4
          have zg1 := frozenRow s4 1
          obtain ⟨-, sg1, -⟩ := row13 s4
          have s5 := setRow (wr.setCell ⟨g0, 4, none⟩ (.slice A' (nb - q) c')) g0 1 (.int .i64 (Gfl + 4)) s4
          simp only [List.setIfInBounds_toArray, List.set_cons_zero, List.set_cons_succ] at s5
          have gS2 := gS.trans (FrS.set (B := w.heap.size) (S := Q1 g0) (w := wr.setCell ⟨g0, 4, none⟩ (.slice A' (nb - q) c')) (j := 1) (u := .int .i64 (Gfl + 4)) (by omega) (by simpa using hgw) rfl)
          have G5 := hide s5
          have R5 := hide (gS2.row hr (fun e => by have e2 : w.heap.size = g0 := e; omega))
          have K5 := hide (hK.frs gS2 (Nat.le_refl _) hNg)
          have L5 := hide (hL.frs gS2 (fun b off h0 e s => by have h1 := hNL _ h0 e; have e2 : b = g0 := s; simp at h1; omega))
          have P5 := hide (hG2.frs gS2 (fun b off h0 e s => by have h1 := hNG b off h0 e; have e2 : b = g0 := s; omega))
          have B5 := hide (hB.frs gS2 (fun b off h0 e s => by have h1 := NBK.out b off h0 e; have e2 : b = g0 := s; omega))
          have E5 := hide (hE.trans gS2.bel)
          have hs5 : Z ≤ ((wr.setCell ⟨g0, 4, none⟩ (.slice A' (nb - q) c')).setCell ⟨g0, 1, none⟩ (.int .i64 (Gfl + 4))).heap.size := by simpa using hZw
          have HNL := hide hNL
          have HNG := hide hNG
          have HFP := hide hfp
          have HPT := hide hPT
          have HNg := hide hNg
          have HNr := hide hNr
          clear hL hNL hK hfp hr hG2 hNG hPT hB hC hE s4 s5 gS gS2 hNg hNr
          go_upto_region 20 with (fail)
          clear g0_ g1_ g2_ g3_ g4_ g5_ g6_ g7_ g8_ g9_ g10_ g11_ g12_ zg4 zg1 sg1
          generalize (wr.setCell ⟨g0, 4, none⟩ (.slice A' (nb - q) c')).setCell ⟨g0, 1, none⟩ (.int .i64 (Gfl + 4)) = W5 at *
          obtain ⟨g0_, g1_, g2_, g3_, g4_, g5_, g6_, g7_, g8_, g9_, g10_, g11_, g12_⟩ := row13 G5.out
          have hqN := HPT.out.1
          obtain ⟨y1, y2, y3, y4, y5, y6, y7⟩ := HPT.out.2.2 (nb - q) (fun j => fb (q + j)) (Gfl + 4)
          obtain ⟨Y, hY⟩ : ∃ Y, takeX X GT (Gfl + 4) Gst Gpd (nb - q) (fun j => fb (q + j)) g2n gs gt gwt gpa gal gpm gla gco gsp = Y := ⟨_, rfl⟩
          rw [hY] at y1 y2 y3 y4 y5 y6 y7
          have hYN : Y.N = nb := by omega
          have HD : Hid (∀ j, j < Y.N → Y.D j = fb j) := fun j hj => by
            by_cases h : j < q
            · exact y6 j h
            · have := y7 (j - q) (by omega)
              rw [show q + (j - q) = j by omega] at this
              exact this
          have HSA : Hid (sameB Y.N nb Y.D fb = true) := sameB_yes hYN HD.out
          have cT : (Y.T == T) = true := by rw [y2]; simp
          have cS : (Y.st == st) = true := by rw [y3]; simp
          have cP : (Y.pm == pm) = true := by rw [y4]; simp
          have HY := hide hY
          clear y1 y2 y3 y4 y5 y6 y7 hYN hY
          go_wp2_with fail
          refine (addEnd30 GT (Gfl + 4) Gst Gpd A' (nb - q) c' (fun j => fb (q + j)) G2 g2n g2c gs gt gwt gpa gal gpm gla gco gsp w.heap.size p fp 2000 X _ K5.out (by omega) HPT.out.2.1 (by rcases hGT with rfl | rfl | rfl <;> rfl) (by decide) (by omega) L5.out P5.out (by omega) (by omega) (fun b off h0 e => by
            have h1 := HNL.out _ h0 e
            simp at h1
            omega) (fun b off h0 e => by have := HNG.out b off h0 e; omega) (by omega) hf3 Y HY.out).mono ?_
          rintro e w7 ⟨A4, c4, A5, c5, rfl, hr4, hr5, hK7, hF7⟩
          have e8 := (Below.refl w7.heap.size w7).alloc (Nat.le_refl _) (.cells #[.int .i64 Y.T, .int .i64 Y.fl, .int .i64 Y.st, .int .i64 Y.pd, .slice A4 Y.N c4, .slice A5 Y.n2 c5, .int .i64 Y.wt, .int .i64 Y.pa, .bool Y.al, .int .i64 Y.pm, .int .i64 Y.la, .int .i64 Y.co, .int .i64 Y.sp] 28)
          have hq1 : ∀ b, b < w.heap.size → ¬ fp b := fun b h hf => by rcases HFP.out b hf with h1 | h1 <;> omega
          have W8_ := hide (heap_alloc_new w7 (.cells #[.int .i64 Y.T, .int .i64 Y.fl, .int .i64 Y.st, .int .i64 Y.pd, .slice A4 Y.N c4, .slice A5 Y.n2 c5, .int .i64 Y.wt, .int .i64 Y.pa, .bool Y.al, .int .i64 Y.pm, .int .i64 Y.la, .int .i64 Y.co, .int .i64 Y.sp] 28))
          have R8 := hide (keepRow (hF7.row R5.out (fun h => HNr.out _ h rfl)) e8)
          have K8 := hide (hK7.below e8)
          have D8 := hide (hr4.below e8)
          have B8 := hide ((B5.out.frs hF7 (fun b off h0 e s => hq1 b (NBK.out b off h0 e) s)).below e8)
          have E8 := hide ((E5.out.trans hF7.bel).of e8)
          clear e8 hr4 hr5 hK7 hF7 hq1 G5 R5 K5 L5 P5 B5 E5 g0_ g1_ g2_ g3_ g4_ g5_ g6_ g7_ g8_ g9_ g10_ g11_ g12_
          go_upto_region 21 with (fail)
          generalize w7.alloc (.cells #[.int .i64 Y.T, .int .i64 Y.fl, .int .i64 Y.st, .int .i64 Y.pd, .slice A4 Y.N c4, .slice A5 Y.n2 c5, .int .i64 Y.wt, .int .i64 Y.pa, .bool Y.al, .int .i64 Y.pm, .int .i64 Y.la, .int .i64 Y.co, .int .i64 Y.sp] 28) = W8 at *
          generalize w7.heap.size = b8 at *
          go_wp2_with fail
          refine (open30 w.heap.size p (Q1 p) 2000 {} _ K8.out).mono ?_
          rintro e w9 ⟨rfl, rfl⟩
          obtain ⟨g0_, g1_, g2_, g3_, g4_, g5_, g6_, g7_, g8_, g9_, g10_, g11_, g12_⟩ := row13 W8_.out
          go_wp2_with fail
          refine (rsame_any A4 Ab Y.N nb c4 cb Y.D fb _ D8.out B8.out).mono ?_
          rw [HSA.out]
          rintro e w10 ⟨rfl, hd⟩
          have W10 := hide (keepRow W8_.out (drawn_below hd _))
          have R10 := hide (keepRow R8.out (drawn_below hd _))
          have E10 := hide (E8.out.of (drawn_below hd _))
          clear hd g0_ g1_ g2_ g3_ g4_ g5_ g6_ g7_ g8_ g9_ g10_ g11_ g12_ W8_ R8 E8 K8 D8 B8
          obtain ⟨g0_, g1_, g2_, g3_, g4_, g5_, g6_, g7_, g8_, g9_, g10_, g11_, g12_⟩ := row13 W10.out
          obtain ⟨f0_, f1_, f2_, f3_, f4_, f5_, f6_, f7_, f8_, f9_, f10_, f11_, f12_⟩ := row13 R10.out
          go_wp2_with fail
          refine (alive30 _).mono ?_
          rintro e w' ⟨rfl, hb⟩
          have HB := hide (E10.out.of hb)
          clear hb
          go_wp2_with fail
          go_ret
          exact ⟨rfl, HB.out⟩
    · have db : (r4 == 1) = false := by simp [hb4]
      have db2 : (fl / 4 % 2 == 1) = false := by rw [← hq4v, ← hr4v]; exact db
      have R3 := R2
      have E3 := E2
      have HS3 := HS2
      have HB3 := HB2
      have HC3 := HC2
      have K3 := K2
      have HS3_ : Hid (w2.heap.size = w2.heap.size) := rfl
      have HB0_ : Hid (hsB T fl 2 = false) := hsB_flip (HT.out.elim .inl (fun h => .inr (.inl h))) (by omega) false (by rw [Nat.testBit_eq_decide_div_mod_eq, show (2 : Nat) ^ 2 = 4 from rfl]; exact decide_eq_false (by omega))
      have HB1_ : Hid (hsB T (fl + 4) 2 = true) := hsB_flip (HT.out.elim .inl (fun h => .inr (.inl h))) (by omega) true (by rw [Nat.testBit_eq_decide_div_mod_eq, show (2 : Nat) ^ 2 = 4 from rfl]; exact decide_eq_true (by omega))
      have hbd : 0 ≤ fl ∧ fl ≤ 255 := by omega
      clear hb4 R2 E2 HS2 HB2 HC2 K2
      go_upto_region 6 with (fail)
      clear f0_ f1_ f2_ f3_ f4_ f5_ f6_ f7_ f8_ f9_ f10_ f11_ f12_ zf db db2
      obtain ⟨f0_, f1_, f2_, f3_, f4_, f5_, f6_, f7_, f8_, f9_, f10_, f11_, f12_⟩ := row13 R3.out
      have hpw3 := (K3.out.lo _ K3.out.hp).2
      have e4 := (Below.refl w2.heap.size w2).alloc (Nat.le_refl _) (.cells #[.int .i64 T, .int .i64 fl, .int .i64 st, .int .i64 pd, .slice A n c, .slice A2 n2 c2, .int .i64 wt, .int .i64 pa, .bool al, .int .i64 pm, .int .i64 la, .int .i64 co, .int .i64 sp] 28)
      have G4 := hide (heap_alloc_new w2 (.cells #[.int .i64 T, .int .i64 fl, .int .i64 st, .int .i64 pd, .slice A n c, .slice A2 n2 c2, .int .i64 wt, .int .i64 pa, .bool al, .int .i64 pm, .int .i64 la, .int .i64 co, .int .i64 sp] 28))
      have R4 := hide (keepRow R3.out e4)
      have E4 := hide (E3.out.of e4)
      have HS4 := hide (HS3.out.below e4)
      have HB4 := hide (HB3.out.below e4)
      have HC4 := hide (HC3.out.below e4)
      have K4 := hide (K3.out.below e4)
      have hZ4 : (w2.alloc (.cells #[.int .i64 T, .int .i64 fl, .int .i64 st, .int .i64 pd, .slice A n c, .slice A2 n2 c2, .int .i64 wt, .int .i64 pa, .bool al, .int .i64 pm, .int .i64 la, .int .i64 co, .int .i64 sp] 28)).heap.size = w2.heap.size + 1 := by simp
      clear e4 hq4 hr4 hq4v hr4v wq wr4 wfl R3 E3 HS3 HB3 HC3 K3
      go_wp2_with fail
      clear f0_ f1_ f2_ f3_ f4_ f5_ f6_ f7_ f8_ f9_ f10_ f11_ f12_
      generalize w2.alloc (.cells #[.int .i64 T, .int .i64 fl, .int .i64 st, .int .i64 pd, .slice A n c, .slice A2 n2 c2, .int .i64 wt, .int .i64 pa, .bool al, .int .i64 pm, .int .i64 la, .int .i64 co, .int .i64 sp] 28) = W4 at *
      generalize w1.heap.size = p at *
      generalize w2.heap.size = g0 at *
      obtain ⟨Z, hZ⟩ : ∃ Z, g0 + 1 = Z := ⟨_, rfl⟩
      rw [hZ] at hZ4
      have hgZ : g0 < Z := by omega
      have hrp : w.heap.size < p := by omega
      have hrg : w.heap.size < g0 := by omega
      have hpg : p < g0 := by omega
      clear hZ
      go_loopw [8, 10] (fun left i wr => ∃ (k q : Nat) (A' : Option Addr) (c' : Nat) (fp : Nat → Prop) (X : BS) (GT Gfl Gst Gpd : Int) (vd : Value) (G2 : Option Addr) (g2n g2c : Nat) (gs gt : Nat → Int) (gwt gpa : Int) (gal : Bool) (gpm gla gco gsp : Int),
          (left = .slice A' (nb - q) c' ∧ i = .int .i64 k ∧ k ≤ nc ∧ q ≤ nb) ∧ Rd .u8 wr A' (nb - q) c' (fun j => fb (q + j)) ∧ (∀ a, 0 < nb - q → A' = some a → a.block < w.heap.size) ∧ AsOk w.heap.size wr p fp 2000 X ∧ (∀ i, fp i → i = p ∨ Z ≤ i) ∧ wr.heap[g0]? = some (.cells #[.int .i64 GT, .int .i64 Gfl, .int .i64 Gst, .int .i64 Gpd, vd, .slice G2 g2n g2c, .int .i64 gwt, .int .i64 gpa, .bool gal, .int .i64 gpm, .int .i64 gla, .int .i64 gco, .int .i64 gsp] 28 (0, 0)) ∧ wr.heap[w.heap.size]? = some (.cells #[.int .i64 T, .int .i64 fl, .int .i64 st, .int .i64 pd, .slice A n c, .slice A2 n2 c2, .int .i64 wt, .int .i64 pa, .bool al, .int .i64 pm, .int .i64 la, .int .i64 co, .int .i64 sp] 28 (0, 0)) ∧ Rd2 wr G2 g2n g2c gs gt ∧ (∀ b off, 0 < g2n → G2 = some ⟨b, off, none⟩ → b < w.heap.size) ∧ g2n ≤ 100 ∧ (GT = 1 ∨ GT = 5 ∨ GT = 9) ∧ (0 ≤ Gfl ∧ Gfl ≤ 255 ∧ hsB GT Gfl 2 = false ∧ hsB GT (Gfl + 4) 2 = true) ∧ PTk X GT Gst Gpd g2n gs gt gwt gpa gal gpm gla gco gsp T st pm q fb ∧ Rd .u8 wr Ab nb cb fb ∧ Rd .u8 wr Ac nc cc fc ∧ Below w.heap.size w wr ∧ Z ≤ wr.heap.size) (fun _ i _ => nc - (intOf i).toNat)
      case atStart => exact ⟨0, 0, Ab, cb, Q1 p, {}, T, fl, st, pd, .slice A n c, A2, n2, c2, s, t, wt, pa, al, pm, la, co, sp, ⟨rfl, rfl, Nat.zero_le _, Nat.zero_le _⟩, HB4.out.congr (fun j _ => by rw [Nat.zero_add]), fun a h0 e => by
          obtain ⟨b', off', e', hl, _⟩ := HB4.out.block h0
          rw [e] at e'
          cases e'
          exact NBK.out b' off' h0 e, K4.out, fun i hi => .inl hi, G4.out, R4.out, HS4.out, NSB.out, hn2, HT.out.elim .inl (fun h => .inr (.inl h)), ⟨hbd.1, hbd.2, HB0_.out, HB1_.out⟩, PTk.first T st pd HT.out n2 s t wt pa al pm la co sp fb, HB4.out, HC4.out, E4.out, by omega⟩
      case round =>
        obtain ⟨k, q, A', c', fp, X, GT, Gfl, Gst, Gpd, vd, G2, g2n, g2c, gs, gt, gwt, gpa, gal, gpm, gla, gco, gsp, ⟨rfl, rfl, hk, hq⟩, hL, hNL, hK, hfp, hg, hr, hG2, hNG, hg2n, hGT, ⟨hf0, hf1, hf2, hf3⟩, hPT, hB, hC, hE, hZw⟩ := hrel
        have hNg : ∀ i, fp i → ¬ Q1 g0 i := fun i hi s => by have e : i = g0 := s; rcases hfp i hi with h | h <;> omega
        have hNr : ∀ i, fp i → i ≠ w.heap.size := fun i hi e => by rcases hfp i hi with h | h <;> omega
        have hgw := rowLt hg
        have hL63 : nb - q ≤ 9223372036854775807 := by omega
        have hlc := hL.1
        by_cases hlt : k < nc
        · obtain ⟨cbk, coff, rfl, _, hcc⟩ := hC.block (by omega : 0 < nc)
          have hck := hcc k hlt
          have hcby := Hcb.out k hlt
          have hkn : (k : Int) < (nc : Int) := by omega
          have wk1 : IntKind.i64.wrap ((k : Int) + 1) = (k : Int) + 1 := IntWalk.i64_in _ (by omega)
          have wck : IntKind.i64.wrap (fc k) = fc k := IntWalk.i64_in _ (by omega)
          obtain ⟨m, hm⟩ : ∃ m : Nat, (m : Int) = min (fc k) ((nb - q : Nat) : Int) := ⟨(min (fc k) ((nb - q : Nat) : Int)).toNat, by omega⟩
          have hmn : m ≤ nb - q := by omega
          have HMM := hide hm
          have hmin2 : (if ((nb - q : Nat) : Int) < fc k then ((nb - q : Nat) : Int) else fc k) = (m : Int) := by split <;> omega
          clear hm
          have hcut1 := bytes_cut_h A' (nb - q) c' m (by omega)
          have hcut2 := bytes_cut A' (nb - q) c' m hmn
          have zg := frozenRow hg 4
          obtain ⟨g0_, g1_, g2_, g3_, g4_, g5_, g6_, g7_, g8_, g9_, g10_, g11_, g12_⟩ := row13 hg
          have gS := FrS.set (B := w.heap.size) (S := Q1 g0) (w := wr) (j := 4) (u := .slice (cutA A' c' 0) m c') (by omega) hgw rfl
          have s4 := setRow wr g0 4 (.slice (cutA A' c' 0) m c') hg
          simp only [List.setIfInBounds_toArray, List.set_cons_zero, List.set_cons_succ] at s4
          have G5 := hide s4
          have R5 := hide (gS.row hr (fun e => by have e2 : w.heap.size = g0 := e; omega))
          have K5 := hide (hK.frs gS (Nat.le_refl _) hNg)
          have L5 := hide (hL.frs gS (fun b off h0 e s => by have h1 := hNL _ h0 e; have e2 : b = g0 := s; simp at h1; omega))
          have P5 := hide (hG2.frs gS (fun b off h0 e s => by have h1 := hNG b off h0 e; have e2 : b = g0 := s; omega))
          have B5 := hide (hB.frs gS (fun b off h0 e s => by have h1 := NBK.out b off h0 e; have e2 : b = g0 := s; omega))
          have C5 := hide (hC.frs gS (fun b off h0 e s => by have h1 := NCK.out b off h0 e; have e2 : b = g0 := s; omega))
          have E5 := hide (hE.trans gS.bel)
          have hs5 : Z ≤ (wr.setCell ⟨g0, 4, none⟩ (.slice (cutA A' c' 0) m c')).heap.size := by simpa using hZw
          have HNL := hide hNL
          have HNG := hide hNG
          have HFP := hide hfp
          have HPT := hide hPT
          have HNg := hide hNg
          clear hL hNL hK hfp hr hG2 hNG hPT hB hC hE s4 gS hNg hcc
          go_upto_region 14 with (fail)
          clear g0_ g1_ g2_ g3_ g4_ g5_ g6_ g7_ g8_ g9_ g10_ g11_ g12_ zg hck hcut1 hcut2 hmin2
          generalize wr.setCell ⟨g0, 4, none⟩ (.slice (cutA A' c' 0) m c') = W5 at *
          obtain ⟨g0_, g1_, g2_, g3_, g4_, g5_, g6_, g7_, g8_, g9_, g10_, g11_, g12_⟩ := row13 G5.out
          have hqN := HPT.out.1
          go_wp2_with fail
          refine (addMore30 GT Gfl Gst Gpd (cutA A' c' 0) m c' (fun j => fb (q + j)) G2 g2n g2c gs gt gwt gpa gal gpm gla gco gsp w.heap.size p fp 2000 X _ K5.out (by omega) HPT.out.2.1 (by rcases hGT with rfl | rfl | rfl <;> rfl) (by decide) (by omega) (L5.out.front hmn) P5.out (by omega) (by omega) (fun b off h0 e => by
            obtain ⟨b0, e0, e1⟩ := cutA_block e
            have h1 := HNL.out b0 (by omega) e0
            simp at e1
            omega) (fun b off h0 e => by have := HNG.out b off h0 e; omega) (by omega) hf2).mono ?_
          rintro e w7 ⟨rfl, fp', hK7, hfp7, hF7⟩
          have e8 := (Below.refl w7.heap.size w7).alloc (Nat.le_refl _) (.cells z13 28)
          have hs7 := hF7.bel.size
          have G8 := hide (keepRow (hF7.row G5.out (fun h => HNg.out _ h rfl)) e8)
          have R8 := hide (keepRow (hF7.row R5.out (fun h => hNr _ h rfl)) e8)
          have K8 := hide (hK7.below e8)
          have FP8 : Hid (∀ i, fp' i → i = p ∨ Z ≤ i) := fun i hi => (hfp7 i hi).elim (HFP.out i) (fun h => .inr (by omega))
          have hq1 : ∀ b, b < w.heap.size → ¬ fp b := fun b h hf => by rcases HFP.out b hf with h1 | h1 <;> omega
          have L8 := hide ((L5.out.frs hF7 (fun b off h0 e s => by have h1 := HNL.out _ h0 e; exact hq1 b (by simpa using h1) s)).below e8)
          have B8 := hide ((B5.out.frs hF7 (fun b off h0 e s => hq1 b (NBK.out b off h0 e) s)).below e8)
          have C8 := hide ((C5.out.frs hF7 (fun b off h0 e s => hq1 b (NCK.out b off h0 e) s)).below e8)
          have E8 := hide ((E5.out.trans hF7.bel).of e8)
          have hs8 : (w7.alloc (.cells z13 28)).heap.size = w7.heap.size + 1 := by simp
          clear e8 hK7 hfp7 hF7 hq1 G5 R5 K5 L5 P5 B5 C5 E5 g0_ g1_ g2_ g3_ g4_ g5_ g6_ g7_ g8_ g9_ g10_ g11_ g12_
          go_upto_region 17 with (fail)
          generalize w7.alloc (.cells z13 28) = W8 at *
          obtain ⟨f0_, f1_, f2_, f3_, f4_, f5_, f6_, f7_, f8_, f9_, f10_, f11_, f12_⟩ := row13 R8.out
          obtain ⟨⟨k0_, z0_⟩, ⟨k1_, z1_⟩, ⟨k2_, z2_⟩, ⟨k3_, z3_⟩, ⟨k4_, z4_⟩, ⟨k5_, z5_⟩, ⟨k6_, z6_⟩, ⟨k7_, z7_⟩, ⟨k8_, z8_⟩, ⟨k9_, z9_⟩, ⟨k10_, z10_⟩, ⟨k11_, z11_⟩, ⟨k12_, z12_⟩, rz⟩ := store13 G8.out (.int .i64 9) (.int .i64 0) (.int .i64 st) (.int .i64 0) (.slice none 0 0) (.slice none 0 0) (.int .i64 0) (.int .i64 0) (.bool false) (.int .i64 0) (.int .i64 0) (.int .i64 0) (.int .i64 0)
          have g9 := FrS.set13y (B := w.heap.size) (p := g0) (by omega) (rowLt G8.out) (.int .i64 9) (.int .i64 0) (.int .i64 st) (.int .i64 0) (.slice none 0 0) (.slice none 0 0) (.int .i64 0) (.int .i64 0) (.bool false) (.int .i64 0) (.int .i64 0) (.int .i64 0) (.int .i64 0)
          have hN8 : ∀ i, fp' i → ¬ Q1 g0 i := fun i hi s => by have e : i = g0 := s; rcases FP8.out i hi with h | h <;> omega
          have NEW : Hid (set13y W8 g0 (.int .i64 9) (.int .i64 0) (.int .i64 st) (.int .i64 0) (.slice none 0 0) (.slice none 0 0) (.int .i64 0) (.int .i64 0) (.bool false) (.int .i64 0) (.int .i64 0) (.int .i64 0) (.int .i64 0) |> fun W => W.heap[g0]? = some (.cells #[.int .i64 9, .int .i64 0, .int .i64 st, .int .i64 0, .slice none 0 0, .slice none 0 0, .int .i64 0, .int .i64 0, .bool false, .int .i64 0, .int .i64 0, .int .i64 0, .int .i64 0] 28 (0, 0)) ∧ W.heap[w.heap.size]? = some (.cells #[.int .i64 T, .int .i64 fl, .int .i64 st, .int .i64 pd, .slice A n c, .slice A2 n2 c2, .int .i64 wt, .int .i64 pa, .bool al, .int .i64 pm, .int .i64 la, .int .i64 co, .int .i64 sp] 28 (0, 0)) ∧ AsOk w.heap.size W p fp' 2000 (takeX X GT Gfl Gst Gpd m (fun j => fb (q + j)) g2n gs gt gwt gpa gal gpm gla gco gsp) ∧ Rd .u8 W A' (nb - q) c' (fun j => fb (q + j)) ∧ Rd .u8 W Ab nb cb fb ∧ Rd .u8 W (some ⟨cbk, coff, none⟩) nc cc fc ∧ Below w.heap.size w W ∧ Z ≤ W.heap.size) :=
            ⟨rz, g9.row R8.out (fun e => by have e2 : w.heap.size = g0 := e; omega), K8.out.frs g9 (Nat.le_refl _) hN8, L8.out.frs g9 (fun b off h0 e s => by have h1 := HNL.out _ h0 e; have e2 : b = g0 := s; simp at h1; omega), B8.out.frs g9 (fun b off h0 e s => by have h1 := NBK.out b off h0 e; have e2 : b = g0 := s; omega), C8.out.frs g9 (fun b off h0 e s => by have h1 := NCK.out b off h0 e; have e2 : b = g0 := s; omega), E8.out.trans g9.bel, by have := g9.bel.size; omega⟩
          clear rz g9 hN8 G8 R8 K8 L8 B8 C8 E8
          go_upto_region 10 with (fail)
          with_reducible refine absY (set13y W8 g0 (.int .i64 9) (.int .i64 0) (.int .i64 st) (.int .i64 0) (.slice none 0 0) (.slice none 0 0) (.int .i64 0) (.int .i64 0) (.bool false) (.int .i64 0) (.int .i64 0) (.int .i64 0) (.int .i64 0)) (fun W => W.heap[g0]? = some (.cells #[.int .i64 9, .int .i64 0, .int .i64 st, .int .i64 0, .slice none 0 0, .slice none 0 0, .int .i64 0, .int .i64 0, .bool false, .int .i64 0, .int .i64 0, .int .i64 0, .int .i64 0] 28 (0, 0)) ∧ W.heap[w.heap.size]? = some (.cells #[.int .i64 T, .int .i64 fl, .int .i64 st, .int .i64 pd, .slice A n c, .slice A2 n2 c2, .int .i64 wt, .int .i64 pa, .bool al, .int .i64 pm, .int .i64 la, .int .i64 co, .int .i64 sp] 28 (0, 0)) ∧ AsOk w.heap.size W p fp' 2000 (takeX X GT Gfl Gst Gpd m (fun j => fb (q + j)) g2n gs gt gwt gpa gal gpm gla gco gsp) ∧ Rd .u8 W A' (nb - q) c' (fun j => fb (q + j)) ∧ Rd .u8 W Ab nb cb fb ∧ Rd .u8 W (some ⟨cbk, coff, none⟩) nc cc fc ∧ Below w.heap.size w W ∧ Z ≤ W.heap.size) NEW.out ?_
          clear NEW k0_ z0_ k1_ z1_ k2_ z2_ k3_ z3_ k4_ z4_ k5_ z5_ k6_ z6_ k7_ z7_ k8_ z8_ k9_ z9_ k10_ z10_ k11_ z11_ k12_ z12_ f0_ f1_ f2_ f3_ f4_ f5_ f6_ f7_ f8_ f9_ f10_ f11_ f12_
          rintro W9 ⟨n1, n2_, n3, n4, n5, n6, n7, n8⟩
          obtain ⟨y1, y2, y3, y4, y5, y6, y7⟩ := HPT.out.2.2 m (fun j => fb (q + j)) Gfl
          generalize takeX X GT Gfl Gst Gpd m (fun j => fb (q + j)) g2n gs gt gwt gpa gal gpm gla gco gsp = Y at *
          have hD : ∀ j, j < q + m → Y.D j = fb j := fun j hj => by
            by_cases h : j < q
            · exact y6 j h
            · have := y7 (j - q) (by omega)
              rw [show q + (j - q) = j by omega] at this
              exact this
          have NXT : Hid (∃ (k_ q_ : Nat) (A'_ : Option Addr) (c'_ : Nat) (fp_ : Nat → Prop) (X_ : BS) (GT_ Gfl_ Gst_ Gpd_ : Int) (vd_ : Value) (G2_ : Option Addr) (g2n_ g2c_ : Nat) (gs_ gt_ : Nat → Int) (gwt_ gpa_ : Int) (gal_ : Bool) (gpm_ gla_ gco_ gsp_ : Int),
              (Value.slice (cutA A' c' m) (nb - q - m) (c' - m) = .slice A'_ (nb - q_) c'_ ∧ Value.int .i64 ((k : Int) + 1) = .int .i64 k_ ∧ k_ ≤ nc ∧ q_ ≤ nb) ∧ Rd .u8 W9 A'_ (nb - q_) c'_ (fun j => fb (q_ + j)) ∧ (∀ a, 0 < nb - q_ → A'_ = some a → a.block < w.heap.size) ∧ AsOk w.heap.size W9 p fp_ 2000 X_ ∧ (∀ i, fp_ i → i = p ∨ Z ≤ i) ∧ W9.heap[g0]? = some (.cells #[.int .i64 GT_, .int .i64 Gfl_, .int .i64 Gst_, .int .i64 Gpd_, vd_, .slice G2_ g2n_ g2c_, .int .i64 gwt_, .int .i64 gpa_, .bool gal_, .int .i64 gpm_, .int .i64 gla_, .int .i64 gco_, .int .i64 gsp_] 28 (0, 0)) ∧ W9.heap[w.heap.size]? = some (.cells #[.int .i64 T, .int .i64 fl, .int .i64 st, .int .i64 pd, .slice A n c, .slice A2 n2 c2, .int .i64 wt, .int .i64 pa, .bool al, .int .i64 pm, .int .i64 la, .int .i64 co, .int .i64 sp] 28 (0, 0)) ∧ Rd2 W9 G2_ g2n_ g2c_ gs_ gt_ ∧ (∀ b off, 0 < g2n_ → G2_ = some ⟨b, off, none⟩ → b < w.heap.size) ∧ g2n_ ≤ 100 ∧ (GT_ = 1 ∨ GT_ = 5 ∨ GT_ = 9) ∧ (0 ≤ Gfl_ ∧ Gfl_ ≤ 255 ∧ hsB GT_ Gfl_ 2 = false ∧ hsB GT_ (Gfl_ + 4) 2 = true) ∧ PTk X_ GT_ Gst_ Gpd_ g2n_ gs_ gt_ gwt_ gpa_ gal_ gpm_ gla_ gco_ gsp_ T st pm q_ fb ∧ Rd .u8 W9 Ab nb cb fb ∧ Rd .u8 W9 (some ⟨cbk, coff, none⟩) nc cc fc ∧ Below w.heap.size w W9 ∧ Z ≤ W9.heap.size) := ⟨k + 1, q + m, cutA A' c' m, c' - m, fp', Y, 9, 0, st, 0, .slice none 0 0, none, 0, 0, oneF 0, oneF 0, 0, 0, false, 0, 0, 0, 0, ⟨by rw [Nat.sub_sub], congrArg _ (by omega), by omega, by omega⟩, (by
              have h := n4.cutR (lo := m) (hi := nb - q) hmn (Nat.le_refl _)
              rw [Nat.sub_sub] at h
              exact h.congr (fun j _ => by rw [Nat.add_assoc])), fun a h0 e => by
              obtain ⟨b0, e0, e1⟩ := cutA_block e
              rw [← e1]
              exact HNL.out b0 (by omega) e0, n3, FP8.out, n1, n2_, Rd2.nil _ _ _, fun b off h0 _ => absurd h0 (by omega), by omega, .inr (.inr rfl), ⟨by omega, by omega, rfl, rfl⟩, PTk.next y1 y2 y3 y4 y5 hD _ _ _ _ _ _ _ _ _ _ _, n5, n6, n7, n8⟩
          clear n1 n2_ n3 n4 n5 n6 n7 n8 y1 y2 y3 y4 y5 y6 y7 hD
          go_wp2_with fail
          exact ⟨NXT.out, by simp [intOf]; omega⟩
        · obtain rfl : k = nc := by omega
          have zg4 := frozenRow hg 4
          have hf255 : IntKind.i64.wrap (Gfl + 4) = Gfl + 4 := IntWalk.i64_in _ (by omega)
          obtain ⟨g0_, g1_, g2_, g3_, g4_, g5_, g6_, g7_, g8_, g9_, g10_, g11_, g12_⟩ := row13 hg
          have gS := FrS.set (B := w.heap.size) (S := Q1 g0) (w := wr) (j := 4) (u := .slice A' (nb - q) c') (by omega) hgw rfl
          have s4 := setRow wr g0 4 (.slice A' (nb - q) c') hg
          simp only [List.setIfInBounds_toArray, List.set_cons_zero, List.set_cons_succ] at s4
          have zg1 := frozenRow s4 1
          obtain ⟨-, sg1, -⟩ := row13 s4
          have s5 := setRow (wr.setCell ⟨g0, 4, none⟩ (.slice A' (nb - q) c')) g0 1 (.int .i64 (Gfl + 4)) s4
          simp only [List.setIfInBounds_toArray, List.set_cons_zero, List.set_cons_succ] at s5
          have gS2 := gS.trans (FrS.set (B := w.heap.size) (S := Q1 g0) (w := wr.setCell ⟨g0, 4, none⟩ (.slice A' (nb - q) c')) (j := 1) (u := .int .i64 (Gfl + 4)) (by omega) (by simpa using hgw) rfl)
          have G5 := hide s5
          have R5 := hide (gS2.row hr (fun e => by have e2 : w.heap.size = g0 := e; omega))
          have K5 := hide (hK.frs gS2 (Nat.le_refl _) hNg)
          have L5 := hide (hL.frs gS2 (fun b off h0 e s => by have h1 := hNL _ h0 e; have e2 : b = g0 := s; simp at h1; omega))
          have P5 := hide (hG2.frs gS2 (fun b off h0 e s => by have h1 := hNG b off h0 e; have e2 : b = g0 := s; omega))
          have B5 := hide (hB.frs gS2 (fun b off h0 e s => by have h1 := NBK.out b off h0 e; have e2 : b = g0 := s; omega))
          have E5 := hide (hE.trans gS2.bel)
          have hs5 : Z ≤ ((wr.setCell ⟨g0, 4, none⟩ (.slice A' (nb - q) c')).setCell ⟨g0, 1, none⟩ (.int .i64 (Gfl + 4))).heap.size := by simpa using hZw
          have HNL := hide hNL
          have HNG := hide hNG
          have HFP := hide hfp
          have HPT := hide hPT
          have HNg := hide hNg
          have HNr := hide hNr
          clear hL hNL hK hfp hr hG2 hNG hPT hB hC hE s4 s5 gS gS2 hNg hNr
          go_upto_region 20 with (fail)
          clear g0_ g1_ g2_ g3_ g4_ g5_ g6_ g7_ g8_ g9_ g10_ g11_ g12_ zg4 zg1 sg1
          generalize (wr.setCell ⟨g0, 4, none⟩ (.slice A' (nb - q) c')).setCell ⟨g0, 1, none⟩ (.int .i64 (Gfl + 4)) = W5 at *
          obtain ⟨g0_, g1_, g2_, g3_, g4_, g5_, g6_, g7_, g8_, g9_, g10_, g11_, g12_⟩ := row13 G5.out
          have hqN := HPT.out.1
          obtain ⟨y1, y2, y3, y4, y5, y6, y7⟩ := HPT.out.2.2 (nb - q) (fun j => fb (q + j)) (Gfl + 4)
          obtain ⟨Y, hY⟩ : ∃ Y, takeX X GT (Gfl + 4) Gst Gpd (nb - q) (fun j => fb (q + j)) g2n gs gt gwt gpa gal gpm gla gco gsp = Y := ⟨_, rfl⟩
          rw [hY] at y1 y2 y3 y4 y5 y6 y7
          have hYN : Y.N = nb := by omega
          have HD : Hid (∀ j, j < Y.N → Y.D j = fb j) := fun j hj => by
            by_cases h : j < q
            · exact y6 j h
            · have := y7 (j - q) (by omega)
              rw [show q + (j - q) = j by omega] at this
              exact this
          have HSA : Hid (sameB Y.N nb Y.D fb = true) := sameB_yes hYN HD.out
          have cT : (Y.T == T) = true := by rw [y2]; simp
          have cS : (Y.st == st) = true := by rw [y3]; simp
          have cP : (Y.pm == pm) = true := by rw [y4]; simp
          have HY := hide hY
          clear y1 y2 y3 y4 y5 y6 y7 hYN hY
          go_wp2_with fail
          refine (addEnd30 GT (Gfl + 4) Gst Gpd A' (nb - q) c' (fun j => fb (q + j)) G2 g2n g2c gs gt gwt gpa gal gpm gla gco gsp w.heap.size p fp 2000 X _ K5.out (by omega) HPT.out.2.1 (by rcases hGT with rfl | rfl | rfl <;> rfl) (by decide) (by omega) L5.out P5.out (by omega) (by omega) (fun b off h0 e => by
            have h1 := HNL.out _ h0 e
            simp at h1
            omega) (fun b off h0 e => by have := HNG.out b off h0 e; omega) (by omega) hf3 Y HY.out).mono ?_
          rintro e w7 ⟨A4, c4, A5, c5, rfl, hr4, hr5, hK7, hF7⟩
          have e8 := (Below.refl w7.heap.size w7).alloc (Nat.le_refl _) (.cells #[.int .i64 Y.T, .int .i64 Y.fl, .int .i64 Y.st, .int .i64 Y.pd, .slice A4 Y.N c4, .slice A5 Y.n2 c5, .int .i64 Y.wt, .int .i64 Y.pa, .bool Y.al, .int .i64 Y.pm, .int .i64 Y.la, .int .i64 Y.co, .int .i64 Y.sp] 28)
          have hq1 : ∀ b, b < w.heap.size → ¬ fp b := fun b h hf => by rcases HFP.out b hf with h1 | h1 <;> omega
          have W8_ := hide (heap_alloc_new w7 (.cells #[.int .i64 Y.T, .int .i64 Y.fl, .int .i64 Y.st, .int .i64 Y.pd, .slice A4 Y.N c4, .slice A5 Y.n2 c5, .int .i64 Y.wt, .int .i64 Y.pa, .bool Y.al, .int .i64 Y.pm, .int .i64 Y.la, .int .i64 Y.co, .int .i64 Y.sp] 28))
          have R8 := hide (keepRow (hF7.row R5.out (fun h => HNr.out _ h rfl)) e8)
          have K8 := hide (hK7.below e8)
          have D8 := hide (hr4.below e8)
          have B8 := hide ((B5.out.frs hF7 (fun b off h0 e s => hq1 b (NBK.out b off h0 e) s)).below e8)
          have E8 := hide ((E5.out.trans hF7.bel).of e8)
          clear e8 hr4 hr5 hK7 hF7 hq1 G5 R5 K5 L5 P5 B5 E5 g0_ g1_ g2_ g3_ g4_ g5_ g6_ g7_ g8_ g9_ g10_ g11_ g12_
          go_upto_region 21 with (fail)
          generalize w7.alloc (.cells #[.int .i64 Y.T, .int .i64 Y.fl, .int .i64 Y.st, .int .i64 Y.pd, .slice A4 Y.N c4, .slice A5 Y.n2 c5, .int .i64 Y.wt, .int .i64 Y.pa, .bool Y.al, .int .i64 Y.pm, .int .i64 Y.la, .int .i64 Y.co, .int .i64 Y.sp] 28) = W8 at *
          generalize w7.heap.size = b8 at *
          go_wp2_with fail
          refine (open30 w.heap.size p (Q1 p) 2000 {} _ K8.out).mono ?_
          rintro e w9 ⟨rfl, rfl⟩
          obtain ⟨g0_, g1_, g2_, g3_, g4_, g5_, g6_, g7_, g8_, g9_, g10_, g11_, g12_⟩ := row13 W8_.out
          go_wp2_with fail
          refine (rsame_any A4 Ab Y.N nb c4 cb Y.D fb _ D8.out B8.out).mono ?_
          rw [HSA.out]
          rintro e w10 ⟨rfl, hd⟩
          have W10 := hide (keepRow W8_.out (drawn_below hd _))
          have R10 := hide (keepRow R8.out (drawn_below hd _))
          have E10 := hide (E8.out.of (drawn_below hd _))
          clear hd g0_ g1_ g2_ g3_ g4_ g5_ g6_ g7_ g8_ g9_ g10_ g11_ g12_ W8_ R8 E8 K8 D8 B8
          obtain ⟨g0_, g1_, g2_, g3_, g4_, g5_, g6_, g7_, g8_, g9_, g10_, g11_, g12_⟩ := row13 W10.out
          obtain ⟨f0_, f1_, f2_, f3_, f4_, f5_, f6_, f7_, f8_, f9_, f10_, f11_, f12_⟩ := row13 R10.out
          go_wp2_with fail
          refine (alive30 _).mono ?_
          rintro e w' ⟨rfl, hb⟩
          have HB := hide (E10.out.of hb)
          clear hb
          go_wp2_with fail
          go_ret
          exact ⟨rfl, HB.out⟩

end Go.Proofs.Ytelcpfjifhobjaa
