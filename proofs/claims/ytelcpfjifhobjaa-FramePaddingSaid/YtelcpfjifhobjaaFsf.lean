/- Layer 14: what a frame says does not hang on its padding: the law's walk. -/
import Derived.Test.YtelcpfjifhobjaaFse
import Derived.Test.YtelcpfjifhobjaaRw1
import Derived.Deep.LoopGhost
import Derived.StillTailTactics
namespace Go.Proofs.Ytelcpfjifhobjaa
set_option linter.unusedVariables false
set_option linter.unusedSimpArgs false
open Go.RowKit Go.Deep

theorem Own.keptZ {k : IntKind} {e : TypeId} {B : Nat} {w w' : World} {v : Value} {n : Nat} {f : Nat → Int} {row : Option Nat} (h : Own k e B w v n f) (hg : w.grownBy w' row) (hne : v.ownBlock = none ∨ v.ownBlock ≠ row) : Own k e B w' v n f := World.ownsRow.kept (row := row) h hg hne
theorem setF_get (f : Nat → Int) (j : Nat) (x : Int) (i : Nat) : setF f j x i = if i = j then x else f i := by unfold setF; rfl
set_option maxRecDepth 100000 in
set_option maxHeartbeats 12800000 in
theorem padding_walk14 (fm T fl st : Int) (rs : Bool) (A : Option Addr) (n c : Nat) (f : Nat → Int) (C : Option Addr) (m d : Nat) (bf : Nat → Int) (w : World) (ha : Rd .u8 w A n c f) (hf : Byt n f) (hb : Rd .u8 w C m d bf) (hbf : Byt m bf) (hfm : I64 fm) : Calls Try.prog 4 #[.agg #[.int .i64 fm, .int .i64 T, .int .i64 fl, .int .i64 st, .bool rs, .slice A n c], .slice C m d] w (Yes w) := by
  have hn63 : n ≤ 9223372036854775807 := by have h1 := ha.1; have h2 := ha.2.1; simp only [maxLen] at h2; omega
  have hm63 : m ≤ 9223372036854775807 := by have h1 := hb.1; have h2 := hb.2.1; simp only [maxLen] at h2; omega
  have R0 := hide (heap_alloc_new w (.cells #[.int .i64 fm, .int .i64 T, .int .i64 fl, .int .i64 st, .bool rs, .slice A n c] 24))
  have e0 := (Below.refl w.heap.size w).alloc (Nat.le_refl _) (.cells #[.int .i64 fm, .int .i64 T, .int .i64 fl, .int .i64 st, .bool rs, .slice A n c] 24)
  have E0 := hide e0
  have HA := hide (ha.below e0)
  have HC := hide (hb.below e0)
  have Hf := hide hf
  have Hbf := hide hbf
  clear ha hf hb hbf e0
  obtain ⟨s0, s1, s2, s3, s4, s5⟩ := row6 R0.out
  by_cases hbig : (2000 : Int) < (n : Int)
  · have hd := decide_eq_true hbig
    go_enter Try.func4, Try.ntmps4
    go_wp2_with fail
    refine (alive14 _).mono ?_
    rintro e w' ⟨rfl, hb⟩
    have HB := hide (E0.out.of hb)
    clear hb
    go_wp2_with fail
    go_ret
    exact ⟨rfl, HB.out⟩
  have hd := decide_eq_false hbig
  have hn : n ≤ 100000 := by omega
  clear hbig
  by_cases hbig : (2000 : Int) < (m : Int)
  · have hd2 := decide_eq_true hbig
    go_enter Try.func4, Try.ntmps4
    go_wp2_with fail
    refine (alive14 _).mono ?_
    rintro e w' ⟨rfl, hb⟩
    have HB := hide (E0.out.of hb)
    clear hb
    go_wp2_with fail
    go_ret
    exact ⟨rfl, HB.out⟩
  have hd2 := decide_eq_false hbig
  clear hbig
  by_cases hr : HdR n T fl st
  rotate_left
  · have HR : Hid (∀ W : World, Calls Try.prog 14 #[.agg #[.int .i64 fm, .int .i64 T, .int .i64 fl, .int .i64 st, .bool rs, .slice A n c]] W fun e w' => e = .returned (.bool false) ∧ Below W.heap.size W w') := fun W => rright14 fm T fl st rs A n c false (decide_eq_false hr) W
    clear hr
    go_enter Try.func4, Try.ntmps4
    go_wp2_with fail
    refine (HR.out _).mono ?_
    rintro e w1 ⟨rfl, hb⟩
    have E1 := hide (E0.out.of hb)
    clear hb
    go_wp2_with fail
    refine (alive14 _).mono ?_
    rintro e w' ⟨rfl, hb⟩
    have HB := hide (E1.out.of hb)
    clear hb
    go_wp2_with fail
    go_ret
    exact ⟨rfl, HB.out⟩
  obtain ⟨G, hG⟩ : ∃ G, frR T fl st n f = G := ⟨_, rfl⟩
  have HBY : Hid (Byt G.N (fun i => f (G.off + i))) := fun i hi => Hf.out _ (by have := frR_le T fl st n f; rw [hG] at this; omega)
  have HQ : Hid (∀ W : World, Rd .u8 W A n c f → Calls Try.prog 13 #[.agg #[.int .i64 fm, .int .i64 T, .int .i64 fl, .int .i64 st, .bool rs, .slice A n c]] W (PsR G f W)) := fun W h => by rw [← hG]; exact parse14 fm T fl st rs A n c f W h Hf.out hn
  have HR : Hid (∀ W : World, Calls Try.prog 14 #[.agg #[.int .i64 fm, .int .i64 T, .int .i64 fl, .int .i64 st, .bool rs, .slice A n c]] W fun e w' => e = .returned (.bool true) ∧ Below W.heap.size W w') := fun W => rright14 fm T fl st rs A n c true (decide_eq_true hr) W
  have HHR := hide hr
  have HG := hide hG
  have hen : G.en = 0 := by rw [← hG, frR_en, if_pos hr]
  clear hr hG
  by_cases hfs : G.fs = 0
  rotate_left
  · have dfs : (G.fs == 0) = false := by simp [hfs]
    have dfs2 : (G.fs != 0) = true := by simp [hfs]
    clear hfs
    go_enter Try.func4, Try.ntmps4
    go_wp2_with fail
    refine (HR.out _).mono ?_
    rintro e w1 ⟨rfl, hb⟩
    have R1 := hide (keepRow R0.out hb)
    have E1 := hide (E0.out.of hb)
    have HA1 := hide (HA.out.below hb)
    clear hb R0 E0 HA s0 s1 s2 s3 s4 s5
    obtain ⟨s0, s1, s2, s3, s4, s5⟩ := row6 R1.out
    go_wp2_with fail
    refine (HQ.out _ HA1.out).mono ?_
    rintro e w2 ⟨A2, c2, A3, c3, rfl, hr2, hr3, hb1⟩
    obtain ⟨x0, x1, e1⟩ := alloc2r w2 #[.int .i64 G.T, .int .i64 G.fl, .int .i64 G.st, .int .i64 G.pad, .slice A2 G.N c2, .slice A3 G.sn c3, .int .i64 G.wt, .int .i64 G.pa, .bool G.al, .int .i64 G.pm, .int .i64 G.la, .int .i64 G.co, .int .i64 G.sp] #[.int .i64 G.fs, .int .i64 G.fc] 28 30
    have UU := hide x1
    have E2 := hide (E1.out.of (hb1.of e1))
    clear x0 x1 e1 hb1 hr2 hr3 R1 E1 HA1 s0 s1 s2 s3 s4 s5
    go_upto_region 4 with (fail)
    generalize (w2.alloc (.cells #[.int .i64 G.T, .int .i64 G.fl, .int .i64 G.st, .int .i64 G.pad, .slice A2 G.N c2, .slice A3 G.sn c3, .int .i64 G.wt, .int .i64 G.pa, .bool G.al, .int .i64 G.pm, .int .i64 G.la, .int .i64 G.co, .int .i64 G.sp] 28)).alloc (.cells #[.int .i64 G.fs, .int .i64 G.fc] 30) = W2 at *
    generalize w2.heap.size = p at *
    obtain ⟨u0, u1⟩ := row2 UU.out
    go_wp2_with fail
    refine (alive14 _).mono ?_
    rintro e w' ⟨rfl, hb⟩
    have HB := hide (E2.out.of hb)
    clear hb
    go_wp2_with fail
    go_ret
    exact ⟨rfl, HB.out⟩
  obtain ⟨hpn, hfc⟩ : G.pad ≤ n ∧ G.fc = 0 := (pad_same HG.out hfs HHR.out Hf.out (fun j hj => rfl)).2.2.2
  have dpn : decide ((n : Int) < G.pad) = false := decide_eq_false (by omega)
  have HPN := hide hpn
  have HFS := hide hfs
  have HFC := hide hfc
  have HSM : Hid (∀ g : Nat → Int, (∀ j, j + (m0 G.pad).toNat < n → g j = f j) → frR T fl st n g = G ∧ (∀ i, i < G.N → g (G.off + i) = f (G.off + i)) ∧ (∀ i, i < G.sn → sF g i = sF f i ∧ sG g i = sG f i)) := fun g hg => by
    obtain ⟨h1, h2, h3, _⟩ := pad_same HG.out HFS.out HHR.out Hf.out hg
    exact ⟨h1, h2, h3⟩
  obtain ⟨fm2, hfm2⟩ : ∃ x, Int.tmod fm 2 = x := ⟨_, rfl⟩
  have hfb : -1 ≤ fm2 ∧ fm2 ≤ 1 := by
    rw [← hfm2]
    have h1 := Int.tmod_lt_of_pos fm (show (0 : Int) < 2 by decide)
    have h2 := Int.lt_tmod_of_pos fm (show (0 : Int) < 2 by decide)
    omega
  have wfm : IntKind.i64.wrap fm2 = fm2 := IntWalk.i64_in _ (by omega)
  have wfm2 : IntKind.i64.wrap (1 - fm2) = 1 - fm2 := IntWalk.i64_in _ (by omega)
  clear hpn
  go_enter Try.func4, Try.ntmps4
  go_wp2_with fail
  refine (HR.out _).mono ?_
  rintro e w1 ⟨rfl, hb⟩
  have R1 := hide (keepRow R0.out hb)
  have E1 := hide (E0.out.of hb)
  have HA1 := hide (HA.out.below hb)
  have HC1 := hide (HC.out.below hb)
  clear hb R0 E0 HA HC s0 s1 s2 s3 s4 s5
  obtain ⟨s0, s1, s2, s3, s4, s5⟩ := row6 R1.out
  go_wp2_with fail
  refine (HQ.out _ HA1.out).mono ?_
  rintro e w2 ⟨A2, c2, A3, c3, rfl, hr2, hr3, hb1⟩
  rw [hen, hfs, hfc]
  obtain ⟨x0, x1, e1⟩ := alloc2r w2 #[.int .i64 G.T, .int .i64 G.fl, .int .i64 G.st, .int .i64 G.pad, .slice A2 G.N c2, .slice A3 G.sn c3, .int .i64 G.wt, .int .i64 G.pa, .bool G.al, .int .i64 G.pm, .int .i64 G.la, .int .i64 G.co, .int .i64 G.sp] #[.int .i64 0, .int .i64 0] 28 30
  have ht := hb1.of e1
  have FF := hide x0
  have UU := hide x1
  have R2 := hide (keepRow R1.out ht)
  have E2 := hide (E1.out.of ht)
  have HA2 := hide (HA1.out.below ht)
  have HC2 := hide (HC1.out.below ht)
  have Y2 := hide (hr2.below e1)
  have Y3 := hide (hr3.below e1)
  clear x0 x1 e1 ht hb1 hr2 hr3 R1 E1 HA1 HC1 s0 s1 s2 s3 s4 s5
  go_upto_region 4 with (fail)
  generalize (w2.alloc (.cells #[.int .i64 G.T, .int .i64 G.fl, .int .i64 G.st, .int .i64 G.pad, .slice A2 G.N c2, .slice A3 G.sn c3, .int .i64 G.wt, .int .i64 G.pa, .bool G.al, .int .i64 G.pm, .int .i64 G.la, .int .i64 G.co, .int .i64 G.sp] 28)).alloc (.cells #[.int .i64 0, .int .i64 0] 30) = W2 at *
  generalize w2.heap.size = p at *
  obtain ⟨s0, s1, s2, s3, s4, s5⟩ := row6 R2.out
  obtain ⟨u0, u1⟩ := row2 UU.out
  obtain ⟨y0_, y1_, y2_, y3_, y4_, y5_, y6_, y7_, y8_, y9_, y10_, y11_, y12_⟩ := row13 FF.out
  go_upto_region 6 with (fail)
  have e3 := (Below.refl W2.heap.size W2).alloc (Nat.le_refl _) (.cells #[.int .i64 (1 - fm2), .int .i64 T, .int .i64 fl, .int .i64 st, .bool (!rs), .slice A n c] 24)
  have S3 := hide (heap_alloc_new W2 (.cells #[.int .i64 (1 - fm2), .int .i64 T, .int .i64 fl, .int .i64 st, .bool (!rs), .slice A n c] 24))
  have FF3 := hide (keepRow FF.out e3)
  have R3 := hide (keepRow R2.out e3)
  have E3 := hide (E2.out.of e3)
  have HA3 := hide (HA2.out.below e3)
  have HC3 := hide (HC2.out.below e3)
  have Y23 := hide (Y2.out.below e3)
  have Y33 := hide (Y3.out.below e3)
  have hpq := rowLt UU.out
  have N2 : Hid (∀ b off, 0 < G.N → A2 = some ⟨b, off, none⟩ → b < W2.heap.size) := fun b off h0 e => by
    obtain ⟨b', off', e', hl, _⟩ := Y2.out.block h0
    rw [e] at e'
    cases e'
    exact hl
  have N3 : Hid (∀ b off, 0 < G.sn → A3 = some ⟨b, off, none⟩ → b < W2.heap.size) := fun b off h0 e => by
    obtain ⟨b', off', e', hc⟩ := Y3.out.2.2.2 h0
    rw [e] at e'
    cases e'
    exact World.block_lt_of_cell? _ _ (hc 0 h0).1
  have NC : Hid (∀ b off, 0 < m → C = some ⟨b, off, none⟩ → b < W2.heap.size) := fun b off h0 e => by
    obtain ⟨b', off', e', hl, _⟩ := HC2.out.block h0
    rw [e] at e'
    cases e'
    exact hl
  have hwp : w.heap.size ≤ W2.heap.size := E2.out.size
  obtain ⟨a0_, a1_, a2_, a3_, a4_, a5_⟩ := row6 (keepRow R2.out ((Below.refl W2.heap.size W2).alloc (Nat.le_refl _) (.cells #[.int .i64 fm, .int .i64 T, .int .i64 fl, .int .i64 st, .bool rs, .slice A n c] 24)))
  obtain ⟨b0_, b1_, b2_, b3_, b4_, b5_⟩ := row6 (keepRow R2.out ((Below.refl W2.heap.size W2).alloc (Nat.le_refl _) (.cells #[.int .i64 fm, .int .i64 T, .int .i64 fl, .int .i64 st, .bool (!rs), .slice A n c] 24)))
  clear e3
  go_upto_region 9 with (fail)
  clear FF UU R2 E2 HA2 HC2 Y2 Y3 s0 s1 s2 s3 s4 s5 u0 u1 y0_ y1_ y2_ y3_ y4_ y5_ y6_ y7_ y8_ y9_ y10_ y11_ y12_ a0_ a1_ a2_ a3_ a4_ a5_ b0_ b1_ b2_ b3_ b4_ b5_
  generalize W2.alloc (.cells #[.int .i64 (1 - fm2), .int .i64 T, .int .i64 fl, .int .i64 st, .bool (!rs), .slice A n c] 24) = W3 at *
  generalize W2.heap.size = q at *
  obtain ⟨i0, hi, hz0, hz1, hz2⟩ := info_parts c8_info
  have LO := hide (Own.lit .u8 5 W3.heap.size W3 (oneF 0) #[] 0 (Nat.le_refl _) (by simp [maxLen]) rfl)
  have al := (Below.refl W3.heap.size W3).alloc (Nat.le_refl _) (.cells #[] 5)
  have HA3x := hide (HA3.out.below al)
  have hqB := rowLt S3.out
  have hqn : (Value.slice (some ⟨W3.heap.size, 0, none⟩) 0 0).ownBlock ≠ some q := fun e => by
    have e2 : W3.heap.size = q := Option.some.inj e
    omega
  have HQN := hide hqn
  obtain ⟨s0, s1, s2, s3, s4, s5⟩ := row6 (keepRow R3.out al)
  have S3x := hide (keepRow S3.out al)
  have AL := hide al
  have hpB := rowLt FF3.out
  clear al hqn
  go_wp2_with (at_builtin; refine wp_app rfl (.tmp 61) (.tmp 63) _ rfl i0 _ 1 Try.underlying22 hi hz0 hz1 hz2 W3.heap.size _ 0 (oneF 0) rfl LO.out A n c f rfl HA3x.out (by simp only [maxLen]; omega) (by omega) (by simp) ?_; intro v5 w5 hown5 hg5; rw [Nat.zero_add] at hown5; obtain ⟨A5, c5, rfl, _, hfr5⟩ := hown5.rd; have HO5 := hide hown5; have HG5 := hide hg5; have S5 := hide (keepGrown S3x.out hg5 HQN.out); have zz := frozenRow S5.out 5; obtain ⟨t0, t1, t2, t3, t4, t5⟩ := row6 S5.out)
  have hown5 := HO5.out
  have hg5 := HG5.out
  have hb5 : Below W3.heap.size W3 w5 := AL.out.grown hg5 (by simp) (fun j e => by have e2 : W3.heap.size = j := Option.some.inj e; omega)
  have g5 : FrS w.heap.size (Q1 q) w5 (w5.setCell ⟨q, 5, none⟩ (.slice A5 n c5)) := FrS.set (by omega) (rowLt S5.out) rfl
  have hpq2 : p ≠ q := by omega
  have FF5 := hide (g5.row (keepRow FF3.out hb5) (fun e => hpq2 e))
  have s5r := setRow w5 q 5 (.slice A5 n c5) S5.out
  simp only [List.setIfInBounds_toArray, List.set_cons_zero, List.set_cons_succ] at s5r
  have S6 := hide s5r
  have C5 := hide ((HC3.out.below hb5).frs g5 (fun b off h0 e s => by have h1 := NC.out b off h0 e; have e2 : b = q := s; omega))
  have Y25 := hide ((Y23.out.below hb5).frs g5 (fun b off h0 e s => by have h1 := N2.out b off h0 e; have e2 : b = q := s; omega))
  have Y35 := hide ((Y33.out.below hb5).frs g5 (fun b off h0 e s => by have h1 := N3.out b off h0 e; have e2 : b = q := s; omega))
  have E5 := hide ((E3.out.of hb5).trans g5.bel)
  have hnq : (Value.slice A5 n c5).ownBlock ≠ some q := fun e => by
    have := (World.ownsRow.lt hown5 q e).1
    omega
  have O5 := hide (Own.keptZ (hown5.congr (g := f) (fun i _ => catF_nil _ _ i)) (grown_set w5 q 5 (.slice A5 n c5)) (.inr hnq))
  obtain ⟨Bz, hBz⟩ : ∃ b, W3.heap.size = b := ⟨_, rfl⟩
  rw [hBz] at O5 hqB hpB
  have hB5 : Bz ≤ (w5.setCell ⟨q, 5, none⟩ (.slice A5 n c5)).heap.size := by have h1 := hb5.size; have h2 := g5.bel.size; omega
  have hwB : w.heap.size ≤ Bz := by omega
  have hpq' : p < q := by omega
  clear s5r hnq hb5 hg5 hown5 HO5 HG5 hfr5 g5 S5 S3x AL LO HA3x HA3 HC3 Y23 Y33 E3 R3 S3 FF3 hBz hpq2 hi hz0 hz1 hz2 i0 HQN
  generalize w5.setCell ⟨q, 5, none⟩ (.slice A5 n c5) = W5 at *
  go_loopw [9] (fun i wr => ∃ (k : Nat) (g : Nat → Int), i = .int .i64 k ∧ ((k : Int) ≤ m0 G.pad ∧ k ≤ n) ∧ Own .u8 5 Bz wr (.slice A5 n c5) n g ∧ Byt n g ∧ (∀ j, j + k < n → g j = f j) ∧ FrS Bz (fun i => Bz ≤ i) W5 wr) (fun i _ => n - (intOf i).toNat)
  case atStart => exact ⟨0, f, rfl, ⟨by unfold m0; split <;> omega, Nat.zero_le _⟩, O5.out, Hf.out, fun j _ => rfl, FrS.refl _ _ _⟩
  case round =>
    obtain ⟨k, g, rfl, ⟨hkp, hkn⟩, hown, hbg, hgf, hF⟩ := hrel
    have HK : Hid (k ≤ (m0 G.pad).toNat) := by show _ ≤ _; omega
    have HBG := hide hbg
    have HGF := hide hgf
    have HF5 := hide hF
    have HOR := hide hown
    have HR5 : Hid (Rd .u8 wr A5 n c5 g) := by
      obtain ⟨A', c', e, h, _⟩ := hown.rd
      cases e
      exact h
    have SR := hide (hF.row S6.out (fun e => by have e2 : Bz ≤ q := e; omega))
    have FR := hide (hF.row FF5.out (fun e => by have e2 : Bz ≤ p := e; omega))
    have ER := hide (E5.out.trans (hF.bel.mono hwB))
    have Y2R := hide (Y25.out.frs hF (fun b off h0 e s => by have h1 := N2.out b off h0 e; have e2 : Bz ≤ b := s; omega))
    have Y3R := hide (Y35.out.frs hF (fun b off h0 e s => by have h1 := N3.out b off h0 e; have e2 : Bz ≤ b := s; omega))
    have CR := hide (C5.out.frs hF (fun b off h0 e s => by have h1 := NC.out b off h0 e; have e2 : Bz ≤ b := s; omega))
    clear hbg hgf hF hown
    obtain ⟨s0, s1, s2, s3, s4, s5⟩ := row6 SR.out
    obtain ⟨r0_, r1_, r2_, r3_, r4_, r5_, r6_, r7_, r8_, r9_, r10_, r11_, r12_⟩ := row13 FR.out
    by_cases h1 : (k : Int) < G.pad
    · have d1 : decide ((k : Int) < G.pad) = true := decide_eq_true h1
      by_cases h2 : k < m
      · have d2 : decide ((k : Int) < (m : Int)) = true := decide_eq_true (by omega)
        have d2n : decide (k < m) = true := decide_eq_true h2
        have hpn := HPN.out
        have hn0 : 0 < n := by omega
        obtain ⟨cb, coff, rfl, hclt, hcc⟩ := CR.out.block (by omega : 0 < m)
        have hck := hcc k h2
        have hcb := Hbf.out k h2
        obtain ⟨ob, ooff, e5, holt, hoc⟩ := HR5.out.block hn0
        have hz : ooff = 0 := by
          obtain ⟨A', c', e, _, hz⟩ := HOR.out.rd
          cases e
          exact (hz _ e5).2.2.1
        subst hz
        subst e5
        obtain ⟨x, hx⟩ : ∃ x : Nat, (n : Int) - 1 - (k : Int) = (x : Int) := ⟨n - 1 - k, by omega⟩
        have hxn : x < n := by omega
        have hxi : (x : Int) < (n : Int) := by omega
        have hkm : (k : Int) < (m : Int) := by omega
        have w1 : IntKind.i64.wrap ((n : Int) - 1) = (n : Int) - 1 := IntWalk.i64_in _ (by omega)
        have w2 : IntKind.i64.wrap ((n : Int) - 1 - (k : Int)) = (n : Int) - 1 - (k : Int) := IntWalk.i64_in _ (by omega)
        have w3 : IntKind.i64.wrap ((k : Int) + 1) = ((k + 1 : Nat) : Int) := by rw [IntWalk.i64_in _ (by omega)]; omega
        have ocx := HOR.out.cell hxn
        have ofx := HOR.out.frozen x
        have hobB : Bz ≤ ob := (World.ownsRow.lt HOR.out ob rfl).1
        have hmp : G.pad ≤ m0 G.pad := by unfold m0; split <;> omega
        have HX := hide hx
        have NEW : Hid (∃ (k' : Nat) (g' : Nat → Int), Value.int .i64 ((k : Int) + 1) = .int .i64 k' ∧ ((k' : Int) ≤ m0 G.pad ∧ k' ≤ n) ∧ Own .u8 5 Bz (wr.setCell ⟨ob, x, none⟩ (.int .u8 (bf k))).drew (.slice (some ⟨ob, 0, none⟩) n c5) n g' ∧ Byt n g' ∧ (∀ j, j + k' < n → g' j = f j) ∧ FrS Bz (fun i => Bz ≤ i) W5 (wr.setCell ⟨ob, x, none⟩ (.int .u8 (bf k))).drew) :=
          ⟨k + 1, setF g x (bf k), congrArg _ (by omega), ⟨by omega, by omega⟩, (HOR.out.set x (bf k)).drew, fun i hi => by
            rw [setF_get]
            split
            · exact hcb
            · exact HBG.out i hi, fun j hj => by
            rw [setF_get, if_neg (by omega)]
            exact HGF.out j (by omega), (HF5.out.trans (FrS.set hobB holt hobB)).trans (FrS.ofBelow _ (Below.refl _ _).drew (by simp; omega))⟩
        go_upto_region 13 with (fail)
        go_region
        go_wp2_with fail
        go_roundw
        case rel => exact NEW.out
        case measure => first | (simp [intOf]; omega) | (show n - ((k : Int) + 1).toNat < n - ((k : Int)).toNat; omega)
      · have d2 : decide ((k : Int) < (m : Int)) = false := decide_eq_false (by omega)
        have d2n : decide (k < m) = false := decide_eq_false h2
        clear h1 h2
        have hkk := HK.out
        obtain ⟨e1, e2, e3⟩ := HSM.out g (fun j hj => HGF.out j (by omega))
        have HQ2 : Hid (∀ W : World, Rd .u8 W A5 n c5 g → Calls Try.prog 13 #[.agg #[.int .i64 (1 - fm2), .int .i64 T, .int .i64 fl, .int .i64 st, .bool (!rs), .slice A5 n c5]] W (PsR G g W)) := fun W h => by rw [← e1]; exact parse14 (1 - fm2) T fl st (!rs) A5 n c5 g W h HBG.out hn
        have H2 := hide e2
        have H3 := hide e3
        clear e1 e2 e3 hkk
        obtain ⟨s0, s1, s2, s3, s4, s5⟩ := row6 SR.out
        go_wp2_with fail
        refine (HQ2.out _ HR5.out).mono ?_
        rintro e w6 ⟨A6, c6, A7, c7, rfl, hr6, hr7, hb6⟩
        rw [hen, HFS.out, HFC.out]
        obtain ⟨x0, x1, e1⟩ := alloc2r w6 #[.int .i64 G.T, .int .i64 G.fl, .int .i64 G.st, .int .i64 G.pad, .slice A6 G.N c6, .slice A7 G.sn c7, .int .i64 G.wt, .int .i64 G.pa, .bool G.al, .int .i64 G.pm, .int .i64 G.la, .int .i64 G.co, .int .i64 G.sp] #[.int .i64 0, .int .i64 0] 28 30
        have ht := hb6.of e1
        have F6 := hide x0
        have U6 := hide x1
        have FF6 := hide (keepRow FR.out ht)
        have E6 := hide (ER.out.of ht)
        have Z2 := hide (Y2R.out.below ht)
        have Z3 := hide (Y3R.out.below ht)
        have Z6 := hide ((hr6.congr H2.out).below e1)
        have Z7 := hide ((Rd2.congr hr7 (fun i hi => (H3.out i hi).1) (fun i hi => (H3.out i hi).2)).below e1)
        clear x0 x1 e1 ht hb6 hr6 hr7 SR FR ER Y2R Y3R CR s0 s1 s2 s3 s4 s5 HR5 HOR
        go_upto_region 15 with (fail)
        generalize (w6.alloc (.cells #[.int .i64 G.T, .int .i64 G.fl, .int .i64 G.st, .int .i64 G.pad, .slice A6 G.N c6, .slice A7 G.sn c7, .int .i64 G.wt, .int .i64 G.pa, .bool G.al, .int .i64 G.pm, .int .i64 G.la, .int .i64 G.co, .int .i64 G.sp] 28)).alloc (.cells #[.int .i64 0, .int .i64 0] 30) = W7 at *
        generalize w6.heap.size = p6 at *
        obtain ⟨y0_, y1_, y2_, y3_, y4_, y5_, y6_, y7_, y8_, y9_, y10_, y11_, y12_⟩ := row13 FF6.out
        obtain ⟨z0_, z1_, z2_, z3_, z4_, z5_, z6_, z7_, z8_, z9_, z10_, z11_, z12_⟩ := row13 F6.out
        go_wp2_with fail
        refine (rfsame14 G.T G.fl G.st G.pad G.T G.fl G.st G.pad A2 A6 G.N c2 G.N c6 (fun i => f (G.off + i)) (fun i => f (G.off + i)) A3 A7 G.sn c3 G.sn c7 (sF f) (sG f) (sF f) (sG f) G.wt G.pa G.pm G.la G.co G.sp G.wt G.pa G.pm G.la G.co G.sp G.al G.al _ Z2.out Z6.out HBY.out HBY.out Z3.out Z7.out).mono ?_
        rw [smB_selfZ]
        rintro e w8 ⟨rfl, hb⟩
        have U8 := hide (keepRow U6.out hb)
        have E8 := hide (E6.out.of hb)
        clear hb E6 Z2 Z3 Z6 Z7 FF6 F6 U6 y0_ y1_ y2_ y3_ y4_ y5_ y6_ y7_ y8_ y9_ y10_ y11_ y12_ z0_ z1_ z2_ z3_ z4_ z5_ z6_ z7_ z8_ z9_ z10_ z11_ z12_
        obtain ⟨v0, v1⟩ := row2 U8.out
        go_wp2_with fail
        refine (alive14 _).mono ?_
        rintro e w' ⟨rfl, hb⟩
        have HB := hide (E8.out.of hb)
        clear hb
        go_wp2_with fail
        go_ret
        exact ⟨rfl, HB.out⟩
    · have d1 : decide ((k : Int) < G.pad) = false := decide_eq_false h1
      clear h1
      have hkk := HK.out
      obtain ⟨e1, e2, e3⟩ := HSM.out g (fun j hj => HGF.out j (by omega))
      have HQ2 : Hid (∀ W : World, Rd .u8 W A5 n c5 g → Calls Try.prog 13 #[.agg #[.int .i64 (1 - fm2), .int .i64 T, .int .i64 fl, .int .i64 st, .bool (!rs), .slice A5 n c5]] W (PsR G g W)) := fun W h => by rw [← e1]; exact parse14 (1 - fm2) T fl st (!rs) A5 n c5 g W h HBG.out hn
      have H2 := hide e2
      have H3 := hide e3
      clear e1 e2 e3 hkk
      obtain ⟨s0, s1, s2, s3, s4, s5⟩ := row6 SR.out
      go_wp2_with fail
      refine (HQ2.out _ HR5.out).mono ?_
      rintro e w6 ⟨A6, c6, A7, c7, rfl, hr6, hr7, hb6⟩
      rw [hen, HFS.out, HFC.out]
      obtain ⟨x0, x1, e1⟩ := alloc2r w6 #[.int .i64 G.T, .int .i64 G.fl, .int .i64 G.st, .int .i64 G.pad, .slice A6 G.N c6, .slice A7 G.sn c7, .int .i64 G.wt, .int .i64 G.pa, .bool G.al, .int .i64 G.pm, .int .i64 G.la, .int .i64 G.co, .int .i64 G.sp] #[.int .i64 0, .int .i64 0] 28 30
      have ht := hb6.of e1
      have F6 := hide x0
      have U6 := hide x1
      have FF6 := hide (keepRow FR.out ht)
      have E6 := hide (ER.out.of ht)
      have Z2 := hide (Y2R.out.below ht)
      have Z3 := hide (Y3R.out.below ht)
      have Z6 := hide ((hr6.congr H2.out).below e1)
      have Z7 := hide ((Rd2.congr hr7 (fun i hi => (H3.out i hi).1) (fun i hi => (H3.out i hi).2)).below e1)
      clear x0 x1 e1 ht hb6 hr6 hr7 SR FR ER Y2R Y3R CR s0 s1 s2 s3 s4 s5 HR5 HOR
      go_upto_region 15 with (fail)
      generalize (w6.alloc (.cells #[.int .i64 G.T, .int .i64 G.fl, .int .i64 G.st, .int .i64 G.pad, .slice A6 G.N c6, .slice A7 G.sn c7, .int .i64 G.wt, .int .i64 G.pa, .bool G.al, .int .i64 G.pm, .int .i64 G.la, .int .i64 G.co, .int .i64 G.sp] 28)).alloc (.cells #[.int .i64 0, .int .i64 0] 30) = W7 at *
      generalize w6.heap.size = p6 at *
      obtain ⟨y0_, y1_, y2_, y3_, y4_, y5_, y6_, y7_, y8_, y9_, y10_, y11_, y12_⟩ := row13 FF6.out
      obtain ⟨z0_, z1_, z2_, z3_, z4_, z5_, z6_, z7_, z8_, z9_, z10_, z11_, z12_⟩ := row13 F6.out
      go_wp2_with fail
      refine (rfsame14 G.T G.fl G.st G.pad G.T G.fl G.st G.pad A2 A6 G.N c2 G.N c6 (fun i => f (G.off + i)) (fun i => f (G.off + i)) A3 A7 G.sn c3 G.sn c7 (sF f) (sG f) (sF f) (sG f) G.wt G.pa G.pm G.la G.co G.sp G.wt G.pa G.pm G.la G.co G.sp G.al G.al _ Z2.out Z6.out HBY.out HBY.out Z3.out Z7.out).mono ?_
      rw [smB_selfZ]
      rintro e w8 ⟨rfl, hb⟩
      have U8 := hide (keepRow U6.out hb)
      have E8 := hide (E6.out.of hb)
      clear hb E6 Z2 Z3 Z6 Z7 FF6 F6 U6 y0_ y1_ y2_ y3_ y4_ y5_ y6_ y7_ y8_ y9_ y10_ y11_ y12_ z0_ z1_ z2_ z3_ z4_ z5_ z6_ z7_ z8_ z9_ z10_ z11_ z12_
      obtain ⟨v0, v1⟩ := row2 U8.out
      go_wp2_with fail
      refine (alive14 _).mono ?_
      rintro e w' ⟨rfl, hb⟩
      have HB := hide (E8.out.of hb)
      clear hb
      go_wp2_with fail
      go_ret
      exact ⟨rfl, HB.out⟩
end Go.Proofs.Ytelcpfjifhobjaa
