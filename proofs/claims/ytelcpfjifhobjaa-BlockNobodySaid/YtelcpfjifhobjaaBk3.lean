/- Layer 30: a frame is taken. -/
import Derived.Test.YtelcpfjifhobjaaBk2
namespace Go.Proofs.Ytelcpfjifhobjaa
set_option linter.unusedVariables false
set_option linter.unusedSimpArgs false
open Go.RowKit

theorem cell1z {w : World} {p b j k : Nat} {u : Value} (hne : b ≠ p) : (w.setCell ⟨p, k, none⟩ u).cell? ⟨b, j, none⟩ = w.cell? ⟨b, j, none⟩ := by
  have hh := Below.heap_setCell w ⟨p, k, none⟩ u b hne
  unfold World.cell?
  simp only at hh ⊢
  rw [hh]
theorem FrS.set14z {B p : Nat} {w : World} (hB : B ≤ p) (hg : p < w.heap.size) (b0 b1 b2 b3 b4 b5 b6 b7 b8 b9 b10 b11 b12 : Value) : FrS B (Q1 p) w (set14z w p b0 b1 b2 b3 b4 b5 b6 b7 b8 b9 b10 b11 b12) :=
  ((((((((((((((FrS.set (S := Q1 p) (j := 1) (u := .bool true) hB hg rfl).trans (FrS.set (S := Q1 p) (j := 2) (u := b0) hB (by simpa using hg) rfl)).trans (FrS.set (S := Q1 p) (j := 3) (u := b1) hB (by simpa using hg) rfl)).trans (FrS.set (S := Q1 p) (j := 4) (u := b2) hB (by simpa using hg) rfl)).trans (FrS.set (S := Q1 p) (j := 5) (u := b3) hB (by simpa using hg) rfl)).trans (FrS.set (S := Q1 p) (j := 6) (u := b4) hB (by simpa using hg) rfl)).trans (FrS.set (S := Q1 p) (j := 7) (u := b5) hB (by simpa using hg) rfl)).trans (FrS.set (S := Q1 p) (j := 8) (u := b6) hB (by simpa using hg) rfl)).trans (FrS.set (S := Q1 p) (j := 9) (u := b7) hB (by simpa using hg) rfl)).trans (FrS.set (S := Q1 p) (j := 10) (u := b8) hB (by simpa using hg) rfl)).trans (FrS.set (S := Q1 p) (j := 11) (u := b9) hB (by simpa using hg) rfl)).trans (FrS.set (S := Q1 p) (j := 12) (u := b10) hB (by simpa using hg) rfl)).trans (FrS.set (S := Q1 p) (j := 13) (u := b11) hB (by simpa using hg) rfl)).trans (FrS.set (S := Q1 p) (j := 14) (u := b12) hB (by simpa using hg) rfl))
theorem Own.keptZZ {k : IntKind} {e : TypeId} {B : Nat} {w w' : World} {v : Value} {n : Nat} {f : Nat → Int} {row : Option Nat} (h : Own k e B w v n f) (hg : w.grownBy w' row) (hne : v.ownBlock = none ∨ v.ownBlock ≠ row) : Own k e B w' v n f := World.ownsRow.kept (row := row) h hg hne
theorem Own.baseZ {k : IntKind} {e : TypeId} {B B' : Nat} {w : World} {v : Value} {n : Nat} {f : Nat → Int} (h : Own k e B w v n f) (hB : B' ≤ B) : Own k e B' w v n f := by
  refine ⟨h.1, ?_⟩
  rcases h.2 with h2 | ⟨g, cap, cur, hv, hg, hh, r⟩
  · exact .inl h2
  · exact .inr ⟨g, cap, cur, hv, Nat.le_trans hB hg, hh, r⟩
theorem absY {p : World → Prop} (W0 : World) (R : World → Prop) (h0 : R W0) (h : ∀ W, R W → p W) : p W0 := h W0 h0
theorem heapDrewY {w : World} {p : Nat} {o : Option Obj} (h : w.heap[p]? = o) : w.drew.heap[p]? = o := h

set_option maxRecDepth 100000 in
set_option maxHeartbeats 3200000 in
theorem takeNew30 (T fl st pd : Int) (A : Option Addr) (n c : Nat) (f : Nat → Int) (A2 : Option Addr) (n2 c2 : Nat) (s t : Nat → Int) (wt pa : Int) (al : Bool) (pm la co sp : Int) (B : Nat) (p : Nat) (fp : Nat → Prop) (most : Int) (X : BS) (w : World) (h : AsOk B w p fp most X) (hX : X.begun = false) (ha : Rd .u8 w A n c f) (hs : Rd2 w A2 n2 c2 s t) (hn : n ≤ 100000) (hn2 : n2 ≤ 100000) (hAp : ∀ b off, 0 < n → A = some ⟨b, off, none⟩ → b ≠ p) (hSp : ∀ b off, 0 < n2 → A2 = some ⟨b, off, none⟩ → b ≠ p) :
    Calls Try.prog 66 #[.pointer (some ⟨p, 0, none⟩), .agg #[.int .i64 T, .int .i64 fl, .int .i64 st, .int .i64 pd, .slice A n c, .slice A2 n2 c2, .int .i64 wt, .int .i64 pa, .bool al, .int .i64 pm, .int .i64 la, .int .i64 co, .int .i64 sp]] w (fun e w' => e = .returned (.tuple #[]) ∧ ∃ fp', AsOk B w' p fp' most ⟨true, T, fl, st, pd, n, f, n2, s, t, wt, pa, al, pm, la, co, sp⟩ ∧ (∀ i, fp' i → fp i ∨ w.heap.size ≤ i) ∧ FrS B fp w w') := by
  have hlo := h.lo
  have hfp := h.hp
  obtain ⟨v, B2, d2, h1, _⟩ := h.ex
  rw [hX] at h1
  have hpw := (hlo p hfp).2
  have hpB := (hlo p hfp).1
  have R0 := hide (heap_alloc_new w (.cells #[.int .i64 T, .int .i64 fl, .int .i64 st, .int .i64 pd, .slice A n c, .slice A2 n2 c2, .int .i64 wt, .int .i64 pa, .bool al, .int .i64 pm, .int .i64 la, .int .i64 co, .int .i64 sp] 28))
  have e0 := (Below.refl w.heap.size w).alloc (Nat.le_refl _) (.cells #[.int .i64 T, .int .i64 fl, .int .i64 st, .int .i64 pd, .slice A n c, .slice A2 n2 c2, .int .i64 wt, .int .i64 pa, .bool al, .int .i64 pm, .int .i64 la, .int .i64 co, .int .i64 sp] 28)
  have P0 := hide (keepRow h1 e0)
  have E0 := hide e0
  have HA0 := hide (ha.below e0)
  have HS0 := hide (hs.below e0)
  have HLO := hide hlo
  have NAP : Hid (∀ b off, 0 < n → A = some ⟨b, off, none⟩ → ¬ Q1 p b) := fun b off h0 e sB => hAp b off h0 e sB
  have NSP : Hid (∀ b off, 0 < n2 → A2 = some ⟨b, off, none⟩ → ¬ Q1 p b) := fun b off h0 e sB => hSp b off h0 e sB
  have HFP := hide hfp
  clear h1 e0 h hlo hfp ha hs hAp hSp
  go_enter Try.func66, Try.ntmps66
  go_upto_region 1 with (fail)
  have hW0 : (w.alloc (.cells #[.int .i64 T, .int .i64 fl, .int .i64 st, .int .i64 pd, .slice A n c, .slice A2 n2 c2, .int .i64 wt, .int .i64 pa, .bool al, .int .i64 pm, .int .i64 la, .int .i64 co, .int .i64 sp] 28)).heap.size = w.heap.size + 1 := by simp
  generalize w.alloc (.cells #[.int .i64 T, .int .i64 fl, .int .i64 st, .int .i64 pd, .slice A n c, .slice A2 n2 c2, .int .i64 wt, .int .i64 pa, .bool al, .int .i64 pm, .int .i64 la, .int .i64 co, .int .i64 sp] 28) = W0 at *
  obtain ⟨f0_, f1_, f2_, f3_, f4_, f5_, f6_, f7_, f8_, f9_, f10_, f11_, f12_⟩ := row13 R0.out
  obtain ⟨c0_, c1_, c2_, c3_, c4_, c5_, c6_, c7_, c8_, c9_, c10_, c11_, c12_, c13_, c14_⟩ := row15 P0.out
  have S0 := hide (And.intro f0_ (And.intro f1_ (And.intro f2_ (And.intro f3_ (And.intro f4_ (And.intro f5_ (And.intro f6_ (And.intro f7_ (And.intro f8_ (And.intro f9_ (And.intro f10_ (And.intro f11_ f12_))))))))))))
  have hnp : w.heap.size ≠ p := by omega
  have HNP := hide hnp
  obtain ⟨⟨k0_, z0_⟩, ⟨k1_, z1_⟩, ⟨k2_, z2_⟩, ⟨k3_, z3_⟩, ⟨k4_, z4_⟩, ⟨k5_, z5_⟩, ⟨k6_, z6_⟩, ⟨k7_, z7_⟩, ⟨k8_, z8_⟩, ⟨k9_, z9_⟩, ⟨k10_, z10_⟩, ⟨k11_, z11_⟩, ⟨k12_, z12_⟩, ⟨k13_, z13_⟩, rz⟩ := store14 P0.out (.int .i64 T) (.int .i64 fl) (.int .i64 st) (.int .i64 pd) (.slice A n c) (.slice A2 n2 c2) (.int .i64 wt) (.int .i64 pa) (.bool al) (.int .i64 pm) (.int .i64 la) (.int .i64 co) (.int .i64 sp)
  have RP := hide rz
  have g14 := FrS.set14z (B := B) hpB (by omega : p < W0.heap.size) (.int .i64 T) (.int .i64 fl) (.int .i64 st) (.int .i64 pd) (.slice A n c) (.slice A2 n2 c2) (.int .i64 wt) (.int .i64 pa) (.bool al) (.int .i64 pm) (.int .i64 la) (.int .i64 co) (.int .i64 sp)
  have RPd := hide (heapDrewY rz)
  have RB := hide (g14.row R0.out (fun e => hnp e))
  have RBd := hide (heapDrewY RB.out)
  have G14 := hide g14
  have G14d := hide (g14.trans (FrS.ofBelow (Q1 p) (Below.refl _ _).drew (by simp; omega)))
  clear rz g14 hnp
  go_upto_region 2 with (fail)
  go_region_held3 (fun W : World => W.cell? ⟨w.heap.size, 0, none⟩ = some (.int .i64 T) ∧ W.cell? ⟨w.heap.size, 1, none⟩ = some (.int .i64 fl) ∧ W.cell? ⟨w.heap.size, 2, none⟩ = some (.int .i64 st) ∧ W.cell? ⟨w.heap.size, 3, none⟩ = some (.int .i64 pd) ∧ W.cell? ⟨w.heap.size, 4, none⟩ = some (.slice A n c) ∧ W.cell? ⟨w.heap.size, 5, none⟩ = some (.slice A2 n2 c2) ∧ W.cell? ⟨w.heap.size, 6, none⟩ = some (.int .i64 wt) ∧ W.cell? ⟨w.heap.size, 7, none⟩ = some (.int .i64 pa) ∧ W.cell? ⟨w.heap.size, 8, none⟩ = some (.bool al) ∧ W.cell? ⟨w.heap.size, 9, none⟩ = some (.int .i64 pm) ∧ W.cell? ⟨w.heap.size, 10, none⟩ = some (.int .i64 la) ∧ W.cell? ⟨w.heap.size, 11, none⟩ = some (.int .i64 co) ∧ W.cell? ⟨w.heap.size, 12, none⟩ = some (.int .i64 sp))
    ((first | with_reducible exact S0.out | (simp only [World.cell?_drew, cell14z HNP.out, cell1z HNP.out]; with_reducible exact S0.out)))
    ((fail))
  all_goals
    first
      | with_reducible refine absY (set14z W0 p (.int .i64 T) (.int .i64 fl) (.int .i64 st) (.int .i64 pd) (.slice A n c) (.slice A2 n2 c2) (.int .i64 wt) (.int .i64 pa) (.bool al) (.int .i64 pm) (.int .i64 la) (.int .i64 co) (.int .i64 sp)).drew (fun W => W.heap[p]? = some (.cells #[.int .i64 most, .bool true, .int .i64 T, .int .i64 fl, .int .i64 st, .int .i64 pd, .slice A n c, .slice A2 n2 c2, .int .i64 wt, .int .i64 pa, .bool al, .int .i64 pm, .int .i64 la, .int .i64 co, .int .i64 sp] 59 (0, 0)) ∧ W.heap[w.heap.size]? = some (.cells #[.int .i64 T, .int .i64 fl, .int .i64 st, .int .i64 pd, .slice A n c, .slice A2 n2 c2, .int .i64 wt, .int .i64 pa, .bool al, .int .i64 pm, .int .i64 la, .int .i64 co, .int .i64 sp] 28 (0, 0)) ∧ FrS B (Q1 p) W0 W) ⟨RPd.out, RBd.out, G14d.out⟩ ?_
      | with_reducible refine absY (set14z W0 p (.int .i64 T) (.int .i64 fl) (.int .i64 st) (.int .i64 pd) (.slice A n c) (.slice A2 n2 c2) (.int .i64 wt) (.int .i64 pa) (.bool al) (.int .i64 pm) (.int .i64 la) (.int .i64 co) (.int .i64 sp)) (fun W => W.heap[p]? = some (.cells #[.int .i64 most, .bool true, .int .i64 T, .int .i64 fl, .int .i64 st, .int .i64 pd, .slice A n c, .slice A2 n2 c2, .int .i64 wt, .int .i64 pa, .bool al, .int .i64 pm, .int .i64 la, .int .i64 co, .int .i64 sp] 59 (0, 0)) ∧ W.heap[w.heap.size]? = some (.cells #[.int .i64 T, .int .i64 fl, .int .i64 st, .int .i64 pd, .slice A n c, .slice A2 n2 c2, .int .i64 wt, .int .i64 pa, .bool al, .int .i64 pm, .int .i64 la, .int .i64 co, .int .i64 sp] 28 (0, 0)) ∧ FrS B (Q1 p) W0 W) ⟨RP.out, RB.out, G14.out⟩ ?_
    clear k0_ z0_ k1_ z1_ k2_ z2_ k3_ z3_ k4_ z4_ k5_ z5_ k6_ z6_ k7_ z7_ k8_ z8_ k9_ z9_ k10_ z10_ k11_ z11_ k12_ z12_ k13_ z13_ RP RPd RB RBd G14 G14d S0 f0_ f1_ f2_ f3_ f4_ f5_ f6_ f7_ f8_ f9_ f10_ f11_ f12_ c0_ c1_ c2_ c3_ c4_ c5_ c6_ c7_ c8_ c9_ c10_ c11_ c12_ c13_ c14_
    rintro W1 ⟨rP, rB, gF⟩
    have P1 := hide rP
    have B1 := hide rB
    have F1 := hide gF
    have HA1 := hide (HA0.out.frs gF (fun b off h0 e sB => NAP.out b off h0 e sB))
    have HS1 := hide (HS0.out.frs gF (fun b off h0 e sB => NSP.out b off h0 e sB))
    have hs1 := gF.bel.size
    clear rP rB gF
    obtain ⟨f0_, f1_, f2_, f3_, f4_, f5_, f6_, f7_, f8_, f9_, f10_, f11_, f12_⟩ := row13 B1.out
    go_upto_region 3 with (fail)
    go_wp2_with fail
    refine (sclone30 A2 n2 c2 s t _ HS1.out hn2).mono ?_
    rintro e w2 ⟨A3, c3, rfl, hr3, hf3, hb3⟩
    have P2 := hide (keepRow P1.out hb3)
    have B2_ := hide (keepRow B1.out hb3)
    have HA2 := hide (HA1.out.below hb3)
    have F2 := hide (F1.out.trans (FrS.ofBelow (Q1 p) hb3 (by omega)))
    have Y3 := hide hr3
    have HF3 : Hid (∀ a, A3 = some a → w.heap.size < a.block) := fun a e => by have := (hf3 a e).1; omega
    have HG3 : Hid (∀ a, A3 = some a → a.block < w2.heap.size) := fun a e => (hf3 a e).2
    have hs2 := hb3.size
    clear hr3 hf3 hb3 P1 B1 F1 HA1 HS1 f0_ f1_ f2_ f3_ f4_ f5_ f6_ f7_ f8_ f9_ f10_ f11_ f12_
    have z6_ := frozenRow P2.out 6
    obtain ⟨c0_, c1_, c2_, c3_, c4_, c5_, c6_, c7_, c8_, c9_, c10_, c11_, c12_, c13_, c14_⟩ := row15 P2.out
    have s6 := setRow w2 p 6 (.slice none 0 0) P2.out
    simp only [List.setIfInBounds_toArray, List.set_cons_zero, List.set_cons_succ] at s6
    have z7_ := frozenRow s6 7
    obtain ⟨-, -, -, -, -, -, -, u7_, -⟩ := row15 s6
    have s7 := setRow (w2.setCell ⟨p, 6, none⟩ (.slice none 0 0)) p 7 (.slice A3 n2 c3) s6
    simp only [List.setIfInBounds_toArray, List.set_cons_zero, List.set_cons_succ] at s7
    have P3 := hide s7
    have hpw2 := rowLt P2.out
    have g1 := FrS.set (B := B) (S := Q1 p) (j := 6) (u := .slice none 0 0) hpB hpw2 rfl
    have g2 := FrS.set (B := B) (S := Q1 p) (w := w2.setCell ⟨p, 6, none⟩ (.slice none 0 0)) (j := 7) (u := .slice A3 n2 c3) hpB (by simpa using hpw2) rfl
    have F3 := hide (F2.out.trans (g1.trans g2))
    have B3_ := hide ((g1.trans g2).row B2_.out (fun e => HNP.out e))
    have HA3 := hide (HA2.out.frs (g1.trans g2) (fun b off h0 e sB => NAP.out b off h0 e sB))
    have Y3b := hide (Y3.out.frs (g1.trans g2) (fun b off h0 e sB => by have := HF3.out _ e; have e2 : b = p := sB; simp at this; omega))
    have W23 : w2.heap.size ≤ ((w2.setCell ⟨p, 6, none⟩ (.slice none 0 0)).setCell ⟨p, 7, none⟩ (.slice A3 n2 c3)).heap.size := by simp
    clear s6 s7 g1 g2 F2 B2_ HA2 Y3
    go_upto_region 4 with (fail)
    clear z6_ z7_ u7_ c0_ c1_ c2_ c3_ c4_ c5_ c6_ c7_ c8_ c9_ c10_ c11_ c12_ c13_ c14_ P2
    generalize (w2.setCell ⟨p, 6, none⟩ (.slice none 0 0)).setCell ⟨p, 7, none⟩ (.slice A3 n2 c3) = W3 at *
    obtain ⟨f0_, f1_, f2_, f3_, f4_, f5_, f6_, f7_, f8_, f9_, f10_, f11_, f12_⟩ := row13 B3_.out
    obtain ⟨c0_, c1_, c2_, c3_, c4_, c5_, c6_, c7_, c8_, c9_, c10_, c11_, c12_, c13_, c14_⟩ := row15 P3.out
    obtain ⟨i0, hi, hz0, hz1, hz2⟩ := info_parts c8_info
    have HCd := hide (HA3.out.below (Below.refl _ _).drew)
    have hp3 := rowLt P3.out
    have hs3 := F3.out.bel.size
    have hw23 : w2.heap.size ≤ W3.heap.size := W23
    clear W23
    go_region_law (refine step_app1 rfl (.tmp 32) (.tmp 34) _ rfl i0 _ 1 Try.underlying22 hi hz0 hz1 hz2 W3.heap.size (.slice none 0 0) 0 (oneF 0) rfl (Own.nil .u8 5 _ _ _) _ n c f rfl HCd.out (by simp only [maxLen]; omega) (by omega) (by exact Nat.le_refl _) ?_; intro v5 w5 hown5 hg5; rw [Nat.zero_add] at hown5; obtain ⟨A5, c5, rfl, hr5, hf5⟩ := hown5.rd; have HO5 := hide hown5; have hb5 : Below W3.heap.size W3 w5 := ⟨hg5.os, hg5.tape, hg5.output, hg5.size, fun i hi => hg5.block i hi (fun e => by cases e)⟩; have P5 := hide (keepRow P3.out hb5); have zz := frozenRow P5.out 6; obtain ⟨d0_, d1_, d2_, d3_, d4_, d5_, d6_, d7_, d8_, d9_, d10_, d11_, d12_, d13_, d14_⟩ := row15 P5.out)
    all_goals
      have s5 := setRow w5 p 6 (.slice A5 n c5) P5.out
      simp only [List.setIfInBounds_toArray, List.set_cons_zero, List.set_cons_succ] at s5
      have hnb : (Value.slice A5 n c5).ownBlock ≠ some p := fun e => by
        have := (World.ownsRow.lt HO5.out p e).1
        omega
      have gS := FrS.set (B := B) (S := Q1 p) (w := w5) (j := 6) (u := .slice A5 n c5) hpB (rowLt P5.out) rfl
      have FIN : Hid (∃ fp', AsOk B (w5.setCell ⟨p, 6, none⟩ (.slice A5 n c5)) p fp' most ⟨true, T, fl, st, pd, n, f, n2, s, t, wt, pa, al, pm, la, co, sp⟩ ∧ (∀ i, fp' i → fp i ∨ w.heap.size ≤ i) ∧ FrS B fp w (w5.setCell ⟨p, 6, none⟩ (.slice A5 n c5))) :=
        ⟨fun i => i = p ∨ (w.heap.size ≤ i ∧ i < w5.heap.size), ⟨⟨_, A3, c3, s5, Own.keptZZ ((Own.baseZ HO5.out (by omega)).congr (fun i _ => catF_nil _ _ i)) (grown_set w5 p 6 (.slice A5 n c5)) (.inr hnb), (Y3b.out.below hb5).frs gS (fun b off h0 e sB => by have := HF3.out _ e; have e2 : b = p := sB; simp at this; omega), fun b e => ⟨.inr ⟨by have := (World.ownsRow.lt HO5.out b e).1; omega, (World.ownsRow.lt HO5.out b e).2⟩, fun e2 => hnb (e2 ▸ e)⟩, fun a e => ⟨.inr ⟨by have := HF3.out a e; omega, by have := HG3.out a e; have := hb5.size; omega⟩, by have := HF3.out a e; omega, fun e2 => by have h1 := HG3.out a e; have h2 := (World.ownsRow.lt HO5.out _ e2).1; omega⟩⟩, .inl rfl, fun i hi => by
            rcases hi with rfl | ⟨h1, h2⟩
            · exact ⟨hpB, by simpa using rowLt P5.out⟩
            · exact ⟨by omega, by simpa using h2⟩⟩, fun i hi => hi.elim (fun e => .inl (e ▸ HFP.out)) (fun h => .inr h.1),
          (((FrS.ofBelow fp E0.out (by omega)).trans ((F3.out.trans (FrS.ofBelow (Q1 p) hb5 (by omega))).wide fun i e => by have e2 : i = p := e; rw [e2]; exact HFP.out)).trans (gS.wide fun i e => by have e2 : i = p := e; rw [e2]; exact HFP.out))⟩
      go_wp2_with fail
      go_end0
      exact ⟨rfl, FIN.out⟩
end Go.Proofs.Ytelcpfjifhobjaa
