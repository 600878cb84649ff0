/- Layer 36: Waits, Answer. -/
import Derived.Test.YteikpdolickkaaaPi3
namespace Go.Proofs.Yteikpdolickkaaa
open Go.RowKit Go.Maps Go.Deep

theorem updB_same (f : List Int → Int) (k : List Int) (v : Int) : updB f k v k = v := by simp [updB]
set_option maxRecDepth 20000 in
theorem waits36 {B : Nat} {w : World} {p bm n : Nat} {most cnt : Int} {f : List Int → Int} (h : PgOk B w p bm n most cnt f) {A : Option Addr} {c : Nat} {F : Nat → Int} (ha : Rd .u8 w A 8 c F) (hb : Byt 8 F) :
    Calls Try.prog 88 #[.pointer (some ⟨p, 0, none⟩), .slice A 8 c] w fun e w' => e = .returned (.bool (decide (0 < f (kl F)))) ∧ Below w.heap.size w w' := by
  have H := hide h
  have Hb := hide hb
  go_enter Try.func88, Try.ntmps88
  go_wp2_with fail
  refine (key36 ha).mono ?_
  rintro e w1 ⟨h1 | h1, hb1⟩
  · obtain ⟨_, rfl⟩ := h1
    have b2 := hb1.alloc hb1.size (.cells #[.int .u8 (F 0), .int .u8 (F 1), .int .u8 (F 2), .int .u8 (F 3), .int .u8 (F 4), .int .u8 (F 5), .int .u8 (F 6), .int .u8 (F 7)] 216)
    have r0 := keepRow H.out.row b2
    have r1 := heap_alloc_new w1 (.cells #[.int .u8 (F 0), .int .u8 (F 1), .int .u8 (F 2), .int .u8 (F 3), .int .u8 (F 4), .int .u8 (F 5), .int .u8 (F 6), .int .u8 (F 7)] 216)
    obtain ⟨c0, c1, c2⟩ := row3P r0
    obtain ⟨e0, e1, e2, e3, e4, e5, e6, e7⟩ := row8 r1
    have M2 := hide (H.out.map.at_block (w' := w1.alloc (.cells #[.int .u8 (F 0), .int .u8 (F 1), .int .u8 (F 2), .int .u8 (F 3), .int .u8 (F 4), .int .u8 (F 5), .int .u8 (F 6), .int .u8 (F 7)] 216)) (b2.block _ H.out.map.lt))
    have B2 := hide b2
    have hl0 := look36 (w := (w1.alloc (.cells #[.int .u8 (F 0), .int .u8 (F 1), .int .u8 (F 2), .int .u8 (F 3), .int .u8 (F 4), .int .u8 (F 5), .int .u8 (F 6), .int .u8 (F 7)] 216)).drew) (M2.out.at_block rfl) Hb.out
    clear b2 r0 r1 h ha hb1
    unfold ky at hl0 ⊢
    generalize hz : w1.alloc (.cells #[.int .u8 (F 0), .int .u8 (F 1), .int .u8 (F 2), .int .u8 (F 3), .int .u8 (F 4), .int .u8 (F 5), .int .u8 (F 6), .int .u8 (F 7)] 216) = z at *
    go_wp2_with fail
    go_region_held3 (fun W => W.cell? ⟨p, 1, none⟩ = some (.map (some bm)) ∧ W.cell? ⟨w1.heap.size, 0, none⟩ = some (.int .u8 (F 0)) ∧ W.cell? ⟨w1.heap.size, 1, none⟩ = some (.int .u8 (F 1)) ∧ W.cell? ⟨w1.heap.size, 2, none⟩ = some (.int .u8 (F 2)) ∧ W.cell? ⟨w1.heap.size, 3, none⟩ = some (.int .u8 (F 3)) ∧ W.cell? ⟨w1.heap.size, 4, none⟩ = some (.int .u8 (F 4)) ∧ W.cell? ⟨w1.heap.size, 5, none⟩ = some (.int .u8 (F 5)) ∧ W.cell? ⟨w1.heap.size, 6, none⟩ = some (.int .u8 (F 6)) ∧ W.cell? ⟨w1.heap.size, 7, none⟩ = some (.int .u8 (F 7))) ((first | exact ⟨c1, e0, e1, e2, e3, e4, e5, e6, e7⟩ | (go_keep; done))) (fail)
    all_goals
      go_wp2_with fail
      go_ret
      exact ⟨rfl, B2.out.drew⟩
  · exact absurd rfl h1.1
set_option maxRecDepth 20000 in
theorem answer36 {B : Nat} {w : World} {p bm n : Nat} {most cnt : Int} {f : List Int → Int} (h : PgOk B w p bm n most cnt f) (hB : B ≤ w.heap.size) {A : Option Addr} {c : Nat} {F : Nat → Int} (ha : Rd .u8 w A 8 c F) (hb : Byt 8 F) (hc : 0 ≤ cnt ∧ cnt ≤ 1000) (hn : n < 1000) (hf : 0 < f (kl F) ∧ f (kl F) ≤ 1000) :
    Calls Try.prog 89 #[.pointer (some ⟨p, 0, none⟩), .slice A 8 c] w fun e w' => e = .returned (.bool true) ∧ PgOk B w' p bm (n + 1) most (cnt - 1) (updB f (kl F) (f (kl F) - 1)) ∧ FrP B p bm w w' := by
  have H := hide h
  have HF := hide hf
  have Hb := hide hb
  have HBs := hide hB
  have Ha := hide ha
  obtain ⟨y, hy⟩ : ∃ y, y = f (kl F) - 1 := ⟨_, rfl⟩
  rw [← hy]
  have Hy := hide hy
  clear h ha hf hy
  go_enter Try.func89, Try.ntmps89
  go_wp2_with fail
  refine (waits36 H.out Ha.out Hb.out).mono ?_
  rintro e w0 ⟨rfl, hb0⟩
  rw [decide_eq_true HF.out.1]
  have Hb0 := hide hb0
  clear hb0
  go_wp2_with fail
  refine (key36 (Ha.out.below Hb0.out)).mono ?_
  rintro e w1 ⟨h1 | h1, hb1⟩
  · obtain ⟨_, rfl⟩ := h1
    have b2 := (Hb0.out.of hb1).alloc (Nat.le_trans Hb0.out.size hb1.size) (.cells #[.int .u8 (F 0), .int .u8 (F 1), .int .u8 (F 2), .int .u8 (F 3), .int .u8 (F 4), .int .u8 (F 5), .int .u8 (F 6), .int .u8 (F 7)] 216)
    have r1 := heap_alloc_new w1 (.cells #[.int .u8 (F 0), .int .u8 (F 1), .int .u8 (F 2), .int .u8 (F 3), .int .u8 (F 4), .int .u8 (F 5), .int .u8 (F 6), .int .u8 (F 7)] 216)
    have R0 := hide (keepRow H.out.row b2)
    have K0 := hide r1
    have M2 := hide (H.out.map.at_block (w' := w1.alloc (.cells #[.int .u8 (F 0), .int .u8 (F 1), .int .u8 (F 2), .int .u8 (F 3), .int .u8 (F 4), .int .u8 (F 5), .int .u8 (F 6), .int .u8 (F 7)] 216)) (b2.block _ H.out.map.lt))
    have B2 := hide b2
    have Hne : Hid (p ≠ bm) := H.out.ne
    have Hnq : Hid (w1.heap.size ≠ bm) := by show _ ≠ _; have h1 := H.out.map.lt; have h2 := hb1.size; have h3 := Hb0.out.size; omega
    have Hpq : Hid (w1.heap.size ≠ p) := by show _ ≠ _; have h1 := rowLt H.out.row; have h2 := hb1.size; have h3 := Hb0.out.size; omega
    obtain ⟨e0, e1, e2, e3, e4, e5, e6, e7⟩ := row8 r1
    clear b2 r1 hb1
    unfold ky
    go_wp2_with fail
    generalize hq : w1.heap.size = q at *
    generalize hz : w1.alloc (.cells #[.int .u8 (F 0), .int .u8 (F 1), .int .u8 (F 2), .int .u8 (F 3), .int .u8 (F 4), .int .u8 (F 5), .int .u8 (F 6), .int .u8 (F 7)] 216) = z at *
    clear hz hq
    have Fz : Hid (FrP B p bm w z) := ⟨⟨B2.out.os, B2.out.tape, B2.out.output, B2.out.size, fun i hi => B2.out.block i (Nat.lt_of_lt_of_le hi HBs.out)⟩, fun i hi _ _ => B2.out.block i hi⟩
    clear e0 e1 e2 e3 e4 e5 e6 e7 B2
    obtain ⟨c0, c1, c2⟩ := row3P R0.out
    obtain ⟨e0, e1, e2, e3, e4, e5, e6, e7⟩ := row8 K0.out
    have hwf := WalkArith.wf_i64 (n := y) (by have := HF.out; have := Hy.out; omega)
    have hw1 : IntKind.i64.wrap (f (kl F) - 1) = y := by rw [Hy.out]; exact IntWalk.i64_in _ (by have := HF.out; omega)
    have hw2 : IntKind.i64.wrap (cnt - 1) = cnt - 1 := IntWalk.i64_in _ (by omega)
    obtain ⟨v0, st, W1, hE, hg1, hS1⟩ := ent36 (w := z.drew) (M2.out.at_block rfl) (by simp only [maxLen]; omega) Hb.out
    have hM1 := mid36 (w := z.drew) (M2.out.at_block rfl) (by simp only [maxLen]; omega) Hb.out hE
    obtain ⟨W3, hSt, hM3, hg3⟩ := hS1 W1 rfl y hwf
    have hl0 := look36 (w := z.drew) (M2.out.at_block rfl) Hb.out
    have hl1 := look36 hM1 Hb.out
    have F1 := hide (FrP.grown (p := p) hg1 H.out.hm (Nat.le_trans HBs.out Fz.out.below.size))
    have R1 := hide (keepOne (w := z.drew) (by exact R0.out) hg1 Hne.out)
    have K1 := hide (keepOne (w := z.drew) (by exact K0.out) hg1 Hnq.out)
    have F3 := hide (FrP.grown (p := p) hg3 H.out.hm (Nat.le_trans HBs.out (Nat.le_trans Fz.out.below.size F1.out.below.size)))
    have R3 := hide (keepOne R1.out hg3 Hne.out)
    have K3 := hide (keepOne K1.out hg3 Hnq.out)
    have M3 := hide hM3
    unfold ky at hE hl0 hl1
    change _ = Result.ok (Value.tuple #[v0, Value.int .i64 (st : Int)]) _ at hE
    change (Instr.entryStore _ _ (Value.int .i64 (st : Int)) _).run _ _ = _ at hSt
    clear hg1 hS1 hg3 hM1 hM3
    obtain ⟨x0, x1, x2⟩ := row3P R1.out
    obtain ⟨g0, g1, g2, g3, g4, g5, g6, g7⟩ := row8 K1.out
    obtain ⟨y0, y1, y2⟩ := row3P R3.out
    obtain ⟨h0, h1, h2, h3, h4, h5, h6, h7⟩ := row8 K3.out
    have fr3 := frozenRow R3.out 2
    go_region_held3 (fun W => W.cell? ⟨p, 1, none⟩ = some (.map (some bm)) ∧ W.cell? ⟨q, 0, none⟩ = some (.int .u8 (F 0)) ∧ W.cell? ⟨q, 1, none⟩ = some (.int .u8 (F 1)) ∧ W.cell? ⟨q, 2, none⟩ = some (.int .u8 (F 2)) ∧ W.cell? ⟨q, 3, none⟩ = some (.int .u8 (F 3)) ∧ W.cell? ⟨q, 4, none⟩ = some (.int .u8 (F 4)) ∧ W.cell? ⟨q, 5, none⟩ = some (.int .u8 (F 5)) ∧ W.cell? ⟨q, 6, none⟩ = some (.int .u8 (F 6)) ∧ W.cell? ⟨q, 7, none⟩ = some (.int .u8 (F 7))) ((first | exact ⟨c1, e0, e1, e2, e3, e4, e5, e6, e7⟩ | exact ⟨x1, g0, g1, g2, g3, g4, g5, g6, g7⟩ | exact ⟨y1, h0, h1, h2, h3, h4, h5, h6, h7⟩ | (go_keep; done))) (fail)
    all_goals
      go_wp2_with fail
      have P4 := hide (PgOk.put H.out R3.out M3.out (cnt - 1))
      have F4 := hide (((Fz.out.drew.trans F1.out).trans F3.out).trans (FrP.set W3 2 (.int .i64 (cnt - 1)) H.out.hp))
      have K4 := hide ((Below.heap_setCell W3 ⟨p, 2, none⟩ (.int .i64 (cnt - 1)) q Hpq.out).trans K3.out)
      clear hE hSt hl0 hl1 c0 c1 c2 e0 e1 e2 e3 e4 e5 e6 e7 x0 x1 x2 g0 g1 g2 g3 g4 g5 g6 g7 y0 y1 y2 h0 h1 h2 h3 h4 h5 h6 h7 fr3
      clear R0 K0 M2 Fz F1 R1 K1 F3 R3 K3 M3
      generalize W3.setCell ⟨p, 2, none⟩ (.int .i64 (cnt - 1)) = W4 at *
      obtain ⟨z0, z1, z2⟩ := row3P P4.out.row
      obtain ⟨k0, k1, k2, k3, k4, k5, k6, k7⟩ := row8 K4.out
      have hl4 := look36 (w := W4.drew) (P4.out.map.at_block rfl) Hb.out
      rw [updB_same] at hl4
      unfold ky at hl4
      by_cases hy0 : y = 0
      · have hyd : (y == 0) = true := by rw [hy0]; rfl
        have HY0 := hide hy0
        clear hy0
        go_region_held3 (fun W => W.cell? ⟨p, 1, none⟩ = some (.map (some bm)) ∧ W.cell? ⟨q, 0, none⟩ = some (.int .u8 (F 0)) ∧ W.cell? ⟨q, 1, none⟩ = some (.int .u8 (F 1)) ∧ W.cell? ⟨q, 2, none⟩ = some (.int .u8 (F 2)) ∧ W.cell? ⟨q, 3, none⟩ = some (.int .u8 (F 3)) ∧ W.cell? ⟨q, 4, none⟩ = some (.int .u8 (F 4)) ∧ W.cell? ⟨q, 5, none⟩ = some (.int .u8 (F 5)) ∧ W.cell? ⟨q, 6, none⟩ = some (.int .u8 (F 6)) ∧ W.cell? ⟨q, 7, none⟩ = some (.int .u8 (F 7))) ((first | exact ⟨z1, k0, k1, k2, k3, k4, k5, k6, k7⟩ | (go_keep; done))) (fail)
        all_goals
          go_wp2_with fail
          have P6 : Hid (PgOk B W4.drew p bm (n + 1) most (cnt - 1) (updB f (kl F) y)) := ⟨P4.out.row, H.out.hp, H.out.hm, H.out.ne, P4.out.map.at_block rfl⟩
          have K6 : Hid (W4.drew.heap[q]? = some (.cells #[.int .u8 (F 0), .int .u8 (F 1), .int .u8 (F 2), .int .u8 (F 3), .int .u8 (F 4), .int .u8 (F 5), .int .u8 (F 6), .int .u8 (F 7)] 216 (0, 0))) := K4.out
          have F6 := hide F4.out.drew
          clear hl4 z0 z1 z2 k0 k1 k2 k3 k4 k5 k6 k7 P4 K4 F4
          generalize W4.drew = W6 at *
          obtain ⟨z0, z1, z2⟩ := row3P P6.out.row
          obtain ⟨k0, k1, k2, k3, k4, k5, k6, k7⟩ := row8 K6.out
          go_still_tail 5, (by kernel_rfl)
          change wpList _ _ _ _ _ W6.drew
          refine wp_delB rfl _ _ rfl bm (n + 1) _ rfl (P6.out.map.at_block rfl) F rfl Hb.out (by rw [updB_same]; exact HY0.out) ?_
          intro W5 hM5 hg5
          have P5 : Hid (PgOk B W5 p bm (n + 1) most (cnt - 1) (updB f (kl F) y)) := ⟨keepOne (by exact P6.out.row) hg5 Hne.out, H.out.hp, H.out.hm, H.out.ne, hM5⟩
          have F5 := hide (F6.out.drew.trans (FrP.grown hg5 H.out.hm (Nat.le_trans HBs.out F6.out.below.size)))
          clear hM5 hg5
          go_wp2_with fail
          go_ret
          exact ⟨rfl, P5.out, F5.out⟩
      · have hyd : (y == 0) = false := by
          simp only [beq_eq_false_iff_ne]
          exact hy0
        clear hy0
        go_region_held3 (fun W => W.cell? ⟨p, 1, none⟩ = some (.map (some bm)) ∧ W.cell? ⟨q, 0, none⟩ = some (.int .u8 (F 0)) ∧ W.cell? ⟨q, 1, none⟩ = some (.int .u8 (F 1)) ∧ W.cell? ⟨q, 2, none⟩ = some (.int .u8 (F 2)) ∧ W.cell? ⟨q, 3, none⟩ = some (.int .u8 (F 3)) ∧ W.cell? ⟨q, 4, none⟩ = some (.int .u8 (F 4)) ∧ W.cell? ⟨q, 5, none⟩ = some (.int .u8 (F 5)) ∧ W.cell? ⟨q, 6, none⟩ = some (.int .u8 (F 6)) ∧ W.cell? ⟨q, 7, none⟩ = some (.int .u8 (F 7))) ((first | exact ⟨z1, k0, k1, k2, k3, k4, k5, k6, k7⟩ | (go_keep; done))) (fail)
        all_goals
          go_wp2_with fail
          go_ret
          exact ⟨rfl, ⟨P4.out.row, H.out.hp, H.out.hm, H.out.ne, P4.out.map.at_block rfl⟩, F4.out.drew⟩
  · exact absurd rfl h1.1
end Go.Proofs.Yteikpdolickkaaa
