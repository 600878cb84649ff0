/- Layer 36: New, Len, Send. -/
import Derived.Test.YteikpdolickkaaaPi2
import Derived.StillTailTactics
import Derived.Deep.RegionHeld3
namespace Go.Proofs.Yteikpdolickkaaa
open Go.RowKit Go.Maps Go.Deep

/-- Pings that wait, behind a pointer. -/
structure PgOk (B : Nat) (w : World) (p bm n : Nat) (most cnt : Int) (f : List Int → Int) : Prop where
  row : w.heap[p]? = some (.cells #[.int .i64 most, .map (some bm), .int .i64 cnt] 215 (0, 0))
  hp : B ≤ p
  hm : B ≤ bm
  ne : p ≠ bm
  map : MpB w bm n f
/-- Only pings' blocks are written. -/
structure FrP (B p bm : Nat) (w w' : World) : Prop where
  below : Below B w w'
  keep : ∀ i, i < w.heap.size → i ≠ p → i ≠ bm → w'.heap[i]? = w.heap[i]?
theorem FrP.trans {B p bm : Nat} {w w1 w2 : World} (h : FrP B p bm w w1) (k : FrP B p bm w1 w2) : FrP B p bm w w2 :=
  ⟨h.below.trans k.below, fun i hi h1 h2 => (k.keep i (Nat.lt_of_lt_of_le hi h.below.size) h1 h2).trans (h.keep i hi h1 h2)⟩
theorem FrP.grown {B p bm : Nat} {w w' : World} (h : w.grownBy w' (some bm)) (hm : B ≤ bm) (hB : B ≤ w.heap.size) : FrP B p bm w w' :=
  ⟨(Below.refl _ _).grown h hB (fun j e => by cases e; exact hm), fun i hi _ h2 => h.block i hi (fun e => h2 (Option.some.inj e))⟩
theorem FrP.drew {B p bm : Nat} {w w' : World} (h : FrP B p bm w w') : FrP B p bm w w'.drew := ⟨h.below.drew, h.keep⟩
theorem FrP.set {B p bm : Nat} (w : World) (j : Nat) (u : Value) (hp : B ≤ p) : FrP B p bm w (w.setCell ⟨p, j, none⟩ u) :=
  ⟨(Below.refl _ _).setCell hp _, fun i _ h1 _ => Below.heap_setCell _ _ _ _ h1⟩
theorem PgOk.put {B : Nat} {w w' : World} {p bm n m : Nat} {most cnt x : Int} {f f' : List Int → Int} (h : PgOk B w p bm n most cnt f) (hr : w'.heap[p]? = some (.cells #[.int .i64 most, .map (some bm), .int .i64 x] 215 (0, 0))) (hm : MpB w' bm m f') (y : Int) : PgOk B (w'.setCell ⟨p, 2, none⟩ (.int .i64 y)) p bm m most y f' :=
  ⟨by have := setRow w' p 2 (.int .i64 y) hr; simpa using this, h.hp, h.hm, h.ne, hm.at_block (Below.heap_setCell _ _ _ _ (fun e => h.ne e.symm))⟩
theorem row3P {w : World} {p : Nat} {T : TypeId} {a b c : Value} (h : w.heap[p]? = some (.cells #[a, b, c] T (0, 0))) : w.cell? ⟨p, 0, none⟩ = some a ∧ w.cell? ⟨p, 1, none⟩ = some b ∧ w.cell? ⟨p, 2, none⟩ = some c := by
  refine ⟨?_, ?_, ?_⟩ <;> simp [World.cell?, h]
theorem new36 (m : Int) (h0 : 0 ≤ m) (w : World) : Calls Try.prog 86 #[.int .i64 m] w fun e w' => e = .returned (.pointer (some ⟨w.heap.size + 1, 0, none⟩)) ∧ w' = (w.alloc (.map #[] 0)).alloc (.cells #[.int .i64 m, .map (some w.heap.size), .int .i64 0] 215) := by
  have d0 : decide (m < 0) = false := decide_eq_false (by omega)
  have hmk := @run_makeMap Try.prog
  go_enter Try.func86, Try.ntmps86
  go_wp2
  go_ret
  exact ⟨rfl, rfl⟩
theorem len36 {B : Nat} {w : World} {p bm n : Nat} {most cnt : Int} {f : List Int → Int} (h : PgOk B w p bm n most cnt f) : Calls Try.prog 92 #[.pointer (some ⟨p, 0, none⟩)] w fun e w' => e = .returned (.int .i64 cnt) ∧ w = w' := by
  obtain ⟨c0, c1, c2⟩ := row3P h.row
  go_enter Try.func92, Try.ntmps92
  go_wp2
  go_ret
  exact ⟨rfl, rfl⟩
set_option maxRecDepth 20000 in
theorem send36 {B : Nat} {w : World} {p bm n : Nat} {most cnt : Int} {f : List Int → Int} (h : PgOk B w p bm n most cnt f) (hB : B ≤ w.heap.size) {A : Option Addr} {c : Nat} {F : Nat → Int} (ha : Rd .u8 w A 8 c F) (hb : Byt 8 F) (hc : cnt < most) (hm : cnt ≤ 1000) (hc0 : 0 ≤ cnt) (hn : n < 1000) (hf : 0 ≤ f (kl F) ∧ f (kl F) ≤ 1000) :
    Calls Try.prog 91 #[.pointer (some ⟨p, 0, none⟩), .slice A 8 c] w fun e w' => e = .returned (.int .i64 0) ∧ PgOk B w' p bm (n + 1) most (cnt + 1) (updB f (kl F) (f (kl F) + 1)) ∧ FrP B p bm w w' := by
  have H := hide h
  have HF := hide hf
  have Hb := hide hb
  have HBs := hide hB
  have hd : decide (most ≤ cnt) = false := decide_eq_false (by omega)
  go_enter Try.func91, Try.ntmps91
  go_wp2_with fail
  refine (key36 ha).mono ?_
  rintro e w1 ⟨h1 | h1, hb1⟩
  · obtain ⟨_, rfl⟩ := h1
    have al := (Below.refl w1.heap.size w1).alloc (Nat.le_refl _) (.cells #[.int .u8 (F 0), .int .u8 (F 1), .int .u8 (F 2), .int .u8 (F 3), .int .u8 (F 4), .int .u8 (F 5), .int .u8 (F 6), .int .u8 (F 7)] 216)
    have b2 := hb1.alloc hb1.size (.cells #[.int .u8 (F 0), .int .u8 (F 1), .int .u8 (F 2), .int .u8 (F 3), .int .u8 (F 4), .int .u8 (F 5), .int .u8 (F 6), .int .u8 (F 7)] 216)
    have r0 := keepRow H.out.row b2
    have r1 := heap_alloc_new w1 (.cells #[.int .u8 (F 0), .int .u8 (F 1), .int .u8 (F 2), .int .u8 (F 3), .int .u8 (F 4), .int .u8 (F 5), .int .u8 (F 6), .int .u8 (F 7)] 216)
    obtain ⟨c0, c1, c2⟩ := row3P r0
    obtain ⟨e0, e1, e2, e3, e4, e5, e6, e7⟩ := row8 r1
    have M2 := hide (H.out.map.at_block (w' := w1.alloc (.cells #[.int .u8 (F 0), .int .u8 (F 1), .int .u8 (F 2), .int .u8 (F 3), .int .u8 (F 4), .int .u8 (F 5), .int .u8 (F 6), .int .u8 (F 7)] 216)) (b2.block _ H.out.map.lt))
    have B2 := hide b2
    have R0 := hide r0
    have K0 := hide r1
    have Hb1 := hide hb1
    clear al b2 r0 r1 h ha hb1
    unfold ky
    generalize hz : w1.alloc (.cells #[.int .u8 (F 0), .int .u8 (F 1), .int .u8 (F 2), .int .u8 (F 3), .int .u8 (F 4), .int .u8 (F 5), .int .u8 (F 6), .int .u8 (F 7)] 216) = z at *
    go_wp2_with fail
    go_quiet (fail)
    go_wp2_with fail
    generalize hy : z.drewN nq = y
    have Ry : Hid (y.heap[p]? = some (.cells #[.int .i64 most, .map (some bm), .int .i64 cnt] 215 (0, 0))) := by rw [← hy]; exact R0.out
    have Ky : Hid (y.heap[w1.heap.size]? = some (.cells #[.int .u8 (F 0), .int .u8 (F 1), .int .u8 (F 2), .int .u8 (F 3), .int .u8 (F 4), .int .u8 (F 5), .int .u8 (F 6), .int .u8 (F 7)] 216 (0, 0))) := by rw [← hy]; exact K0.out
    have My : Hid (MpB y bm n f) := by rw [← hy]; exact M2.out
    have Fy : Hid (FrP B p bm w y) := by rw [← hy]; exact ⟨⟨B2.out.os, B2.out.tape, B2.out.output, B2.out.size, fun i hi => B2.out.block i (Nat.lt_of_lt_of_le hi HBs.out)⟩, fun i hi _ _ => B2.out.block i hi⟩
    clear c0 c1 c2 e0 e1 e2 e3 e4 e5 e6 e7 hy R0 K0 M2 B2
    obtain ⟨c0, c1, c2⟩ := row3P Ry.out
    obtain ⟨e0, e1, e2, e3, e4, e5, e6, e7⟩ := row8 Ky.out
    have Hne : Hid (p ≠ bm) := H.out.ne
    have Hnq : Hid (w1.heap.size ≠ bm) := by show _ ≠ _; have h1 := H.out.map.lt; have h2 := Hb1.out.size; omega
    have hwf := WalkArith.wf_i64 (n := f (kl F) + 1) (by have := HF.out; omega)
    have hw1 : IntKind.i64.wrap (f (kl F) + 1) = f (kl F) + 1 := IntWalk.i64_in _ (by have := HF.out; omega)
    have hw2 : IntKind.i64.wrap (cnt + 1) = cnt + 1 := IntWalk.i64_in _ (by omega)
    obtain ⟨v0, st, W1, hE, hg1, hS1⟩ := ent36 (w := y.drew) (My.out.at_block rfl) (by simp only [maxLen]; omega) Hb.out
    have hM1 := mid36 (w := y.drew) (My.out.at_block rfl) (by simp only [maxLen]; omega) Hb.out hE
    obtain ⟨W3, hSt, hM3, hg3⟩ := hS1 W1 rfl (f (kl F) + 1) hwf
    have hl0 := look36 (w := y.drew) (My.out.at_block rfl) Hb.out
    have hl1 := look36 hM1 Hb.out
    have F1 := hide (FrP.grown (p := p) hg1 H.out.hm (Nat.le_trans HBs.out Fy.out.below.size))
    have R1 := hide (keepOne (w := y.drew) (by exact Ry.out) hg1 Hne.out)
    have K1 := hide (keepOne (w := y.drew) (by exact Ky.out) hg1 Hnq.out)
    have F3 := hide (FrP.grown (p := p) hg3 H.out.hm (Nat.le_trans HBs.out (Nat.le_trans Fy.out.below.size F1.out.below.size)))
    have R3 := hide (keepOne R1.out hg3 Hne.out)
    have K3 := hide (keepOne K1.out hg3 Hnq.out)
    have M3 := hide hM3
    unfold ky at hE hl0 hl1
    change _ = Result.ok (Value.tuple #[v0, Value.int .i64 (st : Int)]) _ at hE
    change (Instr.entryStore _ _ (Value.int .i64 (st : Int)) _).run _ _ = _ at hSt
    clear hg1 hS1 hg3 hM1 hM3
    obtain ⟨x0, x1, x2⟩ := row3P R1.out
    obtain ⟨g0, g1, g2, g3, g4, g5, g6, g7⟩ := row8 K1.out
    obtain ⟨y0, y1, y2⟩ := row3P R3.out
    obtain ⟨h0, h1, h2, h3, h4, h5, h6, h7⟩ := row8 K3.out
    have fr3 := frozenRow R3.out 2
    go_region_held3 (fun W => W.cell? ⟨p, 1, none⟩ = some (.map (some bm)) ∧ W.cell? ⟨w1.heap.size, 0, none⟩ = some (.int .u8 (F 0)) ∧ W.cell? ⟨w1.heap.size, 1, none⟩ = some (.int .u8 (F 1)) ∧ W.cell? ⟨w1.heap.size, 2, none⟩ = some (.int .u8 (F 2)) ∧ W.cell? ⟨w1.heap.size, 3, none⟩ = some (.int .u8 (F 3)) ∧ W.cell? ⟨w1.heap.size, 4, none⟩ = some (.int .u8 (F 4)) ∧ W.cell? ⟨w1.heap.size, 5, none⟩ = some (.int .u8 (F 5)) ∧ W.cell? ⟨w1.heap.size, 6, none⟩ = some (.int .u8 (F 6)) ∧ W.cell? ⟨w1.heap.size, 7, none⟩ = some (.int .u8 (F 7))) ((first | exact ⟨c1, e0, e1, e2, e3, e4, e5, e6, e7⟩ | exact ⟨x1, g0, g1, g2, g3, g4, g5, g6, g7⟩ | exact ⟨y1, h0, h1, h2, h3, h4, h5, h6, h7⟩ | (go_keep; done))) (fail)
    all_goals
      go_wp2_with fail
      go_ret
      exact ⟨rfl, PgOk.put H.out R3.out M3.out _, ((Fy.out.drew.trans F1.out).trans F3.out).trans (FrP.set _ _ _ H.out.hp)⟩
  · exact absurd rfl h1.1
end Go.Proofs.Yteikpdolickkaaa
