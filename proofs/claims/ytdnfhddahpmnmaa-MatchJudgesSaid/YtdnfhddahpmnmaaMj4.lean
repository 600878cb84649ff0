/- Layer 49: the walk of the law on judging. -/
import Derived.Test.YtdnfhddahpmnmaaMj3
import Derived.Deep.Cut
import Derived.ChangeSame
namespace Go.Proofs.Ytdnfhddahpmnmaa
open Go.ChangeShapes Go.WideShapes Go.ChangeAt Go.RowKit

theorem row4s {w : World} {b : Nat} {T : TypeId} {v0 v1 v2 v3 : Value} (h : w.heap[b]? = some (.cells #[v0, v1, v2, v3] T (0, 0))) : w.cell? ⟨b, 0, none⟩ = some v0 ∧ w.cell? ⟨b, 1, none⟩ = some v1 ∧ w.cell? ⟨b, 2, none⟩ = some v2 ∧ w.cell? ⟨b, 3, none⟩ = some v3 := by
  refine ⟨?_, ?_, ?_, ?_⟩ <;> simp [World.cell?, h]
theorem row3s {w : World} {b : Nat} {T : TypeId} {v0 v1 v2 : Value} (h : w.heap[b]? = some (.cells #[v0, v1, v2] T (0, 0))) : w.cell? ⟨b, 0, none⟩ = some v0 ∧ w.cell? ⟨b, 1, none⟩ = some v1 ∧ w.cell? ⟨b, 2, none⟩ = some v2 := by
  refine ⟨?_, ?_, ?_⟩ <;> simp [World.cell?, h]
theorem told_cell : Try.prog.cellsOf 26 = 3 := by kernel_rfl
theorem fault_cell : Try.prog.cellsOf 24 = 2 := by kernel_rfl
theorem int_cell49 : Try.prog.cellsOf 3 = 1 := by kernel_rfl
theorem bool_cell49 : Try.prog.cellsOf 4 = 1 := by kernel_rfl
theorem some_of49 {α : Type} {xs : List α} {n i : Nat} (h : xs.length = n) (hi : i < n) : ∃ y, xs[i]? = some y := ⟨_, List.getElem?_eq_getElem (by omega)⟩
set_option maxRecDepth 100000 in
/-- A parameter of the type Told: its cells. -/
theorem told_of {H : Type} {enc : TypeId × Value → H} {w : World} {base : Nat} {spare : Nat → Bool} {held : Bool} {r : Reach} {b0 : Nat} {v : Value} {d : DataW H} {p : List MemPlace}
    (hv : Value.okWide Try.prog w r b0 26 v) (h : DataW.Trod enc Try.prog w base spare held 26 v d p) :
    ∃ (s d : Int) (b : Bool), v = .agg #[.int .i64 s, .int .i64 d, .bool b] := by
  obtain ⟨cs, rfl, hsz⟩ := okWide_struct Try.underlying26 hv
  obtain ⟨l⟩ := cs
  have hl : l.length = 3 := hsz.trans told_cell
  obtain ⟨c0, c1, c2, rfl⟩ := list3 hl
  obtain ⟨fuel, hf⟩ := h
  obtain ⟨xs, n, _, hx, _, hlen, hg⟩ := DataW.trod_struct Try.underlying26 hf
  have hlen2 : xs.length = 2 := hlen
  obtain ⟨y0, hy0⟩ := some_of49 hlen2 (show 0 < 2 by omega)
  obtain ⟨y1, hy1⟩ := some_of49 hlen2 (show 1 < 2 by omega)
  have e : (Value.agg ⟨[c0, c1, c2]⟩).cells.toList = [c0, c1, c2] := by simp [Value.cells]
  have g0 := (hg 0 _ rfl).trans hy0
  have g1 := (hg 1 _ rfl).trans hy1
  rw [e] at g0 g1
  replace g0 : DataW.trod enc Try.prog w base spare held n 24 (([c0, c1, c2].drop 0).take (Try.prog.cellsOf 24)) = some y0 := g0
  rw [fault_cell] at g0
  replace g1 : DataW.trod enc Try.prog w base spare held n 4 (([c0, c1, c2].drop 2).take (Try.prog.cellsOf 4)) = some y1 := g1
  rw [bool_cell49] at g1
  simp only [List.drop_zero, List.drop_succ_cons, List.take_succ_cons, List.take_zero] at g0 g1
  obtain ⟨zs, m, _, _, _, zlen, zg⟩ := DataW.trod_struct Try.underlying24 g0
  have zlen2 : zs.length = 2 := zlen
  obtain ⟨z0, hz0⟩ := some_of49 zlen2 (show 0 < 2 by omega)
  obtain ⟨z1, hz1⟩ := some_of49 zlen2 (show 1 < 2 by omega)
  have q0 := (zg 0 _ rfl).trans hz0
  have q1 := (zg 1 _ rfl).trans hz1
  replace q0 : DataW.trod enc Try.prog w base spare held m 3 (([c0, c1].drop 0).take (Try.prog.cellsOf 3)) = some z0 := q0
  replace q1 : DataW.trod enc Try.prog w base spare held m 3 (([c0, c1].drop 1).take (Try.prog.cellsOf 3)) = some z1 := q1
  rw [int_cell49] at q0 q1
  simp only [List.drop_zero, List.drop_succ_cons, List.take_succ_cons, List.take_zero] at q0 q1
  obtain ⟨a0, e0, _, _⟩ := DataW.trod_int Try.underlying3 q0
  obtain ⟨a1, e1, _, _⟩ := DataW.trod_int Try.underlying3 q1
  obtain ⟨a2, e2, _⟩ := DataW.trod_bool Try.underlying4 g1
  refine ⟨a0, a1, a2, ?_⟩
  simp at e0 e1 e2
  subst e0 e1 e2
  rfl
set_option maxRecDepth 100000 in
set_option maxHeartbeats 6400000 in
theorem judges_walk (A : Option Addr) (n c : Nat) (f g : Nat → Int) (s d : Int) (b : Bool) (v : Int) (w : World) (ha : Rd2 w A n c f g) : Calls Try.prog 3 #[.slice A n c, .agg #[.int .i64 s, .int .i64 d, .bool b], .int .i64 v] w (Yes w) := by
  have R0 := hide (heap_alloc_new w (.cells #[.int .i64 s, .int .i64 d, .bool b] 26))
  have B0 := hide ((Below.refl w.heap.size w).alloc (Nat.le_refl _) (.cells #[.int .i64 s, .int .i64 d, .bool b] 26))
  have Ha := hide (ha.below ((Below.refl _ _).alloc (Nat.le_refl _) (.cells #[.int .i64 s, .int .i64 d, .bool b] 26)))
  clear ha
  by_cases hbig : 40 < n
  · have hd : decide ((40 : Int) < (n : Int)) = true := decide_eq_true (by omega)
    clear hbig
    go_enter Try.func3, Try.ntmps3
    go_wp2_with fail
    refine (alive49 _).mono ?_
    rintro e w' ⟨rfl, hb⟩
    have HB := hide (B0.out.of hb)
    clear hb
    go_wp2_with fail
    go_ret
    exact ⟨rfl, HB.out⟩
  have hd : decide ((40 : Int) < (n : Int)) = false := decide_eq_false (by omega)
  clear hbig
  obtain ⟨h, hh⟩ : ∃ h, hasB n f g s d = h := ⟨_, rfl⟩
  have HH := hide hh
  clear hh
  have hv : v = 1 ∨ v = 2 ∨ v = 3 ∨ v = 4 ∨ v < 1 ∨ 4 < v := by omega
  cases b with
  | false =>
    obtain ⟨r0, r1, r2⟩ := row3s R0.out
    go_enter Try.func3, Try.ntmps3
    go_upto_region 7 with (fail)
    clear r0 r1 r2
    generalize hW : w.alloc (.cells #[.int .i64 s, .int .i64 d, .bool false] 26) = W0 at *
    clear hW
    rcases hv with rfl | rfl | rfl | rfl | hv | hv
    · skip
      have al := (Below.refl W0.heap.size W0).alloc (Nat.le_refl _) (.cells #[.string ⟨#[112, 97, 115, 115, 101, 100]⟩, .string ⟨#[102, 97, 105, 108, 101, 100]⟩, .string ⟨#[118, 111, 105, 100]⟩, .string ⟨#[98, 114, 111, 107, 101, 110]⟩] 9)
      have NS := hide (heap_alloc_new W0 (.cells #[.string ⟨#[112, 97, 115, 115, 101, 100]⟩, .string ⟨#[102, 97, 105, 108, 101, 100]⟩, .string ⟨#[118, 111, 105, 100]⟩, .string ⟨#[98, 114, 111, 107, 101, 110]⟩] 9))
      have R1 := hide (keepRow R0.out al)
      have B1 := hide (B0.out.of al)
      have H1 := hide (Ha.out.below al)
      obtain ⟨n0, n1, n2, n3⟩ := row4s NS.out
      obtain ⟨r0, r1, r2⟩ := row3s R1.out
      clear al R0 B0 Ha
      go_wp2_with fail
      refine (judge49 A n c f g s d false _ H1.out).mono ?_
      rw [show judgeV false (hasB n f g s d) = 2 from rfl]
      rintro e w3 ⟨rfl, hb⟩
      have B3 := hide (B1.out.of hb)
      clear hb
      go_wp2_with fail
      refine (vname49 1 _).mono ?_
      rw [show vdName 1 = ⟨#[112, 97, 115, 115, 101, 100]⟩ from rfl]
      rintro e w4 ⟨rfl, rfl⟩
      go_wp2_with fail
      refine (alive49 _).mono ?_
      rintro e w5 ⟨rfl, hb⟩
      have B5 := hide (B3.out.of hb)
      clear hb
      go_wp2_with fail
      go_ret
      exact ⟨rfl, B5.out⟩
    · skip
      have al := (Below.refl W0.heap.size W0).alloc (Nat.le_refl _) (.cells #[.string ⟨#[112, 97, 115, 115, 101, 100]⟩, .string ⟨#[102, 97, 105, 108, 101, 100]⟩, .string ⟨#[118, 111, 105, 100]⟩, .string ⟨#[98, 114, 111, 107, 101, 110]⟩] 9)
      have NS := hide (heap_alloc_new W0 (.cells #[.string ⟨#[112, 97, 115, 115, 101, 100]⟩, .string ⟨#[102, 97, 105, 108, 101, 100]⟩, .string ⟨#[118, 111, 105, 100]⟩, .string ⟨#[98, 114, 111, 107, 101, 110]⟩] 9))
      have R1 := hide (keepRow R0.out al)
      have B1 := hide (B0.out.of al)
      have H1 := hide (Ha.out.below al)
      obtain ⟨n0, n1, n2, n3⟩ := row4s NS.out
      obtain ⟨r0, r1, r2⟩ := row3s R1.out
      clear al R0 B0 Ha
      go_wp2_with fail
      refine (judge49 A n c f g s d false _ H1.out).mono ?_
      rw [show judgeV false (hasB n f g s d) = 2 from rfl]
      rintro e w3 ⟨rfl, hb⟩
      have B3 := hide (B1.out.of hb)
      clear hb
      go_wp2_with fail
      refine (vname49 2 _).mono ?_
      rw [show vdName 2 = ⟨#[102, 97, 105, 108, 101, 100]⟩ from rfl]
      rintro e w4 ⟨rfl, rfl⟩
      go_wp2_with fail
      refine (alive49 _).mono ?_
      rintro e w5 ⟨rfl, hb⟩
      have B5 := hide (B3.out.of hb)
      clear hb
      go_wp2_with fail
      go_ret
      exact ⟨rfl, B5.out⟩
    · skip
      have al := (Below.refl W0.heap.size W0).alloc (Nat.le_refl _) (.cells #[.string ⟨#[112, 97, 115, 115, 101, 100]⟩, .string ⟨#[102, 97, 105, 108, 101, 100]⟩, .string ⟨#[118, 111, 105, 100]⟩, .string ⟨#[98, 114, 111, 107, 101, 110]⟩] 9)
      have NS := hide (heap_alloc_new W0 (.cells #[.string ⟨#[112, 97, 115, 115, 101, 100]⟩, .string ⟨#[102, 97, 105, 108, 101, 100]⟩, .string ⟨#[118, 111, 105, 100]⟩, .string ⟨#[98, 114, 111, 107, 101, 110]⟩] 9))
      have R1 := hide (keepRow R0.out al)
      have B1 := hide (B0.out.of al)
      have H1 := hide (Ha.out.below al)
      obtain ⟨n0, n1, n2, n3⟩ := row4s NS.out
      obtain ⟨r0, r1, r2⟩ := row3s R1.out
      clear al R0 B0 Ha
      go_wp2_with fail
      refine (judge49 A n c f g s d false _ H1.out).mono ?_
      rw [show judgeV false (hasB n f g s d) = 2 from rfl]
      rintro e w3 ⟨rfl, hb⟩
      have B3 := hide (B1.out.of hb)
      clear hb
      go_wp2_with fail
      refine (vname49 3 _).mono ?_
      rw [show vdName 3 = ⟨#[118, 111, 105, 100]⟩ from rfl]
      rintro e w4 ⟨rfl, rfl⟩
      go_wp2_with fail
      refine (alive49 _).mono ?_
      rintro e w5 ⟨rfl, hb⟩
      have B5 := hide (B3.out.of hb)
      clear hb
      go_wp2_with fail
      go_ret
      exact ⟨rfl, B5.out⟩
    · skip
      have al := (Below.refl W0.heap.size W0).alloc (Nat.le_refl _) (.cells #[.string ⟨#[112, 97, 115, 115, 101, 100]⟩, .string ⟨#[102, 97, 105, 108, 101, 100]⟩, .string ⟨#[118, 111, 105, 100]⟩, .string ⟨#[98, 114, 111, 107, 101, 110]⟩] 9)
      have NS := hide (heap_alloc_new W0 (.cells #[.string ⟨#[112, 97, 115, 115, 101, 100]⟩, .string ⟨#[102, 97, 105, 108, 101, 100]⟩, .string ⟨#[118, 111, 105, 100]⟩, .string ⟨#[98, 114, 111, 107, 101, 110]⟩] 9))
      have R1 := hide (keepRow R0.out al)
      have B1 := hide (B0.out.of al)
      have H1 := hide (Ha.out.below al)
      obtain ⟨n0, n1, n2, n3⟩ := row4s NS.out
      obtain ⟨r0, r1, r2⟩ := row3s R1.out
      clear al R0 B0 Ha
      go_wp2_with fail
      refine (judge49 A n c f g s d false _ H1.out).mono ?_
      rw [show judgeV false (hasB n f g s d) = 2 from rfl]
      rintro e w3 ⟨rfl, hb⟩
      have B3 := hide (B1.out.of hb)
      clear hb
      go_wp2_with fail
      refine (vname49 4 _).mono ?_
      rw [show vdName 4 = ⟨#[98, 114, 111, 107, 101, 110]⟩ from rfl]
      rintro e w4 ⟨rfl, rfl⟩
      go_wp2_with fail
      refine (alive49 _).mono ?_
      rintro e w5 ⟨rfl, hb⟩
      have B5 := hide (B3.out.of hb)
      clear hb
      go_wp2_with fail
      go_ret
      exact ⟨rfl, B5.out⟩
    · have o1 : decide (1 ≤ v) = false := decide_eq_false (by omega)
      have VO := hide (vdName_out (v := v) (by omega))
      have R1 := R0
      have B1 := B0
      have H1 := Ha
      obtain ⟨r0, r1, r2⟩ := row3s R1.out
      clear R0 B0 Ha hv
      go_wp2_with fail
      refine (judge49 A n c f g s d false _ H1.out).mono ?_
      rw [show judgeV false (hasB n f g s d) = 2 from rfl]
      rintro e w3 ⟨rfl, hb⟩
      have B3 := hide (B1.out.of hb)
      clear hb
      go_wp2_with fail
      refine (vname49 v _).mono ?_
      rw [VO.out]
      rintro e w4 ⟨rfl, rfl⟩
      go_wp2_with fail
      refine (alive49 _).mono ?_
      rintro e w5 ⟨rfl, hb⟩
      have B5 := hide (B3.out.of hb)
      clear hb
      go_wp2_with fail
      go_ret
      exact ⟨rfl, B5.out⟩
    · have o1 : decide (1 ≤ v) = true := decide_eq_true (by omega)
      have o2 : decide (v ≤ 4) = false := decide_eq_false (by omega)
      have VO := hide (vdName_out (v := v) (by omega))
      have R1 := R0
      have B1 := B0
      have H1 := Ha
      obtain ⟨r0, r1, r2⟩ := row3s R1.out
      clear R0 B0 Ha hv
      go_wp2_with fail
      refine (judge49 A n c f g s d false _ H1.out).mono ?_
      rw [show judgeV false (hasB n f g s d) = 2 from rfl]
      rintro e w3 ⟨rfl, hb⟩
      have B3 := hide (B1.out.of hb)
      clear hb
      go_wp2_with fail
      refine (vname49 v _).mono ?_
      rw [VO.out]
      rintro e w4 ⟨rfl, rfl⟩
      go_wp2_with fail
      refine (alive49 _).mono ?_
      rintro e w5 ⟨rfl, hb⟩
      have B5 := hide (B3.out.of hb)
      clear hb
      go_wp2_with fail
      go_ret
      exact ⟨rfl, B5.out⟩
  | true =>
    obtain ⟨r0, r1, r2⟩ := row3s R0.out
    go_enter Try.func3, Try.ntmps3
    go_wp2_with fail
    refine (rhas09 A n c f g s d _ Ha.out).mono ?_
    rw [HH.out]
    rintro e W0 ⟨rfl, hb⟩
    have R0' := hide (keepRow R0.out hb)
    have B0' := hide (B0.out.of hb)
    have Ha' := hide (Ha.out.below hb)
    clear hb R0 B0 Ha r0 r1 r2
    have R0 := R0'
    have B0 := B0'
    have Ha := Ha'
    clear R0' B0' Ha'
    cases h with
    | false =>
      go_upto_region 7 with (fail)
      skip
      rcases hv with rfl | rfl | rfl | rfl | hv | hv
      · skip
        have al := (Below.refl W0.heap.size W0).alloc (Nat.le_refl _) (.cells #[.string ⟨#[112, 97, 115, 115, 101, 100]⟩, .string ⟨#[102, 97, 105, 108, 101, 100]⟩, .string ⟨#[118, 111, 105, 100]⟩, .string ⟨#[98, 114, 111, 107, 101, 110]⟩] 9)
        have NS := hide (heap_alloc_new W0 (.cells #[.string ⟨#[112, 97, 115, 115, 101, 100]⟩, .string ⟨#[102, 97, 105, 108, 101, 100]⟩, .string ⟨#[118, 111, 105, 100]⟩, .string ⟨#[98, 114, 111, 107, 101, 110]⟩] 9))
        have R1 := hide (keepRow R0.out al)
        have B1 := hide (B0.out.of al)
        have H1 := hide (Ha.out.below al)
        obtain ⟨n0, n1, n2, n3⟩ := row4s NS.out
        obtain ⟨r0, r1, r2⟩ := row3s R1.out
        clear al R0 B0 Ha
        go_wp2_with fail
        refine (judge49 A n c f g s d true _ H1.out).mono ?_
        rw [HH.out]
        rintro e w3 ⟨rfl, hb⟩
        have B3 := hide (B1.out.of hb)
        clear hb
        rw [show judgeV true false = 2 from rfl]
        go_wp2_with fail
        refine (vname49 1 _).mono ?_
        rw [show vdName 1 = ⟨#[112, 97, 115, 115, 101, 100]⟩ from rfl]
        rintro e w4 ⟨rfl, rfl⟩
        go_wp2_with fail
        refine (alive49 _).mono ?_
        rintro e w5 ⟨rfl, hb⟩
        have B5 := hide (B3.out.of hb)
        clear hb
        go_wp2_with fail
        go_ret
        exact ⟨rfl, B5.out⟩
      · skip
        have al := (Below.refl W0.heap.size W0).alloc (Nat.le_refl _) (.cells #[.string ⟨#[112, 97, 115, 115, 101, 100]⟩, .string ⟨#[102, 97, 105, 108, 101, 100]⟩, .string ⟨#[118, 111, 105, 100]⟩, .string ⟨#[98, 114, 111, 107, 101, 110]⟩] 9)
        have NS := hide (heap_alloc_new W0 (.cells #[.string ⟨#[112, 97, 115, 115, 101, 100]⟩, .string ⟨#[102, 97, 105, 108, 101, 100]⟩, .string ⟨#[118, 111, 105, 100]⟩, .string ⟨#[98, 114, 111, 107, 101, 110]⟩] 9))
        have R1 := hide (keepRow R0.out al)
        have B1 := hide (B0.out.of al)
        have H1 := hide (Ha.out.below al)
        obtain ⟨n0, n1, n2, n3⟩ := row4s NS.out
        obtain ⟨r0, r1, r2⟩ := row3s R1.out
        clear al R0 B0 Ha
        go_wp2_with fail
        refine (judge49 A n c f g s d true _ H1.out).mono ?_
        rw [HH.out]
        rintro e w3 ⟨rfl, hb⟩
        have B3 := hide (B1.out.of hb)
        clear hb
        rw [show judgeV true false = 2 from rfl]
        go_wp2_with fail
        refine (vname49 2 _).mono ?_
        rw [show vdName 2 = ⟨#[102, 97, 105, 108, 101, 100]⟩ from rfl]
        rintro e w4 ⟨rfl, rfl⟩
        go_wp2_with fail
        refine (alive49 _).mono ?_
        rintro e w5 ⟨rfl, hb⟩
        have B5 := hide (B3.out.of hb)
        clear hb
        go_wp2_with fail
        go_ret
        exact ⟨rfl, B5.out⟩
      · skip
        have al := (Below.refl W0.heap.size W0).alloc (Nat.le_refl _) (.cells #[.string ⟨#[112, 97, 115, 115, 101, 100]⟩, .string ⟨#[102, 97, 105, 108, 101, 100]⟩, .string ⟨#[118, 111, 105, 100]⟩, .string ⟨#[98, 114, 111, 107, 101, 110]⟩] 9)
        have NS := hide (heap_alloc_new W0 (.cells #[.string ⟨#[112, 97, 115, 115, 101, 100]⟩, .string ⟨#[102, 97, 105, 108, 101, 100]⟩, .string ⟨#[118, 111, 105, 100]⟩, .string ⟨#[98, 114, 111, 107, 101, 110]⟩] 9))
        have R1 := hide (keepRow R0.out al)
        have B1 := hide (B0.out.of al)
        have H1 := hide (Ha.out.below al)
        obtain ⟨n0, n1, n2, n3⟩ := row4s NS.out
        obtain ⟨r0, r1, r2⟩ := row3s R1.out
        clear al R0 B0 Ha
        go_wp2_with fail
        refine (judge49 A n c f g s d true _ H1.out).mono ?_
        rw [HH.out]
        rintro e w3 ⟨rfl, hb⟩
        have B3 := hide (B1.out.of hb)
        clear hb
        rw [show judgeV true false = 2 from rfl]
        go_wp2_with fail
        refine (vname49 3 _).mono ?_
        rw [show vdName 3 = ⟨#[118, 111, 105, 100]⟩ from rfl]
        rintro e w4 ⟨rfl, rfl⟩
        go_wp2_with fail
        refine (alive49 _).mono ?_
        rintro e w5 ⟨rfl, hb⟩
        have B5 := hide (B3.out.of hb)
        clear hb
        go_wp2_with fail
        go_ret
        exact ⟨rfl, B5.out⟩
      · skip
        have al := (Below.refl W0.heap.size W0).alloc (Nat.le_refl _) (.cells #[.string ⟨#[112, 97, 115, 115, 101, 100]⟩, .string ⟨#[102, 97, 105, 108, 101, 100]⟩, .string ⟨#[118, 111, 105, 100]⟩, .string ⟨#[98, 114, 111, 107, 101, 110]⟩] 9)
        have NS := hide (heap_alloc_new W0 (.cells #[.string ⟨#[112, 97, 115, 115, 101, 100]⟩, .string ⟨#[102, 97, 105, 108, 101, 100]⟩, .string ⟨#[118, 111, 105, 100]⟩, .string ⟨#[98, 114, 111, 107, 101, 110]⟩] 9))
        have R1 := hide (keepRow R0.out al)
        have B1 := hide (B0.out.of al)
        have H1 := hide (Ha.out.below al)
        obtain ⟨n0, n1, n2, n3⟩ := row4s NS.out
        obtain ⟨r0, r1, r2⟩ := row3s R1.out
        clear al R0 B0 Ha
        go_wp2_with fail
        refine (judge49 A n c f g s d true _ H1.out).mono ?_
        rw [HH.out]
        rintro e w3 ⟨rfl, hb⟩
        have B3 := hide (B1.out.of hb)
        clear hb
        rw [show judgeV true false = 2 from rfl]
        go_wp2_with fail
        refine (vname49 4 _).mono ?_
        rw [show vdName 4 = ⟨#[98, 114, 111, 107, 101, 110]⟩ from rfl]
        rintro e w4 ⟨rfl, rfl⟩
        go_wp2_with fail
        refine (alive49 _).mono ?_
        rintro e w5 ⟨rfl, hb⟩
        have B5 := hide (B3.out.of hb)
        clear hb
        go_wp2_with fail
        go_ret
        exact ⟨rfl, B5.out⟩
      · have o1 : decide (1 ≤ v) = false := decide_eq_false (by omega)
        have VO := hide (vdName_out (v := v) (by omega))
        have R1 := R0
        have B1 := B0
        have H1 := Ha
        obtain ⟨r0, r1, r2⟩ := row3s R1.out
        clear R0 B0 Ha hv
        go_wp2_with fail
        refine (judge49 A n c f g s d true _ H1.out).mono ?_
        rw [HH.out]
        rintro e w3 ⟨rfl, hb⟩
        have B3 := hide (B1.out.of hb)
        clear hb
        rw [show judgeV true false = 2 from rfl]
        go_wp2_with fail
        refine (vname49 v _).mono ?_
        rw [VO.out]
        rintro e w4 ⟨rfl, rfl⟩
        go_wp2_with fail
        refine (alive49 _).mono ?_
        rintro e w5 ⟨rfl, hb⟩
        have B5 := hide (B3.out.of hb)
        clear hb
        go_wp2_with fail
        go_ret
        exact ⟨rfl, B5.out⟩
      · have o1 : decide (1 ≤ v) = true := decide_eq_true (by omega)
        have o2 : decide (v ≤ 4) = false := decide_eq_false (by omega)
        have VO := hide (vdName_out (v := v) (by omega))
        have R1 := R0
        have B1 := B0
        have H1 := Ha
        obtain ⟨r0, r1, r2⟩ := row3s R1.out
        clear R0 B0 Ha hv
        go_wp2_with fail
        refine (judge49 A n c f g s d true _ H1.out).mono ?_
        rw [HH.out]
        rintro e w3 ⟨rfl, hb⟩
        have B3 := hide (B1.out.of hb)
        clear hb
        rw [show judgeV true false = 2 from rfl]
        go_wp2_with fail
        refine (vname49 v _).mono ?_
        rw [VO.out]
        rintro e w4 ⟨rfl, rfl⟩
        go_wp2_with fail
        refine (alive49 _).mono ?_
        rintro e w5 ⟨rfl, hb⟩
        have B5 := hide (B3.out.of hb)
        clear hb
        go_wp2_with fail
        go_ret
        exact ⟨rfl, B5.out⟩
    | true =>
      go_upto_region 7 with (fail)
      skip
      rcases hv with rfl | rfl | rfl | rfl | hv | hv
      · skip
        have al := (Below.refl W0.heap.size W0).alloc (Nat.le_refl _) (.cells #[.string ⟨#[112, 97, 115, 115, 101, 100]⟩, .string ⟨#[102, 97, 105, 108, 101, 100]⟩, .string ⟨#[118, 111, 105, 100]⟩, .string ⟨#[98, 114, 111, 107, 101, 110]⟩] 9)
        have NS := hide (heap_alloc_new W0 (.cells #[.string ⟨#[112, 97, 115, 115, 101, 100]⟩, .string ⟨#[102, 97, 105, 108, 101, 100]⟩, .string ⟨#[118, 111, 105, 100]⟩, .string ⟨#[98, 114, 111, 107, 101, 110]⟩] 9))
        have R1 := hide (keepRow R0.out al)
        have B1 := hide (B0.out.of al)
        have H1 := hide (Ha.out.below al)
        obtain ⟨n0, n1, n2, n3⟩ := row4s NS.out
        obtain ⟨r0, r1, r2⟩ := row3s R1.out
        clear al R0 B0 Ha
        go_wp2_with fail
        refine (judge49 A n c f g s d true _ H1.out).mono ?_
        rw [HH.out]
        rintro e w3 ⟨rfl, hb⟩
        have B3 := hide (B1.out.of hb)
        clear hb
        rw [show judgeV true true = 1 from rfl]
        go_wp2_with fail
        refine (vname49 1 _).mono ?_
        rw [show vdName 1 = ⟨#[112, 97, 115, 115, 101, 100]⟩ from rfl]
        rintro e w4 ⟨rfl, rfl⟩
        go_wp2_with fail
        refine (alive49 _).mono ?_
        rintro e w5 ⟨rfl, hb⟩
        have B5 := hide (B3.out.of hb)
        clear hb
        go_wp2_with fail
        go_ret
        exact ⟨rfl, B5.out⟩
      · skip
        have al := (Below.refl W0.heap.size W0).alloc (Nat.le_refl _) (.cells #[.string ⟨#[112, 97, 115, 115, 101, 100]⟩, .string ⟨#[102, 97, 105, 108, 101, 100]⟩, .string ⟨#[118, 111, 105, 100]⟩, .string ⟨#[98, 114, 111, 107, 101, 110]⟩] 9)
        have NS := hide (heap_alloc_new W0 (.cells #[.string ⟨#[112, 97, 115, 115, 101, 100]⟩, .string ⟨#[102, 97, 105, 108, 101, 100]⟩, .string ⟨#[118, 111, 105, 100]⟩, .string ⟨#[98, 114, 111, 107, 101, 110]⟩] 9))
        have R1 := hide (keepRow R0.out al)
        have B1 := hide (B0.out.of al)
        have H1 := hide (Ha.out.below al)
        obtain ⟨n0, n1, n2, n3⟩ := row4s NS.out
        obtain ⟨r0, r1, r2⟩ := row3s R1.out
        clear al R0 B0 Ha
        go_wp2_with fail
        refine (judge49 A n c f g s d true _ H1.out).mono ?_
        rw [HH.out]
        rintro e w3 ⟨rfl, hb⟩
        have B3 := hide (B1.out.of hb)
        clear hb
        rw [show judgeV true true = 1 from rfl]
        go_wp2_with fail
        refine (vname49 2 _).mono ?_
        rw [show vdName 2 = ⟨#[102, 97, 105, 108, 101, 100]⟩ from rfl]
        rintro e w4 ⟨rfl, rfl⟩
        go_wp2_with fail
        refine (alive49 _).mono ?_
        rintro e w5 ⟨rfl, hb⟩
        have B5 := hide (B3.out.of hb)
        clear hb
        go_wp2_with fail
        go_ret
        exact ⟨rfl, B5.out⟩
      · skip
        have al := (Below.refl W0.heap.size W0).alloc (Nat.le_refl _) (.cells #[.string ⟨#[112, 97, 115, 115, 101, 100]⟩, .string ⟨#[102, 97, 105, 108, 101, 100]⟩, .string ⟨#[118, 111, 105, 100]⟩, .string ⟨#[98, 114, 111, 107, 101, 110]⟩] 9)
        have NS := hide (heap_alloc_new W0 (.cells #[.string ⟨#[112, 97, 115, 115, 101, 100]⟩, .string ⟨#[102, 97, 105, 108, 101, 100]⟩, .string ⟨#[118, 111, 105, 100]⟩, .string ⟨#[98, 114, 111, 107, 101, 110]⟩] 9))
        have R1 := hide (keepRow R0.out al)
        have B1 := hide (B0.out.of al)
        have H1 := hide (Ha.out.below al)
        obtain ⟨n0, n1, n2, n3⟩ := row4s NS.out
        obtain ⟨r0, r1, r2⟩ := row3s R1.out
        clear al R0 B0 Ha
        go_wp2_with fail
        refine (judge49 A n c f g s d true _ H1.out).mono ?_
        rw [HH.out]
        rintro e w3 ⟨rfl, hb⟩
        have B3 := hide (B1.out.of hb)
        clear hb
        rw [show judgeV true true = 1 from rfl]
        go_wp2_with fail
        refine (vname49 3 _).mono ?_
        rw [show vdName 3 = ⟨#[118, 111, 105, 100]⟩ from rfl]
        rintro e w4 ⟨rfl, rfl⟩
        go_wp2_with fail
        refine (alive49 _).mono ?_
        rintro e w5 ⟨rfl, hb⟩
        have B5 := hide (B3.out.of hb)
        clear hb
        go_wp2_with fail
        go_ret
        exact ⟨rfl, B5.out⟩
      · skip
        have al := (Below.refl W0.heap.size W0).alloc (Nat.le_refl _) (.cells #[.string ⟨#[112, 97, 115, 115, 101, 100]⟩, .string ⟨#[102, 97, 105, 108, 101, 100]⟩, .string ⟨#[118, 111, 105, 100]⟩, .string ⟨#[98, 114, 111, 107, 101, 110]⟩] 9)
        have NS := hide (heap_alloc_new W0 (.cells #[.string ⟨#[112, 97, 115, 115, 101, 100]⟩, .string ⟨#[102, 97, 105, 108, 101, 100]⟩, .string ⟨#[118, 111, 105, 100]⟩, .string ⟨#[98, 114, 111, 107, 101, 110]⟩] 9))
        have R1 := hide (keepRow R0.out al)
        have B1 := hide (B0.out.of al)
        have H1 := hide (Ha.out.below al)
        obtain ⟨n0, n1, n2, n3⟩ := row4s NS.out
        obtain ⟨r0, r1, r2⟩ := row3s R1.out
        clear al R0 B0 Ha
        go_wp2_with fail
        refine (judge49 A n c f g s d true _ H1.out).mono ?_
        rw [HH.out]
        rintro e w3 ⟨rfl, hb⟩
        have B3 := hide (B1.out.of hb)
        clear hb
        rw [show judgeV true true = 1 from rfl]
        go_wp2_with fail
        refine (vname49 4 _).mono ?_
        rw [show vdName 4 = ⟨#[98, 114, 111, 107, 101, 110]⟩ from rfl]
        rintro e w4 ⟨rfl, rfl⟩
        go_wp2_with fail
        refine (alive49 _).mono ?_
        rintro e w5 ⟨rfl, hb⟩
        have B5 := hide (B3.out.of hb)
        clear hb
        go_wp2_with fail
        go_ret
        exact ⟨rfl, B5.out⟩
      · have o1 : decide (1 ≤ v) = false := decide_eq_false (by omega)
        have VO := hide (vdName_out (v := v) (by omega))
        have R1 := R0
        have B1 := B0
        have H1 := Ha
        obtain ⟨r0, r1, r2⟩ := row3s R1.out
        clear R0 B0 Ha hv
        go_wp2_with fail
        refine (judge49 A n c f g s d true _ H1.out).mono ?_
        rw [HH.out]
        rintro e w3 ⟨rfl, hb⟩
        have B3 := hide (B1.out.of hb)
        clear hb
        rw [show judgeV true true = 1 from rfl]
        go_wp2_with fail
        refine (vname49 v _).mono ?_
        rw [VO.out]
        rintro e w4 ⟨rfl, rfl⟩
        go_wp2_with fail
        refine (alive49 _).mono ?_
        rintro e w5 ⟨rfl, hb⟩
        have B5 := hide (B3.out.of hb)
        clear hb
        go_wp2_with fail
        go_ret
        exact ⟨rfl, B5.out⟩
      · have o1 : decide (1 ≤ v) = true := decide_eq_true (by omega)
        have o2 : decide (v ≤ 4) = false := decide_eq_false (by omega)
        have VO := hide (vdName_out (v := v) (by omega))
        have R1 := R0
        have B1 := B0
        have H1 := Ha
        obtain ⟨r0, r1, r2⟩ := row3s R1.out
        clear R0 B0 Ha hv
        go_wp2_with fail
        refine (judge49 A n c f g s d true _ H1.out).mono ?_
        rw [HH.out]
        rintro e w3 ⟨rfl, hb⟩
        have B3 := hide (B1.out.of hb)
        clear hb
        rw [show judgeV true true = 1 from rfl]
        go_wp2_with fail
        refine (vname49 v _).mono ?_
        rw [VO.out]
        rintro e w4 ⟨rfl, rfl⟩
        go_wp2_with fail
        refine (alive49 _).mono ?_
        rintro e w5 ⟨rfl, hb⟩
        have B5 := hide (B3.out.of hb)
        clear hb
        go_wp2_with fail
        go_ret
        exact ⟨rfl, B5.out⟩
end Go.Proofs.Ytdnfhddahpmnmaa
