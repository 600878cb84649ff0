/- A state among a law's parameters (layer 33): its cells. -/
import Derived.Test.YtopgcimjdlhclaaVal
import Derived.ChangeSame
namespace Go.Proofs.Ytopgcimjdlhclaa
open Go.ChangeShapes Go.WideShapes Go.ChangeAt Go.RowKit

section
variable {H : Type} {enc : TypeId × Value → H} {P : Program} {w : World} {base : Nat} {spare : Nat → Bool} {held : Bool}
theorem trod_array2 {t e : TypeId} {fuel : Nat} {c0 c1 : Value} {x : DataW H × List MemPlace} (ht : P.underlying t = some (.array 2 e)) (hce : P.cellsOf e = 1)
    (h : DataW.trod enc P w base spare held fuel t [c0, c1] = some x) :
    ∃ y0 y1 n, DataW.trod enc P w base spare held n e [c0] = some y0 ∧ DataW.trod enc P w base spare held n e [c1] = some y1 := by
  cases fuel with
  | zero => simp [DataW.trod] at h
  | succ n =>
    unfold DataW.trod at h
    rw [ht] at h
    have r2 : List.range 2 = [0, 1] := rfl
    simp [r2, hce] at h
    obtain ⟨_, h⟩ := h
    cases h0 : DataW.trod enc P w base spare held n e [c0] with
    | none => simp [h0] at h
    | some y0 =>
      cases h1 : DataW.trod enc P w base spare held n e [c1] with
      | none => simp [h0, h1] at h
      | some y1 => exact ⟨y0, y1, n, h0, h1⟩
end
theorem int_cell : Try.prog.cellsOf 3 = 1 := by kernel_rfl
theorem bool_cell : Try.prog.cellsOf 4 = 1 := by kernel_rfl
theorem arr_cell : Try.prog.cellsOf 22 = 2 := by kernel_rfl
theorem state_cell : Try.prog.cellsOf 24 = 5 := by kernel_rfl
theorem some_of {α : Type} {xs : List α} {n i : Nat} (h : xs.length = n) (hi : i < n) : ∃ y, xs[i]? = some y := ⟨_, List.getElem?_eq_getElem (by omega)⟩
set_option maxRecDepth 100000 in
theorem state_of {H : Type} {enc : TypeId × Value → H} {w : World} {base : Nat} {spare : Nat → Bool} {held : Bool} {r : Reach} {b0 : Nat} {v : Value} {d : DataW H} {p : List MemPlace}
    (hv : Value.okWide Try.prog w r b0 24 v) (h : DataW.Trod enc Try.prog w base spare held 24 v d p) :
    ∃ (k o : Int) (x y : Bool) (b : Int), v = .agg #[.int .i64 k, .int .i64 o, .bool x, .bool y, .int .i64 b] := by
  obtain ⟨cs, rfl, hsz⟩ := okWide_struct Try.underlying24 hv
  obtain ⟨l⟩ := cs
  have hl : l.length = 5 := hsz.trans state_cell
  obtain ⟨c0, c1, c2, c3, c4, rfl⟩ := list5 hl
  obtain ⟨fuel, hf⟩ := h
  obtain ⟨xs, n, _, hx, _, hlen, hg⟩ := DataW.trod_struct Try.underlying24 hf
  have hlen4 : xs.length = 4 := hlen
  obtain ⟨y0, hy0⟩ := some_of hlen4 (show 0 < 4 by omega)
  obtain ⟨y1, hy1⟩ := some_of hlen4 (show 1 < 4 by omega)
  obtain ⟨y2, hy2⟩ := some_of hlen4 (show 2 < 4 by omega)
  obtain ⟨y3, hy3⟩ := some_of hlen4 (show 3 < 4 by omega)
  have e : (Value.agg ⟨[c0, c1, c2, c3, c4]⟩).cells.toList = [c0, c1, c2, c3, c4] := by simp [Value.cells]
  have g0 := (hg 0 _ rfl).trans hy0
  have g1 := (hg 1 _ rfl).trans hy1
  have g2 := (hg 2 _ rfl).trans hy2
  have g3 := (hg 3 _ rfl).trans hy3
  rw [e] at g0 g1 g2 g3
  replace g0 : DataW.trod enc Try.prog w base spare held n 3 (([c0, c1, c2, c3, c4].drop 0).take (Try.prog.cellsOf 3)) = some y0 := g0
  rw [int_cell] at g0
  replace g1 : DataW.trod enc Try.prog w base spare held n 3 (([c0, c1, c2, c3, c4].drop 1).take (Try.prog.cellsOf 3)) = some y1 := g1
  rw [int_cell] at g1
  replace g2 : DataW.trod enc Try.prog w base spare held n 22 (([c0, c1, c2, c3, c4].drop 2).take (Try.prog.cellsOf 22)) = some y2 := g2
  rw [arr_cell] at g2
  replace g3 : DataW.trod enc Try.prog w base spare held n 3 (([c0, c1, c2, c3, c4].drop 4).take (Try.prog.cellsOf 3)) = some y3 := g3
  rw [int_cell] at g3
  simp only [List.drop_zero, List.drop_succ_cons, List.take_succ_cons, List.take_zero] at g0 g1 g2 g3
  obtain ⟨a0, e0, _, _⟩ := DataW.trod_int Try.underlying3 g0
  obtain ⟨a1, e1, _, _⟩ := DataW.trod_int Try.underlying3 g1
  obtain ⟨a3, e3, _, _⟩ := DataW.trod_int Try.underlying3 g3
  obtain ⟨z0, z1, m, t0, t1⟩ := trod_array2 Try.underlying22 bool_cell g2
  obtain ⟨b2, e2, _⟩ := DataW.trod_bool Try.underlying4 t0
  obtain ⟨b3, e2', _⟩ := DataW.trod_bool Try.underlying4 t1
  refine ⟨a0, a1, b2, b3, a3, ?_⟩
  simp at e0 e1 e2 e2' e3
  subst e0 e1 e2 e2' e3
  rfl
end Go.Proofs.Ytopgcimjdlhclaa
