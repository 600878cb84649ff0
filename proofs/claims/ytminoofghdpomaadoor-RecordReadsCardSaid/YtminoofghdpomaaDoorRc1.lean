/- Layer 41: what is noted of a frame; the names of sides and kinds. -/
import Derived.Test.YtminoofghdpomaaDoorMA
import Derived.Test.YtminoofghdpomaaDoorVal
import Derived.Deep.Cut
namespace Go.Proofs.YtminoofghdpomaaDoor
set_option linter.unusedVariables false
set_option linter.unusedSimpArgs false
open Go.RowKit

theorem row4R {w : World} {p : Nat} {T : TypeId} {a b c d : Value} (h : w.heap[p]? = some (.cells #[a, b, c, d] T (0, 0))) : w.cell? ⟨p, 0, none⟩ = some a ∧ w.cell? ⟨p, 1, none⟩ = some b ∧ w.cell? ⟨p, 2, none⟩ = some c ∧ w.cell? ⟨p, 3, none⟩ = some d := by
  refine ⟨?_, ?_, ?_, ?_⟩ <;> simp [World.cell?, h]
theorem row6R {w : World} {p : Nat} {T : TypeId} {a b c d e f : Value} (h : w.heap[p]? = some (.cells #[a, b, c, d, e, f] T (0, 0))) : w.cell? ⟨p, 0, none⟩ = some a ∧ w.cell? ⟨p, 1, none⟩ = some b ∧ w.cell? ⟨p, 2, none⟩ = some c ∧ w.cell? ⟨p, 3, none⟩ = some d ∧ w.cell? ⟨p, 4, none⟩ = some e ∧ w.cell? ⟨p, 5, none⟩ = some f := by
  refine ⟨?_, ?_, ?_, ?_, ?_, ?_⟩ <;> simp [World.cell?, h]
theorem results_cellR {fn : Func} {p : Tmp} {ty : TypeId} (h : fn.results = #[.cell p ty]) (tmps : Array Value) (P : Program) (w : World) :
    (results fn tmps).run P w = ((asAddr (tmps.getD p undef)).run P w).andThen fun a w' => (loadVar ty a).run P w' := by
  simp [results, h]
def sideS (n : Int) : ByteArray := if n = 0 then ⟨#[99, 108, 105, 101, 110, 116]⟩ else if n = 1 then ⟨#[115, 101, 114, 118, 101, 114]⟩ else ⟨#[]⟩
def kindS (n : Int) : ByteArray := if n = 1 then ⟨#[97, 108, 108, 111, 119, 101, 100]⟩ else if n = 2 then ⟨#[105, 103, 110, 111, 114, 101, 100]⟩ else if n = 3 then ⟨#[114, 101, 106, 101, 99, 116, 101, 100]⟩ else if n = 4 then ⟨#[108, 105, 109, 105, 116, 101, 100]⟩ else ⟨#[]⟩
theorem side41 (n : Int) (w : World) : Calls Tryd.prog 15 #[.int .i64 n] w fun e w' => e = .returned (.string (sideS n)) ∧ w = w' := by
  by_cases h0 : n = 0
  · subst h0
    go_enter Tryd.func15, Tryd.ntmps15
    go_wp2
    go_ret
    exact ⟨rfl, rfl⟩
  by_cases h1 : n = 1
  · subst h1
    go_enter Tryd.func15, Tryd.ntmps15
    go_wp2
    go_ret
    exact ⟨rfl, rfl⟩
  have e : sideS n = ⟨#[]⟩ := by unfold sideS; rw [if_neg h0, if_neg h1]
  have t0 : (n == 0) = false := by simpa using h0
  have t1 : (n == 1) = false := by simpa using h1
  rw [e]
  clear h0 h1 e
  go_enter Tryd.func15, Tryd.ntmps15
  go_wp2
  go_ret
  exact ⟨rfl, rfl⟩
theorem kind41 (n : Int) (w : World) : Calls Tryd.prog 16 #[.int .i64 n] w fun e w' => e = .returned (.string (kindS n)) ∧ w = w' := by
  rcases (show n = 1 ∨ n = 2 ∨ n = 3 ∨ n = 4 ∨ (n ≠ 1 ∧ n ≠ 2 ∧ n ≠ 3 ∧ n ≠ 4) by omega) with rfl | rfl | rfl | rfl | ⟨h1, h2, h3, h4⟩
  iterate 4
    · go_enter Tryd.func16, Tryd.ntmps16
      go_wp2
      go_ret
      exact ⟨rfl, rfl⟩
  have e : kindS n = ⟨#[]⟩ := by unfold kindS; rw [if_neg h1, if_neg h2, if_neg h3, if_neg h4]
  have t1 : (n == 1) = false := by simpa using h1
  have t2 : (n == 2) = false := by simpa using h2
  have t3 : (n == 3) = false := by simpa using h3
  have t4 : (n == 4) = false := by simpa using h4
  rw [e]
  clear h1 h2 h3 h4 e
  go_enter Tryd.func16, Tryd.ntmps16
  go_wp2
  go_ret
  exact ⟨rfl, rfl⟩
set_option maxRecDepth 20000 in
set_option maxHeartbeats 1600000 in
theorem of41 (a t fl st : Int) (rs : Bool) (A : Option Addr) (n c : Nat) (k : Int) (v1 v2 v3 : Value) (w : World) : Calls Tryd.prog 13 #[.agg #[.int .i64 a, .int .i64 t, .int .i64 fl, .int .i64 st, .bool rs, .slice A n c], .agg #[.int .i64 k, v1, v2, v3]] w fun e w' => e = .returned (.agg #[.int .i64 a, .int .i64 t, .int .i64 fl, .int .i64 st, .int .i64 n, .int .i64 k]) ∧ Below w.heap.size w w' := by
  have r0 := heap_alloc_new w (.cells #[.int .i64 a, .int .i64 t, .int .i64 fl, .int .i64 st, .bool rs, .slice A n c] 35)
  have r1 := heap_alloc_new (w.alloc (.cells #[.int .i64 a, .int .i64 t, .int .i64 fl, .int .i64 st, .bool rs, .slice A n c] 35)) (.cells #[.int .i64 k, v1, v2, v3] 40)
  have z1 : (w.alloc (.cells #[.int .i64 a, .int .i64 t, .int .i64 fl, .int .i64 st, .bool rs, .slice A n c] 35)).heap.size = w.heap.size + 1 := by simp
  have R0 := hide (keepRow (keepRow r0 ((Below.refl _ _).alloc (Nat.le_refl _) (.cells #[.int .i64 k, v1, v2, v3] 40))) ((Below.refl _ _).alloc (Nat.le_refl _) (.cells #[.int .i64 0, .int .i64 0, .int .i64 0, .int .i64 0, .int .i64 0, .int .i64 0] 23)))
  have x1 := keepRow r1 ((Below.refl _ _).alloc (Nat.le_refl _) (.cells #[.int .i64 0, .int .i64 0, .int .i64 0, .int .i64 0, .int .i64 0, .int .i64 0] 23))
  rw [z1] at x1
  have R1 := hide x1
  clear r0 r1 z1 x1
  obtain ⟨c0, c1, c2, c3, c4, c5⟩ := row6R R0.out
  obtain ⟨d0, d1, d2, d3⟩ := row4R R1.out
  go_enter Tryd.func13, Tryd.ntmps13
  go_wp2_with fail
  refine bodyPost_ret (v := .agg #[.int .i64 a, .int .i64 t, .int .i64 fl, .int .i64 st, .int .i64 n, .int .i64 k]) ?_ rfl ⟨rfl, ?_⟩
  · rw [results_cellR rfl]
    go_simp
  · go_grown
end Go.Proofs.YtminoofghdpomaaDoor
