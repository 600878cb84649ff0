/- Layer 35: New, Len, Can, fill. -/
import Derived.Test.YtnjmkbaddeeniaaGr1
import Derived.RegionTactic
import Derived.ChangeAlike
import Derived.StillTailTactics
namespace Go.Proofs.Ytnjmkbaddeeniaa
open Go.RowKit Go.Maps

theorem row4G {w : World} {s : GS} {g : GM} (h : w.heap[g.p]? = some (rowG s g)) : w.cell? ⟨g.p, 0, none⟩ = some (.int .i64 s.most) ∧ w.cell? ⟨g.p, 1, none⟩ = some g.v ∧ w.cell? ⟨g.p, 2, none⟩ = some g.mv ∧ w.cell? ⟨g.p, 3, none⟩ = some (.int .i64 s.free) := by
  unfold rowG at h
  exact ⟨by rw [cell_of_row w g.p 0 _ _ _ h]; rfl, by rw [cell_of_row w g.p 1 _ _ _ h]; rfl, by rw [cell_of_row w g.p 2 _ _ _ h]; rfl, by rw [cell_of_row w g.p 3 _ _ _ h]; rfl⟩
def newS (m : Int) : GS := ⟨m, 0, fun _ => 0, fun _ => none, 0, 0⟩
def newM (p : Nat) : GM := ⟨p, .slice none 0 0, .map none⟩
theorem GrOk.new {B : Nat} {w : World} {p : Nat} {m : Int} (h : w.heap[p]? = some (.cells #[.int .i64 m, .slice none 0 0, .map none, .int .i64 0] 35 (0, 0))) (hp : B ≤ p) (h0 : 0 ≤ m) (h1 : m ≤ 100000) : GrOk B w (newM p) (newS m) :=
  ⟨h, hp, Own.nil _ _ _ _ _, .inl ⟨rfl, rfl, fun _ => rfl⟩, by simp [newS], by simp [newS], h0, h1, by simp [newS], fun i hi => absurd hi (by simp [newS]), fun k x hx => by simp [newS] at hx⟩
theorem new35 (m : Int) (h0 : 0 ≤ m) (h1 : m ≤ 100000) (w : World) : Calls Try.prog 23 #[.int .i64 m] w fun e w' => e = .returned (.pointer (some ⟨w.heap.size, 0, none⟩)) ∧ w' = w.alloc (.cells #[.int .i64 m, .slice none 0 0, .map none, .int .i64 0] 35) := by
  have d0 : decide (m < 0) = false := decide_eq_false (by omega)
  go_enter Try.func23, Try.ntmps23
  go_wp2
  go_ret
  exact ⟨rfl, rfl⟩
theorem lenNil35 (w : World) : Calls Try.prog 27 #[.pointer none] w fun e w' => e = .returned (.int .i64 0) ∧ w = w' := by
  go_enter Try.func27, Try.ntmps27
  go_wp2
  go_ret
  exact ⟨rfl, rfl⟩
theorem len35 {B : Nat} {w : World} {g : GM} {s : GS} (h : GrOk B w g s) : Calls Try.prog 27 #[.pointer (some ⟨g.p, 0, none⟩)] w fun e w' => e = .returned (.int .i64 s.n) ∧ w = w' := by
  obtain ⟨c0, c1, c2, c3⟩ := row4G h.row
  obtain ⟨A, c, hv, _, _⟩ := h.own.rd
  rw [hv] at c1
  go_enter Try.func27, Try.ntmps27
  go_wp2
  go_ret
  exact ⟨rfl, rfl⟩
def canG (s : GS) (id : Int) : Bool := match s.nx id with
  | none => false
  | some x => decide ((s.free : Int) ≤ x)
theorem canNil35 (id : Int) (w : World) : Calls Try.prog 25 #[.pointer none, .int .i64 id] w fun e w' => e = .returned (.bool false) ∧ w = w' := by
  go_enter Try.func25, Try.ntmps25
  go_wp2
  go_ret
  exact ⟨rfl, rfl⟩
set_option maxHeartbeats 1600000 in
theorem can35 {B : Nat} {w : World} {g : GM} {s : GS} (h : GrOk B w g s) (id : Int) (hid : (Lit.int .i64 id).wf = true) : Calls Try.prog 25 #[.pointer (some ⟨g.p, 0, none⟩), .int .i64 id] w fun e w' => e = .returned (.bool (canG s id)) ∧ w = w' := by
  obtain ⟨c0, c1, c2, c3⟩ := row4G h.row
  have Hid' := hide hid
  clear hid
  rcases h.map with ⟨h1, h2, h3⟩ | ⟨bm, h1, h2, h3⟩
  · rw [h1] at c2
    have hln := fun W : World => Maps.look_nil (P := Try.prog) (w := W) (t := 33) true mapI_keyed Try.underlying33 (mapI_zero W) (keyOf_int_mk Try.underlying3 Hid'.out)
    simp only [if_true] at hln
    have HC : Hid (canG s id = false) := by show _ = _; unfold canG; rw [h3 id]
    clear h h1 h2 h3
    generalize s.most = x0 at *
    generalize s.free = x3 at *
    generalize canG s id = r at *
    go_enter Try.func25, Try.ntmps25
    go_wp2_with fail
    go_ret
    exact ⟨by rw [HC.out]; rfl, rfl⟩
  · rw [h1] at c2
    have H3 := hide h3
    have hnx := h.nx0 id
    cases hx : s.nx id with
    | none =>
      have HC : Hid (canG s id = false) := by show _ = _; unfold canG; rw [hx]
      have HX := hide hx
      clear h h1 h2 h3 hx hnx
      generalize s.free = x3 at *
      generalize canG s id = r at *
      go_enter Try.func25, Try.ntmps25
      go_wp2_with (at_lookup; refine wp_lookI rfl _ _ rfl bm s.c s.nx rfl H3.out id rfl Hid'.out ?_; rw [HX.out]; simp only [Option.getD, Option.isSome])
      go_ret
      exact ⟨by rw [HC.out]; rfl, rfl⟩
    | some x =>
      have HC : Hid (canG s id = decide ((s.free : Int) ≤ x)) := by show _ = _; unfold canG; rw [hx]
      have HX := hide hx
      clear h h1 h2 h3 hx hnx
      obtain ⟨x3, hx3⟩ : ∃ x3, x3 = s.free := ⟨_, rfl⟩
      rw [← hx3] at c3 HC
      clear hx3
      generalize canG s id = r at *
      by_cases hle : (x3 : Int) ≤ x
      · have dd : decide ((x3 : Int) ≤ x) = true := decide_eq_true hle
        clear hle
        go_enter Try.func25, Try.ntmps25
        go_wp2_with (at_lookup; refine wp_lookI rfl _ _ rfl bm s.c s.nx rfl H3.out id rfl Hid'.out ?_; rw [HX.out]; simp only [Option.getD, Option.isSome])
        go_ret
        exact ⟨by rw [HC.out, dd]; rfl, rfl⟩
      · have dd : decide ((x3 : Int) ≤ x) = false := decide_eq_false hle
        clear hle
        go_enter Try.func25, Try.ntmps25
        go_wp2_with (at_lookup; refine wp_lookI rfl _ _ rfl bm s.c s.nx rfl H3.out id rfl Hid'.out ?_; rw [HX.out]; simp only [Option.getD, Option.isSome])
        go_ret
        exact ⟨by rw [HC.out, dd]; rfl, rfl⟩
end Go.Proofs.Ytnjmkbaddeeniaa
