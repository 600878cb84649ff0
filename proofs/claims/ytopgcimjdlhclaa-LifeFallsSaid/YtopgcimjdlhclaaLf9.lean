/- Layer 33: what a stream is when a side has ended it, or reset it; the program's side. -/
import Derived.Test.YtopgcimjdlhclaaLf8
namespace Go.Proofs.Ytopgcimjdlhclaa
open Go.RowKit

structure LSt where
  k : Int
  o : Int
  x : Bool
  y : Bool
  b : Int
def LSt.v (s : LSt) : Array Value := StL s.k s.o s.x s.y s.b
def enL (s : LSt) (d : Int) : LSt :=
  if s.k = 3 ∧ sdB d = true then
    if d = 0 then (if s.y then ⟨4, s.o, false, false, 2⟩ else ⟨3, s.o, true, s.y, s.b⟩)
    else (if s.x then ⟨4, s.o, false, false, 2⟩ else ⟨3, s.o, s.x, true, s.b⟩)
  else s
def reL (s : LSt) (d : Int) : LSt := if (s.k = 2 ∨ s.k = 3) ∧ sdB d = true then ⟨4, s.o, false, false, d⟩ else s
theorem heap_alloc_newL {n : Nat} (w : World) (o : Obj) (h : n = w.heap.size) : (w.alloc o).heap[n]? = some o := by subst h; exact heap_alloc_new w o
/-- A struct of five cells is stored, cell by cell. -/
theorem store5 {w : World} {p : Nat} {T : TypeId} {a0 a1 a2 a3 a4 : Value} (h : w.heap[p]? = some (.cells #[a0, a1, a2, a3, a4] T (0, 0))) (b0 b1 b2 b3 b4 : Value) :
    (w.cell? ⟨p, 0, none⟩ = some a0 ∧ w.frozen? ⟨p, 0, none⟩ = false) ∧
    ((w.setCell ⟨p, 0, none⟩ b0).cell? ⟨p, 1, none⟩ = some a1 ∧ (w.setCell ⟨p, 0, none⟩ b0).frozen? ⟨p, 1, none⟩ = false) ∧
    (((w.setCell ⟨p, 0, none⟩ b0).setCell ⟨p, 1, none⟩ b1).cell? ⟨p, 2, none⟩ = some a2 ∧ ((w.setCell ⟨p, 0, none⟩ b0).setCell ⟨p, 1, none⟩ b1).frozen? ⟨p, 2, none⟩ = false) ∧
    ((((w.setCell ⟨p, 0, none⟩ b0).setCell ⟨p, 1, none⟩ b1).setCell ⟨p, 2, none⟩ b2).cell? ⟨p, 3, none⟩ = some a3 ∧ (((w.setCell ⟨p, 0, none⟩ b0).setCell ⟨p, 1, none⟩ b1).setCell ⟨p, 2, none⟩ b2).frozen? ⟨p, 3, none⟩ = false) ∧
    (((((w.setCell ⟨p, 0, none⟩ b0).setCell ⟨p, 1, none⟩ b1).setCell ⟨p, 2, none⟩ b2).setCell ⟨p, 3, none⟩ b3).cell? ⟨p, 4, none⟩ = some a4 ∧ ((((w.setCell ⟨p, 0, none⟩ b0).setCell ⟨p, 1, none⟩ b1).setCell ⟨p, 2, none⟩ b2).setCell ⟨p, 3, none⟩ b3).frozen? ⟨p, 4, none⟩ = false) ∧
    (((((w.setCell ⟨p, 0, none⟩ b0).setCell ⟨p, 1, none⟩ b1).setCell ⟨p, 2, none⟩ b2).setCell ⟨p, 3, none⟩ b3).setCell ⟨p, 4, none⟩ b4).heap[p]? = some (.cells #[b0, b1, b2, b3, b4] T (0, 0)) := by
  have h1 := setRow w p 0 b0 h
  have h2 := setRow _ p 1 b1 h1
  have h3 := setRow _ p 2 b2 h2
  have h4 := setRow _ p 3 b3 h3
  have h5 := setRow _ p 4 b4 h4
  simp only [List.setIfInBounds_toArray, List.set_cons_zero, List.set_cons_succ] at h1 h2 h3 h4 h5
  exact ⟨⟨(row5 h).1, frozenRow h 0⟩, ⟨(row5 h1).2.1, frozenRow h1 1⟩, ⟨(row5 h2).2.2.1, frozenRow h2 2⟩, ⟨(row5 h3).2.2.2.1, frozenRow h3 3⟩, ⟨(row5 h4).2.2.2.2, frozenRow h4 4⟩, h5⟩
theorem below5 {B : Nat} {w w' : World} {p : Nat} (h : Below B w w') (hp : B ≤ p) (b0 b1 b2 b3 b4 : Value) : Below B w (((((w'.setCell ⟨p, 0, none⟩ b0).setCell ⟨p, 1, none⟩ b1).setCell ⟨p, 2, none⟩ b2).setCell ⟨p, 3, none⟩ b3).setCell ⟨p, 4, none⟩ b4) :=
  ((((h.setCell hp _).setCell hp _).setCell hp _).setCell hp _).setCell hp _
theorem closed33_any (k o : Int) (x y : Bool) (b d : Int) (w : World) : Calls Try.prog 68 #[.agg (StL k o x y b), .int .i64 d] w fun e w' => e = .returned (.agg (StL 4 o false false d)) ∧ Below w.heap.size w w' := by
  unfold StL at *
  go_enter Try.func68, Try.ntmps68
  go_wp2
  (try simp only [Exit.inBlock, Exit.then])
  refine bodyPost_ret (v := .agg #[.int .i64 4, .int .i64 o, .bool false, .bool false, .int .i64 d]) ?_ rfl ⟨rfl, ?_⟩
  · rw [results_cellL rfl]
    go_simp
  · go_grown
set_option maxRecDepth 100000 in
set_option maxHeartbeats 1600000 in
theorem resets_any (k o : Int) (x y : Bool) (b d : Int) (w : World) : Calls Try.prog 23 #[.agg (StL k o x y b), .int .i64 d] w fun e w' => e = .returned (.agg (reL ⟨k, o, x, y, b⟩ d).v) ∧ Below w.heap.size w w' := by
  have h1 := fun W => lside_any d W
  have h2 := fun W => closed33_any k o x y b d W
  unfold reL LSt.v StL at *
  generalize sdB d = sd at *
  have E0 : Hid (Below w.heap.size w (w.alloc (.cells #[.int .i64 k, .int .i64 o, .bool x, .bool y, .int .i64 b] 27))) := (Below.refl w.heap.size w).alloc (Nat.le_refl _) _
  have E1 : Hid (Below w.heap.size w ((w.alloc (.cells #[.int .i64 k, .int .i64 o, .bool x, .bool y, .int .i64 b] 27)).alloc (.cells #[.int .i64 0, .int .i64 0, .bool false, .bool false, .int .i64 0] 27))) := E0.out.alloc (by simp) _
  have R0 := hide (heap_alloc_newL (n := w.heap.size + 1) (w.alloc (.cells #[.int .i64 k, .int .i64 o, .bool x, .bool y, .int .i64 b] 27)) (.cells #[.int .i64 0, .int .i64 0, .bool false, .bool false, .int .i64 0] 27) (by simp))
  by_cases hk : k = 2 ∨ k = 3
  · cases sd with
    | true =>
      rw [if_pos ⟨hk, rfl⟩]
      simp only
      rcases hk with rfl | rfl
      all_goals
        go_enter Try.func23, Try.ntmps23
        go_wp2_with fail
        refine (h1 _).mono ?_
        rintro e w1 ⟨rfl, rfl⟩
        go_wp2_with fail
        refine (h2 _).mono ?_
        rintro e w2 ⟨rfl, hb2⟩
        obtain ⟨⟨c0, f0⟩, ⟨c1, f1⟩, ⟨c2, f2⟩, ⟨c3, f3⟩, ⟨c4, f4⟩, r5⟩ := store5 (keepRow R0.out hb2) (.int .i64 4) (.int .i64 o) (.bool false) (.bool false) (.int .i64 d)
        have HB := hide (below5 (E1.out.of hb2) (p := w.heap.size + 1) (by omega) (.int .i64 4) (.int .i64 o) (.bool false) (.bool false) (.int .i64 d))
        have R5 := hide r5
        clear r5 hb2
        go_wp2_with fail
        obtain ⟨d0, d1, d2, d3, d4⟩ := row5 R5.out
        refine bodyPost_ret (v := .agg #[.int .i64 4, .int .i64 o, .bool false, .bool false, .int .i64 d]) ?_ rfl ⟨rfl, HB.out⟩
        rw [results_cellL rfl]
        go_simp
    | false =>
      rw [if_neg (by simp)]
      simp only
      rcases hk with rfl | rfl
      · go_enter Try.func23, Try.ntmps23
        go_wp2_with (go_at_call 61; refine (h1 _).mono ?_; rintro e w1 ⟨rfl, rfl⟩)
        refine bodyPost_ret (v := .agg #[.int .i64 2, .int .i64 o, .bool x, .bool y, .int .i64 b]) ?_ rfl ⟨rfl, ?_⟩
        · rw [results_cellL rfl]
          go_simp
        · go_grown
      · go_enter Try.func23, Try.ntmps23
        go_wp2_with (go_at_call 61; refine (h1 _).mono ?_; rintro e w1 ⟨rfl, rfl⟩)
        refine bodyPost_ret (v := .agg #[.int .i64 3, .int .i64 o, .bool x, .bool y, .int .i64 b]) ?_ rfl ⟨rfl, ?_⟩
        · rw [results_cellL rfl]
          go_simp
        · go_grown
  · rw [if_neg (by simp [hk])]
    simp only
    have d2 : (k != 2) = true := by simp; omega
    have d3 : (k != 3) = true := by simp; omega
    clear hk
    · go_enter Try.func23, Try.ntmps23
      go_wp2_with fail
      refine bodyPost_ret (v := .agg #[.int .i64 k, .int .i64 o, .bool x, .bool y, .int .i64 b]) ?_ rfl ⟨rfl, ?_⟩
      · rw [results_cellL rfl]
        go_simp
      · go_grown
set_option maxRecDepth 100000 in
set_option maxHeartbeats 1600000 in
theorem rresets_any (k o : Int) (x y : Bool) (b d : Int) (w : World) : Calls Try.prog 24 #[.agg (StL k o x y b), .int .i64 d] w fun e w' => e = .returned (.agg (reL ⟨k, o, x, y, b⟩ d).v) ∧ Below w.heap.size w w' := by
  have hd := @sdB_or d
  have hD : Hid (sdB d = (d == 0 || d == 1)) := rfl
  unfold reL LSt.v StL at *
  generalize sdB d = sd at *
  by_cases hk : k = 2 ∨ k = 3
  · cases sd with
    | true =>
      rw [if_pos ⟨hk, rfl⟩]
      simp only
      rcases hd rfl with rfl | rfl <;> rcases hk with rfl | rfl
      · go_enter Try.func24, Try.ntmps24
        go_wp2_with fail
        refine bodyPost_ret (v := .agg #[.int .i64 4, .int .i64 o, .bool false, .bool false, .int .i64 0]) ?_ rfl ⟨rfl, ?_⟩
        · rw [results_cellL rfl]
          go_simp
        · go_grown
      · go_enter Try.func24, Try.ntmps24
        go_wp2_with fail
        refine bodyPost_ret (v := .agg #[.int .i64 4, .int .i64 o, .bool false, .bool false, .int .i64 0]) ?_ rfl ⟨rfl, ?_⟩
        · rw [results_cellL rfl]
          go_simp
        · go_grown
      · go_enter Try.func24, Try.ntmps24
        go_wp2_with fail
        refine bodyPost_ret (v := .agg #[.int .i64 4, .int .i64 o, .bool false, .bool false, .int .i64 1]) ?_ rfl ⟨rfl, ?_⟩
        · rw [results_cellL rfl]
          go_simp
        · go_grown
      · go_enter Try.func24, Try.ntmps24
        go_wp2_with fail
        refine bodyPost_ret (v := .agg #[.int .i64 4, .int .i64 o, .bool false, .bool false, .int .i64 1]) ?_ rfl ⟨rfl, ?_⟩
        · rw [results_cellL rfl]
          go_simp
        · go_grown
    | false =>
      rw [if_neg (by simp)]
      simp only
      have hs0 : d ≠ 0 ∧ d ≠ 1 := by have := hD.out.symm; simpa using this
      have d0 : (d != 0) = true := by simpa using hs0.1
      have d1 : (d != 1) = true := by simpa using hs0.2
      clear hs0 hD hd
      rcases hk with rfl | rfl
      · go_enter Try.func24, Try.ntmps24
        go_wp2_with fail
        refine bodyPost_ret (v := .agg #[.int .i64 2, .int .i64 o, .bool x, .bool y, .int .i64 b]) ?_ rfl ⟨rfl, ?_⟩
        · rw [results_cellL rfl]
          go_simp
        · go_grown
      · go_enter Try.func24, Try.ntmps24
        go_wp2_with fail
        refine bodyPost_ret (v := .agg #[.int .i64 3, .int .i64 o, .bool x, .bool y, .int .i64 b]) ?_ rfl ⟨rfl, ?_⟩
        · rw [results_cellL rfl]
          go_simp
        · go_grown
  · rw [if_neg (by simp [hk])]
    simp only
    have d2 : (k != 2) = true := by simp; omega
    have d3 : (k != 3) = true := by simp; omega
    clear hk hd hD
    · go_enter Try.func24, Try.ntmps24
      go_wp2_with fail
      refine bodyPost_ret (v := .agg #[.int .i64 k, .int .i64 o, .bool x, .bool y, .int .i64 b]) ?_ rfl ⟨rfl, ?_⟩
      · rw [results_cellL rfl]
        go_simp
      · go_grown
end Go.Proofs.Ytopgcimjdlhclaa
