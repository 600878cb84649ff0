/- Layer 36: New, Len, a ping's bytes as a key. -/
import Derived.Test.YteikpdolickkaaaPi1
import Derived.WalkSpells
import Derived.Laws.CopyOwn
namespace Go.Proofs.Yteikpdolickkaaa
open Go.RowKit Go.Maps

theorem row8 {w : World} {p : Nat} {T : TypeId} {a0 a1 a2 a3 a4 a5 a6 a7 : Value} (h : w.heap[p]? = some (.cells #[a0, a1, a2, a3, a4, a5, a6, a7] T (0, 0))) : w.cell? ⟨p, 0, none⟩ = some a0 ∧ w.cell? ⟨p, 1, none⟩ = some a1 ∧ w.cell? ⟨p, 2, none⟩ = some a2 ∧ w.cell? ⟨p, 3, none⟩ = some a3 ∧ w.cell? ⟨p, 4, none⟩ = some a4 ∧ w.cell? ⟨p, 5, none⟩ = some a5 ∧ w.cell? ⟨p, 6, none⟩ = some a6 ∧ w.cell? ⟨p, 7, none⟩ = some a7 := by
  refine ⟨?_, ?_, ?_, ?_, ?_, ?_, ?_, ?_⟩ <;> simp [World.cell?, h]
theorem store8 {w : World} {p : Nat} {T : TypeId} {a0 a1 a2 a3 a4 a5 a6 a7 : Value} (h : w.heap[p]? = some (.cells #[a0, a1, a2, a3, a4, a5, a6, a7] T (0, 0))) (b0 b1 b2 b3 b4 b5 b6 b7 : Value) :
    (w.cell? ⟨p, 0, none⟩ = some a0 ∧ w.frozen? ⟨p, 0, none⟩ = false) ∧
    ((w.setCell ⟨p, 0, none⟩ b0).cell? ⟨p, 1, none⟩ = some a1 ∧ (w.setCell ⟨p, 0, none⟩ b0).frozen? ⟨p, 1, none⟩ = false) ∧
    (((w.setCell ⟨p, 0, none⟩ b0).setCell ⟨p, 1, none⟩ b1).cell? ⟨p, 2, none⟩ = some a2 ∧ ((w.setCell ⟨p, 0, none⟩ b0).setCell ⟨p, 1, none⟩ b1).frozen? ⟨p, 2, none⟩ = false) ∧
    ((((w.setCell ⟨p, 0, none⟩ b0).setCell ⟨p, 1, none⟩ b1).setCell ⟨p, 2, none⟩ b2).cell? ⟨p, 3, none⟩ = some a3 ∧ (((w.setCell ⟨p, 0, none⟩ b0).setCell ⟨p, 1, none⟩ b1).setCell ⟨p, 2, none⟩ b2).frozen? ⟨p, 3, none⟩ = false) ∧
    (((((w.setCell ⟨p, 0, none⟩ b0).setCell ⟨p, 1, none⟩ b1).setCell ⟨p, 2, none⟩ b2).setCell ⟨p, 3, none⟩ b3).cell? ⟨p, 4, none⟩ = some a4 ∧ ((((w.setCell ⟨p, 0, none⟩ b0).setCell ⟨p, 1, none⟩ b1).setCell ⟨p, 2, none⟩ b2).setCell ⟨p, 3, none⟩ b3).frozen? ⟨p, 4, none⟩ = false) ∧
    ((((((w.setCell ⟨p, 0, none⟩ b0).setCell ⟨p, 1, none⟩ b1).setCell ⟨p, 2, none⟩ b2).setCell ⟨p, 3, none⟩ b3).setCell ⟨p, 4, none⟩ b4).cell? ⟨p, 5, none⟩ = some a5 ∧ (((((w.setCell ⟨p, 0, none⟩ b0).setCell ⟨p, 1, none⟩ b1).setCell ⟨p, 2, none⟩ b2).setCell ⟨p, 3, none⟩ b3).setCell ⟨p, 4, none⟩ b4).frozen? ⟨p, 5, none⟩ = false) ∧
    (((((((w.setCell ⟨p, 0, none⟩ b0).setCell ⟨p, 1, none⟩ b1).setCell ⟨p, 2, none⟩ b2).setCell ⟨p, 3, none⟩ b3).setCell ⟨p, 4, none⟩ b4).setCell ⟨p, 5, none⟩ b5).cell? ⟨p, 6, none⟩ = some a6 ∧ ((((((w.setCell ⟨p, 0, none⟩ b0).setCell ⟨p, 1, none⟩ b1).setCell ⟨p, 2, none⟩ b2).setCell ⟨p, 3, none⟩ b3).setCell ⟨p, 4, none⟩ b4).setCell ⟨p, 5, none⟩ b5).frozen? ⟨p, 6, none⟩ = false) ∧
    ((((((((w.setCell ⟨p, 0, none⟩ b0).setCell ⟨p, 1, none⟩ b1).setCell ⟨p, 2, none⟩ b2).setCell ⟨p, 3, none⟩ b3).setCell ⟨p, 4, none⟩ b4).setCell ⟨p, 5, none⟩ b5).setCell ⟨p, 6, none⟩ b6).cell? ⟨p, 7, none⟩ = some a7 ∧ (((((((w.setCell ⟨p, 0, none⟩ b0).setCell ⟨p, 1, none⟩ b1).setCell ⟨p, 2, none⟩ b2).setCell ⟨p, 3, none⟩ b3).setCell ⟨p, 4, none⟩ b4).setCell ⟨p, 5, none⟩ b5).setCell ⟨p, 6, none⟩ b6).frozen? ⟨p, 7, none⟩ = false) ∧
    ((((((((w.setCell ⟨p, 0, none⟩ b0).setCell ⟨p, 1, none⟩ b1).setCell ⟨p, 2, none⟩ b2).setCell ⟨p, 3, none⟩ b3).setCell ⟨p, 4, none⟩ b4).setCell ⟨p, 5, none⟩ b5).setCell ⟨p, 6, none⟩ b6).setCell ⟨p, 7, none⟩ b7).heap[p]? = some (.cells #[b0, b1, b2, b3, b4, b5, b6, b7] T (0, 0)) := by
  have h1 := setRow w p 0 b0 h
  have h2 := setRow _ p 1 b1 h1
  have h3 := setRow _ p 2 b2 h2
  have h4 := setRow _ p 3 b3 h3
  have h5 := setRow _ p 4 b4 h4
  have h6 := setRow _ p 5 b5 h5
  have h7 := setRow _ p 6 b6 h6
  have h8 := setRow _ p 7 b7 h7
  simp only [List.setIfInBounds_toArray, List.set_cons_zero, List.set_cons_succ] at h1 h2 h3 h4 h5 h6 h7 h8
  exact ⟨⟨(row8 h).1, frozenRow h 0⟩, ⟨(row8 h1).2.1, frozenRow h1 1⟩, ⟨(row8 h2).2.2.1, frozenRow h2 2⟩, ⟨(row8 h3).2.2.2.1, frozenRow h3 3⟩, ⟨(row8 h4).2.2.2.2.1, frozenRow h4 4⟩, ⟨(row8 h5).2.2.2.2.2.1, frozenRow h5 5⟩, ⟨(row8 h6).2.2.2.2.2.2.1, frozenRow h6 6⟩, ⟨(row8 h7).2.2.2.2.2.2.2, frozenRow h7 7⟩, h8⟩
theorem below8 {B : Nat} {w w' : World} {p : Nat} (h : Below B w w') (hp : B ≤ p) (b0 b1 b2 b3 b4 b5 b6 b7 : Value) : Below B w ((((((((w'.setCell ⟨p, 0, none⟩ b0).setCell ⟨p, 1, none⟩ b1).setCell ⟨p, 2, none⟩ b2).setCell ⟨p, 3, none⟩ b3).setCell ⟨p, 4, none⟩ b4).setCell ⟨p, 5, none⟩ b5).setCell ⟨p, 6, none⟩ b6).setCell ⟨p, 7, none⟩ b7) :=
  (((((((h.setCell hp _).setCell hp _).setCell hp _).setCell hp _).setCell hp _).setCell hp _).setCell hp _).setCell hp _

theorem copy36 {w : World} {A : Option Addr} {c : Nat} {F : Nat → Int} (h : Rd .u8 w A 8 c F) : ∃ w1, (Builtin.copy_ #[22, 22] 3 #[.slice (some ⟨w.heap.size + 1, 0, none⟩) 8 8, .slice A 8 c]).run Try.prog ((w.alloc (.cells #[.int .u8 0, .int .u8 0, .int .u8 0, .int .u8 0, .int .u8 0, .int .u8 0, .int .u8 0, .int .u8 0] 216)).alloc (.cells #[.int .u8 0, .int .u8 0, .int .u8 0, .int .u8 0, .int .u8 0, .int .u8 0, .int .u8 0, .int .u8 0] 216)) = .ok (goInt 8) w1 ∧
    w1.heap[w.heap.size + 1]? = some (.cells #[.int .u8 (F 0), .int .u8 (F 1), .int .u8 (F 2), .int .u8 (F 3), .int .u8 (F 4), .int .u8 (F 5), .int .u8 (F 6), .int .u8 (F 7)] 216 (0, 0)) ∧ w1.heap[w.heap.size]? = some (.cells #[.int .u8 0, .int .u8 0, .int .u8 0, .int .u8 0, .int .u8 0, .int .u8 0, .int .u8 0, .int .u8 0] 216 (0, 0)) ∧ Below w.heap.size w w1 := by
  obtain ⟨b, off, rfl, hlt, hc⟩ := h.block (by omega)
  have b1 := (Below.refl w.heap.size w).alloc (Nat.le_refl _) (.cells #[.int .u8 0, .int .u8 0, .int .u8 0, .int .u8 0, .int .u8 0, .int .u8 0, .int .u8 0, .int .u8 0] 216)
  have b2 := b1.alloc (by simp) (.cells #[.int .u8 0, .int .u8 0, .int .u8 0, .int .u8 0, .int .u8 0, .int .u8 0, .int .u8 0, .int .u8 0] 216)
  have hz : ((w.alloc (.cells #[.int .u8 0, .int .u8 0, .int .u8 0, .int .u8 0, .int .u8 0, .int .u8 0, .int .u8 0, .int .u8 0] 216)).alloc (.cells #[.int .u8 0, .int .u8 0, .int .u8 0, .int .u8 0, .int .u8 0, .int .u8 0, .int .u8 0, .int .u8 0] 216)).heap[w.heap.size + 1]? = some (.cells #[.int .u8 0, .int .u8 0, .int .u8 0, .int .u8 0, .int .u8 0, .int .u8 0, .int .u8 0, .int .u8 0] 216 (0, 0)) := by
    have := heap_alloc_new (w.alloc (.cells #[.int .u8 0, .int .u8 0, .int .u8 0, .int .u8 0, .int .u8 0, .int .u8 0, .int .u8 0, .int .u8 0] 216)) (.cells #[.int .u8 0, .int .u8 0, .int .u8 0, .int .u8 0, .int .u8 0, .int .u8 0, .int .u8 0, .int .u8 0] 216)
    simpa using this
  have hz0 : ((w.alloc (.cells #[.int .u8 0, .int .u8 0, .int .u8 0, .int .u8 0, .int .u8 0, .int .u8 0, .int .u8 0, .int .u8 0] 216)).alloc (.cells #[.int .u8 0, .int .u8 0, .int .u8 0, .int .u8 0, .int .u8 0, .int .u8 0, .int .u8 0, .int .u8 0] 216)).heap[w.heap.size]? = some (.cells #[.int .u8 0, .int .u8 0, .int .u8 0, .int .u8 0, .int .u8 0, .int .u8 0, .int .u8 0, .int .u8 0] 216 (0, 0)) := keepRow (heap_alloc_new w (.cells #[.int .u8 0, .int .u8 0, .int .u8 0, .int .u8 0, .int .u8 0, .int .u8 0, .int .u8 0, .int .u8 0] 216)) ((Below.refl _ _).alloc (Nat.le_refl _) (.cells #[.int .u8 0, .int .u8 0, .int .u8 0, .int .u8 0, .int .u8 0, .int .u8 0, .int .u8 0, .int .u8 0] 216))
  have hrun := run_copy_row (P := Try.prog) ((w.alloc (.cells #[.int .u8 0, .int .u8 0, .int .u8 0, .int .u8 0, .int .u8 0, .int .u8 0, .int .u8 0, .int .u8 0] 216)).alloc (.cells #[.int .u8 0, .int .u8 0, .int .u8 0, .int .u8 0, .int .u8 0, .int .u8 0, .int .u8 0, .int .u8 0] 216)) 22 22 3 5 (w.heap.size + 1) 0 8 8 ⟨b, off, none⟩ 8 c _ _ (row .u8 8 F) Try.underlying22 (by kernel_rfl) hz (by rw [row_len]; rfl)
    (fun j v hj => by
      obtain ⟨hj', rfl⟩ := row_get_some hj
      rw [Addr.add_lit, b2.cell hlt]
      exact hc j hj') (by rw [row_len]; exact Nat.le_refl _) (row_one .u8 8 F)
  rw [row_len] at hrun
  refine ⟨_, hrun, ?_, ?_, ?_⟩
  · rw [setRow_heap _ _ _ _ _ _ hz]
    rfl
  · rw [setRow_other _ _ _ _ (by omega)]
    exact hz0
  · exact below_setRow b2 (by omega) _
set_option maxRecDepth 20000 in
theorem key36 {w : World} {A : Option Addr} {n c : Nat} {F : Nat → Int} (h : Rd .u8 w A n c F) : Calls Try.prog 135 #[.slice A n c] w fun e w' => ((n = 8 ∧ e = .returned (.tuple #[ky F, .bool true])) ∨ (n ≠ 8 ∧ e = .returned (.tuple #[ky (fun _ => 0), .bool false]))) ∧ Below w.heap.size w w' := by
  by_cases h8 : n = 8
  · subst h8
    obtain ⟨w1, hcp, hr1, hr0, hbl⟩ := copy36 h
    obtain ⟨c0, c1, c2, c3, c4, c5, c6, c7⟩ := row8 hr1
    obtain ⟨⟨d0, f0⟩, ⟨d1, f1⟩, ⟨d2, f2⟩, ⟨d3, f3⟩, ⟨d4, f4⟩, ⟨d5, f5⟩, ⟨d6, f6⟩, ⟨d7, f7⟩, hr⟩ := store8 hr0 (.int .u8 (F 0)) (.int .u8 (F 1)) (.int .u8 (F 2)) (.int .u8 (F 3)) (.int .u8 (F 4)) (.int .u8 (F 5)) (.int .u8 (F 6)) (.int .u8 (F 7))
    have Hr := hide hr
    have Hb := hide (below8 hbl (Nat.le_refl _) (.int .u8 (F 0)) (.int .u8 (F 1)) (.int .u8 (F 2)) (.int .u8 (F 3)) (.int .u8 (F 4)) (.int .u8 (F 5)) (.int .u8 (F 6)) (.int .u8 (F 7)))
    clear h hr1 hr0 hr hbl
    have hg : goInt 8 = .int .i64 8 := rfl
    rw [hg] at hcp
    go_enter Try.func135, Try.ntmps135
    go_wp2
    obtain ⟨e0, e1, e2, e3, e4, e5, e6, e7⟩ := row8 Hr.out
    unfold ky
    refine bodyPost_ret (v := .tuple #[.agg #[.int .u8 (F 0), .int .u8 (F 1), .int .u8 (F 2), .int .u8 (F 3), .int .u8 (F 4), .int .u8 (F 5), .int .u8 (F 6), .int .u8 (F 7)], .bool true]) ?_ rfl ⟨.inl ⟨by trivial, rfl⟩, Hb.out⟩
    rw [results_cell_tmp rfl]
    go_simp
  · have hd : ((n : Int) == 8) = false := by
      simp only [beq_eq_false_iff_ne]
      omega
    clear h
    go_enter Try.func135, Try.ntmps135
    go_wp2
    have hr := keepRow (heap_alloc_new w (.cells #[.int .u8 0, .int .u8 0, .int .u8 0, .int .u8 0, .int .u8 0, .int .u8 0, .int .u8 0, .int .u8 0] 216)) ((Below.refl _ _).alloc (Nat.le_refl _) (.cells #[.int .u8 0, .int .u8 0, .int .u8 0, .int .u8 0, .int .u8 0, .int .u8 0, .int .u8 0, .int .u8 0] 216))
    obtain ⟨e0, e1, e2, e3, e4, e5, e6, e7⟩ := row8 hr
    unfold ky
    refine bodyPost_ret (v := .tuple #[.agg #[.int .u8 0, .int .u8 0, .int .u8 0, .int .u8 0, .int .u8 0, .int .u8 0, .int .u8 0, .int .u8 0], .bool false]) ?_ rfl ⟨.inr ⟨h8, rfl⟩, ?_⟩
    · rw [results_cell_tmp rfl]
      go_simp
    · go_grown
end Go.Proofs.Yteikpdolickkaaa
