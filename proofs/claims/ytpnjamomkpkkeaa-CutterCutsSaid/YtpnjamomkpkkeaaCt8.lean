/- Layer 12: New and Left. -/
import Derived.Test.YtpnjamomkpkkeaaCt7
namespace Go.Proofs.Ytpnjamomkpkkeaa
set_option linter.unusedVariables false
set_option linter.unusedSimpArgs false
open Go.RowKit

abbrev zeroCt : Obj := .cells #[.int .i64 0, .int .i64 0, .int .i64 0, .int .i64 0, .int .i64 0, .bool false, .slice none 0 0, .int .i64 0, .int .i64 0, .int .i64 0, .int .i64 0, .int .i64 0, .bool false, .slice none 0 0] 60
theorem zero_row : ctW ⟨0, [], []⟩ (.slice none 0 0) ⟨0, [], []⟩ (.slice none 0 0) = zeroCt := by
  have e1 : gL (lyF []) = 0 := by decide
  have e2 : lowN (gX (lyF [])) = 0 := by decide
  have e3 : lowB (gX (lyF [])) = false := by decide
  have e4 : lyF [] 3 = 0 := rfl
  have e5 : lyF [] 4 = 0 := rfl
  unfold ctW ctR0
  simp only [e1, e2, e3, e4, e5]
  rfl
theorem ctOk_zero {w : World} {p B : Nat} (h : w.heap[p]? = some zeroCt) (hB : B ≤ p) : CtOk p B w (fun _ => []) (fun _ => ⟨0, [], []⟩) (fun _ => .slice none 0 0) :=
  ⟨by rw [zero_row]; exact h, Own.nil _ _ _ _ _, Own.nil _ _ _ _ _, fun b hb => (by cases hb), by rw [frs_nil]; exact Hw.new 0 [], by decide, by rw [frs_nil]; exact Hw.new 1 [], by decide, Nat.le_trans hB (Nat.le_of_lt (rowLt h)), hB⟩
theorem new12 (w : World) : Calls Try.prog 27 #[] w fun e w' => e = .returned (.pointer (some ⟨w.heap.size, 0, none⟩)) ∧ w.alloc zeroCt = w' := by
  go_enter Try.func27, Try.ntmps27
  go_wp2_with fail
  go_ret
  exact ⟨rfl, rfl⟩
theorem leftF0 {p B : Nat} {w : World} {L : Int → List Int} {s : Int → Pt} {v : Int → Value} (h : CtOk p B w L s v) : Calls Try.prog 28 #[.pointer (some ⟨p, 0, none⟩), .int .i64 0] w fun e w' => e = .returned (.int .i64 (lftN 0 (L 0) : Nat)) ∧ w = w' := by
  have hl := lft_eq h.h0
  have hw := Pt.want_le h.h0
  have hlt := h.l0
  have hst := h.h0.st
  obtain ⟨A, c, hv, _, _⟩ := h.o0.rd
  have hgl : (s 0).g.length ≤ 16777215 := by omega
  have R := h.row
  obtain ⟨c0, c1, c2, c3, c4, c5, c6, c7, c8, c9, c10, c11, c12, c13⟩ := row14 R
  rw [hv] at c6
  obtain ⟨N, hN⟩ : ∃ N, lftN 0 (L 0) = N := ⟨_, rfl⟩
  rw [hN] at hl ⊢
  have hn : N = if (s 0).k = 2 then 9 + (s 0).g.length else (s 0).g.length := by
    rw [hl]
    unfold Pt.pend
    split
    · rename_i hk
      rcases hst with ⟨_, h9, _⟩ | ⟨h1, _⟩ | ⟨h1, _⟩
      · rw [List.length_append, h9]
      · omega
      · omega
    · rfl
  have HN := hide hn
  clear hN hl hw hlt hst hv R h hn
  generalize (s 0).g.length = gl at *
  generalize (s 0).k = k at *
  by_cases hk : k = 2
  · subst hk
    have hNN : Hid ((N : Int) = 9 + (gl : Int)) := by have h1 := HN.out; rw [if_pos rfl] at h1; exact (by omega : (N : Int) = 9 + (gl : Int))
    clear HN
    go_enter Try.func28, Try.ntmps28
    go_wp2_with fail
    refine (isSide12 0 _ (by simp)).mono ?_
    rintro e w' ⟨rfl, rfl⟩
    go_wp2_with fail
    go_ret
    rw [hNN.out]
    exact ⟨rfl, rfl⟩
  · have dk : ((k : Int) == 2) = false := by simp; omega
    have hNN : Hid (N = gl) := by have h1 := HN.out; rw [if_neg hk] at h1; exact h1
    have HK := hide hk
    clear HN hk
    go_enter Try.func28, Try.ntmps28
    go_wp2_with fail
    refine (isSide12 0 _ (by simp)).mono ?_
    rintro e w' ⟨rfl, rfl⟩
    go_wp2_with fail
    go_ret
    rw [hNN.out]
    exact ⟨rfl, rfl⟩
theorem leftF1 {p B : Nat} {w : World} {L : Int → List Int} {s : Int → Pt} {v : Int → Value} (h : CtOk p B w L s v) : Calls Try.prog 28 #[.pointer (some ⟨p, 0, none⟩), .int .i64 1] w fun e w' => e = .returned (.int .i64 (lftN 1 (L 1) : Nat)) ∧ w = w' := by
  have hl := lft_eq h.h1
  have hw := Pt.want_le h.h1
  have hlt := h.l1
  have hst := h.h1.st
  obtain ⟨A, c, hv, _, _⟩ := h.o1.rd
  have hgl : (s 1).g.length ≤ 16777215 := by omega
  have R := h.row
  obtain ⟨c0, c1, c2, c3, c4, c5, c6, c7, c8, c9, c10, c11, c12, c13⟩ := row14 R
  rw [hv] at c13
  obtain ⟨N, hN⟩ : ∃ N, lftN 1 (L 1) = N := ⟨_, rfl⟩
  rw [hN] at hl ⊢
  have hn : N = if (s 1).k = 2 then 9 + (s 1).g.length else (s 1).g.length := by
    rw [hl]
    unfold Pt.pend
    split
    · rename_i hk
      rcases hst with ⟨_, h9, _⟩ | ⟨h1, _⟩ | ⟨h1, _⟩
      · rw [List.length_append, h9]
      · omega
      · omega
    · rfl
  have HN := hide hn
  clear hN hl hw hlt hst hv R h hn
  generalize (s 1).g.length = gl at *
  generalize (s 1).k = k at *
  by_cases hk : k = 2
  · subst hk
    have hNN : Hid ((N : Int) = 9 + (gl : Int)) := by have h1 := HN.out; rw [if_pos rfl] at h1; exact (by omega : (N : Int) = 9 + (gl : Int))
    clear HN
    go_enter Try.func28, Try.ntmps28
    go_wp2_with fail
    refine (isSide12 1 _ (by simp)).mono ?_
    rintro e w' ⟨rfl, rfl⟩
    go_wp2_with fail
    go_ret
    rw [hNN.out]
    exact ⟨rfl, rfl⟩
  · have dk : ((k : Int) == 2) = false := by simp; omega
    have hNN : Hid (N = gl) := by have h1 := HN.out; rw [if_neg hk] at h1; exact h1
    have HK := hide hk
    clear HN hk
    go_enter Try.func28, Try.ntmps28
    go_wp2_with fail
    refine (isSide12 1 _ (by simp)).mono ?_
    rintro e w' ⟨rfl, rfl⟩
    go_wp2_with fail
    go_ret
    rw [hNN.out]
    exact ⟨rfl, rfl⟩
end Go.Proofs.Ytpnjamomkpkkeaa
