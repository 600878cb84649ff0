/- Layer 14: what is looked at ahead of reading; two cells stored. -/
import Derived.Test.YtpnjamomkpkkeaaMI
import Derived.Test.YtpnjamomkpkkeaaHea1
import Derived.Laws.ResultCell
namespace Go.Proofs.Ytpnjamomkpkkeaa
set_option linter.unusedVariables false
set_option linter.unusedSimpArgs false
open Go.RowKit

theorem hof14 (fr t f s : Int) (r : Bool) (A : Option Addr) (n c : Nat) (w : World) : Calls Try.prog 65 #[.agg #[.int .i64 fr, .int .i64 t, .int .i64 f, .int .i64 s, .bool r, .slice A n c]] w fun e w' =>
    e = .returned (.agg #[.int .i64 n, .int .i64 t, .int .i64 f, .int .i64 s, .bool r]) ∧ Below w.heap.size w w' := by
  have E : Hid (Below w.heap.size w ((w.alloc (.cells #[.int .i64 fr, .int .i64 t, .int .i64 f, .int .i64 s, .bool r, .slice A n c] 29)).alloc (.cells #[.int .i64 n, .int .i64 t, .int .i64 f, .int .i64 s, .bool r] 55))) := ((Below.refl w.heap.size w).alloc (Nat.le_refl _) _).alloc (by simp) _
  go_enter Try.func65, Try.ntmps65
  go_wp2_with fail
  refine bodyPost_ret (v := .agg #[.int .i64 n, .int .i64 t, .int .i64 f, .int .i64 s, .bool r]) ?_ rfl ⟨rfl, E.out⟩
  rw [results_cellS rfl]
  go_simp
def strN (t : Int) : Int := if t = 4 ∨ t = 6 ∨ t = 7 then 0 else if 0 ≤ t ∧ t < 10 ∧ t ≠ 8 then 1 else 2
theorem strN_out {t : Int} (h : ¬ (0 ≤ t ∧ t < 10)) : strN t = 2 := by
  unfold strN
  rw [if_neg (by omega), if_neg (by omega)]
set_option maxRecDepth 20000 in
set_option maxHeartbeats 1600000 in
theorem streams14 (t : Int) (w : World) : Calls Try.prog 112 #[.int .i64 t] w fun e w' => e = .returned (.int .i64 (strN t)) ∧ w = w' := by
  by_cases h : 0 ≤ t ∧ t < 10
  · have : t = 0 ∨ t = 1 ∨ t = 2 ∨ t = 3 ∨ t = 4 ∨ t = 5 ∨ t = 6 ∨ t = 7 ∨ t = 8 ∨ t = 9 := by omega
    clear h
    rcases this with rfl | rfl | rfl | rfl | rfl | rfl | rfl | rfl | rfl | rfl <;>
    · go_enter Try.func112, Try.ntmps112
      go_wp2
      go_ret
      exact ⟨by kernel_rfl, rfl⟩
  · have H := hide (strN_out h)
    have n0 : (t == 0) = false := by simp; omega
    have n1 : (t == 1) = false := by simp; omega
    have n2 : (t == 2) = false := by simp; omega
    have n3 : (t == 3) = false := by simp; omega
    have n4 : (t == 4) = false := by simp; omega
    have n5 : (t == 5) = false := by simp; omega
    have n6 : (t == 6) = false := by simp; omega
    have n7 : (t == 7) = false := by simp; omega
    have n9 : (t == 9) = false := by simp; omega
    clear h
    go_enter Try.func112, Try.ntmps112
    go_wp2
    go_ret
    exact ⟨by rw [H.out]; rfl, rfl⟩
def misB (t st : Int) : Bool := if strN t = 0 then st != 0 else if strN t = 1 then st == 0 else false
set_option maxHeartbeats 800000 in
theorem mis14 (fm T fl st : Int) (rs : Bool) (bd : Value) (w : World) : Calls Try.prog 66 #[.agg #[.int .i64 fm, .int .i64 T, .int .i64 fl, .int .i64 st, .bool rs, bd]] w fun e w' => e = .returned (.bool (misB T st)) ∧ Below w.heap.size w w' := by
  have R0 := hide (heap_alloc_new w (.cells #[.int .i64 fm, .int .i64 T, .int .i64 fl, .int .i64 st, .bool rs, bd] 29))
  have E0 := hide ((Below.refl w.heap.size w).alloc (Nat.le_refl _) (.cells #[.int .i64 fm, .int .i64 T, .int .i64 fl, .int .i64 st, .bool rs, bd] 29))
  obtain ⟨s0, s1, s2, s3, s4, s5⟩ := row6 R0.out
  obtain ⟨k, hk⟩ : ∃ k, strN T = k := ⟨_, rfl⟩
  have hm : misB T st = if k = 0 then st != 0 else if k = 1 then st == 0 else false := by unfold misB; rw [hk]
  have HK := hide hk
  have HM := hide hm
  have h3 : k = 0 ∨ k = 1 ∨ k = 2 := by
    rw [← hk]
    unfold strN
    (repeat' split) <;> simp
  clear hk hm
  go_enter Try.func66, Try.ntmps66
  go_wp2_with fail
  refine (streams14 T _).mono ?_
  rw [HK.out]
  rintro e w1 ⟨rfl, rfl⟩
  rcases h3 with rfl | rfl | rfl
  all_goals
    go_wp2_with fail
    go_ret
    exact ⟨by rw [HM.out]; rfl, E0.out⟩
def wrsB (T fl : Int) (n : Nat) : Bool := if T = 2 then (n : Int) != 5 else if T = 3 ∨ T = 8 then (n : Int) != 4 else if T = 6 then (n : Int) != 8 else if T = 4 then decide (0 < n) && hsB 4 fl 0 else false
theorem wrsB_out {T fl : Int} {n : Nat} (h : T ≠ 2 ∧ T ≠ 3 ∧ T ≠ 8 ∧ T ≠ 6 ∧ T ≠ 4) : wrsB T fl n = false := by
  unfold wrsB
  rw [if_neg (by omega), if_neg (by omega), if_neg (by omega), if_neg (by omega)]
set_option maxHeartbeats 1600000 in
theorem wrs14 (fm T fl st : Int) (rs : Bool) (A : Option Addr) (n c : Nat) (hfl : fl ≤ 9223372036854775807) (w : World) : Calls Try.prog 67 #[.agg #[.int .i64 fm, .int .i64 T, .int .i64 fl, .int .i64 st, .bool rs, .slice A n c]] w fun e w' => e = .returned (.bool (wrsB T fl n)) ∧ Below w.heap.size w w' := by
  have R0 := hide (heap_alloc_new w (.cells #[.int .i64 fm, .int .i64 T, .int .i64 fl, .int .i64 st, .bool rs, .slice A n c] 29))
  have E0 := hide ((Below.refl w.heap.size w).alloc (Nat.le_refl _) (.cells #[.int .i64 fm, .int .i64 T, .int .i64 fl, .int .i64 st, .bool rs, .slice A n c] 29))
  obtain ⟨s0, s1, s2, s3, s4, s5⟩ := row6 R0.out
  by_cases h : T = 2 ∨ T = 3 ∨ T = 8 ∨ T = 6
  · rcases h with rfl | rfl | rfl | rfl
    all_goals
      go_enter Try.func67, Try.ntmps67
      go_wp2_with fail
      go_ret
      exact ⟨by rfl, E0.out⟩
  · by_cases h4 : T = 4
    · subst h4
      clear h
      by_cases hn : n = 0
      · subst hn
        go_enter Try.func67, Try.ntmps67
        go_wp2_with fail
        go_ret
        exact ⟨by rfl, E0.out⟩
      · have d1 : decide ((0 : Int) < (n : Int)) = true := decide_eq_true (by omega)
        have d2 : decide (0 < n) = true := decide_eq_true (by omega)
        obtain ⟨b, hb⟩ : ∃ b, hsB 4 fl 0 = b := ⟨_, rfl⟩
        have HW : Hid (wrsB 4 fl n = b) := by
          show _ = _
          unfold wrsB
          rw [if_neg (by decide), if_neg (by decide), if_neg (by decide), if_pos rfl, d2, hb]
          rfl
        have HB := hide hb
        clear hb hn
        go_enter Try.func67, Try.ntmps67
        go_wp2_with fail
        refine (has8 4 fl 0 (by omega) 1 (by decide) hfl _).mono ?_
        rw [HB.out]
        rintro e w1 ⟨rfl, rfl⟩
        go_wp2_with fail
        go_ret
        exact ⟨by rw [HW.out]; rfl, E0.out⟩
    · have HW := hide (wrsB_out (fl := fl) (n := n) (show T ≠ 2 ∧ T ≠ 3 ∧ T ≠ 8 ∧ T ≠ 6 ∧ T ≠ 4 by omega))
      have n2 : (T == 2) = false := by simp; omega
      have n3 : (T == 3) = false := by simp; omega
      have n4 : (T == 4) = false := by simp; omega
      have n6 : (T == 6) = false := by simp; omega
      have n8 : (T == 8) = false := by simp; omega
      clear h h4
      go_enter Try.func67, Try.ntmps67
      go_wp2_with fail
      go_ret
      exact ⟨by rw [HW.out]; rfl, E0.out⟩
def szS (T : Int) : Int := if T = 0 ∨ T = 2 then 1 else 2
set_option maxHeartbeats 800000 in
theorem size14 (T : Int) (w : World) : Calls Try.prog 68 #[.int .i64 T] w fun e w' => e = .returned (.agg #[.int .i64 (szS T), .int .i64 6]) ∧ Below w.heap.size w w' := by
  have E1 : Hid (Below w.heap.size w (w.alloc (.cells #[.int .i64 1, .int .i64 6] 38))) := (Below.refl w.heap.size w).alloc (Nat.le_refl _) _
  have E2 : Hid (Below w.heap.size w (w.alloc (.cells #[.int .i64 2, .int .i64 6] 38))) := (Below.refl w.heap.size w).alloc (Nat.le_refl _) _
  by_cases h : T = 0 ∨ T = 2
  · rcases h with rfl | rfl
    all_goals
      go_enter Try.func68, Try.ntmps68
      go_wp2_with fail
      refine bodyPost_ret (v := .agg #[.int .i64 1, .int .i64 6]) ?_ rfl ⟨rfl, E1.out⟩
      rw [results_cellS rfl]
      go_simp
  · have HS : Hid (szS T = 2) := if_neg h
    have n0 : (T == 0) = false := by simp; omega
    have n2 : (T == 2) = false := by simp; omega
    clear h
    go_enter Try.func68, Try.ntmps68
    go_wp2_with fail
    refine bodyPost_ret (v := .agg #[.int .i64 2, .int .i64 6]) ?_ rfl ⟨by rw [HS.out], E2.out⟩
    rw [results_cellS rfl]
    go_simp
theorem results_cct14 {fn : Func} {p q u : Tmp} {t1 t2 : TypeId} (h : fn.results = #[.cell p t1, .cell q t2, .tmp u]) (tmps : Array Value) (P : Program) (w : World) :
    (results fn tmps).run P w = ((asAddr (tmps.getD p undef)).run P w).andThen fun a w₁ => ((loadVar t1 a).run P w₁).andThen fun x w₂ => ((asAddr (tmps.getD q undef)).run P w₂).andThen fun b w₃ => ((loadVar t2 b).run P w₃).andThen fun y w₄ => .ok (.tuple #[x, y, tmps.getD u undef]) w₄ := by
  simp only [results, h]
  simp [Sem.run_bind, Result.andThen]
theorem store2f {w : World} {p : Nat} {T : TypeId} {a0 a1 : Value} (h : w.heap[p]? = some (.cells #[a0, a1] T (0, 0))) (b0 b1 : Value) :
    (w.cell? ⟨p, 0, none⟩ = some a0 ∧ w.frozen? ⟨p, 0, none⟩ = false) ∧ ((w.setCell ⟨p, 0, none⟩ b0).cell? ⟨p, 1, none⟩ = some a1 ∧ (w.setCell ⟨p, 0, none⟩ b0).frozen? ⟨p, 1, none⟩ = false) ∧
    ((w.setCell ⟨p, 0, none⟩ b0).setCell ⟨p, 1, none⟩ b1).heap[p]? = some (.cells #[b0, b1] T (0, 0)) := by
  have h1 := setRow w p 0 b0 h
  have h2 := setRow _ p 1 b1 h1
  simp only [List.setIfInBounds_toArray, List.set_cons_zero, List.set_cons_succ] at h1 h2
  exact ⟨⟨(row2 h).1, frozenRow h 0⟩, ⟨(row2 h1).2, frozenRow h1 1⟩, h2⟩
theorem FrS.set2 {B p : Nat} {S : Nat → Prop} {w : World} (hB : B ≤ p) (hg : p < w.heap.size) (hS : S p) (b0 b1 : Value) : FrS B S w ((w.setCell ⟨p, 0, none⟩ b0).setCell ⟨p, 1, none⟩ b1) :=
  (FrS.set hB hg hS).trans (FrS.set hB (by simpa using hg) hS)
end Go.Proofs.Ytpnjamomkpkkeaa
