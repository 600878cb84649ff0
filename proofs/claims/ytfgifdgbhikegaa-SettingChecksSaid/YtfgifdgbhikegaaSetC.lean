/- Layer 13: the walk of SettingChecks. -/
import Derived.Test.YtfgifdgbhikegaaSet3
import Derived.Laws.ResultCell
namespace Go.Proofs.Ytfgifdgbhikegaa
open Go.RowKit

/-- The code of a setting that may not be, by who sends it; 0: it may be. -/
def wcode (id v fr : Int) : Int :=
  if id = 2 then (if 1 < v ∨ v = 1 ∧ fr = 1 then 1 else 0) else if id = 4 then (if 2147483647 < v then 3 else 0) else if id = 5 then (if v < 16384 ∨ 16777215 < v then 1 else 0) else 0
def WOk (id v fr : Int) : Prop :=
  ((id == 2) = true ∧ decide (1 < v) = false ∧ (v == 1) = true ∧ (fr == 1) = false ∧ (id == 4) = false ∧ (id == 5) = false) ∨
  ((id == 2) = true ∧ decide (1 < v) = false ∧ (v == 1) = false ∧ (fr == fr) = true ∧ (id == 4) = false ∧ (id == 5) = false) ∨
  ((id == 2) = false ∧ (id == 4) = true ∧ decide (2147483647 < v) = false ∧ (fr == fr) = true ∧ (v == v) = true ∧ (id == 5) = false) ∨
  ((id == 2) = false ∧ (id == 4) = false ∧ (id == 5) = true ∧ decide (v < 16384) = false ∧ (v == v) = true ∧ decide (16777215 < v) = false) ∨
  ((id == 2) = false ∧ (id == 4) = false ∧ (id == 5) = false ∧ (fr == fr) = true ∧ (v == v) = true ∧ (id == id) = true)
def WBad (id v fr c : Int) : Prop :=
  (c = 1 ∧ (id == 2) = true ∧ decide (1 < v) = true ∧ (v == v) = true ∧ (v == v) = true) ∨
  (c = 1 ∧ (id == 2) = true ∧ decide (1 < v) = false ∧ (v == 1) = true ∧ (fr == 1) = true) ∨
  (c = 3 ∧ (id == 2) = false ∧ (id == 4) = true ∧ decide (2147483647 < v) = true ∧ (v == v) = true) ∨
  (c = 1 ∧ (id == 2) = false ∧ (id == 4) = false ∧ (id == 5) = true ∧ decide (v < 16384) = true) ∨
  (c = 1 ∧ (id == 2) = false ∧ (id == 4) = false ∧ (id == 5) = true ∧ decide (v < 16384) = false ∧ decide (16777215 < v) = true)
theorem w_ok {id v fr : Int} (h : wcode id v fr = 0) : WOk id v fr := by
  unfold wcode at h
  unfold WOk
  simp only [beq_iff_eq, beq_eq_false_iff_ne, decide_eq_true_eq, decide_eq_false_iff_not, beq_self_eq_true, ne_eq, true_and, and_true]
  split at h
  · split at h
    · omega
    · omega
  · split at h
    · split at h
      · omega
      · omega
    · split at h
      · split at h
        · omega
        · omega
      · omega
theorem w_bad {id v fr : Int} (h : wcode id v fr ≠ 0) : WBad id v fr (wcode id v fr) := by
  by_cases h2 : id = 2
  · by_cases a : 1 < v
    · have e : wcode id v fr = 1 := by unfold wcode; rw [if_pos h2, if_pos (.inl a)]
      rw [e]
      exact .inl ⟨rfl, by simpa using h2, by simpa using a, by simp, by simp⟩
    · by_cases b : v = 1 ∧ fr = 1
      · have e : wcode id v fr = 1 := by unfold wcode; rw [if_pos h2, if_pos (.inr b)]
        rw [e]
        exact .inr (.inl ⟨rfl, by simpa using h2, by simpa using a, by simpa using b.1, by simpa using b.2⟩)
      · exact absurd (by unfold wcode; rw [if_pos h2, if_neg (fun hh => hh.elim a b)]) h
  · by_cases h4 : id = 4
    · by_cases a : 2147483647 < v
      · have e : wcode id v fr = 3 := by unfold wcode; rw [if_neg h2, if_pos h4, if_pos a]
        rw [e]
        exact .inr (.inr (.inl ⟨rfl, by simpa using h2, by simpa using h4, by simpa using a, by simp⟩))
      · exact absurd (by unfold wcode; rw [if_neg h2, if_pos h4, if_neg a]) h
    · by_cases h5 : id = 5
      · by_cases a : v < 16384
        · have e : wcode id v fr = 1 := by unfold wcode; rw [if_neg h2, if_neg h4, if_pos h5, if_pos (.inl a)]
          rw [e]
          exact .inr (.inr (.inr (.inl ⟨rfl, by simpa using h2, by simpa using h4, by simpa using h5, by simpa using a⟩)))
        · by_cases b : 16777215 < v
          · have e : wcode id v fr = 1 := by unfold wcode; rw [if_neg h2, if_neg h4, if_pos h5, if_pos (.inr b)]
            rw [e]
            exact .inr (.inr (.inr (.inr ⟨rfl, by simpa using h2, by simpa using h4, by simpa using h5, by simpa using a, by simpa using b⟩)))
          · exact absurd (by unfold wcode; rw [if_neg h2, if_neg h4, if_pos h5, if_neg (fun hh => hh.elim a b)]) h
      · exact absurd (by unfold wcode; rw [if_neg h2, if_neg h4, if_neg h5]) h
/-- The code of the first of the first k that may not be. -/
def chk (F G : Nat → Int) (fr : Int) : Nat → Int
  | 0 => 0
  | k + 1 => if chk F G fr k = 0 then wcode (F k) (G k) fr else chk F G fr k
theorem chk_stay {F G : Nat → Int} {fr : Int} {k : Nat} (h : chk F G fr k ≠ 0) : ∀ m, k ≤ m → chk F G fr m = chk F G fr k := by
  intro m hm
  induction m with
  | zero => obtain rfl : k = 0 := by omega
            rfl
  | succ m ih =>
    by_cases hk : k ≤ m
    · have e := ih hk
      simp only [chk]
      rw [if_neg (by rw [e]; exact h), e]
    · obtain rfl : k = m + 1 := by omega
      rfl
theorem chk_bad {F G : Nat → Int} {fr : Int} {k n : Nat} (h0 : chk F G fr k = 0) (hk : k < n) (hw : wcode (F k) (G k) fr ≠ 0) : chk F G fr n = wcode (F k) (G k) fr := by
  have e : chk F G fr (k + 1) = wcode (F k) (G k) fr := by simp only [chk]; rw [if_pos h0]
  rw [chk_stay (k := k + 1) (by rw [e]; exact hw) n (by omega), e]
theorem chk_ok {F G : Nat → Int} {fr : Int} {k : Nat} (h0 : chk F G fr k = 0) (hw : wcode (F k) (G k) fr = 0) : chk F G fr (k + 1) = 0 := by
  simp only [chk]
  rw [if_pos h0, hw]
def scp (c : Int) : Int := if c = 0 then 0 else 2

theorem ofconn_any (c : Int) (w : World) : Calls Try.prog 73 #[.int .i64 c] w fun e w' => e = .returned (.agg #[.int .i64 2, .int .i64 c]) ∧ Below w.heap.size w w' := by
  go_enter Try.func73, Try.ntmps73
  go_wp2
  refine bodyPost_ret (v := .agg #[.int .i64 2, .int .i64 c]) ?_ rfl ⟨rfl, (Below.refl _ _).alloc (Nat.le_refl _) _⟩
  rw [results_cellS rfl]
  go_simp
set_option maxHeartbeats 1600000 in
theorem rwrong_ok (id v fr : Int) (w : World) (h : wcode id v fr = 0) : Calls Try.prog 74 #[.agg #[.int .i64 id, .int .i64 v], .int .i64 fr] w fun e w' => e = .returned (.agg #[.int .i64 0, .int .i64 0]) ∧ Below w.heap.size w w' := by
  have hc := w_ok h
  clear h
  rcases hc with ⟨h1, h2, h3, h4, h5, h6⟩ | ⟨h1, h2, h3, h4, h5, h6⟩ | ⟨h1, h2, h3, h4, h5, h6⟩ | ⟨h1, h2, h3, h4, h5, h6⟩ | ⟨h1, h2, h3, h4, h5, h6⟩
  all_goals
    go_enter Try.func74, Try.ntmps74
    go_wp2
    refine bodyPost_ret (v := .agg #[.int .i64 0, .int .i64 0]) ?_ rfl ⟨rfl, ?_⟩
    · rw [results_cellS rfl]
      go_simp
    · repeat (first | exact Below.refl _ _ | refine Below.setCell ?_ (by simp) _ | refine Below.alloc ?_ (by simp) _)
set_option maxHeartbeats 1600000 in
theorem rwrong_bad (id v fr c : Int) (w : World) (h : WBad id v fr c) : Calls Try.prog 74 #[.agg #[.int .i64 id, .int .i64 v], .int .i64 fr] w fun e w' => e = .returned (.agg #[.int .i64 2, .int .i64 c]) ∧ Below w.heap.size w w' := by
  rcases h with ⟨rfl, h1, h2, h3, h4⟩ | ⟨rfl, h1, h2, h3, h4⟩ | ⟨rfl, h1, h2, h3, h4⟩ | ⟨rfl, h1, h2, h3, h4⟩ | ⟨rfl, h1, h2, h3, h4⟩
  all_goals
    try obtain ⟨h4, h5⟩ := h4
    go_enter Try.func74, Try.ntmps74
    go_wp2
    refine bodyPost_ret ?_ rfl ⟨rfl, ?_⟩
    · rw [results_cellS rfl]
      go_simp
    · repeat (first | exact Below.refl _ _ | refine Below.setCell ?_ (by simp) _ | refine Below.alloc ?_ (by simp) _)

set_option maxHeartbeats 6400000 in
theorem check_any (A : Option Addr) (n c : Nat) (F G : Nat → Int) (fr : Int) (w : World) (ha : Rd2 w A n c F G) (hn : n ≤ 100000) :
    Calls Try.prog 42 #[.slice A n c, .int .i64 fr] w fun e w' => e = .returned (.tuple #[.agg #[.int .i64 (scp (chk F G fr n)), .int .i64 (chk F G fr n)], .bool (chk F G fr n == 0)]) ∧ Below w.heap.size w w' := by
  have Ha := hide ha
  clear ha
  obtain ⟨C, hC⟩ : ∃ C, chk F G fr n = C := ⟨_, rfl⟩
  have HC := hide hC
  rw [hC]
  clear hC
  have R0 := hide (heap_alloc_new w (.cells #[.int .i64 0, .int .i64 0] 79))
  have hB0 : Hid (Below w.heap.size w (w.alloc (.cells #[.int .i64 0, .int .i64 0] 79))) := (Below.refl _ _).alloc (Nat.le_refl _) _
  go_enter Try.func42, Try.ntmps42
  go_wp2
  go_loopw [10] (fun i wr => ∃ k : Nat, k ≤ n ∧ i = .int .i64 k ∧ chk F G fr k = 0 ∧ wr.heap[w.heap.size]? = some (.cells #[.int .i64 0, .int .i64 0] 79 (0, 0)) ∧ Below w.heap.size w wr) (fun i _ => n - (intOf i).toNat)
  case atStart => exact ⟨0, Nat.zero_le _, rfl, rfl, R0.out, hB0.out⟩
  case round =>
    obtain ⟨k, hk, rfl, hck, hR, hB⟩ := hrel
    have Hck := hide hck
    have HR := hide hR
    have HB := hide hB
    have hsz := hB.size
    have hlR := rowLt hR
    clear hck hR hB
    by_cases hlt : k < n
    · obtain ⟨b0, off, rfl, hc0, hc1⟩ := (Ha.out.below HB.out).at_ hlt
      have hkn : (k : Int) < (n : Int) := by omega
      have HBb := hide (HB.out.alloc hsz (.cells #[.int .i64 (F k), .int .i64 (G k)] 110))
      have HRb := hide (keepRow HR.out ((Below.refl _ _).alloc (Nat.le_refl _) (.cells #[.int .i64 (F k), .int .i64 (G k)] 110)))
      by_cases hw : wcode (F k) (G k) fr = 0
      · have Hnext := hide (chk_ok Hck.out hw)
        have hcs := w_ok hw
        clear hw
        rcases hcs with ⟨h1, h2, h3, h4, h5, h6⟩ | ⟨h1, h2, h3, h4, h5, h6⟩ | ⟨h1, h2, h3, h4, h5, h6⟩ | ⟨h1, h2, h3, h4, h5, h6⟩ | ⟨h1, h2, h3, h4, h5, h6⟩
        all_goals
          go_wp2_with fail
          go_roundw
          case rel => exact ⟨k + 1, by omega, by go_num, Hnext.out, HRb.out, HBb.out⟩
          case measure => simp [intOf]; omega
      · have hC' : Hid (C = wcode (F k) (G k) fr) := by rw [← HC.out]; exact chk_bad Hck.out hlt hw
        have hcs := w_bad hw
        rw [← hC'.out] at hcs hw
        clear hw hC' HC
        rcases hcs with ⟨rfl, h1, h2, h3, h4⟩ | ⟨rfl, h1, h2, h3, h4⟩ | ⟨rfl, h1, h2, h3, h4⟩ | ⟨rfl, h1, h2, h3, h4⟩ | ⟨rfl, h1, h2, h3, h4⟩
        all_goals
          try obtain ⟨h4, h5⟩ := h4
          go_wp2_with fail
          refine (ofconn_any _ _).mono ?_
          rintro e w1 ⟨rfl, hb1⟩
          have R1 := hide (keepRow HRb.out hb1)
          have HB1 := hide (HBb.out.of hb1)
          clear hb1
          obtain ⟨q0, q1⟩ := row2 R1.out
          have z0 := frozenRow R1.out 0
          have z1 := frozenRow R1.out 1
          go_wp2_with fail
          first
            | refine bodyPost_ret (v := .tuple #[.agg #[.int .i64 2, .int .i64 1], .bool false]) ?_ rfl ⟨rfl, ?_⟩
            | refine bodyPost_ret (v := .tuple #[.agg #[.int .i64 2, .int .i64 3], .bool false]) ?_ rfl ⟨rfl, ?_⟩
          · rw [results_cell_tmp rfl]
            go_simp
          · exact (HB1.out.setCell (Nat.le_refl _) _).setCell (Nat.le_refl _) _
    · obtain rfl : k = n := by omega
      obtain ⟨q0, q1⟩ := row2 HR.out
      have z0 := frozenRow HR.out 0
      have z1 := frozenRow HR.out 1
      have hC0 : C = 0 := by rw [← HC.out]; exact Hck.out
      subst hC0
      go_wp2_with fail
      refine bodyPost_ret (v := .tuple #[.agg #[.int .i64 0, .int .i64 0], .bool true]) ?_ rfl ⟨rfl, ?_⟩
      · rw [results_cell_tmp rfl]
        go_simp
      · exact (HB.out.setCell (Nat.le_refl _) _).setCell (Nat.le_refl _) _

set_option maxHeartbeats 6400000 in
theorem rcheck_any (A : Option Addr) (n c : Nat) (F G : Nat → Int) (fr : Int) (w : World) (ha : Rd2 w A n c F G) (hn : n ≤ 100000) :
    Calls Try.prog 43 #[.slice A n c, .int .i64 fr] w fun e w' => e = .returned (.tuple #[.agg #[.int .i64 (scp (chk F G fr n)), .int .i64 (chk F G fr n)], .bool (chk F G fr n == 0)]) ∧ Below w.heap.size w w' := by
  have Ha := hide ha
  clear ha
  obtain ⟨C, hC⟩ : ∃ C, chk F G fr n = C := ⟨_, rfl⟩
  have HC := hide hC
  rw [hC]
  clear hC
  have R0 := hide (heap_alloc_new w (.cells #[.int .i64 0, .int .i64 0] 79))
  have hB0 : Hid (Below w.heap.size w (w.alloc (.cells #[.int .i64 0, .int .i64 0] 79))) := (Below.refl _ _).alloc (Nat.le_refl _) _
  go_enter Try.func43, Try.ntmps43
  go_wp2
  go_loopw [6] (fun i wr => ∃ k : Nat, k ≤ n ∧ i = .int .i64 k ∧ chk F G fr k = 0 ∧ wr.heap[w.heap.size]? = some (.cells #[.int .i64 0, .int .i64 0] 79 (0, 0)) ∧ Below w.heap.size w wr) (fun i _ => n - (intOf i).toNat)
  case atStart => exact ⟨0, Nat.zero_le _, rfl, rfl, R0.out, hB0.out⟩
  case round =>
    obtain ⟨k, hk, rfl, hck, hR, hB⟩ := hrel
    have Hck := hide hck
    have HR := hide hR
    have HB := hide hB
    have hsz := hB.size
    have hlR := rowLt hR
    clear hck hR hB
    by_cases hlt : k < n
    · obtain ⟨b0, off, rfl, hc0, hc1⟩ := (Ha.out.below HB.out).at_ hlt
      have hkn : (k : Int) < (n : Int) := by omega
      by_cases hw : wcode (F k) (G k) fr = 0
      · have Hnext := hide (chk_ok Hck.out hw)
        have Hw := hide hw
        clear hw
        go_wp2_with fail
        refine (rwrong_ok (F k) (G k) fr _ Hw.out).mono ?_
        rintro e w1 ⟨rfl, hb1⟩
        have R1 := hide (keepRow HR.out hb1)
        have HB1 := hide (HB.out.of hb1)
        have hs1 := HB1.out.size
        have R2 := hide (keepRow R1.out ((Below.refl _ _).alloc (Nat.le_refl _) (.cells #[.int .i64 0, .int .i64 0] 79)))
        clear hb1
        go_wp2_with fail
        go_roundw
        case rel => exact ⟨k + 1, by omega, by go_num, Hnext.out, R2.out, HB1.out.alloc hs1 _⟩
        case measure => simp [intOf]; omega
      · have hC' : Hid (C = wcode (F k) (G k) fr) := by rw [← HC.out]; exact chk_bad Hck.out hlt hw
        have hcs := w_bad hw
        rw [← hC'.out] at hcs hw
        have Hcs := hide hcs
        have hC13 : C = 1 ∨ C = 3 := by
          unfold WBad at hcs
          omega
        clear hw hC' HC hcs
        rcases hC13 with rfl | rfl
        all_goals
          go_wp2_with fail
          refine (rwrong_bad (F k) (G k) fr _ _ Hcs.out).mono ?_
          rintro e w1 ⟨rfl, hb1⟩
          have R1 := hide (keepRow HR.out hb1)
          have HB1 := hide (HB.out.of hb1)
          have hs1 := HB1.out.size
          have hl1 := rowLt R1.out
          clear hb1
          obtain ⟨q0, q1⟩ := row2 R1.out
          have z0 := frozenRow R1.out 0
          have z1 := frozenRow R1.out 1
          have hne : w.heap.size ≠ w1.heap.size := by omega
          go_wp2_with fail
          first
            | refine bodyPost_ret (v := .tuple #[.agg #[.int .i64 2, .int .i64 1], .bool false]) ?_ rfl ⟨rfl, ?_⟩
            | refine bodyPost_ret (v := .tuple #[.agg #[.int .i64 2, .int .i64 3], .bool false]) ?_ rfl ⟨rfl, ?_⟩
          · rw [results_cell_tmp rfl]
            go_simp
          · repeat (first | exact HB1.out | refine Below.setCell ?_ (by simp) _ | refine Below.alloc ?_ (by first | omega | (simp; omega) | simp [World.setCell, hs1]) _)
    · obtain rfl : k = n := by omega
      obtain ⟨q0, q1⟩ := row2 HR.out
      have z0 := frozenRow HR.out 0
      have z1 := frozenRow HR.out 1
      have hC0 : C = 0 := by rw [← HC.out]; exact Hck.out
      subst hC0
      go_wp2_with fail
      refine bodyPost_ret (v := .tuple #[.agg #[.int .i64 0, .int .i64 0], .bool true]) ?_ rfl ⟨rfl, ?_⟩
      · rw [results_cell_tmp rfl]
        go_simp
      · exact (HB.out.setCell (Nat.le_refl _) _).setCell (Nat.le_refl _) _

set_option maxHeartbeats 1600000 in
theorem checks_walk (A : Option Addr) (n c : Nat) (F G : Nat → Int) (fr : Int) (w : World) (ha : Rd2 w A n c F G) : Calls Try.prog 10 #[.slice A n c, .int .i64 fr] w (Yes w) := by
  have Ha := hide ha
  clear ha
  by_cases hl : 100 < n
  · have hd : decide ((100 : Int) < (n : Int)) = true := by simp; omega
    go_enter Try.func10, Try.ntmps10
    go_wp2_with fail
    refine (alive13 _).mono ?_
    rintro e w4 ⟨rfl, hb4⟩
    go_wp2_with fail
    go_ret
    exact ⟨rfl, hb4⟩
  have hd : decide ((100 : Int) < (n : Int)) = false := by simp; omega
  go_enter Try.func10, Try.ntmps10
  go_wp2_with fail
  refine (check_any A n c F G fr _ Ha.out (by omega)).mono ?_
  rintro e w1 ⟨rfl, hb1⟩
  have HB1 := hide hb1
  have hs1 := hb1.size
  clear hb1
  go_wp2_with fail
  refine (rcheck_any A n c F G fr _ ((Ha.out.below HB1.out).below ((Below.refl _ _).alloc (Nat.le_refl _) _)) (by omega)).mono ?_
  rintro e w2 ⟨rfl, hb2⟩
  generalize scp (chk F G fr n) = s at *
  generalize (chk F G fr n == 0) = b at *
  generalize chk F G fr n = x at *
  have R1 := hide (keepRow (heap_alloc_new w1 (.cells #[.int .i64 s, .int .i64 x] 79)) hb2)
  have HB2 := hide ((HB1.out.alloc hs1 _).of hb2)
  have hs2 := HB2.out.size
  have hl2 := rowLt R1.out
  obtain ⟨q0, q1⟩ := row2 R1.out
  obtain ⟨d0, d1⟩ := row2 (keepRow R1.out ((Below.refl _ _).alloc (Nat.le_refl _) (.cells #[.int .i64 s, .int .i64 x] 79)))
  have hne : w1.heap.size ≠ w2.heap.size := by omega
  clear hb2
  go_wp2_with fail
  refine (alive13 _).mono ?_
  rintro e w4 ⟨rfl, hb4⟩
  go_wp2_with fail
  go_ret
  exact ⟨rfl, (HB2.out.alloc hs2 _).of hb4⟩
end Go.Proofs.Ytfgifdgbhikegaa
