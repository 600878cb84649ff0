/- Layer 9: may a fault be, which stands ahead, are two rows the same; by the document. -/
import Derived.Test.YtbkdegjkjjdcdaaDoorFb2
namespace Go.Proofs.YtbkdegjkjjdcdaaDoor
set_option linter.unusedVariables false
set_option linter.unusedSimpArgs false
open Go.RowKit Go.PlainAid

set_option maxRecDepth 20000 in
set_option maxHeartbeats 1600000 in
theorem rright09 (s d : Int) (w : World) : Calls Tryd.prog 23 #[.agg #[.int .i64 s, .int .i64 d]] w fun e w' => e = .returned (.bool (rightB s d)) ∧ Below w.heap.size w w' := by
  have R0 := heap_alloc_new w (.cells #[.int .i64 s, .int .i64 d] 31)
  have B0 : Hid (Below w.heap.size w (w.alloc (.cells #[.int .i64 s, .int .i64 d] 31))) := (Below.refl _ _).alloc (Nat.le_refl _) _
  obtain ⟨r0, r1⟩ := row2 R0
  clear R0
  by_cases h1 : s = 1
  · have e1 : (s == 1) = true := by simpa using h1
    by_cases h3 : 0 ≤ d
    · by_cases h4 : d < 4294967296
      · have e3 : decide (0 ≤ d) = true := decide_eq_true h3
        have e4 : decide (d < 4294967296) = true := decide_eq_true h4
        have hz : Hid (rightB s d = true) := by show _ = _; unfold rightB; simp; omega
        generalize rightB s d = z at *
        try clear h4
        try clear h3
        try clear h2
        clear h1
        go_enter Tryd.func23, Tryd.ntmps23
        go_wp2_with fail
        go_ret
        exact ⟨by rw [hz.out]; rfl, B0.out⟩
      · have e3 : decide (0 ≤ d) = true := decide_eq_true h3
        have e4 : decide (d < 4294967296) = false := decide_eq_false h4
        have hz : Hid (rightB s d = false) := by show _ = _; unfold rightB; simp; omega
        generalize rightB s d = z at *
        try clear h4
        try clear h3
        try clear h2
        clear h1
        go_enter Tryd.func23, Tryd.ntmps23
        go_wp2_with fail
        go_ret
        exact ⟨by rw [hz.out]; rfl, B0.out⟩
    · have e3 : decide (0 ≤ d) = false := decide_eq_false h3
      have hz : Hid (rightB s d = false) := by show _ = _; unfold rightB; simp; omega
      generalize rightB s d = z at *
      try clear h4
      try clear h3
      try clear h2
      clear h1
      go_enter Tryd.func23, Tryd.ntmps23
      go_wp2_with fail
      go_ret
      exact ⟨by rw [hz.out]; rfl, B0.out⟩
  · have e1 : (s == 1) = false := by simpa using h1
    by_cases h2 : s = 2
    · have e2 : (s == 2) = true := by simpa using h2
      by_cases h3 : 0 ≤ d
      · by_cases h4 : d < 4294967296
        · have e3 : decide (0 ≤ d) = true := decide_eq_true h3
          have e4 : decide (d < 4294967296) = true := decide_eq_true h4
          have hz : Hid (rightB s d = true) := by show _ = _; unfold rightB; simp; omega
          generalize rightB s d = z at *
          try clear h4
          try clear h3
          try clear h2
          clear h1
          go_enter Tryd.func23, Tryd.ntmps23
          go_wp2_with fail
          go_ret
          exact ⟨by rw [hz.out]; rfl, B0.out⟩
        · have e3 : decide (0 ≤ d) = true := decide_eq_true h3
          have e4 : decide (d < 4294967296) = false := decide_eq_false h4
          have hz : Hid (rightB s d = false) := by show _ = _; unfold rightB; simp; omega
          generalize rightB s d = z at *
          try clear h4
          try clear h3
          try clear h2
          clear h1
          go_enter Tryd.func23, Tryd.ntmps23
          go_wp2_with fail
          go_ret
          exact ⟨by rw [hz.out]; rfl, B0.out⟩
      · have e3 : decide (0 ≤ d) = false := decide_eq_false h3
        have hz : Hid (rightB s d = false) := by show _ = _; unfold rightB; simp; omega
        generalize rightB s d = z at *
        try clear h4
        try clear h3
        try clear h2
        clear h1
        go_enter Tryd.func23, Tryd.ntmps23
        go_wp2_with fail
        go_ret
        exact ⟨by rw [hz.out]; rfl, B0.out⟩
    · have e2 : (s == 2) = false := by simpa using h2
      have hz : Hid (rightB s d = false) := by show _ = _; unfold rightB; simp; omega
      generalize rightB s d = z at *
      try clear h4
      try clear h3
      try clear h2
      clear h1
      go_enter Tryd.func23, Tryd.ntmps23
      go_wp2_with fail
      go_ret
      exact ⟨by rw [hz.out]; rfl, B0.out⟩
/-- Two faults: does one stand ahead? -/
def ltB (x y : Int × Int) : Bool := decide (LtP x y)
set_option maxRecDepth 20000 in
set_option maxHeartbeats 1600000 in
theorem rless09 (a0 a1 b0 b1 : Int) (w : World) : Calls Tryd.prog 25 #[.agg #[.int .i64 a0, .int .i64 a1], .agg #[.int .i64 b0, .int .i64 b1]] w fun e w' => e = .returned (.bool (ltB (a0, a1) (b0, b1))) ∧ Below w.heap.size w w' := by
  have al := (Below.refl w.heap.size w).alloc (Nat.le_refl _) (.cells #[.int .i64 a0, .int .i64 a1] 31)
  have e1 : (w.alloc (.cells #[.int .i64 a0, .int .i64 a1] 31)).heap.size = w.heap.size + 1 := by simp
  have R0 := keepRow (heap_alloc_new w (.cells #[.int .i64 a0, .int .i64 a1] 31)) ((Below.refl _ _).alloc (Nat.le_refl _) (.cells #[.int .i64 b0, .int .i64 b1] 31))
  have R1 := heap_alloc_new (w.alloc (.cells #[.int .i64 a0, .int .i64 a1] 31)) (.cells #[.int .i64 b0, .int .i64 b1] 31)
  rw [e1] at R1
  have B0 := hide (al.alloc al.size (.cells #[.int .i64 b0, .int .i64 b1] 31))
  clear al e1
  obtain ⟨c0, c1⟩ := row2 R0
  obtain ⟨d0, d1⟩ := row2 R1
  clear R0 R1
  obtain ⟨z, hz⟩ : ∃ z, ltB (a0, a1) (b0, b1) = z := ⟨_, rfl⟩
  rw [hz]
  unfold ltB LtP at hz
  simp only at hz
  by_cases h1 : a0 < b0
  · have e1 : decide (a0 < b0) = true := decide_eq_true h1
    have hz2 : Hid (z = true) := by rw [← hz]; exact decide_eq_true (.inl h1)
    clear hz h1
    go_enter Tryd.func25, Tryd.ntmps25
    go_wp2_with fail
    go_ret
    exact ⟨by rw [hz2.out]; rfl, B0.out⟩
  · have e1 : decide (a0 < b0) = false := decide_eq_false h1
    by_cases h2 : a0 = b0
    · have e2 : (a0 == b0) = true := by simpa using h2
      have hz2 : Hid (z = decide (a1 < b1)) := by
        rw [← hz]
        show decide _ = decide _
        congr 1
        simp only [eq_iff_iff]
        omega
      clear hz h1 h2
      go_enter Tryd.func25, Tryd.ntmps25
      go_wp2_with fail
      go_ret
      exact ⟨by rw [hz2.out]; rfl, B0.out⟩
    · have e2 : (a0 == b0) = false := by simpa using h2
      have hz2 : Hid (z = false) := by rw [← hz]; exact decide_eq_false (by omega)
      clear hz h1 h2
      go_enter Tryd.func25, Tryd.ntmps25
      go_wp2_with fail
      go_ret
      exact ⟨by rw [hz2.out]; rfl, B0.out⟩
set_option maxRecDepth 20000 in
set_option maxHeartbeats 1600000 in
theorem less09 (a0 a1 b0 b1 : Int) (w : World) : Calls Tryd.prog 24 #[.agg #[.int .i64 a0, .int .i64 a1], .agg #[.int .i64 b0, .int .i64 b1]] w fun e w' => e = .returned (.bool (ltB (a0, a1) (b0, b1))) ∧ Below w.heap.size w w' := by
  have al := (Below.refl w.heap.size w).alloc (Nat.le_refl _) (.cells #[.int .i64 a0, .int .i64 a1] 31)
  have e1 : (w.alloc (.cells #[.int .i64 a0, .int .i64 a1] 31)).heap.size = w.heap.size + 1 := by simp
  have R0 := keepRow (heap_alloc_new w (.cells #[.int .i64 a0, .int .i64 a1] 31)) ((Below.refl _ _).alloc (Nat.le_refl _) (.cells #[.int .i64 b0, .int .i64 b1] 31))
  have R1 := heap_alloc_new (w.alloc (.cells #[.int .i64 a0, .int .i64 a1] 31)) (.cells #[.int .i64 b0, .int .i64 b1] 31)
  rw [e1] at R1
  have B0 := hide (al.alloc al.size (.cells #[.int .i64 b0, .int .i64 b1] 31))
  clear al e1
  obtain ⟨c0, c1⟩ := row2 R0
  obtain ⟨d0, d1⟩ := row2 R1
  clear R0 R1
  have hz : Hid (ltB (a0, a1) (b0, b1) = decide (cmpF a0 a1 b0 b1 < 0)) := by
    show decide _ = decide _
    congr 1
    rw [eq_iff_iff]
    exact (cmpF_neg _ _ _ _).symm
  have K := hide (fun W => compare09 a0 a1 b0 b1 W)
  obtain ⟨x, hx⟩ : ∃ x, cmpF a0 a1 b0 b1 = x := ⟨_, rfl⟩
  rw [hx] at hz K
  generalize ltB (a0, a1) (b0, b1) = z at *
  clear hx
  go_enter Tryd.func24, Tryd.ntmps24
  go_wp2_with fail
  refine (K.out _).mono ?_
  rintro e w2 ⟨rfl, q, os, rfl⟩
  go_wp2_with fail
  go_ret
  exact ⟨by rw [hz.out]; rfl, B0.out.of (below_grow)⟩
end Go.Proofs.YtbkdegjkjjdcdaaDoor
