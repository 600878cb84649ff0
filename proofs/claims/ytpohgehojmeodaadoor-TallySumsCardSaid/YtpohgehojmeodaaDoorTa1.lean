/- Layer 29: the parts of the program's tally. -/
import Derived.Test.YtpohgehojmeodaaDoorMg5
import Derived.Deep.Cut
namespace Go.Proofs.YtpohgehojmeodaaDoor
set_option linter.unusedVariables false
set_option linter.unusedSimpArgs false
open Go.RowKit Go.PlainAid

theorem results_cellT {fn : Func} {p : Tmp} {ty : TypeId} (h : fn.results = #[.cell p ty]) (tmps : Array Value) (P : Program) (w : World) :
    (results fn tmps).run P w = ((asAddr (tmps.getD p undef)).run P w).andThen fun a w' => (loadVar ty a).run P w' := by
  simp [results, h]
theorem asks29 (w : World) : Calls Tryd.prog 92 #[] w fun e w' => e = .returned (.agg #[.int .i64 0, .int .i64 0, .int .i64 0, .int .i64 0]) ∧ Below w.heap.size w w' := by
  go_enter Tryd.func92, Tryd.ntmps92
  go_wp2
  refine bodyPost_ret (v := .agg #[.int .i64 0, .int .i64 0, .int .i64 0, .int .i64 0]) ?_ rfl ⟨rfl, ?_⟩
  · rw [results_cellT rfl]
    go_simp
  · go_grown
theorem heap3m (w : World) (a1 a2 a3 : Array Value) (T1 T2 T3 : TypeId) : (((w.alloc (.cells a1 T1)).alloc (.cells a2 T2)).alloc (.cells a3 T3)).heap[w.heap.size]? = some (.cells a1 T1 (0, 0)) ∧ (((w.alloc (.cells a1 T1)).alloc (.cells a2 T2)).alloc (.cells a3 T3)).heap[w.heap.size + 1]? = some (.cells a2 T2 (0, 0)) ∧ (((w.alloc (.cells a1 T1)).alloc (.cells a2 T2)).alloc (.cells a3 T3)).heap[w.heap.size + 1 + 1]? = some (.cells a3 T3 (0, 0)) ∧ Below w.heap.size w (((w.alloc (.cells a1 T1)).alloc (.cells a2 T2)).alloc (.cells a3 T3)) := by
  refine ⟨keepRow (keepRow (heap_alloc_new w (.cells a1 T1)) ((Below.refl _ _).alloc (Nat.le_refl _) (.cells a2 T2))) ((Below.refl _ _).alloc (Nat.le_refl _) (.cells a3 T3)), ?_, ?_, (((Below.refl w.heap.size w).alloc (Nat.le_refl _) _).alloc (by simp) _).alloc (by simp; omega) _⟩
  · have h := keepRow (heap_alloc_new (w.alloc (.cells a1 T1)) (.cells a2 T2)) ((Below.refl _ _).alloc (Nat.le_refl _) (.cells a3 T3))
    have e : (w.alloc (.cells a1 T1)).heap.size = w.heap.size + 1 := by simp
    rw [e] at h
    exact h
  · have h := heap_alloc_new ((w.alloc (.cells a1 T1)).alloc (.cells a2 T2)) (.cells a3 T3)
    have e : ((w.alloc (.cells a1 T1)).alloc (.cells a2 T2)).heap.size = w.heap.size + 1 + 1 := by simp
    rw [e] at h
    exact h
def ansF (m : ByteArray) : Int := if (m.toList == [72, 69, 65, 68]) = true then 2 else if (m.toList == [67, 79, 78, 78, 69, 67, 84]) = true then 3 else 1
theorem answers29 (m : ByteArray) (w : World) : Calls Tryd.prog 63 #[.string m] w fun e w' => e = .returned (.agg #[.int .i64 (ansF m), .int .i64 0, .int .i64 0, .int .i64 0]) ∧ Below w.heap.size w w' := by
  obtain ⟨b1, h1⟩ : ∃ b, (m.toList == [72, 69, 65, 68]) = b := ⟨_, rfl⟩
  obtain ⟨b2, h2⟩ : ∃ b, (m.toList == [67, 79, 78, 78, 69, 67, 84]) = b := ⟨_, rfl⟩
  have H : Hid (ansF m = if b1 = true then 2 else if b2 = true then 3 else 1) := by show _ = _; unfold ansF; rw [h1, h2]
  rw [H.out]
  clear H
  go_enter Tryd.func63, Tryd.ntmps63
  cases b1
  · cases b2
    · go_wp2
      refine bodyPost_ret (v := .agg #[.int .i64 1, .int .i64 0, .int .i64 0, .int .i64 0]) ?_ rfl ⟨rfl, ?_⟩
      · rw [results_cellT rfl]
        go_simp
      · go_grown
    · go_wp2
      refine bodyPost_ret (v := .agg #[.int .i64 3, .int .i64 0, .int .i64 0, .int .i64 0]) ?_ rfl ⟨rfl, ?_⟩
      · rw [results_cellT rfl]
        go_simp
      · go_grown
  · go_wp2
    refine bodyPost_ret (v := .agg #[.int .i64 2, .int .i64 0, .int .i64 0, .int .i64 0]) ?_ rfl ⟨rfl, ?_⟩
    · rw [results_cellT rfl]
      go_simp
    · go_grown
theorem over29 (o p m l : Int) (w : World) : Calls Tryd.prog 66 #[.agg #[.int .i64 o, .int .i64 p, .int .i64 m, .int .i64 l]] w fun e w' => e = .returned (.bool (p == 2)) ∧ Below w.heap.size w w' := by
  obtain ⟨c0, c1, c2, c3⟩ := row4m (heap_alloc_new w (.cells #[.int .i64 o, .int .i64 p, .int .i64 m, .int .i64 l] 63))
  go_enter Tryd.func66, Tryd.ntmps66
  go_wp2
  go_ret
  exact ⟨rfl, by go_grown⟩
theorem interim29 (s : Int) (w : World) : Calls Tryd.prog 133 #[.int .i64 s] w fun e w' => e = .returned (.bool (decide (100 ≤ s) && decide (s ≤ 199))) ∧ w = w' := by
  obtain ⟨b1, h1⟩ : ∃ b, decide (100 ≤ s) = b := ⟨_, rfl⟩
  rw [h1]
  go_enter Tryd.func133, Tryd.ntmps133
  cases b1
  all_goals
    go_wp2
    go_ret
    exact ⟨rfl, rfl⟩
theorem kind29 (o p m l : Int) (w : World) : Calls Tryd.prog 132 #[.agg #[.int .i64 o, .int .i64 p, .int .i64 m, .int .i64 l]] w fun e w' => e = .returned (.int .i64 (if o = 0 then 0 else 1)) ∧ Below w.heap.size w w' := by
  obtain ⟨c0, c1, c2, c3⟩ := row4m (heap_alloc_new w (.cells #[.int .i64 o, .int .i64 p, .int .i64 m, .int .i64 l] 63))
  by_cases h : o = 0
  · have t : (o == 0) = true := by simpa using h
    rw [if_pos h]
    clear h
    go_enter Tryd.func132, Tryd.ntmps132
    go_wp2
    go_ret
    exact ⟨rfl, by go_grown⟩
  · have t : (o == 0) = false := by simpa using h
    rw [if_neg h]
    clear h
    go_enter Tryd.func132, Tryd.ntmps132
    go_wp2
    go_ret
    exact ⟨rfl, by go_grown⟩
def bareB (o s : Int) : Bool := (o == 2) || (s == 204) || (s == 304)
theorem bare29 (o p m l s : Int) (w : World) : Calls Tryd.prog 167 #[.agg #[.int .i64 o, .int .i64 p, .int .i64 m, .int .i64 l], .int .i64 s] w fun e w' => e = .returned (.bool (bareB o s)) ∧ Below w.heap.size w w' := by
  obtain ⟨c0, c1, c2, c3⟩ := row4m (heap_alloc_new w (.cells #[.int .i64 o, .int .i64 p, .int .i64 m, .int .i64 l] 63))
  obtain ⟨b1, h1⟩ : ∃ b, (o == 2) = b := ⟨_, rfl⟩
  obtain ⟨b2, h2⟩ : ∃ b, (s == 204) = b := ⟨_, rfl⟩
  have H : Hid (bareB o s = (b1 || b2 || (s == 304))) := by show _ = _; unfold bareB; rw [h1, h2]
  go_enter Tryd.func167, Tryd.ntmps167
  cases b1 <;> cases b2
  all_goals
    go_wp2
    go_ret
    exact ⟨by rw [H.out]; rfl, by go_grown⟩
def tunnelB (o : Int) (mm : ByteArray) (s : Int) : Bool := if (o == 3) = true then decide (200 ≤ s) && decide (s ≤ 299) else (mm.toList == [67, 79, 78, 78, 69, 67, 84])
theorem tunnel29 (o p m l : Int) (mm : ByteArray) (s N : Int) (T : Bool) (w : World) : Calls Tryd.prog 168 #[.agg #[.int .i64 o, .int .i64 p, .int .i64 m, .int .i64 l], .agg #[.string mm, .int .i64 s, .int .i64 N, .bool T]] w fun e w' => e = .returned (.bool (tunnelB o mm s)) ∧ Below w.heap.size w w' := by
  have R0 := heap_alloc_new w (.cells #[.int .i64 o, .int .i64 p, .int .i64 m, .int .i64 l] 63)
  have al := (Below.refl (w.alloc (.cells #[.int .i64 o, .int .i64 p, .int .i64 m, .int .i64 l] 63)).heap.size (w.alloc (.cells #[.int .i64 o, .int .i64 p, .int .i64 m, .int .i64 l] 63))).alloc (Nat.le_refl _) (.cells #[.string mm, .int .i64 s, .int .i64 N, .bool T] 67)
  obtain ⟨c0, c1, c2, c3⟩ := row4m (keepRow R0 al)
  have R1 := heap_alloc_new (w.alloc (.cells #[.int .i64 o, .int .i64 p, .int .i64 m, .int .i64 l] 63)) (.cells #[.string mm, .int .i64 s, .int .i64 N, .bool T] 67)
  have e : (w.alloc (.cells #[.int .i64 o, .int .i64 p, .int .i64 m, .int .i64 l] 63)).heap.size = w.heap.size + 1 := by simp
  rw [e] at R1
  obtain ⟨d0, d1, d2, d3⟩ := row4m R1
  obtain ⟨b1, h1⟩ : ∃ b, (o == 3) = b := ⟨_, rfl⟩
  obtain ⟨b2, h2⟩ : ∃ b, decide (200 ≤ s) = b := ⟨_, rfl⟩
  have H : Hid (tunnelB o mm s = if b1 = true then b2 && decide (s ≤ 299) else (mm.toList == [67, 79, 78, 78, 69, 67, 84])) := by show _ = _; unfold tunnelB; rw [h1, h2]
  clear R0 al R1 e
  go_enter Tryd.func168, Tryd.ntmps168
  cases b1
  · clear h2
    go_wp2
    go_ret
    exact ⟨by rw [H.out]; rfl, by go_grown⟩
  · cases b2
    all_goals
      go_wp2
      go_ret
      exact ⟨by rw [H.out]; rfl, by go_grown⟩
def endB (m l : Int) : Bool := (m == 2) && decide (0 < l)
theorem end29 (o p m l : Int) (w : World) : Calls Tryd.prog 94 #[.agg #[.int .i64 o, .int .i64 p, .int .i64 m, .int .i64 l]] w fun e w' => e = .returned (.tuple #[.agg #[.int .i64 0, .int .i64 (if endB m l = true then 0 else 2), .int .i64 0, .int .i64 0], .int .i64 (if endB m l = true then 31 else 0)]) ∧ Below w.heap.size w w' := by
  have R0 := heap_alloc_new w (.cells #[.int .i64 o, .int .i64 p, .int .i64 m, .int .i64 l] 63)
  have al := (Below.refl (w.alloc (.cells #[.int .i64 o, .int .i64 p, .int .i64 m, .int .i64 l] 63)).heap.size (w.alloc (.cells #[.int .i64 o, .int .i64 p, .int .i64 m, .int .i64 l] 63))).alloc (Nat.le_refl _) (.cells #[.int .i64 0, .int .i64 0, .int .i64 0, .int .i64 0] 63)
  obtain ⟨c0, c1, c2, c3⟩ := row4m (keepRow R0 al)
  obtain ⟨b1, h1⟩ : ∃ b, (m == 2) = b := ⟨_, rfl⟩
  obtain ⟨b2, h2⟩ : ∃ b, decide (0 < l) = b := ⟨_, rfl⟩
  have H : Hid (endB m l = (b1 && b2)) := by show _ = _; unfold endB; rw [h1, h2]
  rw [H.out]
  clear R0 al H
  go_enter Tryd.func94, Tryd.ntmps94
  cases b1 <;> cases b2
  all_goals
    go_wp2
    first
      | (refine bodyPost_ret (v := .tuple #[.agg #[.int .i64 0, .int .i64 2, .int .i64 0, .int .i64 0], .int .i64 0]) ?_ rfl ⟨rfl, by go_grown⟩
         rw [results_cell_tmp rfl]
         go_simp
         done)
      | (refine bodyPost_ret (v := .tuple #[.agg #[.int .i64 0, .int .i64 0, .int .i64 0, .int .i64 0], .int .i64 31]) ?_ rfl ⟨rfl, by go_grown⟩
         rw [results_cell_tmp rfl]
         go_simp
         done)
/-- What the program keeps behind fields: which phase, which data may come, how many are left. -/
def behM (o : Int) (mm : ByteArray) (s : Int) (T : Bool) : Int := if bareB o s = true then 1 else if (T && !tunnelB o mm s) = true then 2 else 0
def behL (o : Int) (mm : ByteArray) (s N : Int) (T : Bool) : Int := if bareB o s = true then 0 else if (T && !tunnelB o mm s) = true then N else 0
set_option maxRecDepth 20000 in
set_option maxHeartbeats 1600000 in
theorem behind29 (o p m l : Int) (mm : ByteArray) (s N : Int) (T : Bool) (w : World) : Calls Tryd.prog 134 #[.agg #[.int .i64 o, .int .i64 p, .int .i64 m, .int .i64 l], .agg #[.string mm, .int .i64 s, .int .i64 N, .bool T]] w fun e w' => e = .returned (.agg #[.int .i64 0, .int .i64 1, .int .i64 (behM o mm s T), .int .i64 (behL o mm s N T)]) ∧ Below w.heap.size w w' := by
  have h3 := heap3m w #[.int .i64 o, .int .i64 p, .int .i64 m, .int .i64 l] #[.string mm, .int .i64 s, .int .i64 N, .bool T] #[.int .i64 0, .int .i64 0, .int .i64 0, .int .i64 0] 63 67 63
  obtain ⟨r0, r1, r2, e0⟩ := h3
  have R0 := hide r0
  have R1 := hide r1
  have R2 := hide r2
  have E0 := hide e0
  clear r0 r1 r2 e0
  obtain ⟨b, hb⟩ : ∃ b, b = bareB o s := ⟨_, rfl⟩
  obtain ⟨u, hu⟩ : ∃ b, b = tunnelB o mm s := ⟨_, rfl⟩
  have HB := hide hb
  have HU := hide hu
  have HM : Hid (behM o mm s T = if b = true then 1 else if (T && !u) = true then 2 else 0) := by show _ = _; unfold behM; rw [hb, hu]
  have HL : Hid (behL o mm s N T = if b = true then 0 else if (T && !u) = true then N else 0) := by show _ = _; unfold behL; rw [hb, hu]
  rw [HM.out, HL.out]
  clear hb hu HM HL
  go_enter Tryd.func134, Tryd.ntmps134
  go_upto_region 1 with (fail)
  generalize ((w.alloc (.cells #[.int .i64 o, .int .i64 p, .int .i64 m, .int .i64 l] 63)).alloc (.cells #[.string mm, .int .i64 s, .int .i64 N, .bool T] 67)).alloc (.cells #[.int .i64 0, .int .i64 0, .int .i64 0, .int .i64 0] 63) = W0 at *
  obtain ⟨c0, c1, c2, c3⟩ := row4m R0.out
  obtain ⟨d0, d1, d2, d3⟩ := row4m R1.out
  have hp2 : w.heap.size ≤ w.heap.size + 1 + 1 := by omega
  go_wp2_with fail
  refine (bare29 o p m l s _).mono ?_
  rw [← HB.out]
  rintro e w1 ⟨rfl, hb1⟩
  have R0' := hide (keepRow R0.out hb1)
  have R1' := hide (keepRow R1.out hb1)
  have R2' := hide (keepRow R2.out hb1)
  have E1 := hide (E0.out.of hb1)
  clear hb1 c0 c1 c2 c3 d0 d1 d2 d3 R0 R1 R2 E0
  obtain ⟨c0, c1, c2, c3⟩ := row4m R0'.out
  obtain ⟨d0, d1, d2, d3⟩ := row4m R1'.out
  cases b with
  | true =>
    obtain ⟨⟨k0, f0⟩, ⟨k1, f1⟩, ⟨k2, f2⟩, ⟨k3, f3⟩, r5⟩ := store4m R2'.out (.int .i64 0) (.int .i64 1) (.int .i64 1) (.int .i64 0)
    have RR := hide r5
    have EE := hide (below4m E1.out hp2 (.int .i64 0) (.int .i64 1) (.int .i64 1) (.int .i64 0))
    clear r5
    go_wp2_with fail
    obtain ⟨g0, g1, g2, g3⟩ := row4m RR.out
    refine bodyPost_ret (v := .agg #[.int .i64 0, .int .i64 1, .int .i64 1, .int .i64 0]) ?_ rfl ⟨rfl, EE.out⟩
    rw [results_cellT rfl]
    go_simp
  | false =>
    cases T with
    | false =>
      obtain ⟨⟨k0, f0⟩, ⟨k1, f1⟩, ⟨k2, f2⟩, ⟨k3, f3⟩, r5⟩ := store4m R2'.out (.int .i64 0) (.int .i64 1) (.int .i64 0) (.int .i64 0)
      have RR := hide r5
      have EE := hide (below4m E1.out hp2 (.int .i64 0) (.int .i64 1) (.int .i64 0) (.int .i64 0))
      clear r5
      go_wp2_with fail
      obtain ⟨g0, g1, g2, g3⟩ := row4m RR.out
      refine bodyPost_ret (v := .agg #[.int .i64 0, .int .i64 1, .int .i64 0, .int .i64 0]) ?_ rfl ⟨rfl, EE.out⟩
      rw [results_cellT rfl]
      go_simp
    | true =>
      go_wp2_with fail
      refine (tunnel29 o p m l mm s N true _).mono ?_
      rw [← HU.out]
      rintro e w2 ⟨rfl, hb2⟩
      have R1'' := hide (keepRow R1'.out hb2)
      have R2'' := hide (keepRow R2'.out hb2)
      have E2 := hide (E1.out.of hb2)
      clear hb2 c0 c1 c2 c3 d0 d1 d2 d3 R0' R1' R2' E1
      obtain ⟨d0, d1, d2, d3⟩ := row4m R1''.out
      cases u with
      | true =>
        obtain ⟨⟨k0, f0⟩, ⟨k1, f1⟩, ⟨k2, f2⟩, ⟨k3, f3⟩, r5⟩ := store4m R2''.out (.int .i64 0) (.int .i64 1) (.int .i64 0) (.int .i64 0)
        have RR := hide r5
        have EE := hide (below4m E2.out hp2 (.int .i64 0) (.int .i64 1) (.int .i64 0) (.int .i64 0))
        clear r5
        go_wp2_with fail
        obtain ⟨g0, g1, g2, g3⟩ := row4m RR.out
        refine bodyPost_ret (v := .agg #[.int .i64 0, .int .i64 1, .int .i64 0, .int .i64 0]) ?_ rfl ⟨rfl, EE.out⟩
        rw [results_cellT rfl]
        go_simp
      | false =>
        obtain ⟨⟨k0, f0⟩, ⟨k1, f1⟩, ⟨k2, f2⟩, ⟨k3, f3⟩, r5⟩ := store4m R2''.out (.int .i64 0) (.int .i64 1) (.int .i64 2) (.int .i64 N)
        have RR := hide r5
        have EE := hide (below4m E2.out hp2 (.int .i64 0) (.int .i64 1) (.int .i64 2) (.int .i64 N))
        clear r5
        go_wp2_with fail
        obtain ⟨g0, g1, g2, g3⟩ := row4m RR.out
        refine bodyPost_ret (v := .agg #[.int .i64 0, .int .i64 1, .int .i64 2, .int .i64 N]) ?_ rfl ⟨rfl, EE.out⟩
        rw [results_cellT rfl]
        go_simp
end Go.Proofs.YtpohgehojmeodaaDoor
