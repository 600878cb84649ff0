/- Layer 46: the example: what is sent, and whether it may be. -/
import Derived.Test.YtdnfhddahpmnmabDoorMA
import Derived.Test.YtdnfhddahpmnmabDoorVal
import Derived.Test.YtdnfhddahpmnmabDoorLaip
import Derived.Deep.RegionHeld3
import Derived.Deep.Cut
namespace Go.Proofs.YtdnfhddahpmnmabDoor
open Go.RowKit

theorem results_cell46 {fn : Func} {p : Tmp} {ty : TypeId} (h : fn.results = #[.cell p ty]) (tmps : Array Value) (P : Program) (w : World) :
    (results fn tmps).run P w = ((asAddr (tmps.getD p undef)).run P w).andThen fun a w' => (loadVar ty a).run P w' := by
  simp [results, h]
theorem row4I {w : World} {p : Nat} {T : TypeId} {a b c d : Value} (h : w.heap[p]? = some (.cells #[a, b, c, d] T (0, 0))) : w.cell? ⟨p, 0, none⟩ = some a ∧ w.cell? ⟨p, 1, none⟩ = some b ∧ w.cell? ⟨p, 2, none⟩ = some c ∧ w.cell? ⟨p, 3, none⟩ = some d := by
  refine ⟨?_, ?_, ?_, ?_⟩ <;> simp [World.cell?, h]
set_option maxRecDepth 20000 in
set_option maxHeartbeats 1600000 in
theorem new45 (w : World) : Calls Tryd.prog 84 #[.int .i64 0] w fun e w' => e = .returned ((.agg #[.int .i64 0, .slice none 0 0, .int .i64 1, .int .i64 1])) ∧ Below w.heap.size w w' := by
  have al := (Below.refl w.heap.size w).alloc (Nat.le_refl _) (.cells #[.int .i64 0, .slice none 0 0, .int .i64 1, .int .i64 1] 129)
  have E0 := hide al
  clear al
  go_enter Tryd.func84, Tryd.ntmps84
  go_wp2_with fail
  refine bodyPost_ret (v := (.agg #[.int .i64 0, .slice none 0 0, .int .i64 1, .int .i64 1])) ?_ rfl ⟨rfl, ?_⟩
  · rw [results_cell46 rfl]
    go_simp
  · go_grown
set_option maxRecDepth 20000 in
set_option maxHeartbeats 1600000 in
theorem copies45 (w : World) : Calls Tryd.prog 115 #[.slice none 0 0] w fun e w' => e = .returned (.slice none 0 0) ∧ w = w' := by
  go_enter Tryd.func115, Tryd.ntmps115
  go_wp2
  go_loopw [3, 8] (fun l i wr => l = .slice none 0 0 ∧ i = .int .i64 0 ∧ w = wr) (fun _ i _ => 5 - (intOf i).toNat)
  case atStart => exact ⟨rfl, rfl, rfl⟩
  case round =>
    obtain ⟨rfl, rfl, rfl⟩ := hrel
    go_wp2
    go_ret
    exact ⟨rfl, rfl⟩
set_option maxRecDepth 20000 in
theorem noughts46 (w : World) : Calls Tryd.prog 87 #[.int .i64 7] w fun e w' => ∃ A c, e = .returned (.slice A 7 c) ∧ Below w.heap.size w w' := by
  obtain ⟨i0, hi, hz0, hz1, hz2⟩ := info_parts u8_info
  go_enter Tryd.func87, Tryd.ntmps87
  go_wp2_with (at_make; refine wp_mk rfl _ _ _ rfl i0 0 1 Tryd.underlying28 hi hz0 hz1 hz2 w.heap.size _ _ _ _ 7 rfl rfl rfl rfl (by decide) (by simp [maxLen]) (Nat.le_refl _) ?_; intro w1 hown hg hs1)
  have B1 : Below w.heap.size w w1 := ⟨hg.os, hg.tape, hg.output, hg.size, fun i hi => hg.block i hi (by simp)⟩
  obtain ⟨A1, c1, e1, hr1, _⟩ := hown.rd
  rw [e1]
  clear hown hg hr1
  have HB := hide B1
  clear B1
  go_ret
  exact ⟨_, _, rfl, HB.out⟩
/-- One frame of type 6 with seven bytes: a slice of one, whose cells are known. -/
def Raw46 (s : Int) (w : World) (e : Ending) (w' : World) : Prop := ∃ p A c, e = .returned (.slice (some ⟨p, 0, none⟩) 1 1) ∧ w.heap.size ≤ p ∧ w'.heap[p]? = some (.cells #[.int .i64 s, .int .i64 6, .int .i64 0, .int .i64 0, .bool false, .slice A 7 c] 53 (0, 0)) ∧ Below w.heap.size w w'
theorem one46 (A : Option Addr) (c : Nat) (w : World) : Calls Tryd.prog 86 #[.int .i64 6, .int .i64 0, .int .i64 0, .slice A 7 c] w (Raw46 0 w) := by
  have al := (Below.refl w.heap.size w).alloc (Nat.le_refl _) (.cells #[.int .i64 0, .int .i64 6, .int .i64 0, .int .i64 0, .bool false, .slice A 7 c] 53)
  have R0 := hide (heap_alloc_new w (.cells #[.int .i64 0, .int .i64 6, .int .i64 0, .int .i64 0, .bool false, .slice A 7 c] 53))
  have E0 := hide al
  clear al
  go_enter Tryd.func86, Tryd.ntmps86
  go_wp2_with fail
  go_ret
  exact ⟨_, _, _, rfl, Nat.le_refl _, R0.out, E0.out⟩
set_option maxRecDepth 100000 in
theorem frames46 (w : World) : Calls Tryd.prog 61 #[.int .i64 2, .int .i64 1] w (Raw46 0 w) := by
  go_enter Tryd.func61, Tryd.ntmps61
  go_wp2_with fail
  refine (noughts46 _).mono ?_
  rintro e w1 ⟨A, c, rfl, hb⟩
  have HB := hide hb
  clear hb
  go_wp2_with fail
  refine (one46 A c _).mono ?_
  rintro e w2 ⟨p, A, c, rfl, hp, hr, hb⟩
  have H2 := hide (HB.out.of hb)
  have HP := hide (show w.heap.size ≤ p by have := HB.out.size; omega)
  have HR := hide hr
  clear hb hr hp HB
  go_wp2_with fail
  go_ret
  exact ⟨p, A, c, rfl, HP.out, HR.out, H2.out⟩
theorem drew46 {w : World} {p : Nat} {x : Option Obj} (h : w.heap[p]? = x) : w.drew.heap[p]? = x := h
theorem heapNe46 {w : World} {p q j : Nat} {v : Value} {x : Option Obj} (hn : q ≠ p) (h : w.heap[q]? = x) : (w.setCell ⟨p, j, none⟩ v).heap[q]? = x := by
  rw [← h]
  exact Below.heap_setCell _ ⟨p, j, none⟩ _ _ hn
theorem row2I {w : World} {p : Nat} {T : TypeId} {a b : Value} (h : w.heap[p]? = some (.cells #[a, b] T (0, 0))) : w.cell? ⟨p, 0, none⟩ = some a ∧ w.cell? ⟨p, 1, none⟩ = some b := by
  refine ⟨?_, ?_⟩ <;> simp [World.cell?, h]
theorem store4I {w : World} {p : Nat} {T : TypeId} {a0 a1 a2 a3 : Value} (h : w.heap[p]? = some (.cells #[a0, a1, a2, a3] T (0, 0))) (b0 b1 b2 b3 : Value) :
    (w.cell? ⟨p, 0, none⟩ = some a0 ∧ w.frozen? ⟨p, 0, none⟩ = false) ∧
    ((w.setCell ⟨p, 0, none⟩ b0).cell? ⟨p, 1, none⟩ = some a1 ∧ (w.setCell ⟨p, 0, none⟩ b0).frozen? ⟨p, 1, none⟩ = false) ∧
    (((w.setCell ⟨p, 0, none⟩ b0).setCell ⟨p, 1, none⟩ b1).cell? ⟨p, 2, none⟩ = some a2 ∧ ((w.setCell ⟨p, 0, none⟩ b0).setCell ⟨p, 1, none⟩ b1).frozen? ⟨p, 2, none⟩ = false) ∧
    ((((w.setCell ⟨p, 0, none⟩ b0).setCell ⟨p, 1, none⟩ b1).setCell ⟨p, 2, none⟩ b2).cell? ⟨p, 3, none⟩ = some a3 ∧ (((w.setCell ⟨p, 0, none⟩ b0).setCell ⟨p, 1, none⟩ b1).setCell ⟨p, 2, none⟩ b2).frozen? ⟨p, 3, none⟩ = false) ∧
    ((((w.setCell ⟨p, 0, none⟩ b0).setCell ⟨p, 1, none⟩ b1).setCell ⟨p, 2, none⟩ b2).setCell ⟨p, 3, none⟩ b3).heap[p]? = some (.cells #[b0, b1, b2, b3] T (0, 0)) := by
  have h1 := setRow w p 0 b0 h
  have h2 := setRow _ p 1 b1 h1
  have h3 := setRow _ p 2 b2 h2
  have h4 := setRow _ p 3 b3 h3
  simp only [List.setIfInBounds_toArray, List.set_cons_zero, List.set_cons_succ] at h1 h2 h3 h4
  have r : ∀ {W : World} {v0 v1 v2 v3 : Value}, W.heap[p]? = some (.cells #[v0, v1, v2, v3] T (0, 0)) → W.cell? ⟨p, 0, none⟩ = some v0 ∧ W.cell? ⟨p, 1, none⟩ = some v1 ∧ W.cell? ⟨p, 2, none⟩ = some v2 ∧ W.cell? ⟨p, 3, none⟩ = some v3 := fun h => by
    refine ⟨?_, ?_, ?_, ?_⟩ <;> simp [World.cell?, h]
  exact ⟨⟨(r h).1, frozenRow h 0⟩, ⟨(r h1).2.1, frozenRow h1 1⟩, ⟨(r h2).2.2.1, frozenRow h2 2⟩, ⟨(r h3).2.2.2, frozenRow h3 3⟩, h4⟩
theorem abs46 {p : World → Prop} (W0 : World) (R : World → Prop) (h0 : R W0) (h : ∀ W, R W → p W) : p W0 := h W0 h0
theorem below46 {B : Nat} {w W : World} (h : Below B w W) {p : Nat} (hp : B ≤ p) (j0 j1 j2 : Nat) (v0 v1 v2 : Value) : Below B w (((W.setCell ⟨p, j0, none⟩ v0).setCell ⟨p, j1, none⟩ v1).setCell ⟨p, j2, none⟩ v2) := ((h.setCell hp v0).setCell hp v1).setCell hp v2
theorem below46b {B : Nat} {w W : World} (h : Below B w W) {p : Nat} (hp : B ≤ p) (v0 v1 v2 v3 : Value) : Below B w ((((W.setCell ⟨p, 0, none⟩ v0).setCell ⟨p, 1, none⟩ v1).setCell ⟨p, 2, none⟩ v2).setCell ⟨p, 3, none⟩ v3) := (((h.setCell hp v0).setCell hp v1).setCell hp v2).setCell hp v3
theorem stay46 {D : World} {p0 p1 : Nat} {T U : TypeId} {a b : Int} (n1 : p1 ≠ p0) (h0 : D.heap[p0]? = some (.cells #[.int .i64 0, .slice none 0 0, .int .i64 a, .int .i64 b] T (0, 0))) (h1 : D.heap[p1]? = some (.cells #[.int .i64 2, .int .i64 1] U (0, 0))) : D.cell? ⟨p0, 1, none⟩ = some (.slice none 0 0) ∧ D.cell? ⟨p1, 0, none⟩ = some (.int .i64 2) ∧ D.cell? ⟨p1, 1, none⟩ = some (.int .i64 1) :=
  ⟨(row4I h0).2.1, (row2I h1).1, (row2I h1).2⟩
set_option maxRecDepth 20000 in
set_option maxHeartbeats 3200000 in
theorem ending45 (w : World) : Calls Tryd.prog 85 #[.agg #[.int .i64 0, .slice none 0 0, .int .i64 1, .int .i64 1], .agg #[.int .i64 2, .int .i64 1]] w fun e w' => e = .returned (.agg #[.int .i64 0, .slice none 0 0, .int .i64 2, .int .i64 1]) ∧ Below w.heap.size w w' := by
  have e0 := (Below.refl w.heap.size w).alloc (Nat.le_refl _) (.cells #[.int .i64 0, .slice none 0 0, .int .i64 1, .int .i64 1] 129)
  have e1 := e0.alloc e0.size (.cells #[.int .i64 2, .int .i64 1] 85)
  have e2 := e1.alloc e1.size (.cells #[.int .i64 0, .slice none 0 0, .int .i64 0, .int .i64 0] 129)
  have r0 := heap_alloc_new w (.cells #[.int .i64 0, .slice none 0 0, .int .i64 1, .int .i64 1] 129)
  have r1 := heap_alloc_new (w.alloc (.cells #[.int .i64 0, .slice none 0 0, .int .i64 1, .int .i64 1] 129)) (.cells #[.int .i64 2, .int .i64 1] 85)
  have r2 := heap_alloc_new ((w.alloc (.cells #[.int .i64 0, .slice none 0 0, .int .i64 1, .int .i64 1] 129)).alloc (.cells #[.int .i64 2, .int .i64 1] 85)) (.cells #[.int .i64 0, .slice none 0 0, .int .i64 0, .int .i64 0] 129)
  have x0 := keepRow (keepRow r0 ((Below.refl _ _).alloc (Nat.le_refl _) (.cells #[.int .i64 2, .int .i64 1] 85))) ((Below.refl _ _).alloc (Nat.le_refl _) (.cells #[.int .i64 0, .slice none 0 0, .int .i64 0, .int .i64 0] 129))
  have x1 := keepRow r1 ((Below.refl _ _).alloc (Nat.le_refl _) (.cells #[.int .i64 0, .slice none 0 0, .int .i64 0, .int .i64 0] 129))
  have z1 : (w.alloc (.cells #[.int .i64 0, .slice none 0 0, .int .i64 1, .int .i64 1] 129)).heap.size = w.heap.size + 1 := by simp
  have z2 : ((w.alloc (.cells #[.int .i64 0, .slice none 0 0, .int .i64 1, .int .i64 1] 129)).alloc (.cells #[.int .i64 2, .int .i64 1] 85)).heap.size = w.heap.size + 1 + 1 := by simp
  rw [z1] at x1
  rw [z2] at r2
  have R0 := hide x0
  have R1 := hide x1
  have R2 := hide r2
  have E0 := hide e2
  clear e0 e1 e2 r0 r1 r2 x0 x1 z1 z2
  go_enter Tryd.func85, Tryd.ntmps85
  go_upto_region 1 with (fail)
  generalize hV : ((w.alloc (.cells #[.int .i64 0, .slice none 0 0, .int .i64 1, .int .i64 1] 129)).alloc (.cells #[.int .i64 2, .int .i64 1] 85)).alloc (.cells #[.int .i64 0, .slice none 0 0, .int .i64 0, .int .i64 0] 129) = V at *
  clear hV
  have n01 : w.heap.size ≠ w.heap.size + 1 := by omega
  have n02 : w.heap.size ≠ w.heap.size + 1 + 1 := by omega
  have n10 : w.heap.size + 1 ≠ w.heap.size := by omega
  have n20 : w.heap.size + 1 + 1 ≠ w.heap.size := by omega
  generalize hp2 : w.heap.size + 1 + 1 = p2 at *
  generalize hp1 : w.heap.size + 1 = p1 at *
  generalize hp0 : w.heap.size = p0 at *
  have Z0 := R0.out
  have Z1 := R1.out
  have Z2 := R2.out
  have a0 := setRow V p0 1 (.slice none 0 0) Z0
  have a1 := setRow V p0 2 (.int .i64 2) Z0
  simp only [List.setIfInBounds_toArray, List.set_cons_zero, List.set_cons_succ] at a0 a1
  have a2 := setRow _ p0 2 (.int .i64 2) a0
  have a3 := setRow _ p0 3 (.int .i64 1) a1
  simp only [List.setIfInBounds_toArray, List.set_cons_zero, List.set_cons_succ] at a2 a3
  have a4 := setRow _ p0 3 (.int .i64 1) a2
  have a5 := setRow _ p0 1 (.slice none 0 0) a3
  simp only [List.setIfInBounds_toArray, List.set_cons_zero, List.set_cons_succ] at a4 a5
  have S0 := hide (stay46 n10 Z0 Z1)
  have S1 := hide (stay46 n10 a0 (heapNe46 n10 Z1))
  have S2 := hide (stay46 n10 a4 (heapNe46 n10 (heapNe46 n10 (heapNe46 n10 Z1))))
  have S3 := hide (stay46 n10 a3 (heapNe46 n10 (heapNe46 n10 Z1)))
  have S4 := hide (stay46 n10 a5 (heapNe46 n10 (heapNe46 n10 (heapNe46 n10 Z1))))
  have k1 := (row4I Z0).2.1
  have f1 := frozenRow Z0 1
  have k2 := (row4I Z0).2.2.1
  have f2 := frozenRow Z0 2
  have k3 := (row4I a0).2.2.1
  have f3 := frozenRow a0 2
  have k4 := (row4I a2).2.2.2
  have f4 := frozenRow a2 3
  have k5 := (row4I a1).2.2.2
  have f5 := frozenRow a1 3
  have k6 := (row4I a3).2.1
  have f6 := frozenRow a3 1
  have F1 := hide a4
  have F2 := hide a5
  have Y1 := hide (heapNe46 (j := 3) (v := .int .i64 1) n20 (heapNe46 (j := 2) (v := .int .i64 2) n20 (heapNe46 (j := 1) (v := .slice none 0 0) n20 Z2)))
  have Y2 := hide (heapNe46 (j := 1) (v := .slice none 0 0) n20 (heapNe46 (j := 3) (v := .int .i64 1) n20 (heapNe46 (j := 2) (v := .int .i64 2) n20 Z2)))
  clear Z0 Z1 Z2 a0 a1 a2 a3 a4 a5 R0 R1 R2
  go_region_held3 (fun W : World => W.cell? ⟨p0, 1, none⟩ = some (.slice none 0 0) ∧ W.cell? ⟨p1, 0, none⟩ = some (.int .i64 2) ∧ W.cell? ⟨p1, 1, none⟩ = some (.int .i64 1))
    ((simp only [World.cell?_drew]; first | with_reducible exact S0.out | with_reducible exact S1.out | with_reducible exact S2.out | with_reducible exact S3.out | with_reducible exact S4.out))
    ((first | (go_at_call 115; (with_reducible refine (copies45 _).mono ?_); rintro e wo ⟨rfl, rfl⟩)))
  have F3 := hide (drew46 F1.out)
  have Y3 := hide (drew46 Y1.out)
  have hB0 : p0 ≤ p0 := Nat.le_refl _
  have hB2 : p0 ≤ p2 := by omega
  have E3 := hide (below46 E0.out hB0 1 2 3 (.slice none 0 0) (.int .i64 2) (.int .i64 1)).drew
  with_reducible refine abs46 (((V.setCell ⟨p0, 1, none⟩ (.slice none 0 0)).setCell ⟨p0, 2, none⟩ (.int .i64 2)).setCell ⟨p0, 3, none⟩ (.int .i64 1)).drew (fun W => W.heap[p0]? = some (.cells #[.int .i64 0, .slice none 0 0, .int .i64 2, .int .i64 1] 129 (0, 0)) ∧ W.heap[p2]? = some (.cells #[.int .i64 0, .slice none 0 0, .int .i64 0, .int .i64 0] 129 (0, 0)) ∧ Below p0 w W) ⟨F3.out, Y3.out, E3.out⟩ ?_
  clear k1 f1 k2 f2 k3 f3 k4 f4 k5 f5 k6 f6 F1 F2 F3 Y1 Y2 Y3 E3 E0 S0 S1 S2 S3 S4
  rintro WW ⟨rP, rQ, eE⟩
  obtain ⟨n0, n1, n2, n3⟩ := row4I rP
  obtain ⟨⟨k0, f0⟩, ⟨k1, f1⟩, ⟨k2, f2⟩, ⟨k3, f3⟩, rp⟩ := store4I rQ (.int .i64 0) (.slice none 0 0) (.int .i64 2) (.int .i64 1)
  have EE := hide (below46b eE hB2 (.int .i64 0) (.slice none 0 0) (.int .i64 2) (.int .i64 1))
  obtain ⟨m0, m1, m2, m3⟩ := row4I rp
  clear rP rQ eE rp
  go_wp2_with fail
  subst hp0
  refine bodyPost_ret (v := .agg #[.int .i64 0, .slice none 0 0, .int .i64 2, .int .i64 1]) ?_ rfl ⟨rfl, EE.out⟩
  rw [results_cell46 rfl]
  go_simp
theorem within45 (n a b : Int) (w : World) : Calls Tryd.prog 113 #[.int .i64 n, .int .i64 a, .int .i64 b] w fun e w' => e = .returned (.bool (decide (a ≤ n) && decide (n ≤ b))) ∧ w = w' := by
  obtain ⟨x, hx⟩ : ∃ x, decide (a ≤ n) = x := ⟨_, rfl⟩
  obtain ⟨y, hy⟩ : ∃ y, decide (n ≤ b) = y := ⟨_, rfl⟩
  rw [hx, hy]
  go_enter Tryd.func113, Tryd.ntmps113
  cases x <;> cases y <;> (go_wp2; go_ret; exact ⟨rfl, rfl⟩)
theorem stream45 (w : World) : Calls Tryd.prog 114 #[.int .i64 1] w fun e w' => e = .returned (.bool true) ∧ w = w' := by
  go_enter Tryd.func114, Tryd.ntmps114
  go_wp2_with fail
  refine (within45 1 1 2147483647 _).mono ?_
  rintro e w1 ⟨rfl, rfl⟩
  go_wp2_with fail
  go_ret
  exact ⟨rfl, rfl⟩
set_option maxRecDepth 20000 in
set_option maxHeartbeats 3200000 in
theorem right45 (w : World) : Calls Tryd.prog 83 #[(.agg #[.int .i64 0, .slice none 0 0, .int .i64 2, .int .i64 1])] w fun e w' => e = .returned (.bool true) ∧ Below w.heap.size w w' := by
  have R0 := hide (heap_alloc_new w (.cells #[.int .i64 0, .slice none 0 0, .int .i64 2, .int .i64 1] 129))
  have E0 := hide ((Below.refl w.heap.size w).alloc (Nat.le_refl _) (.cells #[.int .i64 0, .slice none 0 0, .int .i64 2, .int .i64 1] 129))
  obtain ⟨c0, c1, c2, c3⟩ := row4I R0.out
  go_enter Tryd.func83, Tryd.ntmps83
  go_wp2_with fail
  go_loopw [3, 23] (fun q i wr => q = .int .i64 0 ∧ i = .int .i64 0 ∧ wr = w.alloc (.cells #[.int .i64 0, .slice none 0 0, .int .i64 2, .int .i64 1] 129)) (fun _ _ _ => 0)
  case atStart => exact ⟨rfl, rfl, rfl⟩
  case round =>
    obtain ⟨rfl, rfl, rfl⟩ := hrel
    go_wp2_with fail
    refine (within45 2 1 26 _).mono ?_
    rintro e w1 ⟨rfl, rfl⟩
    go_wp2_with fail
    refine (stream45 _).mono ?_
    rintro e w1 ⟨rfl, rfl⟩
    go_wp2_with fail
    go_ret
    exact ⟨rfl, E0.out⟩
theorem keepC46 {w w' : World} (hb : Below w.heap.size w w') {a : Addr} {v : Value} (h : w.cell? a = some v) : w'.cell? a = some v := (hb.cell (World.block_lt_of_cell? w _ h)).trans h
theorem S2keep46 {w1 w2 : World} (hb : Below w1.heap.size w1 w2) {a0 a1 : Addr} {v0 v1 : Value} (h : w1.cell? a0 = some v0 ∧ w1.cell? a1 = some v1) : w2.cell? a0 = some v0 ∧ w2.cell? a1 = some v1 := ⟨keepC46 hb h.1, keepC46 hb h.2⟩
set_option maxHeartbeats 1600000 in
theorem maybe46 (w : World) : Calls Tryd.prog 60 #[.agg #[.int .i64 2, .int .i64 1], .int .i64 0] w fun e w' => e = .returned (.bool true) ∧ Below w.heap.size w w' := by
  have E0 := hide ((Below.refl w.heap.size w).alloc (Nat.le_refl _) (.cells #[.int .i64 2, .int .i64 1] 85))
  have R0 := hide (heap_alloc_new w (.cells #[.int .i64 2, .int .i64 1] 85))
  obtain ⟨c0, c1⟩ := row2I R0.out
  go_enter Tryd.func60, Tryd.ntmps60
  go_upto_region 1 with (fail)
  generalize w.alloc (.cells #[.int .i64 2, .int .i64 1] 85) = V at *
  generalize hp0 : w.heap.size = p0 at *
  have S0 := hide (And.intro c0 c1)
  go_region_held3 (fun W : World => W.cell? ⟨p0, 0, none⟩ = some (.int .i64 2) ∧ W.cell? ⟨p0, 1, none⟩ = some (.int .i64 1))
    ((first | (go_keep; done) | exact ⟨keepC46 hb1 (by assumption), keepC46 hb1 (by assumption)⟩ | exact S2keep46 hb1 (by assumption) | exact S2keep46 hb2 (by assumption) | exact S2keep46 hb3 (by assumption)))
    ((first
      | (go_at_call 84; (with_reducible refine (new45 _).mono ?_); rintro e w1 ⟨rfl, hb1⟩)
      | (go_at_call 85; (with_reducible refine (ending45 _).mono ?_); rintro e w2 ⟨rfl, hb2⟩)
      | (go_at_call 83; (with_reducible refine (right45 _).mono ?_); rintro e w3 ⟨rfl, hb3⟩)))
  all_goals
    subst hp0
    have HB : Hid (Below w.heap.size w w3) := ((E0.out.drew.of hb1).of hb2).of hb3
    clear hb1 hb2 hb3
    go_wp2_with fail
    go_ret
    exact ⟨rfl, HB.out⟩
theorem row6I {w : World} {p : Nat} {T : TypeId} {a b c d e f : Value} (h : w.heap[p]? = some (.cells #[a, b, c, d, e, f] T (0, 0))) : w.cell? ⟨p, 0, none⟩ = some a ∧ w.cell? ⟨p, 1, none⟩ = some b ∧ w.cell? ⟨p, 2, none⟩ = some c ∧ w.cell? ⟨p, 3, none⟩ = some d ∧ w.cell? ⟨p, 4, none⟩ = some e ∧ w.cell? ⟨p, 5, none⟩ = some f := by
  refine ⟨?_, ?_, ?_, ?_, ?_, ?_⟩ <;> simp [World.cell?, h]
set_option maxRecDepth 20000 in
set_option maxHeartbeats 1600000 in
theorem sent46 (w : World) : Calls Tryd.prog 46 #[.agg #[.int .i64 2, .int .i64 1], .int .i64 0] w fun e w' => ∃ p A c, e = .returned (.tuple #[.slice (some ⟨p, 0, none⟩) 1 1, .int .i64 0]) ∧ w'.heap[p]? = some (.cells #[.int .i64 0, .int .i64 6, .int .i64 0, .int .i64 0, .bool false, .slice A 7 c] 53 (0, 0)) ∧ Below w.heap.size w w' := by
  have E0 := hide ((Below.refl w.heap.size w).alloc (Nat.le_refl _) (.cells #[.int .i64 2, .int .i64 1] 85))
  have R0 := hide (heap_alloc_new w (.cells #[.int .i64 2, .int .i64 1] 85))
  obtain ⟨c0, c1⟩ := row2I R0.out
  go_enter Tryd.func46, Tryd.ntmps46
  go_wp2_with fail
  refine (maybe46 _).mono ?_
  rintro e w1 ⟨rfl, hb⟩
  have E1 := hide (E0.out.of hb)
  have R1 := hide (keepRow R0.out hb)
  clear hb E0 R0 c0 c1
  obtain ⟨c0, c1⟩ := row2I R1.out
  go_wp2_with fail
  refine (frames46 _).mono ?_
  rintro e w2 ⟨p, A, c, rfl, hp, hr, hb⟩
  have E2 := hide (E1.out.of hb)
  have hp2 : w.heap.size ≤ p := by have := E1.out.size; omega
  have R2 := hide hr
  have a0 := setRow _ p 0 (.int .i64 0) hr
  simp only [List.setIfInBounds_toArray, List.set_cons_zero, List.set_cons_succ] at a0
  have A0 := hide a0
  have E3 := hide (E2.out.setCell (p := ⟨p, 0, none⟩) hp2 (.int .i64 0))
  clear hb hp hr E1 R1 c0 c1 a0
  go_wp2_with fail
  go_loopw [7, 19] (fun q i wr => (i = .int .i64 0 ∧ wr = w2) ∨ (i = .int .i64 1 ∧ wr = w2.setCell ⟨p, 0, none⟩ (.int .i64 0))) (fun _ i _ => 2 - (intOf i).toNat)
  case atStart => exact .inl ⟨rfl, rfl⟩
  case round =>
    rcases hrel with ⟨rfl, rfl⟩ | ⟨rfl, rfl⟩
    · have k0 := (row6I R2.out).1
      have f0 := frozenRow R2.out 0
      go_wp2_with fail
      exact ⟨.inr ⟨rfl, trivial⟩, by decide⟩
    · go_wp2_with fail
      go_ret2
      exact ⟨p, A, c, rfl, A0.out, E3.out⟩
end Go.Proofs.YtdnfhddahpmnmabDoor
