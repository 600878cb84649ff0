/- Layer 9: how two faults are compared. -/
import Derived.Test.YtbkdegjkjjdcdaaDoorVal
import Derived.Test.YtbkdegjkjjdcdaaDoorShlf
import Derived.Deep.RegionHeld3
import Derived.Deep.Cut
import Derived.PlainAid
namespace Go.Proofs.YtbkdegjkjjdcdaaDoor
set_option linter.unusedVariables false
set_option linter.unusedSimpArgs false
open Go.RowKit Go.PlainAid

def orI (x y : Int) : Int := if x = 0 then y else x
set_option maxRecDepth 20000 in
set_option maxHeartbeats 800000 in
theorem or09 (b : Nat) (x y : Int) (T : TypeId) (w : World) (h : w.heap[b]? = some (.cells #[.int .i64 x, .int .i64 y] T (0, 0))) : Calls Tryd.prog 67 #[.slice (some ⟨b, 0, none⟩) 2 2] w fun e w' => e = .returned (.int .i64 (orI x y)) ∧ w = w' := by
  obtain ⟨c0, c1⟩ := row2 h
  clear h
  by_cases hx : x = 0
  · have q1 : (x != 0) = false := by simp [hx]
    have hv : Hid (orI x y = y) := by show _ = _; unfold orI; rw [if_pos hx]
    obtain ⟨v, hv2⟩ : ∃ v, orI x y = v := ⟨_, rfl⟩
    rw [hv2] at hv ⊢
    clear hx hv2
    by_cases hy : y = 0
    · have q2 : (y != 0) = false := by simp [hy]
      have HY := hide hy
      clear hy
      go_enter Tryd.func67, Tryd.ntmps67
      go_wp2_with fail
      go_loopw [8] (fun i wr => wr = w ∧ (i = .int .i64 0 ∨ i = .int .i64 1 ∨ i = .int .i64 2)) (fun i _ => 2 - (intOf i).toNat)
      case atStart => exact ⟨rfl, .inl rfl⟩
      case round =>
        obtain ⟨rfl, rfl | rfl | rfl⟩ := hrel
        · go_wp2_with fail
          exact ⟨⟨trivial, .inr (.inl rfl)⟩, by simp [intOf]⟩
        · go_wp2_with fail
          exact ⟨⟨trivial, .inr (.inr rfl)⟩, by simp [intOf]⟩
        · go_wp2_with fail
          go_ret
          exact ⟨by rw [hv.out, HY.out]; rfl, rfl⟩
    · have q2 : (y != 0) = true := by simpa using hy
      clear hy
      go_enter Tryd.func67, Tryd.ntmps67
      go_wp2_with fail
      go_loopw [8] (fun i wr => wr = w ∧ (i = .int .i64 0 ∨ i = .int .i64 1)) (fun i _ => 2 - (intOf i).toNat)
      case atStart => exact ⟨rfl, .inl rfl⟩
      case round =>
        obtain ⟨rfl, rfl | rfl⟩ := hrel
        · go_wp2_with fail
          exact ⟨⟨trivial, .inr rfl⟩, by simp [intOf]⟩
        · go_wp2_with fail
          go_ret
          exact ⟨by rw [hv.out]; rfl, rfl⟩
  · have q1 : (x != 0) = true := by simpa using hx
    have hv : Hid (orI x y = x) := by show _ = _; unfold orI; rw [if_neg hx]
    obtain ⟨v, hv2⟩ : ∃ v, orI x y = v := ⟨_, rfl⟩
    rw [hv2] at hv ⊢
    clear hx hv2
    go_enter Tryd.func67, Tryd.ntmps67
    go_wp2_with fail
    go_loopw [8] (fun i wr => wr = w ∧ i = .int .i64 0) (fun i _ => 2 - (intOf i).toNat)
    case atStart => exact ⟨rfl, rfl⟩
    case round =>
      obtain ⟨rfl, rfl⟩ := hrel
      go_wp2_with fail
      go_ret
      exact ⟨by rw [hv.out]; rfl, rfl⟩
def cmpF (a0 a1 b0 b1 : Int) : Int := orI (Lib.compareInt a0 b0) (Lib.compareInt a1 b1)
theorem heapF {w : World} {p : Nat} {o : Option Obj} (h : w.heap[p]? = o) : w.drew.heap[p]? = o := h
theorem grown2 (w : World) (o p : Obj) : ∃ os, (w.alloc o).alloc p = Sort.grow w os := ⟨_, by rw [Sort.alloc_eq_grow, Sort.alloc_eq_grow, Sort.grow_grow]⟩
theorem grown_drew {w W0 : World} (h : ∃ os, W0 = Sort.grow w os) (o : Obj) : ∃ q os', (W0.alloc o).drew = Sort.grow (w.drewN q) os' := by
  obtain ⟨os, rfl⟩ := h
  exact ⟨1, os ++ #[o], by rw [Sort.alloc_eq_grow, Sort.grow_grow]; rfl⟩
set_option maxRecDepth 20000 in
set_option maxHeartbeats 3200000 in
theorem compare09 (a0 a1 b0 b1 : Int) (w : World) : Calls Tryd.prog 44 #[.agg #[.int .i64 a0, .int .i64 a1], .agg #[.int .i64 b0, .int .i64 b1]] w fun e w' => e = .returned (.int .i64 (cmpF a0 a1 b0 b1)) ∧ ∃ q os', w' = Sort.grow (w.drewN q) os' := by
  have HW := hide (grown2 w (.cells #[.int .i64 a0, .int .i64 a1] 31) (.cells #[.int .i64 b0, .int .i64 b1] 31))
  have al := (Below.refl w.heap.size w).alloc (Nat.le_refl _) (.cells #[.int .i64 a0, .int .i64 a1] 31)
  have e1 : (w.alloc (.cells #[.int .i64 a0, .int .i64 a1] 31)).heap.size = w.heap.size + 1 := by simp
  have R0 := keepRow (heap_alloc_new w (.cells #[.int .i64 a0, .int .i64 a1] 31)) ((Below.refl _ _).alloc (Nat.le_refl _) (.cells #[.int .i64 b0, .int .i64 b1] 31))
  have R1 := heap_alloc_new (w.alloc (.cells #[.int .i64 a0, .int .i64 a1] 31)) (.cells #[.int .i64 b0, .int .i64 b1] 31)
  rw [e1] at R1
  have B0 := hide (al.alloc al.size (.cells #[.int .i64 b0, .int .i64 b1] 31))
  clear al e1
  have k1 := fun W => Tryd.cmp_Compare_int a0 b0 W
  have k2 := fun W => Tryd.cmp_Compare_int a1 b1 W
  have hz : Hid (cmpF a0 a1 b0 b1 = orI (Lib.compareInt a0 b0) (Lib.compareInt a1 b1)) := rfl
  generalize cmpF a0 a1 b0 b1 = z at *
  generalize Lib.compareInt a0 b0 = x at *
  generalize Lib.compareInt a1 b1 = y at *
  go_enter Tryd.func44, Tryd.ntmps44
  go_upto_region 1 with (fail)
  generalize hq : w.heap.size = q at *
  generalize (w.alloc (.cells #[.int .i64 a0, .int .i64 a1] 31)).alloc (.cells #[.int .i64 b0, .int .i64 b1] 31) = W0 at *
  obtain ⟨c0, c1⟩ := row2 R0
  obtain ⟨d0, d1⟩ := row2 R1
  clear R0 R1
  go_region_held3 (fun w' : World => w'.cell? ⟨q, 0, none⟩ = some (.int .i64 a0) ∧ w'.cell? ⟨q, 1, none⟩ = some (.int .i64 a1) ∧ w'.cell? ⟨q + 1, 0, none⟩ = some (.int .i64 b0) ∧ w'.cell? ⟨q + 1, 1, none⟩ = some (.int .i64 b1))
    ((first | exact ⟨c0, c1, d0, d1⟩ | (go_keep; done)))
    ((first
      | (go_at_call 68; (with_reducible refine (k1 _).mono ?_); rintro e v1 ⟨rfl, rfl⟩)
      | (go_at_call 68; (with_reducible refine (k2 _).mono ?_); rintro e v1 ⟨rfl, rfl⟩)
      | (go_at_call 67; (with_reducible refine (or09 W0.heap.size x y 3 _ (by first | exact heap_alloc_new W0 _ | exact heapF (heap_alloc_new W0 _))).mono ?_); rintro e v1 ⟨rfl, rfl⟩)))
  all_goals
    go_wp2_with fail
    go_ret
    exact ⟨by rw [hz.out]; rfl, grown_drew HW.out _⟩
end Go.Proofs.YtbkdegjkjjdcdaaDoor
