/- Layer 35: the example. -/
import Derived.Test.YtnjmkbaddeeniaaGr5
namespace Go.Proofs.Ytnjmkbaddeeniaa
open Go.RowKit Go.Maps

def xS0 : GS := newS 1
def xS1 : GS := closeG xS0 1
def xS2 : GS := closeG xS1 3
def xT1 : GS := keepG xS2 1
def xU1 : GS := keepG xS2 3
theorem heap_alloc_newG {n : Nat} (w : World) (o : Obj) (h : n = w.heap.size) : (w.alloc o).heap[n]? = some o := by subst h; exact heap_alloc_new w o
theorem Apart.new {p q : Nat} (h : p ≠ q) : Apart (newM p) (newM q) := fun i hi hj => by
  rcases hi with h1 | h1 | h1
  · rcases hj with h2 | h2 | h2
    · exact h (h1.symm.trans h2)
    · simp [newM, Value.ownBlock] at h2
    · simp [newM] at h2
  · simp [newM, Value.ownBlock] at h1
  · simp [newM] at h1
theorem x1 : (xS0.nx 1).isNone = true := by decide +kernel
theorem x2 : (xS1.nx 3).isNone = true := by decide +kernel
theorem x3 : canG xS2 1 = true := by decide +kernel
theorem x4 : canG xS2 3 = true := by decide +kernel
theorem x5 : canG xT1 3 = false := by decide +kernel
theorem x6 : canG xU1 1 = false := by decide +kernel
theorem x7 : (keepG xT1 3).n = 2 := by decide +kernel
set_option maxRecDepth 20000 in
set_option maxHeartbeats 3200000 in
theorem alive35 (w : World) : Calls Try.prog 22 #[] w (Yes w) := by
  have O1 := hide (heap_alloc_new w (.cells #[.int .i64 1, .slice none 0 0, .map none, .int .i64 0] 35))
  have O2 := hide (heap_alloc_newG (w.alloc (.cells #[.int .i64 1, .slice none 0 0, .map none, .int .i64 0] 35)) (.cells #[.int .i64 1, .slice none 0 0, .map none, .int .i64 0] 35) (n := w.heap.size + 1) (by simp))
  have O3 := hide (keepRow O1.out ((Below.refl _ _).alloc (Nat.le_refl _) (.cells #[.int .i64 1, .slice none 0 0, .map none, .int .i64 0] 35)))
  have E0 := hide (((Below.refl w.heap.size w).alloc (Nat.le_refl _) (.cells #[.int .i64 1, .slice none 0 0, .map none, .int .i64 0] 35)).alloc (by simp) (.cells #[.int .i64 1, .slice none 0 0, .map none, .int .i64 0] 35))
  have Gm0 : Hid (GrOk w.heap.size _ (newM w.heap.size) xS0) := GrOk.new O3.out (Nat.le_refl _) (by omega) (by omega)
  have Gn0 : Hid (GrOk w.heap.size _ (newM (w.heap.size + 1)) xS0) := GrOk.new O2.out (by omega) (by omega) (by omega)
  have A0 : Hid (Apart (newM (w.heap.size + 1)) (newM w.heap.size)) := Apart.new (by omega)
  clear O1 O2 O3
  go_enter Try.func22, Try.ntmps22
  go_wp2_with fail
  refine (new35 1 (by omega) (by omega) _).mono ?_
  rintro e z ⟨rfl, rfl⟩
  go_wp2_with fail
  refine (new35 1 (by omega) (by omega) _).mono ?_
  rintro e z ⟨rfl, rfl⟩
  rw [show (w.alloc (.cells #[.int .i64 1, .slice none 0 0, .map none, .int .i64 0] 35)).heap.size = w.heap.size + 1 by simp]
  generalize hz0 : ((w.alloc (.cells #[.int .i64 1, .slice none 0 0, .map none, .int .i64 0] 35)).alloc (.cells #[.int .i64 1, .slice none 0 0, .map none, .int .i64 0] 35)) = z0 at *
  clear hz0
  unfold newM at Gm0 Gn0 A0
  go_wp2_with fail
  refine (close35 Gm0.out 1 (by decide) (by decide +kernel) (by decide +kernel) E0.out.size).mono ?_
  rintro e z1 ⟨rfl, ⟨q, v, mv⟩, hp, hg, hf, hl⟩
  simp only at hp
  subst hp
  rw [x1]
  have Gm1 := hide hg
  have Gn1 := hide (Gn0.out.fr A0.out hf)
  have A1 := hide (A0.out.later Gn0.out hl)
  have E1 := hide (E0.out.trans hf.below)
  clear hg hf hl Gm0 Gn0 A0 E0
  go_wp2_with fail
  refine (close35 Gm1.out 3 (by decide) (by decide +kernel) (by decide +kernel) E1.out.size).mono ?_
  rintro e z2 ⟨rfl, ⟨q, v, mv⟩, hp, hg, hf, hl⟩
  simp only at hp
  subst hp
  rw [show ((closeG xS0 1).nx 3).isNone = true from x2]
  have Gm2 := hide hg
  have Gn2 := hide (Gn1.out.fr A1.out hf)
  have A2 := hide (A1.out.later Gn1.out hl)
  have E2 := hide (E1.out.trans hf.below)
  clear hg hf hl Gm1 Gn1 A1 E1
  go_wp2_with fail
  refine (close35 Gn2.out 1 (by decide) (by decide +kernel) (by decide +kernel) E2.out.size).mono ?_
  rintro e z3 ⟨rfl, ⟨q, v, mv⟩, hp, hg, hf, hl⟩
  simp only at hp
  subst hp
  rw [x1]
  have Gn3 := hide hg
  have Gm3 := hide (Gm2.out.fr A2.out.symm hf)
  have A3 := hide ((A2.out.symm.later Gm2.out hl).symm)
  have E3 := hide (E2.out.trans hf.below)
  clear hg hf hl Gn2 Gm2 A2 E2
  go_wp2_with fail
  refine (close35 Gn3.out 3 (by decide) (by decide +kernel) (by decide +kernel) E3.out.size).mono ?_
  rintro e z4 ⟨rfl, ⟨q, v, mv⟩, hp, hg, hf, hl⟩
  simp only at hp
  subst hp
  rw [show ((closeG xS0 1).nx 3).isNone = true from x2]
  have Gn4 := hide hg
  have Gm4 := hide (Gm3.out.fr A3.out.symm hf)
  have A4 := hide ((A3.out.symm.later Gm3.out hl).symm)
  have E4 := hide (E3.out.trans hf.below)
  clear hg hf hl Gn3 Gm3 A3 E3
  go_wp2_with fail
  refine (can35 Gm4.out 1 (by decide)).mono ?_
  rintro e w' ⟨rfl, rfl⟩
  rw [show canG (closeG (closeG xS0 1) 3) 1 = true from x3]
  go_wp2_with fail
  refine (can35 Gm4.out 3 (by decide)).mono ?_
  rintro e w' ⟨rfl, rfl⟩
  rw [show canG (closeG (closeG xS0 1) 3) 3 = true from x4]
  go_wp2_with fail
  refine (keep35 Gm4.out 1 (by decide) (by decide +kernel) E4.out.size).mono ?_
  rintro e z5 ⟨rfl, hg, hf⟩
  rw [show canG (closeG (closeG xS0 1) 3) 1 = true from x3]
  have Gm5 := hide hg
  have Gn5 := hide (Gn4.out.fr A4.out hf)
  have A5 := hide (A4.out)
  have E5 := hide (E4.out.trans hf.below)
  clear hg hf Gm4 Gn4 A4 E4
  go_wp2_with fail
  refine (can35 Gm5.out 3 (by decide)).mono ?_
  rintro e w' ⟨rfl, rfl⟩
  rw [show canG (keepG (closeG (closeG xS0 1) 3) 1) 3 = false from x5]
  go_wp2_with fail
  refine (keep35 Gm5.out 3 (by decide) (by decide +kernel) E5.out.size).mono ?_
  rintro e z6 ⟨rfl, hg, hf⟩
  rw [show canG (keepG (closeG (closeG xS0 1) 3) 1) 3 = false from x5]
  have Gm6 := hide hg
  have Gn6 := hide (Gn5.out.fr A5.out hf)
  have A6 := hide (A5.out)
  have E6 := hide (E5.out.trans hf.below)
  clear hg hf Gm5 Gn5 A5 E5
  go_wp2_with fail
  refine (keep35 Gn6.out 3 (by decide) (by decide +kernel) E6.out.size).mono ?_
  rintro e z7 ⟨rfl, hg, hf⟩
  rw [show canG (closeG (closeG xS0 1) 3) 3 = true from x4]
  have Gn7 := hide hg
  have Gm7 := hide (Gm6.out.fr A6.out.symm hf)
  have A7 := hide (A6.out)
  have E7 := hide (E6.out.trans hf.below)
  clear hg hf Gn6 Gm6 A6 E6
  go_wp2_with fail
  refine (can35 Gn7.out 1 (by decide)).mono ?_
  rintro e w' ⟨rfl, rfl⟩
  rw [show canG (keepG (closeG (closeG xS0 1) 3) 3) 1 = false from x6]
  go_wp2_with fail
  refine (len35 Gm7.out).mono ?_
  rintro e w' ⟨rfl, rfl⟩
  rw [show (keepG (keepG (closeG (closeG xS0 1) 3) 1) 3).n = 2 from x7]
  go_wp2_with fail
  go_ret
  exact ⟨rfl, E7.out⟩
end Go.Proofs.Ytnjmkbaddeeniaa
