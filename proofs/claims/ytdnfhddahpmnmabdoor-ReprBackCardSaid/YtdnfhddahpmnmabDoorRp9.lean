/- Layer 22: what bytes begin with, by the program, way by way. -/
import Derived.Test.YtdnfhddahpmnmabDoorRp8
import Derived.Deep.Cut
namespace Go.Proofs.YtdnfhddahpmnmabDoor
open Go.RowKit Go.PlainAid

set_option maxRecDepth 100000 in
set_option maxHeartbeats 6400000 in
theorem get_none (c : Nat) (A : Option Addr) (w : World) : Calls Tryd.prog 19 #[.slice A 0 c] w fun e w' => e = .returned (.tuple #[.agg #[.int .i64 0, .int .i64 0, .string ⟨#[]⟩, .bool false, .string ⟨#[]⟩, .bool false, .int .i64 0], .int .i64 0, .int .i64 3]) ∧ Below w.heap.size w w' := by
  have R0 := hide (heap_alloc_new w (.cells #[.int .i64 0, .int .i64 0, .string ⟨#[]⟩, .bool false, .string ⟨#[]⟩, .bool false, .int .i64 0] 35))
  have al := (Below.refl w.heap.size w).alloc (Nat.le_refl _) (.cells #[.int .i64 0, .int .i64 0, .string ⟨#[]⟩, .bool false, .string ⟨#[]⟩, .bool false, .int .i64 0] 35)
  have E0 := hide al
  clear al
  go_enter Tryd.func19, Tryd.ntmps19
  go_upto_region 1 with (fail)
  generalize w.alloc (.cells #[.int .i64 0, .int .i64 0, .string ⟨#[]⟩, .bool false, .string ⟨#[]⟩, .bool false, .int .i64 0] 35) = W0 at *
  obtain ⟨⟨k0, y0⟩, ⟨k1, y1⟩, ⟨k2, y2⟩, ⟨k3, y3⟩, ⟨k4, y4⟩, ⟨k5, y5⟩, ⟨k6, y6⟩, rz⟩ := store7 R0.out (.int .i64 0) (.int .i64 0) (.string ⟨#[]⟩) (.bool false) (.string ⟨#[]⟩) (.bool false) (.int .i64 0)
  have RZ := hide rz
  have EE := hide (below7 E0.out (p := w.heap.size) (Nat.le_refl _) (.int .i64 0) (.int .i64 0) (.string ⟨#[]⟩) (.bool false) (.string ⟨#[]⟩) (.bool false) (.int .i64 0))
  clear rz
  go_wp2_with fail
  obtain ⟨m0_, m1_, m2_, m3_, m4_, m5_, m6_⟩ := row7 RZ.out
  refine bodyPost_ret (v := .tuple #[.agg #[.int .i64 0, .int .i64 0, .string ⟨#[]⟩, .bool false, .string ⟨#[]⟩, .bool false, .int .i64 0], .int .i64 0, .int .i64 3]) ?_ rfl ⟨rfl, EE.out⟩
  rw [results_cell_tmp2 rfl]
  go_simp
set_option maxRecDepth 100000 in
set_option maxHeartbeats 6400000 in
theorem get_perr1 (A : Option Addr) (n c : Nat) (f : Nat → Int) (t : Nat) (N : Int) (d : Int) (w : World) (ha : Rd .u8 w A n c f) (hb : Byt n f) (h0 : 0 < n) (hn : n ≤ 5000) (hkd : kd (f 0) = 1) (hp : pg f n 7 = (N, (t : Int), d)) (hd : d ≠ 0) (T : TypeId) (fr : Nat × Nat) (hg : w.heap[0]? = some (.cells formsV T fr)) : Calls Tryd.prog 19 #[.slice A n c] w fun e w' => e = .returned (.tuple #[.agg #[.int .i64 0, .int .i64 0, .string ⟨#[]⟩, .bool false, .string ⟨#[]⟩, .bool false, .int .i64 0], .int .i64 0, .int .i64 d]) ∧ Below w.heap.size w w' := by
  have R0 := hide (heap_alloc_new w (.cells #[.int .i64 0, .int .i64 0, .string ⟨#[]⟩, .bool false, .string ⟨#[]⟩, .bool false, .int .i64 0] 35))
  have al := (Below.refl w.heap.size w).alloc (Nat.le_refl _) (.cells #[.int .i64 0, .int .i64 0, .string ⟨#[]⟩, .bool false, .string ⟨#[]⟩, .bool false, .int .i64 0] 35)
  have E0 := hide al
  have G0 := hide ((al.block _ (rowLt hg)).trans hg)
  have Ha := hide (ha.below al)
  have Hb := hide hb
  have HK := hide hkd
  have HP := hide hp
  have hx := hb 0 h0
  obtain ⟨bb, off, rfl, hx0⟩ := ha.at_ (i := 0) h0
  rw [Nat.add_zero] at hx0
  have hx1 := (al.cell (World.block_lt_of_cell? w _ hx0)).trans hx0
  have nz : (n == 0) = false := by simp; omega
  have nz2 : ((n : Int) == 0) = false := by simp; omega
  have nz3 : decide (0 < n) = true := decide_eq_true h0
  obtain ⟨x, hxx⟩ : ∃ x, f 0 = x := ⟨_, rfl⟩
  rw [hxx] at hx hx1 HK
  have hxa := hx.1
  have hxb := hx.2
  have td : (d != 0) = true := by simpa using hd
  clear hd
  clear al ha hb hkd hp hg hx0 hxx hx
  go_enter Tryd.func19, Tryd.ntmps19
  go_upto_region 1 with (fail)
  generalize w.alloc (.cells #[.int .i64 0, .int .i64 0, .string ⟨#[]⟩, .bool false, .string ⟨#[]⟩, .bool false, .int .i64 0] 35) = W0 at *
  go_wp2_with fail
  refine (kindof22 x hxa hxb _ T fr G0.out).mono ?_
  rw [HK.out]
  rintro e w1 ⟨rfl, hb1⟩
  have R1 := hide (keepRow R0.out hb1)
  have E1 := hide (E0.out.of hb1)
  have G1 := hide ((hb1.block _ (rowLt G0.out)).trans G0.out)
  have Ha1 := hide (Ha.out.below hb1)
  clear hb1 R0 E0 G0 Ha hx1
  have g1 := forms_at G1.out 3 (.int .i64 7) rfl
  go_wp2_with fail
  refine (pget_any _ n c f 7 _ Ha1.out Hb.out (by omega)).mono ?_
  rw [HP.out]
  rintro e w2 ⟨rfl, hd2⟩
  have R2 := hide (keepRow R1.out (drawn_below hd2 _))
  have E2 := hide (E1.out.of (drawn_below hd2 _))
  have Ha2 := hide (Ha1.out.drawn hd2)
  clear hd2 R1 E1 G1 Ha1 g1
  obtain ⟨⟨k0, y0⟩, ⟨k1, y1⟩, ⟨k2, y2⟩, ⟨k3, y3⟩, ⟨k4, y4⟩, ⟨k5, y5⟩, ⟨k6, y6⟩, rz⟩ := store7 R2.out (.int .i64 0) (.int .i64 0) (.string ⟨#[]⟩) (.bool false) (.string ⟨#[]⟩) (.bool false) (.int .i64 0)
  have RZ := hide rz
  have EE := hide (below7 E2.out (p := w.heap.size) (Nat.le_refl _) (.int .i64 0) (.int .i64 0) (.string ⟨#[]⟩) (.bool false) (.string ⟨#[]⟩) (.bool false) (.int .i64 0))
  clear rz
  go_wp2_with fail
  obtain ⟨m0_, m1_, m2_, m3_, m4_, m5_, m6_⟩ := row7 RZ.out
  refine bodyPost_ret (v := .tuple #[.agg #[.int .i64 0, .int .i64 0, .string ⟨#[]⟩, .bool false, .string ⟨#[]⟩, .bool false, .int .i64 0], .int .i64 0, .int .i64 d]) ?_ rfl ⟨rfl, EE.out⟩
  rw [results_cell_tmp2 rfl]
  go_simp
set_option maxRecDepth 100000 in
set_option maxHeartbeats 6400000 in
theorem get_perr2 (A : Option Addr) (n c : Nat) (f : Nat → Int) (t : Nat) (N : Int) (d : Int) (w : World) (ha : Rd .u8 w A n c f) (hb : Byt n f) (h0 : 0 < n) (hn : n ≤ 5000) (hkd : kd (f 0) = 2) (hp : pg f n 6 = (N, (t : Int), d)) (hd : d ≠ 0) (T : TypeId) (fr : Nat × Nat) (hg : w.heap[0]? = some (.cells formsV T fr)) : Calls Tryd.prog 19 #[.slice A n c] w fun e w' => e = .returned (.tuple #[.agg #[.int .i64 0, .int .i64 0, .string ⟨#[]⟩, .bool false, .string ⟨#[]⟩, .bool false, .int .i64 0], .int .i64 0, .int .i64 d]) ∧ Below w.heap.size w w' := by
  have R0 := hide (heap_alloc_new w (.cells #[.int .i64 0, .int .i64 0, .string ⟨#[]⟩, .bool false, .string ⟨#[]⟩, .bool false, .int .i64 0] 35))
  have al := (Below.refl w.heap.size w).alloc (Nat.le_refl _) (.cells #[.int .i64 0, .int .i64 0, .string ⟨#[]⟩, .bool false, .string ⟨#[]⟩, .bool false, .int .i64 0] 35)
  have E0 := hide al
  have G0 := hide ((al.block _ (rowLt hg)).trans hg)
  have Ha := hide (ha.below al)
  have Hb := hide hb
  have HK := hide hkd
  have HP := hide hp
  have hx := hb 0 h0
  obtain ⟨bb, off, rfl, hx0⟩ := ha.at_ (i := 0) h0
  rw [Nat.add_zero] at hx0
  have hx1 := (al.cell (World.block_lt_of_cell? w _ hx0)).trans hx0
  have nz : (n == 0) = false := by simp; omega
  have nz2 : ((n : Int) == 0) = false := by simp; omega
  have nz3 : decide (0 < n) = true := decide_eq_true h0
  obtain ⟨x, hxx⟩ : ∃ x, f 0 = x := ⟨_, rfl⟩
  rw [hxx] at hx hx1 HK
  have hxa := hx.1
  have hxb := hx.2
  have td : (d != 0) = true := by simpa using hd
  clear hd
  clear al ha hb hkd hp hg hx0 hxx hx
  go_enter Tryd.func19, Tryd.ntmps19
  go_upto_region 1 with (fail)
  generalize w.alloc (.cells #[.int .i64 0, .int .i64 0, .string ⟨#[]⟩, .bool false, .string ⟨#[]⟩, .bool false, .int .i64 0] 35) = W0 at *
  go_wp2_with fail
  refine (kindof22 x hxa hxb _ T fr G0.out).mono ?_
  rw [HK.out]
  rintro e w1 ⟨rfl, hb1⟩
  have R1 := hide (keepRow R0.out hb1)
  have E1 := hide (E0.out.of hb1)
  have G1 := hide ((hb1.block _ (rowLt G0.out)).trans G0.out)
  have Ha1 := hide (Ha.out.below hb1)
  clear hb1 R0 E0 G0 Ha hx1
  have g1 := forms_at G1.out 5 (.int .i64 6) rfl
  go_wp2_with fail
  refine (pget_any _ n c f 6 _ Ha1.out Hb.out (by omega)).mono ?_
  rw [HP.out]
  rintro e w2 ⟨rfl, hd2⟩
  have R2 := hide (keepRow R1.out (drawn_below hd2 _))
  have E2 := hide (E1.out.of (drawn_below hd2 _))
  have Ha2 := hide (Ha1.out.drawn hd2)
  clear hd2 R1 E1 G1 Ha1 g1
  obtain ⟨⟨k0, y0⟩, ⟨k1, y1⟩, ⟨k2, y2⟩, ⟨k3, y3⟩, ⟨k4, y4⟩, ⟨k5, y5⟩, ⟨k6, y6⟩, rz⟩ := store7 R2.out (.int .i64 0) (.int .i64 0) (.string ⟨#[]⟩) (.bool false) (.string ⟨#[]⟩) (.bool false) (.int .i64 0)
  have RZ := hide rz
  have EE := hide (below7 E2.out (p := w.heap.size) (Nat.le_refl _) (.int .i64 0) (.int .i64 0) (.string ⟨#[]⟩) (.bool false) (.string ⟨#[]⟩) (.bool false) (.int .i64 0))
  clear rz
  go_wp2_with fail
  obtain ⟨m0_, m1_, m2_, m3_, m4_, m5_, m6_⟩ := row7 RZ.out
  refine bodyPost_ret (v := .tuple #[.agg #[.int .i64 0, .int .i64 0, .string ⟨#[]⟩, .bool false, .string ⟨#[]⟩, .bool false, .int .i64 0], .int .i64 0, .int .i64 d]) ?_ rfl ⟨rfl, EE.out⟩
  rw [results_cell_tmp2 rfl]
  go_simp
set_option maxRecDepth 100000 in
set_option maxHeartbeats 6400000 in
theorem get_perr3 (A : Option Addr) (n c : Nat) (f : Nat → Int) (t : Nat) (N : Int) (d : Int) (w : World) (ha : Rd .u8 w A n c f) (hb : Byt n f) (h0 : 0 < n) (hn : n ≤ 5000) (hkd : kd (f 0) = 3) (hp : pg f n 4 = (N, (t : Int), d)) (hd : d ≠ 0) (T : TypeId) (fr : Nat × Nat) (hg : w.heap[0]? = some (.cells formsV T fr)) : Calls Tryd.prog 19 #[.slice A n c] w fun e w' => e = .returned (.tuple #[.agg #[.int .i64 0, .int .i64 0, .string ⟨#[]⟩, .bool false, .string ⟨#[]⟩, .bool false, .int .i64 0], .int .i64 0, .int .i64 d]) ∧ Below w.heap.size w w' := by
  have R0 := hide (heap_alloc_new w (.cells #[.int .i64 0, .int .i64 0, .string ⟨#[]⟩, .bool false, .string ⟨#[]⟩, .bool false, .int .i64 0] 35))
  have al := (Below.refl w.heap.size w).alloc (Nat.le_refl _) (.cells #[.int .i64 0, .int .i64 0, .string ⟨#[]⟩, .bool false, .string ⟨#[]⟩, .bool false, .int .i64 0] 35)
  have E0 := hide al
  have G0 := hide ((al.block _ (rowLt hg)).trans hg)
  have Ha := hide (ha.below al)
  have Hb := hide hb
  have HK := hide hkd
  have HP := hide hp
  have hx := hb 0 h0
  obtain ⟨bb, off, rfl, hx0⟩ := ha.at_ (i := 0) h0
  rw [Nat.add_zero] at hx0
  have hx1 := (al.cell (World.block_lt_of_cell? w _ hx0)).trans hx0
  have nz : (n == 0) = false := by simp; omega
  have nz2 : ((n : Int) == 0) = false := by simp; omega
  have nz3 : decide (0 < n) = true := decide_eq_true h0
  obtain ⟨x, hxx⟩ : ∃ x, f 0 = x := ⟨_, rfl⟩
  rw [hxx] at hx hx1 HK
  have hxa := hx.1
  have hxb := hx.2
  have td : (d != 0) = true := by simpa using hd
  clear hd
  clear al ha hb hkd hp hg hx0 hxx hx
  go_enter Tryd.func19, Tryd.ntmps19
  go_upto_region 1 with (fail)
  generalize w.alloc (.cells #[.int .i64 0, .int .i64 0, .string ⟨#[]⟩, .bool false, .string ⟨#[]⟩, .bool false, .int .i64 0] 35) = W0 at *
  go_wp2_with fail
  refine (kindof22 x hxa hxb _ T fr G0.out).mono ?_
  rw [HK.out]
  rintro e w1 ⟨rfl, hb1⟩
  have R1 := hide (keepRow R0.out hb1)
  have E1 := hide (E0.out.of hb1)
  have G1 := hide ((hb1.block _ (rowLt G0.out)).trans G0.out)
  have Ha1 := hide (Ha.out.below hb1)
  clear hb1 R0 E0 G0 Ha hx1
  have g1 := forms_at G1.out 7 (.int .i64 4) rfl
  go_wp2_with fail
  refine (pget_any _ n c f 4 _ Ha1.out Hb.out (by omega)).mono ?_
  rw [HP.out]
  rintro e w2 ⟨rfl, hd2⟩
  have R2 := hide (keepRow R1.out (drawn_below hd2 _))
  have E2 := hide (E1.out.of (drawn_below hd2 _))
  have Ha2 := hide (Ha1.out.drawn hd2)
  clear hd2 R1 E1 G1 Ha1 g1
  obtain ⟨⟨k0, y0⟩, ⟨k1, y1⟩, ⟨k2, y2⟩, ⟨k3, y3⟩, ⟨k4, y4⟩, ⟨k5, y5⟩, ⟨k6, y6⟩, rz⟩ := store7 R2.out (.int .i64 0) (.int .i64 0) (.string ⟨#[]⟩) (.bool false) (.string ⟨#[]⟩) (.bool false) (.int .i64 0)
  have RZ := hide rz
  have EE := hide (below7 E2.out (p := w.heap.size) (Nat.le_refl _) (.int .i64 0) (.int .i64 0) (.string ⟨#[]⟩) (.bool false) (.string ⟨#[]⟩) (.bool false) (.int .i64 0))
  clear rz
  go_wp2_with fail
  obtain ⟨m0_, m1_, m2_, m3_, m4_, m5_, m6_⟩ := row7 RZ.out
  refine bodyPost_ret (v := .tuple #[.agg #[.int .i64 0, .int .i64 0, .string ⟨#[]⟩, .bool false, .string ⟨#[]⟩, .bool false, .int .i64 0], .int .i64 0, .int .i64 d]) ?_ rfl ⟨rfl, EE.out⟩
  rw [results_cell_tmp2 rfl]
  go_simp
set_option maxRecDepth 100000 in
set_option maxHeartbeats 6400000 in
theorem get_perr4 (A : Option Addr) (n c : Nat) (f : Nat → Int) (t : Nat) (N : Int) (d : Int) (w : World) (ha : Rd .u8 w A n c f) (hb : Byt n f) (h0 : 0 < n) (hn : n ≤ 5000) (hkd : kd (f 0) = 4) (hp : pg f n 4 = (N, (t : Int), d)) (hd : d ≠ 0) (T : TypeId) (fr : Nat × Nat) (hg : w.heap[0]? = some (.cells formsV T fr)) : Calls Tryd.prog 19 #[.slice A n c] w fun e w' => e = .returned (.tuple #[.agg #[.int .i64 0, .int .i64 0, .string ⟨#[]⟩, .bool false, .string ⟨#[]⟩, .bool false, .int .i64 0], .int .i64 0, .int .i64 d]) ∧ Below w.heap.size w w' := by
  have R0 := hide (heap_alloc_new w (.cells #[.int .i64 0, .int .i64 0, .string ⟨#[]⟩, .bool false, .string ⟨#[]⟩, .bool false, .int .i64 0] 35))
  have al := (Below.refl w.heap.size w).alloc (Nat.le_refl _) (.cells #[.int .i64 0, .int .i64 0, .string ⟨#[]⟩, .bool false, .string ⟨#[]⟩, .bool false, .int .i64 0] 35)
  have E0 := hide al
  have G0 := hide ((al.block _ (rowLt hg)).trans hg)
  have Ha := hide (ha.below al)
  have Hb := hide hb
  have HK := hide hkd
  have HP := hide hp
  have hx := hb 0 h0
  obtain ⟨bb, off, rfl, hx0⟩ := ha.at_ (i := 0) h0
  rw [Nat.add_zero] at hx0
  have hx1 := (al.cell (World.block_lt_of_cell? w _ hx0)).trans hx0
  have nz : (n == 0) = false := by simp; omega
  have nz2 : ((n : Int) == 0) = false := by simp; omega
  have nz3 : decide (0 < n) = true := decide_eq_true h0
  obtain ⟨x, hxx⟩ : ∃ x, f 0 = x := ⟨_, rfl⟩
  rw [hxx] at hx hx1 HK
  have hxa := hx.1
  have hxb := hx.2
  have td : (d != 0) = true := by simpa using hd
  clear hd
  clear al ha hb hkd hp hg hx0 hxx hx
  go_enter Tryd.func19, Tryd.ntmps19
  go_upto_region 1 with (fail)
  generalize w.alloc (.cells #[.int .i64 0, .int .i64 0, .string ⟨#[]⟩, .bool false, .string ⟨#[]⟩, .bool false, .int .i64 0] 35) = W0 at *
  go_wp2_with fail
  refine (kindof22 x hxa hxb _ T fr G0.out).mono ?_
  rw [HK.out]
  rintro e w1 ⟨rfl, hb1⟩
  have R1 := hide (keepRow R0.out hb1)
  have E1 := hide (E0.out.of hb1)
  have G1 := hide ((hb1.block _ (rowLt G0.out)).trans G0.out)
  have Ha1 := hide (Ha.out.below hb1)
  clear hb1 R0 E0 G0 Ha hx1
  have g1 := forms_at G1.out 9 (.int .i64 4) rfl
  go_wp2_with fail
  refine (pget_any _ n c f 4 _ Ha1.out Hb.out (by omega)).mono ?_
  rw [HP.out]
  rintro e w2 ⟨rfl, hd2⟩
  have R2 := hide (keepRow R1.out (drawn_below hd2 _))
  have E2 := hide (E1.out.of (drawn_below hd2 _))
  have Ha2 := hide (Ha1.out.drawn hd2)
  clear hd2 R1 E1 G1 Ha1 g1
  obtain ⟨⟨k0, y0⟩, ⟨k1, y1⟩, ⟨k2, y2⟩, ⟨k3, y3⟩, ⟨k4, y4⟩, ⟨k5, y5⟩, ⟨k6, y6⟩, rz⟩ := store7 R2.out (.int .i64 0) (.int .i64 0) (.string ⟨#[]⟩) (.bool false) (.string ⟨#[]⟩) (.bool false) (.int .i64 0)
  have RZ := hide rz
  have EE := hide (below7 E2.out (p := w.heap.size) (Nat.le_refl _) (.int .i64 0) (.int .i64 0) (.string ⟨#[]⟩) (.bool false) (.string ⟨#[]⟩) (.bool false) (.int .i64 0))
  clear rz
  go_wp2_with fail
  obtain ⟨m0_, m1_, m2_, m3_, m4_, m5_, m6_⟩ := row7 RZ.out
  refine bodyPost_ret (v := .tuple #[.agg #[.int .i64 0, .int .i64 0, .string ⟨#[]⟩, .bool false, .string ⟨#[]⟩, .bool false, .int .i64 0], .int .i64 0, .int .i64 d]) ?_ rfl ⟨rfl, EE.out⟩
  rw [results_cell_tmp2 rfl]
  go_simp
set_option maxRecDepth 100000 in
set_option maxHeartbeats 6400000 in
theorem get_perr5 (A : Option Addr) (n c : Nat) (f : Nat → Int) (t : Nat) (N : Int) (d : Int) (w : World) (ha : Rd .u8 w A n c f) (hb : Byt n f) (h0 : 0 < n) (hn : n ≤ 5000) (hkd : kd (f 0) = 5) (hp : pg f n 5 = (N, (t : Int), d)) (hd : d ≠ 0) (T : TypeId) (fr : Nat × Nat) (hg : w.heap[0]? = some (.cells formsV T fr)) : Calls Tryd.prog 19 #[.slice A n c] w fun e w' => e = .returned (.tuple #[.agg #[.int .i64 0, .int .i64 0, .string ⟨#[]⟩, .bool false, .string ⟨#[]⟩, .bool false, .int .i64 0], .int .i64 0, .int .i64 d]) ∧ Below w.heap.size w w' := by
  have R0 := hide (heap_alloc_new w (.cells #[.int .i64 0, .int .i64 0, .string ⟨#[]⟩, .bool false, .string ⟨#[]⟩, .bool false, .int .i64 0] 35))
  have al := (Below.refl w.heap.size w).alloc (Nat.le_refl _) (.cells #[.int .i64 0, .int .i64 0, .string ⟨#[]⟩, .bool false, .string ⟨#[]⟩, .bool false, .int .i64 0] 35)
  have E0 := hide al
  have G0 := hide ((al.block _ (rowLt hg)).trans hg)
  have Ha := hide (ha.below al)
  have Hb := hide hb
  have HK := hide hkd
  have HP := hide hp
  have hx := hb 0 h0
  obtain ⟨bb, off, rfl, hx0⟩ := ha.at_ (i := 0) h0
  rw [Nat.add_zero] at hx0
  have hx1 := (al.cell (World.block_lt_of_cell? w _ hx0)).trans hx0
  have nz : (n == 0) = false := by simp; omega
  have nz2 : ((n : Int) == 0) = false := by simp; omega
  have nz3 : decide (0 < n) = true := decide_eq_true h0
  obtain ⟨x, hxx⟩ : ∃ x, f 0 = x := ⟨_, rfl⟩
  rw [hxx] at hx hx1 HK
  have hxa := hx.1
  have hxb := hx.2
  have td : (d != 0) = true := by simpa using hd
  clear hd
  clear al ha hb hkd hp hg hx0 hxx hx
  go_enter Tryd.func19, Tryd.ntmps19
  go_upto_region 1 with (fail)
  generalize w.alloc (.cells #[.int .i64 0, .int .i64 0, .string ⟨#[]⟩, .bool false, .string ⟨#[]⟩, .bool false, .int .i64 0] 35) = W0 at *
  go_wp2_with fail
  refine (kindof22 x hxa hxb _ T fr G0.out).mono ?_
  rw [HK.out]
  rintro e w1 ⟨rfl, hb1⟩
  have R1 := hide (keepRow R0.out hb1)
  have E1 := hide (E0.out.of hb1)
  have G1 := hide ((hb1.block _ (rowLt G0.out)).trans G0.out)
  have Ha1 := hide (Ha.out.below hb1)
  clear hb1 R0 E0 G0 Ha hx1
  have g1 := forms_at G1.out 11 (.int .i64 5) rfl
  go_wp2_with fail
  refine (pget_any _ n c f 5 _ Ha1.out Hb.out (by omega)).mono ?_
  rw [HP.out]
  rintro e w2 ⟨rfl, hd2⟩
  have R2 := hide (keepRow R1.out (drawn_below hd2 _))
  have E2 := hide (E1.out.of (drawn_below hd2 _))
  have Ha2 := hide (Ha1.out.drawn hd2)
  clear hd2 R1 E1 G1 Ha1 g1
  obtain ⟨⟨k0, y0⟩, ⟨k1, y1⟩, ⟨k2, y2⟩, ⟨k3, y3⟩, ⟨k4, y4⟩, ⟨k5, y5⟩, ⟨k6, y6⟩, rz⟩ := store7 R2.out (.int .i64 0) (.int .i64 0) (.string ⟨#[]⟩) (.bool false) (.string ⟨#[]⟩) (.bool false) (.int .i64 0)
  have RZ := hide rz
  have EE := hide (below7 E2.out (p := w.heap.size) (Nat.le_refl _) (.int .i64 0) (.int .i64 0) (.string ⟨#[]⟩) (.bool false) (.string ⟨#[]⟩) (.bool false) (.int .i64 0))
  clear rz
  go_wp2_with fail
  obtain ⟨m0_, m1_, m2_, m3_, m4_, m5_, m6_⟩ := row7 RZ.out
  refine bodyPost_ret (v := .tuple #[.agg #[.int .i64 0, .int .i64 0, .string ⟨#[]⟩, .bool false, .string ⟨#[]⟩, .bool false, .int .i64 0], .int .i64 0, .int .i64 d]) ?_ rfl ⟨rfl, EE.out⟩
  rw [results_cell_tmp2 rfl]
  go_simp
set_option maxRecDepth 100000 in
set_option maxHeartbeats 6400000 in
theorem get_idx0 (A : Option Addr) (n c : Nat) (f : Nat → Int) (t : Nat) (w : World) (ha : Rd .u8 w A n c f) (hb : Byt n f) (h0 : 0 < n) (hn : n ≤ 5000) (hkd : kd (f 0) = 1) (hp : pg f n 7 = (0, (t : Int), 0)) (T : TypeId) (fr : Nat × Nat) (hg : w.heap[0]? = some (.cells formsV T fr)) : Calls Tryd.prog 19 #[.slice A n c] w fun e w' => e = .returned (.tuple #[.agg #[.int .i64 0, .int .i64 0, .string ⟨#[]⟩, .bool false, .string ⟨#[]⟩, .bool false, .int .i64 0], .int .i64 0, .int .i64 12]) ∧ Below w.heap.size w w' := by
  have R0 := hide (heap_alloc_new w (.cells #[.int .i64 0, .int .i64 0, .string ⟨#[]⟩, .bool false, .string ⟨#[]⟩, .bool false, .int .i64 0] 35))
  have al := (Below.refl w.heap.size w).alloc (Nat.le_refl _) (.cells #[.int .i64 0, .int .i64 0, .string ⟨#[]⟩, .bool false, .string ⟨#[]⟩, .bool false, .int .i64 0] 35)
  have E0 := hide al
  have G0 := hide ((al.block _ (rowLt hg)).trans hg)
  have Ha := hide (ha.below al)
  have Hb := hide hb
  have HK := hide hkd
  have HP := hide hp
  have hx := hb 0 h0
  obtain ⟨bb, off, rfl, hx0⟩ := ha.at_ (i := 0) h0
  rw [Nat.add_zero] at hx0
  have hx1 := (al.cell (World.block_lt_of_cell? w _ hx0)).trans hx0
  have nz : (n == 0) = false := by simp; omega
  have nz2 : ((n : Int) == 0) = false := by simp; omega
  have nz3 : decide (0 < n) = true := decide_eq_true h0
  obtain ⟨x, hxx⟩ : ∃ x, f 0 = x := ⟨_, rfl⟩
  rw [hxx] at hx hx1 HK
  have hxa := hx.1
  have hxb := hx.2
  clear al ha hb hkd hp hg hx0 hxx hx
  go_enter Tryd.func19, Tryd.ntmps19
  go_upto_region 1 with (fail)
  generalize w.alloc (.cells #[.int .i64 0, .int .i64 0, .string ⟨#[]⟩, .bool false, .string ⟨#[]⟩, .bool false, .int .i64 0] 35) = W0 at *
  go_wp2_with fail
  refine (kindof22 x hxa hxb _ T fr G0.out).mono ?_
  rw [HK.out]
  rintro e w1 ⟨rfl, hb1⟩
  have R1 := hide (keepRow R0.out hb1)
  have E1 := hide (E0.out.of hb1)
  have G1 := hide ((hb1.block _ (rowLt G0.out)).trans G0.out)
  have Ha1 := hide (Ha.out.below hb1)
  clear hb1 R0 E0 G0 Ha hx1
  have g1 := forms_at G1.out 3 (.int .i64 7) rfl
  go_wp2_with fail
  refine (pget_any _ n c f 7 _ Ha1.out Hb.out (by omega)).mono ?_
  rw [HP.out]
  rintro e w2 ⟨rfl, hd2⟩
  have R2 := hide (keepRow R1.out (drawn_below hd2 _))
  have E2 := hide (E1.out.of (drawn_below hd2 _))
  have Ha2 := hide (Ha1.out.drawn hd2)
  clear hd2 R1 E1 G1 Ha1 g1
  obtain ⟨⟨k0, y0⟩, ⟨k1, y1⟩, ⟨k2, y2⟩, ⟨k3, y3⟩, ⟨k4, y4⟩, ⟨k5, y5⟩, ⟨k6, y6⟩, rz⟩ := store7 R2.out (.int .i64 0) (.int .i64 0) (.string ⟨#[]⟩) (.bool false) (.string ⟨#[]⟩) (.bool false) (.int .i64 0)
  have RZ := hide rz
  have EE := hide (below7 E2.out (p := w.heap.size) (Nat.le_refl _) (.int .i64 0) (.int .i64 0) (.string ⟨#[]⟩) (.bool false) (.string ⟨#[]⟩) (.bool false) (.int .i64 0))
  clear rz
  go_wp2_with fail
  obtain ⟨m0_, m1_, m2_, m3_, m4_, m5_, m6_⟩ := row7 RZ.out
  refine bodyPost_ret (v := .tuple #[.agg #[.int .i64 0, .int .i64 0, .string ⟨#[]⟩, .bool false, .string ⟨#[]⟩, .bool false, .int .i64 0], .int .i64 0, .int .i64 12]) ?_ rfl ⟨rfl, EE.out⟩
  rw [results_cell_tmp2 rfl]
  go_simp
set_option maxRecDepth 100000 in
set_option maxHeartbeats 6400000 in
theorem get_idx (A : Option Addr) (n c : Nat) (f : Nat → Int) (t : Nat) (N : Int) (w : World) (ha : Rd .u8 w A n c f) (hb : Byt n f) (h0 : 0 < n) (hn : n ≤ 5000) (hkd : kd (f 0) = 1) (hp : pg f n 7 = (N, (t : Int), 0)) (hN : N ≠ 0) (T : TypeId) (fr : Nat × Nat) (hg : w.heap[0]? = some (.cells formsV T fr)) : Calls Tryd.prog 19 #[.slice A n c] w fun e w' => e = .returned (.tuple #[.agg #[.int .i64 1, .int .i64 N, .string ⟨#[]⟩, .bool false, .string ⟨#[]⟩, .bool false, .int .i64 0], .int .i64 (t : Int), .int .i64 0]) ∧ Below w.heap.size w w' := by
  have R0 := hide (heap_alloc_new w (.cells #[.int .i64 0, .int .i64 0, .string ⟨#[]⟩, .bool false, .string ⟨#[]⟩, .bool false, .int .i64 0] 35))
  have al := (Below.refl w.heap.size w).alloc (Nat.le_refl _) (.cells #[.int .i64 0, .int .i64 0, .string ⟨#[]⟩, .bool false, .string ⟨#[]⟩, .bool false, .int .i64 0] 35)
  have E0 := hide al
  have G0 := hide ((al.block _ (rowLt hg)).trans hg)
  have Ha := hide (ha.below al)
  have Hb := hide hb
  have HK := hide hkd
  have HP := hide hp
  have hx := hb 0 h0
  obtain ⟨bb, off, rfl, hx0⟩ := ha.at_ (i := 0) h0
  rw [Nat.add_zero] at hx0
  have hx1 := (al.cell (World.block_lt_of_cell? w _ hx0)).trans hx0
  have nz : (n == 0) = false := by simp; omega
  have nz2 : ((n : Int) == 0) = false := by simp; omega
  have nz3 : decide (0 < n) = true := decide_eq_true h0
  obtain ⟨x, hxx⟩ : ∃ x, f 0 = x := ⟨_, rfl⟩
  rw [hxx] at hx hx1 HK
  have hxa := hx.1
  have hxb := hx.2
  have tN : (N == 0) = false := by simpa using hN
  clear hN
  clear al ha hb hkd hp hg hx0 hxx hx
  go_enter Tryd.func19, Tryd.ntmps19
  go_upto_region 1 with (fail)
  generalize w.alloc (.cells #[.int .i64 0, .int .i64 0, .string ⟨#[]⟩, .bool false, .string ⟨#[]⟩, .bool false, .int .i64 0] 35) = W0 at *
  go_wp2_with fail
  refine (kindof22 x hxa hxb _ T fr G0.out).mono ?_
  rw [HK.out]
  rintro e w1 ⟨rfl, hb1⟩
  have R1 := hide (keepRow R0.out hb1)
  have E1 := hide (E0.out.of hb1)
  have G1 := hide ((hb1.block _ (rowLt G0.out)).trans G0.out)
  have Ha1 := hide (Ha.out.below hb1)
  clear hb1 R0 E0 G0 Ha hx1
  have g1 := forms_at G1.out 3 (.int .i64 7) rfl
  go_wp2_with fail
  refine (pget_any _ n c f 7 _ Ha1.out Hb.out (by omega)).mono ?_
  rw [HP.out]
  rintro e w2 ⟨rfl, hd2⟩
  have R2 := hide (keepRow R1.out (drawn_below hd2 _))
  have E2 := hide (E1.out.of (drawn_below hd2 _))
  have Ha2 := hide (Ha1.out.drawn hd2)
  clear hd2 R1 E1 G1 Ha1 g1
  obtain ⟨⟨k0, y0⟩, ⟨k1, y1⟩, ⟨k2, y2⟩, ⟨k3, y3⟩, ⟨k4, y4⟩, ⟨k5, y5⟩, ⟨k6, y6⟩, rz⟩ := store7 R2.out (.int .i64 1) (.int .i64 N) (.string ⟨#[]⟩) (.bool false) (.string ⟨#[]⟩) (.bool false) (.int .i64 0)
  have RZ := hide rz
  have EE := hide (below7 E2.out (p := w.heap.size) (Nat.le_refl _) (.int .i64 1) (.int .i64 N) (.string ⟨#[]⟩) (.bool false) (.string ⟨#[]⟩) (.bool false) (.int .i64 0))
  clear rz
  go_wp2_with fail
  obtain ⟨m0_, m1_, m2_, m3_, m4_, m5_, m6_⟩ := row7 RZ.out
  refine bodyPost_ret (v := .tuple #[.agg #[.int .i64 1, .int .i64 N, .string ⟨#[]⟩, .bool false, .string ⟨#[]⟩, .bool false, .int .i64 0], .int .i64 (t : Int), .int .i64 0]) ?_ rfl ⟨rfl, EE.out⟩
  rw [results_cell_tmp2 rfl]
  go_simp
set_option maxRecDepth 100000 in
set_option maxHeartbeats 6400000 in
theorem get_size (A : Option Addr) (n c : Nat) (f : Nat → Int) (t : Nat) (N : Int) (w : World) (ha : Rd .u8 w A n c f) (hb : Byt n f) (h0 : 0 < n) (hn : n ≤ 5000) (hkd : kd (f 0) = 5) (hp : pg f n 5 = (N, (t : Int), 0)) (T : TypeId) (fr : Nat × Nat) (hg : w.heap[0]? = some (.cells formsV T fr)) : Calls Tryd.prog 19 #[.slice A n c] w fun e w' => e = .returned (.tuple #[.agg #[.int .i64 5, .int .i64 0, .string ⟨#[]⟩, .bool false, .string ⟨#[]⟩, .bool false, .int .i64 N], .int .i64 (t : Int), .int .i64 0]) ∧ Below w.heap.size w w' := by
  have R0 := hide (heap_alloc_new w (.cells #[.int .i64 0, .int .i64 0, .string ⟨#[]⟩, .bool false, .string ⟨#[]⟩, .bool false, .int .i64 0] 35))
  have al := (Below.refl w.heap.size w).alloc (Nat.le_refl _) (.cells #[.int .i64 0, .int .i64 0, .string ⟨#[]⟩, .bool false, .string ⟨#[]⟩, .bool false, .int .i64 0] 35)
  have E0 := hide al
  have G0 := hide ((al.block _ (rowLt hg)).trans hg)
  have Ha := hide (ha.below al)
  have Hb := hide hb
  have HK := hide hkd
  have HP := hide hp
  have hx := hb 0 h0
  obtain ⟨bb, off, rfl, hx0⟩ := ha.at_ (i := 0) h0
  rw [Nat.add_zero] at hx0
  have hx1 := (al.cell (World.block_lt_of_cell? w _ hx0)).trans hx0
  have nz : (n == 0) = false := by simp; omega
  have nz2 : ((n : Int) == 0) = false := by simp; omega
  have nz3 : decide (0 < n) = true := decide_eq_true h0
  obtain ⟨x, hxx⟩ : ∃ x, f 0 = x := ⟨_, rfl⟩
  rw [hxx] at hx hx1 HK
  have hxa := hx.1
  have hxb := hx.2
  clear al ha hb hkd hp hg hx0 hxx hx
  go_enter Tryd.func19, Tryd.ntmps19
  go_upto_region 1 with (fail)
  generalize w.alloc (.cells #[.int .i64 0, .int .i64 0, .string ⟨#[]⟩, .bool false, .string ⟨#[]⟩, .bool false, .int .i64 0] 35) = W0 at *
  go_wp2_with fail
  refine (kindof22 x hxa hxb _ T fr G0.out).mono ?_
  rw [HK.out]
  rintro e w1 ⟨rfl, hb1⟩
  have R1 := hide (keepRow R0.out hb1)
  have E1 := hide (E0.out.of hb1)
  have G1 := hide ((hb1.block _ (rowLt G0.out)).trans G0.out)
  have Ha1 := hide (Ha.out.below hb1)
  clear hb1 R0 E0 G0 Ha hx1
  have g1 := forms_at G1.out 11 (.int .i64 5) rfl
  go_wp2_with fail
  refine (pget_any _ n c f 5 _ Ha1.out Hb.out (by omega)).mono ?_
  rw [HP.out]
  rintro e w2 ⟨rfl, hd2⟩
  have R2 := hide (keepRow R1.out (drawn_below hd2 _))
  have E2 := hide (E1.out.of (drawn_below hd2 _))
  have Ha2 := hide (Ha1.out.drawn hd2)
  clear hd2 R1 E1 G1 Ha1 g1
  obtain ⟨⟨k0, y0⟩, ⟨k1, y1⟩, ⟨k2, y2⟩, ⟨k3, y3⟩, ⟨k4, y4⟩, ⟨k5, y5⟩, ⟨k6, y6⟩, rz⟩ := store7 R2.out (.int .i64 5) (.int .i64 0) (.string ⟨#[]⟩) (.bool false) (.string ⟨#[]⟩) (.bool false) (.int .i64 N)
  have RZ := hide rz
  have EE := hide (below7 E2.out (p := w.heap.size) (Nat.le_refl _) (.int .i64 5) (.int .i64 0) (.string ⟨#[]⟩) (.bool false) (.string ⟨#[]⟩) (.bool false) (.int .i64 N))
  clear rz
  go_wp2_with fail
  obtain ⟨m0_, m1_, m2_, m3_, m4_, m5_, m6_⟩ := row7 RZ.out
  refine bodyPost_ret (v := .tuple #[.agg #[.int .i64 5, .int .i64 0, .string ⟨#[]⟩, .bool false, .string ⟨#[]⟩, .bool false, .int .i64 N], .int .i64 (t : Int), .int .i64 0]) ?_ rfl ⟨rfl, EE.out⟩
  rw [results_cell_tmp2 rfl]
  go_simp
end Go.Proofs.YtdnfhddahpmnmabDoor
