/- Rp8, Rp9, Rpa, Rpb in one text. -/
import Derived.Test.YtnkcbljhgcgpaaaDoorMR
import Derived.Deep.Cut
namespace Go.Proofs.YtnkcbljhgcgpaaaDoor
set_option linter.unusedVariables false
set_option linter.unusedSimpArgs false
section
open Go.RowKit Go.PlainAid

set_option maxRecDepth 20000 in
theorem store7w {w w1 w2 w3 w4 w5 w6 w7 : World} {p : Nat} {T : TypeId} {a0 a1 a2 a3 a4 a5 a6 b0 b1 b2 b3 b4 b5 b6 : Value} (e1 : w1 = w.setCell ⟨p, 0, none⟩ b0) (e2 : w2 = w1.setCell ⟨p, 1, none⟩ b1) (e3 : w3 = w2.setCell ⟨p, 2, none⟩ b2) (e4 : w4 = w3.setCell ⟨p, 3, none⟩ b3) (e5 : w5 = w4.setCell ⟨p, 4, none⟩ b4) (e6 : w6 = w5.setCell ⟨p, 5, none⟩ b5) (e7 : w7 = w6.setCell ⟨p, 6, none⟩ b6) (h : w.heap[p]? = some (.cells #[a0, a1, a2, a3, a4, a5, a6] T (0, 0))) :
    (w.cell? ⟨p, 0, none⟩ = some a0 ∧ w.frozen? ⟨p, 0, none⟩ = false) ∧ (w1.cell? ⟨p, 1, none⟩ = some a1 ∧ w1.frozen? ⟨p, 1, none⟩ = false) ∧ (w2.cell? ⟨p, 2, none⟩ = some a2 ∧ w2.frozen? ⟨p, 2, none⟩ = false) ∧ (w3.cell? ⟨p, 3, none⟩ = some a3 ∧ w3.frozen? ⟨p, 3, none⟩ = false) ∧ (w4.cell? ⟨p, 4, none⟩ = some a4 ∧ w4.frozen? ⟨p, 4, none⟩ = false) ∧ (w5.cell? ⟨p, 5, none⟩ = some a5 ∧ w5.frozen? ⟨p, 5, none⟩ = false) ∧ (w6.cell? ⟨p, 6, none⟩ = some a6 ∧ w6.frozen? ⟨p, 6, none⟩ = false) ∧ w7.heap[p]? = some (.cells #[b0, b1, b2, b3, b4, b5, b6] T (0, 0)) := by
  have h1 := setRow w p 0 b0 h
  simp only [List.setIfInBounds_toArray, List.set_cons_zero, List.set_cons_succ] at h1
  rw [← e1] at h1
  have h2 := setRow w1 p 1 b1 h1
  simp only [List.setIfInBounds_toArray, List.set_cons_zero, List.set_cons_succ] at h2
  rw [← e2] at h2
  have h3 := setRow w2 p 2 b2 h2
  simp only [List.setIfInBounds_toArray, List.set_cons_zero, List.set_cons_succ] at h3
  rw [← e3] at h3
  have h4 := setRow w3 p 3 b3 h3
  simp only [List.setIfInBounds_toArray, List.set_cons_zero, List.set_cons_succ] at h4
  rw [← e4] at h4
  have h5 := setRow w4 p 4 b4 h4
  simp only [List.setIfInBounds_toArray, List.set_cons_zero, List.set_cons_succ] at h5
  rw [← e5] at h5
  have h6 := setRow w5 p 5 b5 h5
  simp only [List.setIfInBounds_toArray, List.set_cons_zero, List.set_cons_succ] at h6
  rw [← e6] at h6
  have h7 := setRow w6 p 6 b6 h6
  simp only [List.setIfInBounds_toArray, List.set_cons_zero, List.set_cons_succ] at h7
  rw [← e7] at h7
  exact ⟨⟨(row7 h).1, frozenRow h 0⟩, ⟨(row7 h1).2.1, frozenRow h1 1⟩, ⟨(row7 h2).2.2.1, frozenRow h2 2⟩, ⟨(row7 h3).2.2.2.1, frozenRow h3 3⟩, ⟨(row7 h4).2.2.2.2.1, frozenRow h4 4⟩, ⟨(row7 h5).2.2.2.2.2.1, frozenRow h5 5⟩, ⟨(row7 h6).2.2.2.2.2.2, frozenRow h6 6⟩, h7⟩
theorem store7 {w : World} {p : Nat} {T : TypeId} {a0 a1 a2 a3 a4 a5 a6 : Value} (h : w.heap[p]? = some (.cells #[a0, a1, a2, a3, a4, a5, a6] T (0, 0))) (b0 b1 b2 b3 b4 b5 b6 : Value) :
    (w.cell? ⟨p, 0, none⟩ = some a0 ∧ w.frozen? ⟨p, 0, none⟩ = false) ∧ ((w.setCell ⟨p, 0, none⟩ b0).cell? ⟨p, 1, none⟩ = some a1 ∧ (w.setCell ⟨p, 0, none⟩ b0).frozen? ⟨p, 1, none⟩ = false) ∧ (((w.setCell ⟨p, 0, none⟩ b0).setCell ⟨p, 1, none⟩ b1).cell? ⟨p, 2, none⟩ = some a2 ∧ ((w.setCell ⟨p, 0, none⟩ b0).setCell ⟨p, 1, none⟩ b1).frozen? ⟨p, 2, none⟩ = false) ∧ ((((w.setCell ⟨p, 0, none⟩ b0).setCell ⟨p, 1, none⟩ b1).setCell ⟨p, 2, none⟩ b2).cell? ⟨p, 3, none⟩ = some a3 ∧ (((w.setCell ⟨p, 0, none⟩ b0).setCell ⟨p, 1, none⟩ b1).setCell ⟨p, 2, none⟩ b2).frozen? ⟨p, 3, none⟩ = false) ∧ (((((w.setCell ⟨p, 0, none⟩ b0).setCell ⟨p, 1, none⟩ b1).setCell ⟨p, 2, none⟩ b2).setCell ⟨p, 3, none⟩ b3).cell? ⟨p, 4, none⟩ = some a4 ∧ ((((w.setCell ⟨p, 0, none⟩ b0).setCell ⟨p, 1, none⟩ b1).setCell ⟨p, 2, none⟩ b2).setCell ⟨p, 3, none⟩ b3).frozen? ⟨p, 4, none⟩ = false) ∧ ((((((w.setCell ⟨p, 0, none⟩ b0).setCell ⟨p, 1, none⟩ b1).setCell ⟨p, 2, none⟩ b2).setCell ⟨p, 3, none⟩ b3).setCell ⟨p, 4, none⟩ b4).cell? ⟨p, 5, none⟩ = some a5 ∧ (((((w.setCell ⟨p, 0, none⟩ b0).setCell ⟨p, 1, none⟩ b1).setCell ⟨p, 2, none⟩ b2).setCell ⟨p, 3, none⟩ b3).setCell ⟨p, 4, none⟩ b4).frozen? ⟨p, 5, none⟩ = false) ∧ (((((((w.setCell ⟨p, 0, none⟩ b0).setCell ⟨p, 1, none⟩ b1).setCell ⟨p, 2, none⟩ b2).setCell ⟨p, 3, none⟩ b3).setCell ⟨p, 4, none⟩ b4).setCell ⟨p, 5, none⟩ b5).cell? ⟨p, 6, none⟩ = some a6 ∧ ((((((w.setCell ⟨p, 0, none⟩ b0).setCell ⟨p, 1, none⟩ b1).setCell ⟨p, 2, none⟩ b2).setCell ⟨p, 3, none⟩ b3).setCell ⟨p, 4, none⟩ b4).setCell ⟨p, 5, none⟩ b5).frozen? ⟨p, 6, none⟩ = false) ∧ (((((((w.setCell ⟨p, 0, none⟩ b0).setCell ⟨p, 1, none⟩ b1).setCell ⟨p, 2, none⟩ b2).setCell ⟨p, 3, none⟩ b3).setCell ⟨p, 4, none⟩ b4).setCell ⟨p, 5, none⟩ b5).setCell ⟨p, 6, none⟩ b6).heap[p]? = some (.cells #[b0, b1, b2, b3, b4, b5, b6] T (0, 0)) := store7w rfl rfl rfl rfl rfl rfl rfl h
theorem below7w {B p : Nat} {w0 w w1 w2 w3 w4 w5 w6 w7 : World} {b0 b1 b2 b3 b4 b5 b6 : Value} (e1 : w1 = w.setCell ⟨p, 0, none⟩ b0) (e2 : w2 = w1.setCell ⟨p, 1, none⟩ b1) (e3 : w3 = w2.setCell ⟨p, 2, none⟩ b2) (e4 : w4 = w3.setCell ⟨p, 3, none⟩ b3) (e5 : w5 = w4.setCell ⟨p, 4, none⟩ b4) (e6 : w6 = w5.setCell ⟨p, 5, none⟩ b5) (e7 : w7 = w6.setCell ⟨p, 6, none⟩ b6) (E : Below B w0 w) (hB : B ≤ p) : Below B w0 w7 := by
  subst e1 e2 e3 e4 e5 e6 e7
  exact (((((((E.setCell (p := ⟨p, 0, none⟩) hB _).setCell (p := ⟨p, 1, none⟩) hB _).setCell (p := ⟨p, 2, none⟩) hB _).setCell (p := ⟨p, 3, none⟩) hB _).setCell (p := ⟨p, 4, none⟩) hB _).setCell (p := ⟨p, 5, none⟩) hB _).setCell (p := ⟨p, 6, none⟩) hB _)
theorem below7 {B p : Nat} {w0 w : World} (E : Below B w0 w) (hB : B ≤ p) (b0 b1 b2 b3 b4 b5 b6 : Value) : Below B w0 (((((((w.setCell ⟨p, 0, none⟩ b0).setCell ⟨p, 1, none⟩ b1).setCell ⟨p, 2, none⟩ b2).setCell ⟨p, 3, none⟩ b3).setCell ⟨p, 4, none⟩ b4).setCell ⟨p, 5, none⟩ b5).setCell ⟨p, 6, none⟩ b6) := below7w rfl rfl rfl rfl rfl rfl rfl E hB
end

section
open Go.RowKit Go.PlainAid

set_option maxRecDepth 100000 in
set_option maxHeartbeats 6400000 in
theorem get_none (c : Nat) (A : Option Addr) (w : World) : Calls Tryd.prog 32 #[.slice A 0 c] w fun e w' => e = .returned (.tuple #[.agg #[.int .i64 0, .int .i64 0, .string ⟨#[]⟩, .bool false, .string ⟨#[]⟩, .bool false, .int .i64 0], .int .i64 0, .int .i64 3]) ∧ Below w.heap.size w w' := by
  have R0 := hide (heap_alloc_new w (.cells #[.int .i64 0, .int .i64 0, .string ⟨#[]⟩, .bool false, .string ⟨#[]⟩, .bool false, .int .i64 0] 81))
  have al := (Below.refl w.heap.size w).alloc (Nat.le_refl _) (.cells #[.int .i64 0, .int .i64 0, .string ⟨#[]⟩, .bool false, .string ⟨#[]⟩, .bool false, .int .i64 0] 81)
  have E0 := hide al
  clear al
  go_enter Tryd.func32, Tryd.ntmps32
  go_upto_region 1 with (fail)
  generalize w.alloc (.cells #[.int .i64 0, .int .i64 0, .string ⟨#[]⟩, .bool false, .string ⟨#[]⟩, .bool false, .int .i64 0] 81) = W0 at *
  obtain ⟨⟨k0, y0⟩, ⟨k1, y1⟩, ⟨k2, y2⟩, ⟨k3, y3⟩, ⟨k4, y4⟩, ⟨k5, y5⟩, ⟨k6, y6⟩, rz⟩ := store7 R0.out (.int .i64 0) (.int .i64 0) (.string ⟨#[]⟩) (.bool false) (.string ⟨#[]⟩) (.bool false) (.int .i64 0)
  have RZ := hide rz
  have EE := hide (below7 E0.out (p := w.heap.size) (Nat.le_refl _) (.int .i64 0) (.int .i64 0) (.string ⟨#[]⟩) (.bool false) (.string ⟨#[]⟩) (.bool false) (.int .i64 0))
  clear rz
  go_wp2_with fail
  obtain ⟨m0_, m1_, m2_, m3_, m4_, m5_, m6_⟩ := row7 RZ.out
  refine bodyPost_ret (v := .tuple #[.agg #[.int .i64 0, .int .i64 0, .string ⟨#[]⟩, .bool false, .string ⟨#[]⟩, .bool false, .int .i64 0], .int .i64 0, .int .i64 3]) ?_ rfl ⟨rfl, EE.out⟩
  rw [results_cell_tmp2 rfl]
  go_simp
set_option maxRecDepth 100000 in
set_option maxHeartbeats 6400000 in
theorem get_perr1 (A : Option Addr) (n c : Nat) (f : Nat → Int) (t : Nat) (N : Int) (d : Int) (w : World) (ha : Rd .u8 w A n c f) (hb : Byt n f) (h0 : 0 < n) (hn : n ≤ 100000) (hkd : kd (f 0) = 1) (hp : pg f n 7 = (N, (t : Int), d)) (hd : d ≠ 0) (T : TypeId) (fr : Nat × Nat) (hg : w.heap[0]? = some (.cells formsV T fr)) : Calls Tryd.prog 32 #[.slice A n c] w fun e w' => e = .returned (.tuple #[.agg #[.int .i64 0, .int .i64 0, .string ⟨#[]⟩, .bool false, .string ⟨#[]⟩, .bool false, .int .i64 0], .int .i64 0, .int .i64 d]) ∧ Below w.heap.size w w' := by
  have R0 := hide (heap_alloc_new w (.cells #[.int .i64 0, .int .i64 0, .string ⟨#[]⟩, .bool false, .string ⟨#[]⟩, .bool false, .int .i64 0] 81))
  have al := (Below.refl w.heap.size w).alloc (Nat.le_refl _) (.cells #[.int .i64 0, .int .i64 0, .string ⟨#[]⟩, .bool false, .string ⟨#[]⟩, .bool false, .int .i64 0] 81)
  have E0 := hide al
  have G0 := hide ((al.block _ (rowLt hg)).trans hg)
  have Ha := hide (ha.below al)
  have Hb := hide hb
  have HK := hide hkd
  have HP := hide hp
  have hx := hb 0 h0
  obtain ⟨bb, off, rfl, hx0⟩ := ha.at_ (i := 0) h0
  rw [Nat.add_zero] at hx0
  have hx1 := (al.cell (World.block_lt_of_cell? w _ hx0)).trans hx0
  have nz : (n == 0) = false := by simp; omega
  have nz2 : ((n : Int) == 0) = false := by simp; omega
  have nz3 : decide (0 < n) = true := decide_eq_true h0
  obtain ⟨x, hxx⟩ : ∃ x, f 0 = x := ⟨_, rfl⟩
  rw [hxx] at hx hx1 HK
  have hxa := hx.1
  have hxb := hx.2
  have td : (d != 0) = true := by simpa using hd
  clear hd
  clear al ha hb hkd hp hg hx0 hxx hx
  go_enter Tryd.func32, Tryd.ntmps32
  go_upto_region 1 with (fail)
  generalize w.alloc (.cells #[.int .i64 0, .int .i64 0, .string ⟨#[]⟩, .bool false, .string ⟨#[]⟩, .bool false, .int .i64 0] 81) = W0 at *
  go_wp2_with fail
  refine (kindof22 x hxa hxb _ T fr G0.out).mono ?_
  rw [HK.out]
  rintro e w1 ⟨rfl, hb1⟩
  have R1 := hide (keepRow R0.out hb1)
  have E1 := hide (E0.out.of hb1)
  have G1 := hide ((hb1.block _ (rowLt G0.out)).trans G0.out)
  have Ha1 := hide (Ha.out.below hb1)
  clear hb1 R0 E0 G0 Ha hx1
  have g1 := forms_at G1.out 3 (.int .i64 7) rfl
  go_wp2_with fail
  refine (pget_any _ n c f 7 _ Ha1.out Hb.out (by omega)).mono ?_
  rw [HP.out]
  rintro e w2 ⟨rfl, hd2⟩
  have R2 := hide (keepRow R1.out (drawn_below hd2 _))
  have E2 := hide (E1.out.of (drawn_below hd2 _))
  have Ha2 := hide (Ha1.out.drawn hd2)
  clear hd2 R1 E1 G1 Ha1 g1
  obtain ⟨⟨k0, y0⟩, ⟨k1, y1⟩, ⟨k2, y2⟩, ⟨k3, y3⟩, ⟨k4, y4⟩, ⟨k5, y5⟩, ⟨k6, y6⟩, rz⟩ := store7 R2.out (.int .i64 0) (.int .i64 0) (.string ⟨#[]⟩) (.bool false) (.string ⟨#[]⟩) (.bool false) (.int .i64 0)
  have RZ := hide rz
  have EE := hide (below7 E2.out (p := w.heap.size) (Nat.le_refl _) (.int .i64 0) (.int .i64 0) (.string ⟨#[]⟩) (.bool false) (.string ⟨#[]⟩) (.bool false) (.int .i64 0))
  clear rz
  go_wp2_with fail
  obtain ⟨m0_, m1_, m2_, m3_, m4_, m5_, m6_⟩ := row7 RZ.out
  refine bodyPost_ret (v := .tuple #[.agg #[.int .i64 0, .int .i64 0, .string ⟨#[]⟩, .bool false, .string ⟨#[]⟩, .bool false, .int .i64 0], .int .i64 0, .int .i64 d]) ?_ rfl ⟨rfl, EE.out⟩
  rw [results_cell_tmp2 rfl]
  go_simp
set_option maxRecDepth 100000 in
set_option maxHeartbeats 6400000 in
theorem get_perr2 (A : Option Addr) (n c : Nat) (f : Nat → Int) (t : Nat) (N : Int) (d : Int) (w : World) (ha : Rd .u8 w A n c f) (hb : Byt n f) (h0 : 0 < n) (hn : n ≤ 100000) (hkd : kd (f 0) = 2) (hp : pg f n 6 = (N, (t : Int), d)) (hd : d ≠ 0) (T : TypeId) (fr : Nat × Nat) (hg : w.heap[0]? = some (.cells formsV T fr)) : Calls Tryd.prog 32 #[.slice A n c] w fun e w' => e = .returned (.tuple #[.agg #[.int .i64 0, .int .i64 0, .string ⟨#[]⟩, .bool false, .string ⟨#[]⟩, .bool false, .int .i64 0], .int .i64 0, .int .i64 d]) ∧ Below w.heap.size w w' := by
  have R0 := hide (heap_alloc_new w (.cells #[.int .i64 0, .int .i64 0, .string ⟨#[]⟩, .bool false, .string ⟨#[]⟩, .bool false, .int .i64 0] 81))
  have al := (Below.refl w.heap.size w).alloc (Nat.le_refl _) (.cells #[.int .i64 0, .int .i64 0, .string ⟨#[]⟩, .bool false, .string ⟨#[]⟩, .bool false, .int .i64 0] 81)
  have E0 := hide al
  have G0 := hide ((al.block _ (rowLt hg)).trans hg)
  have Ha := hide (ha.below al)
  have Hb := hide hb
  have HK := hide hkd
  have HP := hide hp
  have hx := hb 0 h0
  obtain ⟨bb, off, rfl, hx0⟩ := ha.at_ (i := 0) h0
  rw [Nat.add_zero] at hx0
  have hx1 := (al.cell (World.block_lt_of_cell? w _ hx0)).trans hx0
  have nz : (n == 0) = false := by simp; omega
  have nz2 : ((n : Int) == 0) = false := by simp; omega
  have nz3 : decide (0 < n) = true := decide_eq_true h0
  obtain ⟨x, hxx⟩ : ∃ x, f 0 = x := ⟨_, rfl⟩
  rw [hxx] at hx hx1 HK
  have hxa := hx.1
  have hxb := hx.2
  have td : (d != 0) = true := by simpa using hd
  clear hd
  clear al ha hb hkd hp hg hx0 hxx hx
  go_enter Tryd.func32, Tryd.ntmps32
  go_upto_region 1 with (fail)
  generalize w.alloc (.cells #[.int .i64 0, .int .i64 0, .string ⟨#[]⟩, .bool false, .string ⟨#[]⟩, .bool false, .int .i64 0] 81) = W0 at *
  go_wp2_with fail
  refine (kindof22 x hxa hxb _ T fr G0.out).mono ?_
  rw [HK.out]
  rintro e w1 ⟨rfl, hb1⟩
  have R1 := hide (keepRow R0.out hb1)
  have E1 := hide (E0.out.of hb1)
  have G1 := hide ((hb1.block _ (rowLt G0.out)).trans G0.out)
  have Ha1 := hide (Ha.out.below hb1)
  clear hb1 R0 E0 G0 Ha hx1
  have g1 := forms_at G1.out 5 (.int .i64 6) rfl
  go_wp2_with fail
  refine (pget_any _ n c f 6 _ Ha1.out Hb.out (by omega)).mono ?_
  rw [HP.out]
  rintro e w2 ⟨rfl, hd2⟩
  have R2 := hide (keepRow R1.out (drawn_below hd2 _))
  have E2 := hide (E1.out.of (drawn_below hd2 _))
  have Ha2 := hide (Ha1.out.drawn hd2)
  clear hd2 R1 E1 G1 Ha1 g1
  obtain ⟨⟨k0, y0⟩, ⟨k1, y1⟩, ⟨k2, y2⟩, ⟨k3, y3⟩, ⟨k4, y4⟩, ⟨k5, y5⟩, ⟨k6, y6⟩, rz⟩ := store7 R2.out (.int .i64 0) (.int .i64 0) (.string ⟨#[]⟩) (.bool false) (.string ⟨#[]⟩) (.bool false) (.int .i64 0)
  have RZ := hide rz
  have EE := hide (below7 E2.out (p := w.heap.size) (Nat.le_refl _) (.int .i64 0) (.int .i64 0) (.string ⟨#[]⟩) (.bool false) (.string ⟨#[]⟩) (.bool false) (.int .i64 0))
  clear rz
  go_wp2_with fail
  obtain ⟨m0_, m1_, m2_, m3_, m4_, m5_, m6_⟩ := row7 RZ.out
  refine bodyPost_ret (v := .tuple #[.agg #[.int .i64 0, .int .i64 0, .string ⟨#[]⟩, .bool false, .string ⟨#[]⟩, .bool false, .int .i64 0], .int .i64 0, .int .i64 d]) ?_ rfl ⟨rfl, EE.out⟩
  rw [results_cell_tmp2 rfl]
  go_simp
set_option maxRecDepth 100000 in
set_option maxHeartbeats 6400000 in
theorem get_perr3 (A : Option Addr) (n c : Nat) (f : Nat → Int) (t : Nat) (N : Int) (d : Int) (w : World) (ha : Rd .u8 w A n c f) (hb : Byt n f) (h0 : 0 < n) (hn : n ≤ 100000) (hkd : kd (f 0) = 3) (hp : pg f n 4 = (N, (t : Int), d)) (hd : d ≠ 0) (T : TypeId) (fr : Nat × Nat) (hg : w.heap[0]? = some (.cells formsV T fr)) : Calls Tryd.prog 32 #[.slice A n c] w fun e w' => e = .returned (.tuple #[.agg #[.int .i64 0, .int .i64 0, .string ⟨#[]⟩, .bool false, .string ⟨#[]⟩, .bool false, .int .i64 0], .int .i64 0, .int .i64 d]) ∧ Below w.heap.size w w' := by
  have R0 := hide (heap_alloc_new w (.cells #[.int .i64 0, .int .i64 0, .string ⟨#[]⟩, .bool false, .string ⟨#[]⟩, .bool false, .int .i64 0] 81))
  have al := (Below.refl w.heap.size w).alloc (Nat.le_refl _) (.cells #[.int .i64 0, .int .i64 0, .string ⟨#[]⟩, .bool false, .string ⟨#[]⟩, .bool false, .int .i64 0] 81)
  have E0 := hide al
  have G0 := hide ((al.block _ (rowLt hg)).trans hg)
  have Ha := hide (ha.below al)
  have Hb := hide hb
  have HK := hide hkd
  have HP := hide hp
  have hx := hb 0 h0
  obtain ⟨bb, off, rfl, hx0⟩ := ha.at_ (i := 0) h0
  rw [Nat.add_zero] at hx0
  have hx1 := (al.cell (World.block_lt_of_cell? w _ hx0)).trans hx0
  have nz : (n == 0) = false := by simp; omega
  have nz2 : ((n : Int) == 0) = false := by simp; omega
  have nz3 : decide (0 < n) = true := decide_eq_true h0
  obtain ⟨x, hxx⟩ : ∃ x, f 0 = x := ⟨_, rfl⟩
  rw [hxx] at hx hx1 HK
  have hxa := hx.1
  have hxb := hx.2
  have td : (d != 0) = true := by simpa using hd
  clear hd
  clear al ha hb hkd hp hg hx0 hxx hx
  go_enter Tryd.func32, Tryd.ntmps32
  go_upto_region 1 with (fail)
  generalize w.alloc (.cells #[.int .i64 0, .int .i64 0, .string ⟨#[]⟩, .bool false, .string ⟨#[]⟩, .bool false, .int .i64 0] 81) = W0 at *
  go_wp2_with fail
  refine (kindof22 x hxa hxb _ T fr G0.out).mono ?_
  rw [HK.out]
  rintro e w1 ⟨rfl, hb1⟩
  have R1 := hide (keepRow R0.out hb1)
  have E1 := hide (E0.out.of hb1)
  have G1 := hide ((hb1.block _ (rowLt G0.out)).trans G0.out)
  have Ha1 := hide (Ha.out.below hb1)
  clear hb1 R0 E0 G0 Ha hx1
  have g1 := forms_at G1.out 7 (.int .i64 4) rfl
  go_wp2_with fail
  refine (pget_any _ n c f 4 _ Ha1.out Hb.out (by omega)).mono ?_
  rw [HP.out]
  rintro e w2 ⟨rfl, hd2⟩
  have R2 := hide (keepRow R1.out (drawn_below hd2 _))
  have E2 := hide (E1.out.of (drawn_below hd2 _))
  have Ha2 := hide (Ha1.out.drawn hd2)
  clear hd2 R1 E1 G1 Ha1 g1
  obtain ⟨⟨k0, y0⟩, ⟨k1, y1⟩, ⟨k2, y2⟩, ⟨k3, y3⟩, ⟨k4, y4⟩, ⟨k5, y5⟩, ⟨k6, y6⟩, rz⟩ := store7 R2.out (.int .i64 0) (.int .i64 0) (.string ⟨#[]⟩) (.bool false) (.string ⟨#[]⟩) (.bool false) (.int .i64 0)
  have RZ := hide rz
  have EE := hide (below7 E2.out (p := w.heap.size) (Nat.le_refl _) (.int .i64 0) (.int .i64 0) (.string ⟨#[]⟩) (.bool false) (.string ⟨#[]⟩) (.bool false) (.int .i64 0))
  clear rz
  go_wp2_with fail
  obtain ⟨m0_, m1_, m2_, m3_, m4_, m5_, m6_⟩ := row7 RZ.out
  refine bodyPost_ret (v := .tuple #[.agg #[.int .i64 0, .int .i64 0, .string ⟨#[]⟩, .bool false, .string ⟨#[]⟩, .bool false, .int .i64 0], .int .i64 0, .int .i64 d]) ?_ rfl ⟨rfl, EE.out⟩
  rw [results_cell_tmp2 rfl]
  go_simp
set_option maxRecDepth 100000 in
set_option maxHeartbeats 6400000 in
theorem get_perr4 (A : Option Addr) (n c : Nat) (f : Nat → Int) (t : Nat) (N : Int) (d : Int) (w : World) (ha : Rd .u8 w A n c f) (hb : Byt n f) (h0 : 0 < n) (hn : n ≤ 100000) (hkd : kd (f 0) = 4) (hp : pg f n 4 = (N, (t : Int), d)) (hd : d ≠ 0) (T : TypeId) (fr : Nat × Nat) (hg : w.heap[0]? = some (.cells formsV T fr)) : Calls Tryd.prog 32 #[.slice A n c] w fun e w' => e = .returned (.tuple #[.agg #[.int .i64 0, .int .i64 0, .string ⟨#[]⟩, .bool false, .string ⟨#[]⟩, .bool false, .int .i64 0], .int .i64 0, .int .i64 d]) ∧ Below w.heap.size w w' := by
  have R0 := hide (heap_alloc_new w (.cells #[.int .i64 0, .int .i64 0, .string ⟨#[]⟩, .bool false, .string ⟨#[]⟩, .bool false, .int .i64 0] 81))
  have al := (Below.refl w.heap.size w).alloc (Nat.le_refl _) (.cells #[.int .i64 0, .int .i64 0, .string ⟨#[]⟩, .bool false, .string ⟨#[]⟩, .bool false, .int .i64 0] 81)
  have E0 := hide al
  have G0 := hide ((al.block _ (rowLt hg)).trans hg)
  have Ha := hide (ha.below al)
  have Hb := hide hb
  have HK := hide hkd
  have HP := hide hp
  have hx := hb 0 h0
  obtain ⟨bb, off, rfl, hx0⟩ := ha.at_ (i := 0) h0
  rw [Nat.add_zero] at hx0
  have hx1 := (al.cell (World.block_lt_of_cell? w _ hx0)).trans hx0
  have nz : (n == 0) = false := by simp; omega
  have nz2 : ((n : Int) == 0) = false := by simp; omega
  have nz3 : decide (0 < n) = true := decide_eq_true h0
  obtain ⟨x, hxx⟩ : ∃ x, f 0 = x := ⟨_, rfl⟩
  rw [hxx] at hx hx1 HK
  have hxa := hx.1
  have hxb := hx.2
  have td : (d != 0) = true := by simpa using hd
  clear hd
  clear al ha hb hkd hp hg hx0 hxx hx
  go_enter Tryd.func32, Tryd.ntmps32
  go_upto_region 1 with (fail)
  generalize w.alloc (.cells #[.int .i64 0, .int .i64 0, .string ⟨#[]⟩, .bool false, .string ⟨#[]⟩, .bool false, .int .i64 0] 81) = W0 at *
  go_wp2_with fail
  refine (kindof22 x hxa hxb _ T fr G0.out).mono ?_
  rw [HK.out]
  rintro e w1 ⟨rfl, hb1⟩
  have R1 := hide (keepRow R0.out hb1)
  have E1 := hide (E0.out.of hb1)
  have G1 := hide ((hb1.block _ (rowLt G0.out)).trans G0.out)
  have Ha1 := hide (Ha.out.below hb1)
  clear hb1 R0 E0 G0 Ha hx1
  have g1 := forms_at G1.out 9 (.int .i64 4) rfl
  go_wp2_with fail
  refine (pget_any _ n c f 4 _ Ha1.out Hb.out (by omega)).mono ?_
  rw [HP.out]
  rintro e w2 ⟨rfl, hd2⟩
  have R2 := hide (keepRow R1.out (drawn_below hd2 _))
  have E2 := hide (E1.out.of (drawn_below hd2 _))
  have Ha2 := hide (Ha1.out.drawn hd2)
  clear hd2 R1 E1 G1 Ha1 g1
  obtain ⟨⟨k0, y0⟩, ⟨k1, y1⟩, ⟨k2, y2⟩, ⟨k3, y3⟩, ⟨k4, y4⟩, ⟨k5, y5⟩, ⟨k6, y6⟩, rz⟩ := store7 R2.out (.int .i64 0) (.int .i64 0) (.string ⟨#[]⟩) (.bool false) (.string ⟨#[]⟩) (.bool false) (.int .i64 0)
  have RZ := hide rz
  have EE := hide (below7 E2.out (p := w.heap.size) (Nat.le_refl _) (.int .i64 0) (.int .i64 0) (.string ⟨#[]⟩) (.bool false) (.string ⟨#[]⟩) (.bool false) (.int .i64 0))
  clear rz
  go_wp2_with fail
  obtain ⟨m0_, m1_, m2_, m3_, m4_, m5_, m6_⟩ := row7 RZ.out
  refine bodyPost_ret (v := .tuple #[.agg #[.int .i64 0, .int .i64 0, .string ⟨#[]⟩, .bool false, .string ⟨#[]⟩, .bool false, .int .i64 0], .int .i64 0, .int .i64 d]) ?_ rfl ⟨rfl, EE.out⟩
  rw [results_cell_tmp2 rfl]
  go_simp
set_option maxRecDepth 100000 in
set_option maxHeartbeats 6400000 in
theorem get_perr5 (A : Option Addr) (n c : Nat) (f : Nat → Int) (t : Nat) (N : Int) (d : Int) (w : World) (ha : Rd .u8 w A n c f) (hb : Byt n f) (h0 : 0 < n) (hn : n ≤ 100000) (hkd : kd (f 0) = 5) (hp : pg f n 5 = (N, (t : Int), d)) (hd : d ≠ 0) (T : TypeId) (fr : Nat × Nat) (hg : w.heap[0]? = some (.cells formsV T fr)) : Calls Tryd.prog 32 #[.slice A n c] w fun e w' => e = .returned (.tuple #[.agg #[.int .i64 0, .int .i64 0, .string ⟨#[]⟩, .bool false, .string ⟨#[]⟩, .bool false, .int .i64 0], .int .i64 0, .int .i64 d]) ∧ Below w.heap.size w w' := by
  have R0 := hide (heap_alloc_new w (.cells #[.int .i64 0, .int .i64 0, .string ⟨#[]⟩, .bool false, .string ⟨#[]⟩, .bool false, .int .i64 0] 81))
  have al := (Below.refl w.heap.size w).alloc (Nat.le_refl _) (.cells #[.int .i64 0, .int .i64 0, .string ⟨#[]⟩, .bool false, .string ⟨#[]⟩, .bool false, .int .i64 0] 81)
  have E0 := hide al
  have G0 := hide ((al.block _ (rowLt hg)).trans hg)
  have Ha := hide (ha.below al)
  have Hb := hide hb
  have HK := hide hkd
  have HP := hide hp
  have hx := hb 0 h0
  obtain ⟨bb, off, rfl, hx0⟩ := ha.at_ (i := 0) h0
  rw [Nat.add_zero] at hx0
  have hx1 := (al.cell (World.block_lt_of_cell? w _ hx0)).trans hx0
  have nz : (n == 0) = false := by simp; omega
  have nz2 : ((n : Int) == 0) = false := by simp; omega
  have nz3 : decide (0 < n) = true := decide_eq_true h0
  obtain ⟨x, hxx⟩ : ∃ x, f 0 = x := ⟨_, rfl⟩
  rw [hxx] at hx hx1 HK
  have hxa := hx.1
  have hxb := hx.2
  have td : (d != 0) = true := by simpa using hd
  clear hd
  clear al ha hb hkd hp hg hx0 hxx hx
  go_enter Tryd.func32, Tryd.ntmps32
  go_upto_region 1 with (fail)
  generalize w.alloc (.cells #[.int .i64 0, .int .i64 0, .string ⟨#[]⟩, .bool false, .string ⟨#[]⟩, .bool false, .int .i64 0] 81) = W0 at *
  go_wp2_with fail
  refine (kindof22 x hxa hxb _ T fr G0.out).mono ?_
  rw [HK.out]
  rintro e w1 ⟨rfl, hb1⟩
  have R1 := hide (keepRow R0.out hb1)
  have E1 := hide (E0.out.of hb1)
  have G1 := hide ((hb1.block _ (rowLt G0.out)).trans G0.out)
  have Ha1 := hide (Ha.out.below hb1)
  clear hb1 R0 E0 G0 Ha hx1
  have g1 := forms_at G1.out 11 (.int .i64 5) rfl
  go_wp2_with fail
  refine (pget_any _ n c f 5 _ Ha1.out Hb.out (by omega)).mono ?_
  rw [HP.out]
  rintro e w2 ⟨rfl, hd2⟩
  have R2 := hide (keepRow R1.out (drawn_below hd2 _))
  have E2 := hide (E1.out.of (drawn_below hd2 _))
  have Ha2 := hide (Ha1.out.drawn hd2)
  clear hd2 R1 E1 G1 Ha1 g1
  obtain ⟨⟨k0, y0⟩, ⟨k1, y1⟩, ⟨k2, y2⟩, ⟨k3, y3⟩, ⟨k4, y4⟩, ⟨k5, y5⟩, ⟨k6, y6⟩, rz⟩ := store7 R2.out (.int .i64 0) (.int .i64 0) (.string ⟨#[]⟩) (.bool false) (.string ⟨#[]⟩) (.bool false) (.int .i64 0)
  have RZ := hide rz
  have EE := hide (below7 E2.out (p := w.heap.size) (Nat.le_refl _) (.int .i64 0) (.int .i64 0) (.string ⟨#[]⟩) (.bool false) (.string ⟨#[]⟩) (.bool false) (.int .i64 0))
  clear rz
  go_wp2_with fail
  obtain ⟨m0_, m1_, m2_, m3_, m4_, m5_, m6_⟩ := row7 RZ.out
  refine bodyPost_ret (v := .tuple #[.agg #[.int .i64 0, .int .i64 0, .string ⟨#[]⟩, .bool false, .string ⟨#[]⟩, .bool false, .int .i64 0], .int .i64 0, .int .i64 d]) ?_ rfl ⟨rfl, EE.out⟩
  rw [results_cell_tmp2 rfl]
  go_simp
set_option maxRecDepth 100000 in
set_option maxHeartbeats 6400000 in
theorem get_idx0 (A : Option Addr) (n c : Nat) (f : Nat → Int) (t : Nat) (w : World) (ha : Rd .u8 w A n c f) (hb : Byt n f) (h0 : 0 < n) (hn : n ≤ 100000) (hkd : kd (f 0) = 1) (hp : pg f n 7 = (0, (t : Int), 0)) (T : TypeId) (fr : Nat × Nat) (hg : w.heap[0]? = some (.cells formsV T fr)) : Calls Tryd.prog 32 #[.slice A n c] w fun e w' => e = .returned (.tuple #[.agg #[.int .i64 0, .int .i64 0, .string ⟨#[]⟩, .bool false, .string ⟨#[]⟩, .bool false, .int .i64 0], .int .i64 0, .int .i64 12]) ∧ Below w.heap.size w w' := by
  have R0 := hide (heap_alloc_new w (.cells #[.int .i64 0, .int .i64 0, .string ⟨#[]⟩, .bool false, .string ⟨#[]⟩, .bool false, .int .i64 0] 81))
  have al := (Below.refl w.heap.size w).alloc (Nat.le_refl _) (.cells #[.int .i64 0, .int .i64 0, .string ⟨#[]⟩, .bool false, .string ⟨#[]⟩, .bool false, .int .i64 0] 81)
  have E0 := hide al
  have G0 := hide ((al.block _ (rowLt hg)).trans hg)
  have Ha := hide (ha.below al)
  have Hb := hide hb
  have HK := hide hkd
  have HP := hide hp
  have hx := hb 0 h0
  obtain ⟨bb, off, rfl, hx0⟩ := ha.at_ (i := 0) h0
  rw [Nat.add_zero] at hx0
  have hx1 := (al.cell (World.block_lt_of_cell? w _ hx0)).trans hx0
  have nz : (n == 0) = false := by simp; omega
  have nz2 : ((n : Int) == 0) = false := by simp; omega
  have nz3 : decide (0 < n) = true := decide_eq_true h0
  obtain ⟨x, hxx⟩ : ∃ x, f 0 = x := ⟨_, rfl⟩
  rw [hxx] at hx hx1 HK
  have hxa := hx.1
  have hxb := hx.2
  clear al ha hb hkd hp hg hx0 hxx hx
  go_enter Tryd.func32, Tryd.ntmps32
  go_upto_region 1 with (fail)
  generalize w.alloc (.cells #[.int .i64 0, .int .i64 0, .string ⟨#[]⟩, .bool false, .string ⟨#[]⟩, .bool false, .int .i64 0] 81) = W0 at *
  go_wp2_with fail
  refine (kindof22 x hxa hxb _ T fr G0.out).mono ?_
  rw [HK.out]
  rintro e w1 ⟨rfl, hb1⟩
  have R1 := hide (keepRow R0.out hb1)
  have E1 := hide (E0.out.of hb1)
  have G1 := hide ((hb1.block _ (rowLt G0.out)).trans G0.out)
  have Ha1 := hide (Ha.out.below hb1)
  clear hb1 R0 E0 G0 Ha hx1
  have g1 := forms_at G1.out 3 (.int .i64 7) rfl
  go_wp2_with fail
  refine (pget_any _ n c f 7 _ Ha1.out Hb.out (by omega)).mono ?_
  rw [HP.out]
  rintro e w2 ⟨rfl, hd2⟩
  have R2 := hide (keepRow R1.out (drawn_below hd2 _))
  have E2 := hide (E1.out.of (drawn_below hd2 _))
  have Ha2 := hide (Ha1.out.drawn hd2)
  clear hd2 R1 E1 G1 Ha1 g1
  obtain ⟨⟨k0, y0⟩, ⟨k1, y1⟩, ⟨k2, y2⟩, ⟨k3, y3⟩, ⟨k4, y4⟩, ⟨k5, y5⟩, ⟨k6, y6⟩, rz⟩ := store7 R2.out (.int .i64 0) (.int .i64 0) (.string ⟨#[]⟩) (.bool false) (.string ⟨#[]⟩) (.bool false) (.int .i64 0)
  have RZ := hide rz
  have EE := hide (below7 E2.out (p := w.heap.size) (Nat.le_refl _) (.int .i64 0) (.int .i64 0) (.string ⟨#[]⟩) (.bool false) (.string ⟨#[]⟩) (.bool false) (.int .i64 0))
  clear rz
  go_wp2_with fail
  obtain ⟨m0_, m1_, m2_, m3_, m4_, m5_, m6_⟩ := row7 RZ.out
  refine bodyPost_ret (v := .tuple #[.agg #[.int .i64 0, .int .i64 0, .string ⟨#[]⟩, .bool false, .string ⟨#[]⟩, .bool false, .int .i64 0], .int .i64 0, .int .i64 12]) ?_ rfl ⟨rfl, EE.out⟩
  rw [results_cell_tmp2 rfl]
  go_simp
set_option maxRecDepth 100000 in
set_option maxHeartbeats 6400000 in
theorem get_idx (A : Option Addr) (n c : Nat) (f : Nat → Int) (t : Nat) (N : Int) (w : World) (ha : Rd .u8 w A n c f) (hb : Byt n f) (h0 : 0 < n) (hn : n ≤ 100000) (hkd : kd (f 0) = 1) (hp : pg f n 7 = (N, (t : Int), 0)) (hN : N ≠ 0) (T : TypeId) (fr : Nat × Nat) (hg : w.heap[0]? = some (.cells formsV T fr)) : Calls Tryd.prog 32 #[.slice A n c] w fun e w' => e = .returned (.tuple #[.agg #[.int .i64 1, .int .i64 N, .string ⟨#[]⟩, .bool false, .string ⟨#[]⟩, .bool false, .int .i64 0], .int .i64 (t : Int), .int .i64 0]) ∧ Below w.heap.size w w' := by
  have R0 := hide (heap_alloc_new w (.cells #[.int .i64 0, .int .i64 0, .string ⟨#[]⟩, .bool false, .string ⟨#[]⟩, .bool false, .int .i64 0] 81))
  have al := (Below.refl w.heap.size w).alloc (Nat.le_refl _) (.cells #[.int .i64 0, .int .i64 0, .string ⟨#[]⟩, .bool false, .string ⟨#[]⟩, .bool false, .int .i64 0] 81)
  have E0 := hide al
  have G0 := hide ((al.block _ (rowLt hg)).trans hg)
  have Ha := hide (ha.below al)
  have Hb := hide hb
  have HK := hide hkd
  have HP := hide hp
  have hx := hb 0 h0
  obtain ⟨bb, off, rfl, hx0⟩ := ha.at_ (i := 0) h0
  rw [Nat.add_zero] at hx0
  have hx1 := (al.cell (World.block_lt_of_cell? w _ hx0)).trans hx0
  have nz : (n == 0) = false := by simp; omega
  have nz2 : ((n : Int) == 0) = false := by simp; omega
  have nz3 : decide (0 < n) = true := decide_eq_true h0
  obtain ⟨x, hxx⟩ : ∃ x, f 0 = x := ⟨_, rfl⟩
  rw [hxx] at hx hx1 HK
  have hxa := hx.1
  have hxb := hx.2
  have tN : (N == 0) = false := by simpa using hN
  clear hN
  clear al ha hb hkd hp hg hx0 hxx hx
  go_enter Tryd.func32, Tryd.ntmps32
  go_upto_region 1 with (fail)
  generalize w.alloc (.cells #[.int .i64 0, .int .i64 0, .string ⟨#[]⟩, .bool false, .string ⟨#[]⟩, .bool false, .int .i64 0] 81) = W0 at *
  go_wp2_with fail
  refine (kindof22 x hxa hxb _ T fr G0.out).mono ?_
  rw [HK.out]
  rintro e w1 ⟨rfl, hb1⟩
  have R1 := hide (keepRow R0.out hb1)
  have E1 := hide (E0.out.of hb1)
  have G1 := hide ((hb1.block _ (rowLt G0.out)).trans G0.out)
  have Ha1 := hide (Ha.out.below hb1)
  clear hb1 R0 E0 G0 Ha hx1
  have g1 := forms_at G1.out 3 (.int .i64 7) rfl
  go_wp2_with fail
  refine (pget_any _ n c f 7 _ Ha1.out Hb.out (by omega)).mono ?_
  rw [HP.out]
  rintro e w2 ⟨rfl, hd2⟩
  have R2 := hide (keepRow R1.out (drawn_below hd2 _))
  have E2 := hide (E1.out.of (drawn_below hd2 _))
  have Ha2 := hide (Ha1.out.drawn hd2)
  clear hd2 R1 E1 G1 Ha1 g1
  obtain ⟨⟨k0, y0⟩, ⟨k1, y1⟩, ⟨k2, y2⟩, ⟨k3, y3⟩, ⟨k4, y4⟩, ⟨k5, y5⟩, ⟨k6, y6⟩, rz⟩ := store7 R2.out (.int .i64 1) (.int .i64 N) (.string ⟨#[]⟩) (.bool false) (.string ⟨#[]⟩) (.bool false) (.int .i64 0)
  have RZ := hide rz
  have EE := hide (below7 E2.out (p := w.heap.size) (Nat.le_refl _) (.int .i64 1) (.int .i64 N) (.string ⟨#[]⟩) (.bool false) (.string ⟨#[]⟩) (.bool false) (.int .i64 0))
  clear rz
  go_wp2_with fail
  obtain ⟨m0_, m1_, m2_, m3_, m4_, m5_, m6_⟩ := row7 RZ.out
  refine bodyPost_ret (v := .tuple #[.agg #[.int .i64 1, .int .i64 N, .string ⟨#[]⟩, .bool false, .string ⟨#[]⟩, .bool false, .int .i64 0], .int .i64 (t : Int), .int .i64 0]) ?_ rfl ⟨rfl, EE.out⟩
  rw [results_cell_tmp2 rfl]
  go_simp
set_option maxRecDepth 100000 in
set_option maxHeartbeats 6400000 in
theorem get_size (A : Option Addr) (n c : Nat) (f : Nat → Int) (t : Nat) (N : Int) (w : World) (ha : Rd .u8 w A n c f) (hb : Byt n f) (h0 : 0 < n) (hn : n ≤ 100000) (hkd : kd (f 0) = 5) (hp : pg f n 5 = (N, (t : Int), 0)) (T : TypeId) (fr : Nat × Nat) (hg : w.heap[0]? = some (.cells formsV T fr)) : Calls Tryd.prog 32 #[.slice A n c] w fun e w' => e = .returned (.tuple #[.agg #[.int .i64 5, .int .i64 0, .string ⟨#[]⟩, .bool false, .string ⟨#[]⟩, .bool false, .int .i64 N], .int .i64 (t : Int), .int .i64 0]) ∧ Below w.heap.size w w' := by
  have R0 := hide (heap_alloc_new w (.cells #[.int .i64 0, .int .i64 0, .string ⟨#[]⟩, .bool false, .string ⟨#[]⟩, .bool false, .int .i64 0] 81))
  have al := (Below.refl w.heap.size w).alloc (Nat.le_refl _) (.cells #[.int .i64 0, .int .i64 0, .string ⟨#[]⟩, .bool false, .string ⟨#[]⟩, .bool false, .int .i64 0] 81)
  have E0 := hide al
  have G0 := hide ((al.block _ (rowLt hg)).trans hg)
  have Ha := hide (ha.below al)
  have Hb := hide hb
  have HK := hide hkd
  have HP := hide hp
  have hx := hb 0 h0
  obtain ⟨bb, off, rfl, hx0⟩ := ha.at_ (i := 0) h0
  rw [Nat.add_zero] at hx0
  have hx1 := (al.cell (World.block_lt_of_cell? w _ hx0)).trans hx0
  have nz : (n == 0) = false := by simp; omega
  have nz2 : ((n : Int) == 0) = false := by simp; omega
  have nz3 : decide (0 < n) = true := decide_eq_true h0
  obtain ⟨x, hxx⟩ : ∃ x, f 0 = x := ⟨_, rfl⟩
  rw [hxx] at hx hx1 HK
  have hxa := hx.1
  have hxb := hx.2
  clear al ha hb hkd hp hg hx0 hxx hx
  go_enter Tryd.func32, Tryd.ntmps32
  go_upto_region 1 with (fail)
  generalize w.alloc (.cells #[.int .i64 0, .int .i64 0, .string ⟨#[]⟩, .bool false, .string ⟨#[]⟩, .bool false, .int .i64 0] 81) = W0 at *
  go_wp2_with fail
  refine (kindof22 x hxa hxb _ T fr G0.out).mono ?_
  rw [HK.out]
  rintro e w1 ⟨rfl, hb1⟩
  have R1 := hide (keepRow R0.out hb1)
  have E1 := hide (E0.out.of hb1)
  have G1 := hide ((hb1.block _ (rowLt G0.out)).trans G0.out)
  have Ha1 := hide (Ha.out.below hb1)
  clear hb1 R0 E0 G0 Ha hx1
  have g1 := forms_at G1.out 11 (.int .i64 5) rfl
  go_wp2_with fail
  refine (pget_any _ n c f 5 _ Ha1.out Hb.out (by omega)).mono ?_
  rw [HP.out]
  rintro e w2 ⟨rfl, hd2⟩
  have R2 := hide (keepRow R1.out (drawn_below hd2 _))
  have E2 := hide (E1.out.of (drawn_below hd2 _))
  have Ha2 := hide (Ha1.out.drawn hd2)
  clear hd2 R1 E1 G1 Ha1 g1
  obtain ⟨⟨k0, y0⟩, ⟨k1, y1⟩, ⟨k2, y2⟩, ⟨k3, y3⟩, ⟨k4, y4⟩, ⟨k5, y5⟩, ⟨k6, y6⟩, rz⟩ := store7 R2.out (.int .i64 5) (.int .i64 0) (.string ⟨#[]⟩) (.bool false) (.string ⟨#[]⟩) (.bool false) (.int .i64 N)
  have RZ := hide rz
  have EE := hide (below7 E2.out (p := w.heap.size) (Nat.le_refl _) (.int .i64 5) (.int .i64 0) (.string ⟨#[]⟩) (.bool false) (.string ⟨#[]⟩) (.bool false) (.int .i64 N))
  clear rz
  go_wp2_with fail
  obtain ⟨m0_, m1_, m2_, m3_, m4_, m5_, m6_⟩ := row7 RZ.out
  refine bodyPost_ret (v := .tuple #[.agg #[.int .i64 5, .int .i64 0, .string ⟨#[]⟩, .bool false, .string ⟨#[]⟩, .bool false, .int .i64 N], .int .i64 (t : Int), .int .i64 0]) ?_ rfl ⟨rfl, EE.out⟩
  rw [results_cell_tmp2 rfl]
  go_simp
end

section
open Go.RowKit Go.PlainAid

set_option maxRecDepth 100000 in
set_option maxHeartbeats 6400000 in
theorem get_v2 (A : Option Addr) (n c : Nat) (f : Nat → Int) (t : Nat) (N : Int) (w : World) (ha : Rd .u8 w A n c f) (hb : Byt n f) (h0 : 0 < n) (hn : n ≤ 100000) (hkd : kd (f 0) = 2) (hp : pg f n 6 = (N, (t : Int), 0)) (hN : N ≠ 0) (htn : t ≤ n) (T : TypeId) (fr : Nat × Nat) (hg : w.heap[0]? = some (.cells formsV T fr)) : Calls Tryd.prog 32 #[.slice A n c] w fun e w' => ∃ s sh q e1, SlR (fun j => f (t + j)) (n - t) n s sh q e1 ∧ ((e1 ≠ 0 ∧ e = .returned (.tuple #[.agg #[.int .i64 0, .int .i64 0, .string ⟨#[]⟩, .bool false, .string ⟨#[]⟩, .bool false, .int .i64 0], .int .i64 0, .int .i64 e1]) ∧ Below w.heap.size w w') ∨ (e1 = 0 ∧ e = .returned (.tuple #[.agg #[.int .i64 2, .int .i64 N, .string ⟨#[]⟩, .bool false, .string s, .bool sh, .int .i64 0], .int .i64 ((t : Int) + q), .int .i64 0]) ∧ Below w.heap.size w w')) := by
  have R0 := hide (heap_alloc_new w (.cells #[.int .i64 0, .int .i64 0, .string ⟨#[]⟩, .bool false, .string ⟨#[]⟩, .bool false, .int .i64 0] 81))
  have al := (Below.refl w.heap.size w).alloc (Nat.le_refl _) (.cells #[.int .i64 0, .int .i64 0, .string ⟨#[]⟩, .bool false, .string ⟨#[]⟩, .bool false, .int .i64 0] 81)
  have E0 := hide al
  have G0 := hide ((al.block _ (rowLt hg)).trans hg)
  have Ha := hide (ha.below al)
  have Hb := hide hb
  have HK := hide hkd
  have HP := hide hp
  have hx := hb 0 h0
  obtain ⟨bb, off, rfl, hx0⟩ := ha.at_ (i := 0) h0
  rw [Nat.add_zero] at hx0
  have hx1 := (al.cell (World.block_lt_of_cell? w _ hx0)).trans hx0
  have nz : (n == 0) = false := by simp; omega
  have nz2 : ((n : Int) == 0) = false := by simp; omega
  have nz3 : decide (0 < n) = true := decide_eq_true h0
  obtain ⟨x, hxx⟩ : ∃ x, f 0 = x := ⟨_, rfl⟩
  rw [hxx] at hx hx1 HK
  have hxa := hx.1
  have hxb := hx.2
  have tN : (N == 0) = false := by simpa using hN
  clear hN
  clear al ha hb hkd hp hg hx0 hxx hx
  go_enter Tryd.func32, Tryd.ntmps32
  go_upto_region 1 with (fail)
  generalize w.alloc (.cells #[.int .i64 0, .int .i64 0, .string ⟨#[]⟩, .bool false, .string ⟨#[]⟩, .bool false, .int .i64 0] 81) = W0 at *
  go_wp2_with fail
  refine (kindof22 x hxa hxb _ T fr G0.out).mono ?_
  rw [HK.out]
  rintro e w1 ⟨rfl, hb1⟩
  have R1 := hide (keepRow R0.out hb1)
  have E1 := hide (E0.out.of hb1)
  have G1 := hide ((hb1.block _ (rowLt G0.out)).trans G0.out)
  have Ha1 := hide (Ha.out.below hb1)
  clear hb1 R0 E0 G0 Ha hx1
  have g1 := forms_at G1.out 5 (.int .i64 6) rfl
  go_wp2_with fail
  refine (pget_any _ n c f 6 _ Ha1.out Hb.out (by omega)).mono ?_
  rw [HP.out]
  rintro e w2 ⟨rfl, hd2⟩
  have R2 := hide (keepRow R1.out (drawn_below hd2 _))
  have E2 := hide (E1.out.of (drawn_below hd2 _))
  have Ha2 := hide (Ha1.out.drawn hd2)
  clear hd2 R1 E1 G1 Ha1 g1
  have al := (Below.refl w2.heap.size w2).alloc (Nat.le_refl _) (.cells #[.int .i64 2, .int .i64 N, .string ⟨#[]⟩, .bool false, .string ⟨#[]⟩, .bool false, .int .i64 0] 81)
  have Q3 := hide (heap_alloc_new w2 (.cells #[.int .i64 2, .int .i64 N, .string ⟨#[]⟩, .bool false, .string ⟨#[]⟩, .bool false, .int .i64 0] 81))
  have R3 := hide (keepRow R2.out al)
  have E3 := hide (E2.out.of al)
  have Ha3 := hide (Ha2.out.below al)
  have hne := rowLt R2.out
  clear al R2 E2 Ha2
  go_upto_region 15 with (fail)
  generalize hW : w2.alloc (.cells #[.int .i64 2, .int .i64 N, .string ⟨#[]⟩, .bool false, .string ⟨#[]⟩, .bool false, .int .i64 0] 81) = W3 at *
  generalize w2.heap.size = p at *
  clear hW
  have hAp : Hid (∀ b off2, (some (⟨bb, off, none⟩ : Addr)) = some ⟨b, off2, none⟩ → b ≠ p) := fun b off2 e h => by
    injection e with e1
    injection e1 with e2 e3
    subst e2 h
    have h1 := rd_cellS Ha3.out h0
    rw [cell_of_row W3 _ _ _ _ _ Q3.out] at h1
    have h2 : off + 0 = 0 ∨ off + 0 = 1 ∨ off + 0 = 2 ∨ off + 0 = 3 ∨ off + 0 = 4 ∨ off + 0 = 5 ∨ off + 0 = 6 ∨ 7 ≤ off + 0 := by omega
    rcases h2 with h2 | h2 | h2 | h2 | h2 | h2 | h2 | h2
    all_goals first
      | (rw [h2] at h1; simp at h1; done)
      | (rw [Array.getElem?_eq_none (by simpa using h2)] at h1; cases h1)
  go_wp2_with fail
  refine (text22 _ n c t f _ Ha3.out Hb.out htn hn).mono ?_
  rintro e w4 ⟨s, sh, q, e1, rfl, hS, hb4⟩
  have hq := slr_rng hS
  have HS := hide hS
  have R4 := hide (keepRow R3.out hb4)
  have E4 := hide (E3.out.of hb4)
  have Q4 := hide (keepRow Q3.out hb4)
  have Ha4 := hide (Ha3.out.below hb4)
  clear hb4 hS R3 E3 Q3 Ha3
  obtain ⟨q0_, q1_, q2_, q3_, q4_, q5_, q6_⟩ := row7 Q4.out
  have z0 := frozenRow Q4.out 4
  have s0 := setRow w4 p 4 (.string s) Q4.out
  simp only [List.setIfInBounds_toArray, List.set_cons_zero, List.set_cons_succ] at s0
  have z1 := frozenRow s0 5
  have s1 := setRow _ p 5 (.bool sh) s0
  simp only [List.setIfInBounds_toArray, List.set_cons_zero, List.set_cons_succ] at s1
  obtain ⟨j0_, j1_, j2_, j3_, j4_, j5_, j6_⟩ := row7 s0
  have Q5 := hide s1
  have E5 := hide ((E4.out.setCell (p := ⟨p, 4, none⟩) (Nat.le_of_lt hne) (.string s)).setCell (p := ⟨p, 5, none⟩) (Nat.le_of_lt hne) (.bool sh))
  have R5 := hide ((Below.heap_setCell _ ⟨p, 5, none⟩ (.bool sh) _ (Nat.ne_of_lt hne)).trans ((Below.heap_setCell w4 ⟨p, 4, none⟩ (.string s) _ (Nat.ne_of_lt hne)).trans R4.out))
  have Ha5 := hide (((Ha4.out.other (grown_set w4 p 4 (.string s)) hAp.out).other (grown_set _ p 5 (.bool sh)) hAp.out))
  clear s0 s1
  go_upto_region 19 with (fail)
  clear q0_ q1_ q2_ q3_ q4_ q5_ q6_ z0 z1 j0_ j1_ j2_ j3_ j4_ j5_ j6_ R4 E4 Q4 Ha4
  generalize (w4.setCell ⟨p, 4, none⟩ (.string s)).setCell ⟨p, 5, none⟩ (.bool sh) = W5 at *
  obtain ⟨q0_, q1_, q2_, q3_, q4_, q5_, q6_⟩ := row7 Q5.out
  by_cases he : e1 = 0
  · subst he
    obtain ⟨⟨k0, y0⟩, ⟨k1, y1⟩, ⟨k2, y2⟩, ⟨k3, y3⟩, ⟨k4, y4⟩, ⟨k5, y5⟩, ⟨k6, y6⟩, rz⟩ := store7 R5.out (.int .i64 2) (.int .i64 N) (.string ⟨#[]⟩) (.bool false) (.string s) (.bool sh) (.int .i64 0)
    have RZ := hide rz
    have EE := hide (below7 E5.out (p := w.heap.size) (Nat.le_refl _) (.int .i64 2) (.int .i64 N) (.string ⟨#[]⟩) (.bool false) (.string s) (.bool sh) (.int .i64 0))
    clear rz
    go_wp2_with fail
    obtain ⟨m0_, m1_, m2_, m3_, m4_, m5_, m6_⟩ := row7 RZ.out
    refine bodyPost_ret (v := .tuple #[.agg #[.int .i64 2, .int .i64 N, .string ⟨#[]⟩, .bool false, .string s, .bool sh, .int .i64 0], .int .i64 ((t : Int) + q), .int .i64 0]) ?_ rfl ⟨s, sh, q, 0, HS.out, .inr ⟨rfl, rfl, EE.out⟩⟩
    rw [results_cell_tmp2 rfl]
    go_simp
  · have te : (e1 != 0) = true := by simpa using he
    have HE1 := hide he
    clear he
    obtain ⟨⟨k0, y0⟩, ⟨k1, y1⟩, ⟨k2, y2⟩, ⟨k3, y3⟩, ⟨k4, y4⟩, ⟨k5, y5⟩, ⟨k6, y6⟩, rz⟩ := store7 R5.out (.int .i64 0) (.int .i64 0) (.string ⟨#[]⟩) (.bool false) (.string ⟨#[]⟩) (.bool false) (.int .i64 0)
    have RZ := hide rz
    have EE := hide (below7 E5.out (p := w.heap.size) (Nat.le_refl _) (.int .i64 0) (.int .i64 0) (.string ⟨#[]⟩) (.bool false) (.string ⟨#[]⟩) (.bool false) (.int .i64 0))
    clear rz
    go_wp2_with fail
    obtain ⟨m0_, m1_, m2_, m3_, m4_, m5_, m6_⟩ := row7 RZ.out
    refine bodyPost_ret (v := .tuple #[.agg #[.int .i64 0, .int .i64 0, .string ⟨#[]⟩, .bool false, .string ⟨#[]⟩, .bool false, .int .i64 0], .int .i64 0, .int .i64 e1]) ?_ rfl ⟨s, sh, q, e1, HS.out, .inl ⟨HE1.out, rfl, EE.out⟩⟩
    rw [results_cell_tmp2 rfl]
    go_simp
set_option maxRecDepth 100000 in
set_option maxHeartbeats 6400000 in
theorem get_v3 (A : Option Addr) (n c : Nat) (f : Nat → Int) (t : Nat) (N : Int) (w : World) (ha : Rd .u8 w A n c f) (hb : Byt n f) (h0 : 0 < n) (hn : n ≤ 100000) (hkd : kd (f 0) = 3) (hp : pg f n 4 = (N, (t : Int), 0)) (hN : N ≠ 0) (htn : t ≤ n) (T : TypeId) (fr : Nat × Nat) (hg : w.heap[0]? = some (.cells formsV T fr)) : Calls Tryd.prog 32 #[.slice A n c] w fun e w' => ∃ s sh q e1, SlR (fun j => f (t + j)) (n - t) n s sh q e1 ∧ ((e1 ≠ 0 ∧ e = .returned (.tuple #[.agg #[.int .i64 0, .int .i64 0, .string ⟨#[]⟩, .bool false, .string ⟨#[]⟩, .bool false, .int .i64 0], .int .i64 0, .int .i64 e1]) ∧ Below w.heap.size w w') ∨ (e1 = 0 ∧ e = .returned (.tuple #[.agg #[.int .i64 3, .int .i64 N, .string ⟨#[]⟩, .bool false, .string s, .bool sh, .int .i64 0], .int .i64 ((t : Int) + q), .int .i64 0]) ∧ Below w.heap.size w w')) := by
  have R0 := hide (heap_alloc_new w (.cells #[.int .i64 0, .int .i64 0, .string ⟨#[]⟩, .bool false, .string ⟨#[]⟩, .bool false, .int .i64 0] 81))
  have al := (Below.refl w.heap.size w).alloc (Nat.le_refl _) (.cells #[.int .i64 0, .int .i64 0, .string ⟨#[]⟩, .bool false, .string ⟨#[]⟩, .bool false, .int .i64 0] 81)
  have E0 := hide al
  have G0 := hide ((al.block _ (rowLt hg)).trans hg)
  have Ha := hide (ha.below al)
  have Hb := hide hb
  have HK := hide hkd
  have HP := hide hp
  have hx := hb 0 h0
  obtain ⟨bb, off, rfl, hx0⟩ := ha.at_ (i := 0) h0
  rw [Nat.add_zero] at hx0
  have hx1 := (al.cell (World.block_lt_of_cell? w _ hx0)).trans hx0
  have nz : (n == 0) = false := by simp; omega
  have nz2 : ((n : Int) == 0) = false := by simp; omega
  have nz3 : decide (0 < n) = true := decide_eq_true h0
  obtain ⟨x, hxx⟩ : ∃ x, f 0 = x := ⟨_, rfl⟩
  rw [hxx] at hx hx1 HK
  have hxa := hx.1
  have hxb := hx.2
  have tN : (N == 0) = false := by simpa using hN
  clear hN
  clear al ha hb hkd hp hg hx0 hxx hx
  go_enter Tryd.func32, Tryd.ntmps32
  go_upto_region 1 with (fail)
  generalize w.alloc (.cells #[.int .i64 0, .int .i64 0, .string ⟨#[]⟩, .bool false, .string ⟨#[]⟩, .bool false, .int .i64 0] 81) = W0 at *
  go_wp2_with fail
  refine (kindof22 x hxa hxb _ T fr G0.out).mono ?_
  rw [HK.out]
  rintro e w1 ⟨rfl, hb1⟩
  have R1 := hide (keepRow R0.out hb1)
  have E1 := hide (E0.out.of hb1)
  have G1 := hide ((hb1.block _ (rowLt G0.out)).trans G0.out)
  have Ha1 := hide (Ha.out.below hb1)
  clear hb1 R0 E0 G0 Ha hx1
  have g1 := forms_at G1.out 7 (.int .i64 4) rfl
  go_wp2_with fail
  refine (pget_any _ n c f 4 _ Ha1.out Hb.out (by omega)).mono ?_
  rw [HP.out]
  rintro e w2 ⟨rfl, hd2⟩
  have R2 := hide (keepRow R1.out (drawn_below hd2 _))
  have E2 := hide (E1.out.of (drawn_below hd2 _))
  have Ha2 := hide (Ha1.out.drawn hd2)
  clear hd2 R1 E1 G1 Ha1 g1
  have al := (Below.refl w2.heap.size w2).alloc (Nat.le_refl _) (.cells #[.int .i64 3, .int .i64 N, .string ⟨#[]⟩, .bool false, .string ⟨#[]⟩, .bool false, .int .i64 0] 81)
  have Q3 := hide (heap_alloc_new w2 (.cells #[.int .i64 3, .int .i64 N, .string ⟨#[]⟩, .bool false, .string ⟨#[]⟩, .bool false, .int .i64 0] 81))
  have R3 := hide (keepRow R2.out al)
  have E3 := hide (E2.out.of al)
  have Ha3 := hide (Ha2.out.below al)
  have hne := rowLt R2.out
  clear al R2 E2 Ha2
  go_upto_region 15 with (fail)
  generalize hW : w2.alloc (.cells #[.int .i64 3, .int .i64 N, .string ⟨#[]⟩, .bool false, .string ⟨#[]⟩, .bool false, .int .i64 0] 81) = W3 at *
  generalize w2.heap.size = p at *
  clear hW
  have hAp : Hid (∀ b off2, (some (⟨bb, off, none⟩ : Addr)) = some ⟨b, off2, none⟩ → b ≠ p) := fun b off2 e h => by
    injection e with e1
    injection e1 with e2 e3
    subst e2 h
    have h1 := rd_cellS Ha3.out h0
    rw [cell_of_row W3 _ _ _ _ _ Q3.out] at h1
    have h2 : off + 0 = 0 ∨ off + 0 = 1 ∨ off + 0 = 2 ∨ off + 0 = 3 ∨ off + 0 = 4 ∨ off + 0 = 5 ∨ off + 0 = 6 ∨ 7 ≤ off + 0 := by omega
    rcases h2 with h2 | h2 | h2 | h2 | h2 | h2 | h2 | h2
    all_goals first
      | (rw [h2] at h1; simp at h1; done)
      | (rw [Array.getElem?_eq_none (by simpa using h2)] at h1; cases h1)
  go_wp2_with fail
  refine (text22 _ n c t f _ Ha3.out Hb.out htn hn).mono ?_
  rintro e w4 ⟨s, sh, q, e1, rfl, hS, hb4⟩
  have hq := slr_rng hS
  have HS := hide hS
  have R4 := hide (keepRow R3.out hb4)
  have E4 := hide (E3.out.of hb4)
  have Q4 := hide (keepRow Q3.out hb4)
  have Ha4 := hide (Ha3.out.below hb4)
  clear hb4 hS R3 E3 Q3 Ha3
  obtain ⟨q0_, q1_, q2_, q3_, q4_, q5_, q6_⟩ := row7 Q4.out
  have z0 := frozenRow Q4.out 4
  have s0 := setRow w4 p 4 (.string s) Q4.out
  simp only [List.setIfInBounds_toArray, List.set_cons_zero, List.set_cons_succ] at s0
  have z1 := frozenRow s0 5
  have s1 := setRow _ p 5 (.bool sh) s0
  simp only [List.setIfInBounds_toArray, List.set_cons_zero, List.set_cons_succ] at s1
  obtain ⟨j0_, j1_, j2_, j3_, j4_, j5_, j6_⟩ := row7 s0
  have Q5 := hide s1
  have E5 := hide ((E4.out.setCell (p := ⟨p, 4, none⟩) (Nat.le_of_lt hne) (.string s)).setCell (p := ⟨p, 5, none⟩) (Nat.le_of_lt hne) (.bool sh))
  have R5 := hide ((Below.heap_setCell _ ⟨p, 5, none⟩ (.bool sh) _ (Nat.ne_of_lt hne)).trans ((Below.heap_setCell w4 ⟨p, 4, none⟩ (.string s) _ (Nat.ne_of_lt hne)).trans R4.out))
  have Ha5 := hide (((Ha4.out.other (grown_set w4 p 4 (.string s)) hAp.out).other (grown_set _ p 5 (.bool sh)) hAp.out))
  clear s0 s1
  go_upto_region 19 with (fail)
  clear q0_ q1_ q2_ q3_ q4_ q5_ q6_ z0 z1 j0_ j1_ j2_ j3_ j4_ j5_ j6_ R4 E4 Q4 Ha4
  generalize (w4.setCell ⟨p, 4, none⟩ (.string s)).setCell ⟨p, 5, none⟩ (.bool sh) = W5 at *
  obtain ⟨q0_, q1_, q2_, q3_, q4_, q5_, q6_⟩ := row7 Q5.out
  by_cases he : e1 = 0
  · subst he
    obtain ⟨⟨k0, y0⟩, ⟨k1, y1⟩, ⟨k2, y2⟩, ⟨k3, y3⟩, ⟨k4, y4⟩, ⟨k5, y5⟩, ⟨k6, y6⟩, rz⟩ := store7 R5.out (.int .i64 3) (.int .i64 N) (.string ⟨#[]⟩) (.bool false) (.string s) (.bool sh) (.int .i64 0)
    have RZ := hide rz
    have EE := hide (below7 E5.out (p := w.heap.size) (Nat.le_refl _) (.int .i64 3) (.int .i64 N) (.string ⟨#[]⟩) (.bool false) (.string s) (.bool sh) (.int .i64 0))
    clear rz
    go_wp2_with fail
    obtain ⟨m0_, m1_, m2_, m3_, m4_, m5_, m6_⟩ := row7 RZ.out
    refine bodyPost_ret (v := .tuple #[.agg #[.int .i64 3, .int .i64 N, .string ⟨#[]⟩, .bool false, .string s, .bool sh, .int .i64 0], .int .i64 ((t : Int) + q), .int .i64 0]) ?_ rfl ⟨s, sh, q, 0, HS.out, .inr ⟨rfl, rfl, EE.out⟩⟩
    rw [results_cell_tmp2 rfl]
    go_simp
  · have te : (e1 != 0) = true := by simpa using he
    have HE1 := hide he
    clear he
    obtain ⟨⟨k0, y0⟩, ⟨k1, y1⟩, ⟨k2, y2⟩, ⟨k3, y3⟩, ⟨k4, y4⟩, ⟨k5, y5⟩, ⟨k6, y6⟩, rz⟩ := store7 R5.out (.int .i64 0) (.int .i64 0) (.string ⟨#[]⟩) (.bool false) (.string ⟨#[]⟩) (.bool false) (.int .i64 0)
    have RZ := hide rz
    have EE := hide (below7 E5.out (p := w.heap.size) (Nat.le_refl _) (.int .i64 0) (.int .i64 0) (.string ⟨#[]⟩) (.bool false) (.string ⟨#[]⟩) (.bool false) (.int .i64 0))
    clear rz
    go_wp2_with fail
    obtain ⟨m0_, m1_, m2_, m3_, m4_, m5_, m6_⟩ := row7 RZ.out
    refine bodyPost_ret (v := .tuple #[.agg #[.int .i64 0, .int .i64 0, .string ⟨#[]⟩, .bool false, .string ⟨#[]⟩, .bool false, .int .i64 0], .int .i64 0, .int .i64 e1]) ?_ rfl ⟨s, sh, q, e1, HS.out, .inl ⟨HE1.out, rfl, EE.out⟩⟩
    rw [results_cell_tmp2 rfl]
    go_simp
set_option maxRecDepth 100000 in
set_option maxHeartbeats 6400000 in
theorem get_v4 (A : Option Addr) (n c : Nat) (f : Nat → Int) (t : Nat) (N : Int) (w : World) (ha : Rd .u8 w A n c f) (hb : Byt n f) (h0 : 0 < n) (hn : n ≤ 100000) (hkd : kd (f 0) = 4) (hp : pg f n 4 = (N, (t : Int), 0)) (hN : N ≠ 0) (htn : t ≤ n) (T : TypeId) (fr : Nat × Nat) (hg : w.heap[0]? = some (.cells formsV T fr)) : Calls Tryd.prog 32 #[.slice A n c] w fun e w' => ∃ s sh q e1, SlR (fun j => f (t + j)) (n - t) n s sh q e1 ∧ ((e1 ≠ 0 ∧ e = .returned (.tuple #[.agg #[.int .i64 0, .int .i64 0, .string ⟨#[]⟩, .bool false, .string ⟨#[]⟩, .bool false, .int .i64 0], .int .i64 0, .int .i64 e1]) ∧ Below w.heap.size w w') ∨ (e1 = 0 ∧ e = .returned (.tuple #[.agg #[.int .i64 4, .int .i64 N, .string ⟨#[]⟩, .bool false, .string s, .bool sh, .int .i64 0], .int .i64 ((t : Int) + q), .int .i64 0]) ∧ Below w.heap.size w w')) := by
  have R0 := hide (heap_alloc_new w (.cells #[.int .i64 0, .int .i64 0, .string ⟨#[]⟩, .bool false, .string ⟨#[]⟩, .bool false, .int .i64 0] 81))
  have al := (Below.refl w.heap.size w).alloc (Nat.le_refl _) (.cells #[.int .i64 0, .int .i64 0, .string ⟨#[]⟩, .bool false, .string ⟨#[]⟩, .bool false, .int .i64 0] 81)
  have E0 := hide al
  have G0 := hide ((al.block _ (rowLt hg)).trans hg)
  have Ha := hide (ha.below al)
  have Hb := hide hb
  have HK := hide hkd
  have HP := hide hp
  have hx := hb 0 h0
  obtain ⟨bb, off, rfl, hx0⟩ := ha.at_ (i := 0) h0
  rw [Nat.add_zero] at hx0
  have hx1 := (al.cell (World.block_lt_of_cell? w _ hx0)).trans hx0
  have nz : (n == 0) = false := by simp; omega
  have nz2 : ((n : Int) == 0) = false := by simp; omega
  have nz3 : decide (0 < n) = true := decide_eq_true h0
  obtain ⟨x, hxx⟩ : ∃ x, f 0 = x := ⟨_, rfl⟩
  rw [hxx] at hx hx1 HK
  have hxa := hx.1
  have hxb := hx.2
  have tN : (N == 0) = false := by simpa using hN
  clear hN
  clear al ha hb hkd hp hg hx0 hxx hx
  go_enter Tryd.func32, Tryd.ntmps32
  go_upto_region 1 with (fail)
  generalize w.alloc (.cells #[.int .i64 0, .int .i64 0, .string ⟨#[]⟩, .bool false, .string ⟨#[]⟩, .bool false, .int .i64 0] 81) = W0 at *
  go_wp2_with fail
  refine (kindof22 x hxa hxb _ T fr G0.out).mono ?_
  rw [HK.out]
  rintro e w1 ⟨rfl, hb1⟩
  have R1 := hide (keepRow R0.out hb1)
  have E1 := hide (E0.out.of hb1)
  have G1 := hide ((hb1.block _ (rowLt G0.out)).trans G0.out)
  have Ha1 := hide (Ha.out.below hb1)
  clear hb1 R0 E0 G0 Ha hx1
  have g1 := forms_at G1.out 9 (.int .i64 4) rfl
  go_wp2_with fail
  refine (pget_any _ n c f 4 _ Ha1.out Hb.out (by omega)).mono ?_
  rw [HP.out]
  rintro e w2 ⟨rfl, hd2⟩
  have R2 := hide (keepRow R1.out (drawn_below hd2 _))
  have E2 := hide (E1.out.of (drawn_below hd2 _))
  have Ha2 := hide (Ha1.out.drawn hd2)
  clear hd2 R1 E1 G1 Ha1 g1
  have al := (Below.refl w2.heap.size w2).alloc (Nat.le_refl _) (.cells #[.int .i64 4, .int .i64 N, .string ⟨#[]⟩, .bool false, .string ⟨#[]⟩, .bool false, .int .i64 0] 81)
  have Q3 := hide (heap_alloc_new w2 (.cells #[.int .i64 4, .int .i64 N, .string ⟨#[]⟩, .bool false, .string ⟨#[]⟩, .bool false, .int .i64 0] 81))
  have R3 := hide (keepRow R2.out al)
  have E3 := hide (E2.out.of al)
  have Ha3 := hide (Ha2.out.below al)
  have hne := rowLt R2.out
  clear al R2 E2 Ha2
  go_upto_region 15 with (fail)
  generalize hW : w2.alloc (.cells #[.int .i64 4, .int .i64 N, .string ⟨#[]⟩, .bool false, .string ⟨#[]⟩, .bool false, .int .i64 0] 81) = W3 at *
  generalize w2.heap.size = p at *
  clear hW
  have hAp : Hid (∀ b off2, (some (⟨bb, off, none⟩ : Addr)) = some ⟨b, off2, none⟩ → b ≠ p) := fun b off2 e h => by
    injection e with e1
    injection e1 with e2 e3
    subst e2 h
    have h1 := rd_cellS Ha3.out h0
    rw [cell_of_row W3 _ _ _ _ _ Q3.out] at h1
    have h2 : off + 0 = 0 ∨ off + 0 = 1 ∨ off + 0 = 2 ∨ off + 0 = 3 ∨ off + 0 = 4 ∨ off + 0 = 5 ∨ off + 0 = 6 ∨ 7 ≤ off + 0 := by omega
    rcases h2 with h2 | h2 | h2 | h2 | h2 | h2 | h2 | h2
    all_goals first
      | (rw [h2] at h1; simp at h1; done)
      | (rw [Array.getElem?_eq_none (by simpa using h2)] at h1; cases h1)
  go_wp2_with fail
  refine (text22 _ n c t f _ Ha3.out Hb.out htn hn).mono ?_
  rintro e w4 ⟨s, sh, q, e1, rfl, hS, hb4⟩
  have hq := slr_rng hS
  have HS := hide hS
  have R4 := hide (keepRow R3.out hb4)
  have E4 := hide (E3.out.of hb4)
  have Q4 := hide (keepRow Q3.out hb4)
  have Ha4 := hide (Ha3.out.below hb4)
  clear hb4 hS R3 E3 Q3 Ha3
  obtain ⟨q0_, q1_, q2_, q3_, q4_, q5_, q6_⟩ := row7 Q4.out
  have z0 := frozenRow Q4.out 4
  have s0 := setRow w4 p 4 (.string s) Q4.out
  simp only [List.setIfInBounds_toArray, List.set_cons_zero, List.set_cons_succ] at s0
  have z1 := frozenRow s0 5
  have s1 := setRow _ p 5 (.bool sh) s0
  simp only [List.setIfInBounds_toArray, List.set_cons_zero, List.set_cons_succ] at s1
  obtain ⟨j0_, j1_, j2_, j3_, j4_, j5_, j6_⟩ := row7 s0
  have Q5 := hide s1
  have E5 := hide ((E4.out.setCell (p := ⟨p, 4, none⟩) (Nat.le_of_lt hne) (.string s)).setCell (p := ⟨p, 5, none⟩) (Nat.le_of_lt hne) (.bool sh))
  have R5 := hide ((Below.heap_setCell _ ⟨p, 5, none⟩ (.bool sh) _ (Nat.ne_of_lt hne)).trans ((Below.heap_setCell w4 ⟨p, 4, none⟩ (.string s) _ (Nat.ne_of_lt hne)).trans R4.out))
  have Ha5 := hide (((Ha4.out.other (grown_set w4 p 4 (.string s)) hAp.out).other (grown_set _ p 5 (.bool sh)) hAp.out))
  clear s0 s1
  go_upto_region 19 with (fail)
  clear q0_ q1_ q2_ q3_ q4_ q5_ q6_ z0 z1 j0_ j1_ j2_ j3_ j4_ j5_ j6_ R4 E4 Q4 Ha4
  generalize (w4.setCell ⟨p, 4, none⟩ (.string s)).setCell ⟨p, 5, none⟩ (.bool sh) = W5 at *
  obtain ⟨q0_, q1_, q2_, q3_, q4_, q5_, q6_⟩ := row7 Q5.out
  by_cases he : e1 = 0
  · subst he
    obtain ⟨⟨k0, y0⟩, ⟨k1, y1⟩, ⟨k2, y2⟩, ⟨k3, y3⟩, ⟨k4, y4⟩, ⟨k5, y5⟩, ⟨k6, y6⟩, rz⟩ := store7 R5.out (.int .i64 4) (.int .i64 N) (.string ⟨#[]⟩) (.bool false) (.string s) (.bool sh) (.int .i64 0)
    have RZ := hide rz
    have EE := hide (below7 E5.out (p := w.heap.size) (Nat.le_refl _) (.int .i64 4) (.int .i64 N) (.string ⟨#[]⟩) (.bool false) (.string s) (.bool sh) (.int .i64 0))
    clear rz
    go_wp2_with fail
    obtain ⟨m0_, m1_, m2_, m3_, m4_, m5_, m6_⟩ := row7 RZ.out
    refine bodyPost_ret (v := .tuple #[.agg #[.int .i64 4, .int .i64 N, .string ⟨#[]⟩, .bool false, .string s, .bool sh, .int .i64 0], .int .i64 ((t : Int) + q), .int .i64 0]) ?_ rfl ⟨s, sh, q, 0, HS.out, .inr ⟨rfl, rfl, EE.out⟩⟩
    rw [results_cell_tmp2 rfl]
    go_simp
  · have te : (e1 != 0) = true := by simpa using he
    have HE1 := hide he
    clear he
    obtain ⟨⟨k0, y0⟩, ⟨k1, y1⟩, ⟨k2, y2⟩, ⟨k3, y3⟩, ⟨k4, y4⟩, ⟨k5, y5⟩, ⟨k6, y6⟩, rz⟩ := store7 R5.out (.int .i64 0) (.int .i64 0) (.string ⟨#[]⟩) (.bool false) (.string ⟨#[]⟩) (.bool false) (.int .i64 0)
    have RZ := hide rz
    have EE := hide (below7 E5.out (p := w.heap.size) (Nat.le_refl _) (.int .i64 0) (.int .i64 0) (.string ⟨#[]⟩) (.bool false) (.string ⟨#[]⟩) (.bool false) (.int .i64 0))
    clear rz
    go_wp2_with fail
    obtain ⟨m0_, m1_, m2_, m3_, m4_, m5_, m6_⟩ := row7 RZ.out
    refine bodyPost_ret (v := .tuple #[.agg #[.int .i64 0, .int .i64 0, .string ⟨#[]⟩, .bool false, .string ⟨#[]⟩, .bool false, .int .i64 0], .int .i64 0, .int .i64 e1]) ?_ rfl ⟨s, sh, q, e1, HS.out, .inl ⟨HE1.out, rfl, EE.out⟩⟩
    rw [results_cell_tmp2 rfl]
    go_simp
end

section
open Go.RowKit Go.PlainAid

set_option maxRecDepth 100000 in
set_option maxHeartbeats 6400000 in
theorem get_nv2 (A : Option Addr) (n c : Nat) (f : Nat → Int) (t : Nat) (w : World) (ha : Rd .u8 w A n c f) (hb : Byt n f) (h0 : 0 < n) (hn : n ≤ 100000) (hkd : kd (f 0) = 2) (hp : pg f n 6 = (0, (t : Int), 0)) (htn : t ≤ n) (T : TypeId) (fr : Nat × Nat) (hg : w.heap[0]? = some (.cells formsV T fr)) : Calls Tryd.prog 32 #[.slice A n c] w fun e w' => ∃ s sh q e1, SlR (fun j => f (t + j)) (n - t) n s sh q e1 ∧ ((e1 ≠ 0 ∧ e = .returned (.tuple #[.agg #[.int .i64 0, .int .i64 0, .string ⟨#[]⟩, .bool false, .string ⟨#[]⟩, .bool false, .int .i64 0], .int .i64 0, .int .i64 e1]) ∧ Below w.heap.size w w') ∨ (e1 = 0 ∧ ∃ s2 sh2 q2 e2, SlR (fun j => f (t + q.toNat + j)) (n - (t + q.toNat)) n s2 sh2 q2 e2 ∧ ((e2 ≠ 0 ∧ e = .returned (.tuple #[.agg #[.int .i64 0, .int .i64 0, .string ⟨#[]⟩, .bool false, .string ⟨#[]⟩, .bool false, .int .i64 0], .int .i64 0, .int .i64 e2]) ∧ Below w.heap.size w w') ∨ (e2 = 0 ∧ e = .returned (.tuple #[.agg #[.int .i64 2, .int .i64 0, .string s, .bool sh, .string s2, .bool sh2, .int .i64 0], .int .i64 ((t : Int) + q + q2), .int .i64 0]) ∧ Below w.heap.size w w')))) := by
  have R0 := hide (heap_alloc_new w (.cells #[.int .i64 0, .int .i64 0, .string ⟨#[]⟩, .bool false, .string ⟨#[]⟩, .bool false, .int .i64 0] 81))
  have al := (Below.refl w.heap.size w).alloc (Nat.le_refl _) (.cells #[.int .i64 0, .int .i64 0, .string ⟨#[]⟩, .bool false, .string ⟨#[]⟩, .bool false, .int .i64 0] 81)
  have E0 := hide al
  have G0 := hide ((al.block _ (rowLt hg)).trans hg)
  have Ha := hide (ha.below al)
  have Hb := hide hb
  have HK := hide hkd
  have HP := hide hp
  have hx := hb 0 h0
  obtain ⟨bb, off, rfl, hx0⟩ := ha.at_ (i := 0) h0
  rw [Nat.add_zero] at hx0
  have hx1 := (al.cell (World.block_lt_of_cell? w _ hx0)).trans hx0
  have nz : (n == 0) = false := by simp; omega
  have nz2 : ((n : Int) == 0) = false := by simp; omega
  have nz3 : decide (0 < n) = true := decide_eq_true h0
  obtain ⟨x, hxx⟩ : ∃ x, f 0 = x := ⟨_, rfl⟩
  rw [hxx] at hx hx1 HK
  have hxa := hx.1
  have hxb := hx.2
  clear al ha hb hkd hp hg hx0 hxx hx
  go_enter Tryd.func32, Tryd.ntmps32
  go_upto_region 1 with (fail)
  generalize w.alloc (.cells #[.int .i64 0, .int .i64 0, .string ⟨#[]⟩, .bool false, .string ⟨#[]⟩, .bool false, .int .i64 0] 81) = W0 at *
  go_wp2_with fail
  refine (kindof22 x hxa hxb _ T fr G0.out).mono ?_
  rw [HK.out]
  rintro e w1 ⟨rfl, hb1⟩
  have R1 := hide (keepRow R0.out hb1)
  have E1 := hide (E0.out.of hb1)
  have G1 := hide ((hb1.block _ (rowLt G0.out)).trans G0.out)
  have Ha1 := hide (Ha.out.below hb1)
  clear hb1 R0 E0 G0 Ha hx1
  have g1 := forms_at G1.out 5 (.int .i64 6) rfl
  go_wp2_with fail
  refine (pget_any _ n c f 6 _ Ha1.out Hb.out (by omega)).mono ?_
  rw [HP.out]
  rintro e w2 ⟨rfl, hd2⟩
  have R2 := hide (keepRow R1.out (drawn_below hd2 _))
  have E2 := hide (E1.out.of (drawn_below hd2 _))
  have Ha2 := hide (Ha1.out.drawn hd2)
  clear hd2 R1 E1 G1 Ha1 g1
  have al := (Below.refl w2.heap.size w2).alloc (Nat.le_refl _) (.cells #[.int .i64 2, .int .i64 0, .string ⟨#[]⟩, .bool false, .string ⟨#[]⟩, .bool false, .int .i64 0] 81)
  have Q3 := hide (heap_alloc_new w2 (.cells #[.int .i64 2, .int .i64 0, .string ⟨#[]⟩, .bool false, .string ⟨#[]⟩, .bool false, .int .i64 0] 81))
  have R3 := hide (keepRow R2.out al)
  have E3 := hide (E2.out.of al)
  have Ha3 := hide (Ha2.out.below al)
  have hne := rowLt R2.out
  clear al R2 E2 Ha2
  go_upto_region 15 with (fail)
  generalize hW : w2.alloc (.cells #[.int .i64 2, .int .i64 0, .string ⟨#[]⟩, .bool false, .string ⟨#[]⟩, .bool false, .int .i64 0] 81) = W3 at *
  generalize w2.heap.size = p at *
  clear hW
  have hAp : Hid (∀ b off2, (some (⟨bb, off, none⟩ : Addr)) = some ⟨b, off2, none⟩ → b ≠ p) := fun b off2 e h => by
    injection e with e1
    injection e1 with e2 e3
    subst e2 h
    have h1 := rd_cellS Ha3.out h0
    rw [cell_of_row W3 _ _ _ _ _ Q3.out] at h1
    have h2 : off + 0 = 0 ∨ off + 0 = 1 ∨ off + 0 = 2 ∨ off + 0 = 3 ∨ off + 0 = 4 ∨ off + 0 = 5 ∨ off + 0 = 6 ∨ 7 ≤ off + 0 := by omega
    rcases h2 with h2 | h2 | h2 | h2 | h2 | h2 | h2 | h2
    all_goals first
      | (rw [h2] at h1; simp at h1; done)
      | (rw [Array.getElem?_eq_none (by simpa using h2)] at h1; cases h1)
  go_wp2_with fail
  refine (text22 _ n c t f _ Ha3.out Hb.out htn hn).mono ?_
  rintro e w4 ⟨s, sh, q, e1, rfl, hS, hb4⟩
  have hq := slr_rng hS
  have HS := hide hS
  have R4 := hide (keepRow R3.out hb4)
  have E4 := hide (E3.out.of hb4)
  have Q4 := hide (keepRow Q3.out hb4)
  have Ha4 := hide (Ha3.out.below hb4)
  clear hb4 hS R3 E3 Q3 Ha3
  obtain ⟨q0_, q1_, q2_, q3_, q4_, q5_, q6_⟩ := row7 Q4.out
  have z0 := frozenRow Q4.out 2
  have s0 := setRow w4 p 2 (.string s) Q4.out
  simp only [List.setIfInBounds_toArray, List.set_cons_zero, List.set_cons_succ] at s0
  have z1 := frozenRow s0 3
  have s1 := setRow _ p 3 (.bool sh) s0
  simp only [List.setIfInBounds_toArray, List.set_cons_zero, List.set_cons_succ] at s1
  obtain ⟨j0_, j1_, j2_, j3_, j4_, j5_, j6_⟩ := row7 s0
  have Q5 := hide s1
  have E5 := hide ((E4.out.setCell (p := ⟨p, 2, none⟩) (Nat.le_of_lt hne) (.string s)).setCell (p := ⟨p, 3, none⟩) (Nat.le_of_lt hne) (.bool sh))
  have R5 := hide ((Below.heap_setCell _ ⟨p, 3, none⟩ (.bool sh) _ (Nat.ne_of_lt hne)).trans ((Below.heap_setCell w4 ⟨p, 2, none⟩ (.string s) _ (Nat.ne_of_lt hne)).trans R4.out))
  have Ha5 := hide (((Ha4.out.other (grown_set w4 p 2 (.string s)) hAp.out).other (grown_set _ p 3 (.bool sh)) hAp.out))
  clear s0 s1
  go_upto_region 17 with (fail)
  clear q0_ q1_ q2_ q3_ q4_ q5_ q6_ z0 z1 j0_ j1_ j2_ j3_ j4_ j5_ j6_ R4 E4 Q4 Ha4
  generalize (w4.setCell ⟨p, 2, none⟩ (.string s)).setCell ⟨p, 3, none⟩ (.bool sh) = W5 at *
  obtain ⟨q0_, q1_, q2_, q3_, q4_, q5_, q6_⟩ := row7 Q5.out
  by_cases he : e1 = 0
  · subst he
    obtain ⟨qn, rfl⟩ := Int.eq_ofNat_of_zero_le hq.1
    obtain ⟨u, hu⟩ : ∃ u, u = t + qn := ⟨_, rfl⟩
    have hui : (t : Int) + (qn : Int) = (u : Int) := by omega
    have HU := hide hui
    have htq : u ≤ n := by have := hq.2; omega
    have HU2 := hide hu
    clear hu
    rw [hui]
    clear hui
    go_wp2_with fail
    refine (text22 _ n c u f _ Ha5.out Hb.out htq hn).mono ?_
    rintro e w6 ⟨s2, sh2, q2, e2, rfl, hS2, hb4⟩
    have HS2 := hide hS2
    have R6 := hide (keepRow R5.out hb4)
    have E6 := hide (E5.out.of hb4)
    have Q6 := hide (keepRow Q5.out hb4)
    clear hb4 hS2 R5 E5 Q5 Ha5 q0_ q1_ q2_ q3_ q4_ q5_ q6_
    obtain ⟨q0_, q1_, q2_, q3_, q4_, q5_, q6_⟩ := row7 Q6.out
    have z0 := frozenRow Q6.out 4
    have s0 := setRow w6 p 4 (.string s2) Q6.out
    simp only [List.setIfInBounds_toArray, List.set_cons_zero, List.set_cons_succ] at s0
    have z1 := frozenRow s0 5
    have s1 := setRow _ p 5 (.bool sh2) s0
    simp only [List.setIfInBounds_toArray, List.set_cons_zero, List.set_cons_succ] at s1
    obtain ⟨j0_, j1_, j2_, j3_, j4_, j5_, j6_⟩ := row7 s0
    have Q7 := hide s1
    have E7 := hide ((E6.out.setCell (p := ⟨p, 4, none⟩) (Nat.le_of_lt hne) (.string s2)).setCell (p := ⟨p, 5, none⟩) (Nat.le_of_lt hne) (.bool sh2))
    have R7 := hide ((Below.heap_setCell _ ⟨p, 5, none⟩ (.bool sh2) _ (Nat.ne_of_lt hne)).trans ((Below.heap_setCell w6 ⟨p, 4, none⟩ (.string s2) _ (Nat.ne_of_lt hne)).trans R6.out))
    clear s0 s1
    go_upto_region 19 with (fail)
    clear q0_ q1_ q2_ q3_ q4_ q5_ q6_ z0 z1 j0_ j1_ j2_ j3_ j4_ j5_ j6_ R6 E6 Q6
    generalize (w6.setCell ⟨p, 4, none⟩ (.string s2)).setCell ⟨p, 5, none⟩ (.bool sh2) = W7 at *
    obtain ⟨q0_, q1_, q2_, q3_, q4_, q5_, q6_⟩ := row7 Q7.out
    by_cases he : e2 = 0
    · subst he
      obtain ⟨⟨k0, y0⟩, ⟨k1, y1⟩, ⟨k2, y2⟩, ⟨k3, y3⟩, ⟨k4, y4⟩, ⟨k5, y5⟩, ⟨k6, y6⟩, rz⟩ := store7 R7.out (.int .i64 2) (.int .i64 0) (.string s) (.bool sh) (.string s2) (.bool sh2) (.int .i64 0)
      have RZ := hide rz
      have EE := hide (below7 E7.out (p := w.heap.size) (Nat.le_refl _) (.int .i64 2) (.int .i64 0) (.string s) (.bool sh) (.string s2) (.bool sh2) (.int .i64 0))
      clear rz
      go_wp2_with fail
      obtain ⟨m0_, m1_, m2_, m3_, m4_, m5_, m6_⟩ := row7 RZ.out
      refine bodyPost_ret (v := .tuple #[.agg #[.int .i64 2, .int .i64 0, .string s, .bool sh, .string s2, .bool sh2, .int .i64 0], .int .i64 ((u : Int) + q2), .int .i64 0]) ?_ rfl ⟨s, sh, (qn : Int), 0, HS.out, .inr ⟨rfl, s2, sh2, q2, 0, by have h := HS2.out; rw [HU2.out] at h; rw [Int.toNat_natCast]; exact h, .inr ⟨rfl, by rw [← HU.out], EE.out⟩⟩⟩
      rw [results_cell_tmp2 rfl]
      go_simp
    · have te : (e2 != 0) = true := by simpa using he
      have HE2 := hide he
      clear he
      obtain ⟨⟨k0, y0⟩, ⟨k1, y1⟩, ⟨k2, y2⟩, ⟨k3, y3⟩, ⟨k4, y4⟩, ⟨k5, y5⟩, ⟨k6, y6⟩, rz⟩ := store7 R7.out (.int .i64 0) (.int .i64 0) (.string ⟨#[]⟩) (.bool false) (.string ⟨#[]⟩) (.bool false) (.int .i64 0)
      have RZ := hide rz
      have EE := hide (below7 E7.out (p := w.heap.size) (Nat.le_refl _) (.int .i64 0) (.int .i64 0) (.string ⟨#[]⟩) (.bool false) (.string ⟨#[]⟩) (.bool false) (.int .i64 0))
      clear rz
      go_wp2_with fail
      obtain ⟨m0_, m1_, m2_, m3_, m4_, m5_, m6_⟩ := row7 RZ.out
      refine bodyPost_ret (v := .tuple #[.agg #[.int .i64 0, .int .i64 0, .string ⟨#[]⟩, .bool false, .string ⟨#[]⟩, .bool false, .int .i64 0], .int .i64 0, .int .i64 e2]) ?_ rfl ⟨s, sh, (qn : Int), 0, HS.out, .inr ⟨rfl, s2, sh2, q2, e2, by have h := HS2.out; rw [HU2.out] at h; rw [Int.toNat_natCast]; exact h, .inl ⟨HE2.out, rfl, EE.out⟩⟩⟩
      rw [results_cell_tmp2 rfl]
      go_simp
  · have te : (e1 == 0) = false := by simpa using he
    have te2 : (e1 != 0) = true := by simpa using he
    have HE1 := hide he
    clear he
    obtain ⟨⟨k0, y0⟩, ⟨k1, y1⟩, ⟨k2, y2⟩, ⟨k3, y3⟩, ⟨k4, y4⟩, ⟨k5, y5⟩, ⟨k6, y6⟩, rz⟩ := store7 R5.out (.int .i64 0) (.int .i64 0) (.string ⟨#[]⟩) (.bool false) (.string ⟨#[]⟩) (.bool false) (.int .i64 0)
    have RZ := hide rz
    have EE := hide (below7 E5.out (p := w.heap.size) (Nat.le_refl _) (.int .i64 0) (.int .i64 0) (.string ⟨#[]⟩) (.bool false) (.string ⟨#[]⟩) (.bool false) (.int .i64 0))
    clear rz
    go_wp2_with fail
    obtain ⟨m0_, m1_, m2_, m3_, m4_, m5_, m6_⟩ := row7 RZ.out
    refine bodyPost_ret (v := .tuple #[.agg #[.int .i64 0, .int .i64 0, .string ⟨#[]⟩, .bool false, .string ⟨#[]⟩, .bool false, .int .i64 0], .int .i64 0, .int .i64 e1]) ?_ rfl ⟨s, sh, q, e1, HS.out, .inl ⟨HE1.out, rfl, EE.out⟩⟩
    rw [results_cell_tmp2 rfl]
    go_simp
set_option maxRecDepth 100000 in
set_option maxHeartbeats 6400000 in
theorem get_nv3 (A : Option Addr) (n c : Nat) (f : Nat → Int) (t : Nat) (w : World) (ha : Rd .u8 w A n c f) (hb : Byt n f) (h0 : 0 < n) (hn : n ≤ 100000) (hkd : kd (f 0) = 3) (hp : pg f n 4 = (0, (t : Int), 0)) (htn : t ≤ n) (T : TypeId) (fr : Nat × Nat) (hg : w.heap[0]? = some (.cells formsV T fr)) : Calls Tryd.prog 32 #[.slice A n c] w fun e w' => ∃ s sh q e1, SlR (fun j => f (t + j)) (n - t) n s sh q e1 ∧ ((e1 ≠ 0 ∧ e = .returned (.tuple #[.agg #[.int .i64 0, .int .i64 0, .string ⟨#[]⟩, .bool false, .string ⟨#[]⟩, .bool false, .int .i64 0], .int .i64 0, .int .i64 e1]) ∧ Below w.heap.size w w') ∨ (e1 = 0 ∧ ∃ s2 sh2 q2 e2, SlR (fun j => f (t + q.toNat + j)) (n - (t + q.toNat)) n s2 sh2 q2 e2 ∧ ((e2 ≠ 0 ∧ e = .returned (.tuple #[.agg #[.int .i64 0, .int .i64 0, .string ⟨#[]⟩, .bool false, .string ⟨#[]⟩, .bool false, .int .i64 0], .int .i64 0, .int .i64 e2]) ∧ Below w.heap.size w w') ∨ (e2 = 0 ∧ e = .returned (.tuple #[.agg #[.int .i64 3, .int .i64 0, .string s, .bool sh, .string s2, .bool sh2, .int .i64 0], .int .i64 ((t : Int) + q + q2), .int .i64 0]) ∧ Below w.heap.size w w')))) := by
  have R0 := hide (heap_alloc_new w (.cells #[.int .i64 0, .int .i64 0, .string ⟨#[]⟩, .bool false, .string ⟨#[]⟩, .bool false, .int .i64 0] 81))
  have al := (Below.refl w.heap.size w).alloc (Nat.le_refl _) (.cells #[.int .i64 0, .int .i64 0, .string ⟨#[]⟩, .bool false, .string ⟨#[]⟩, .bool false, .int .i64 0] 81)
  have E0 := hide al
  have G0 := hide ((al.block _ (rowLt hg)).trans hg)
  have Ha := hide (ha.below al)
  have Hb := hide hb
  have HK := hide hkd
  have HP := hide hp
  have hx := hb 0 h0
  obtain ⟨bb, off, rfl, hx0⟩ := ha.at_ (i := 0) h0
  rw [Nat.add_zero] at hx0
  have hx1 := (al.cell (World.block_lt_of_cell? w _ hx0)).trans hx0
  have nz : (n == 0) = false := by simp; omega
  have nz2 : ((n : Int) == 0) = false := by simp; omega
  have nz3 : decide (0 < n) = true := decide_eq_true h0
  obtain ⟨x, hxx⟩ : ∃ x, f 0 = x := ⟨_, rfl⟩
  rw [hxx] at hx hx1 HK
  have hxa := hx.1
  have hxb := hx.2
  clear al ha hb hkd hp hg hx0 hxx hx
  go_enter Tryd.func32, Tryd.ntmps32
  go_upto_region 1 with (fail)
  generalize w.alloc (.cells #[.int .i64 0, .int .i64 0, .string ⟨#[]⟩, .bool false, .string ⟨#[]⟩, .bool false, .int .i64 0] 81) = W0 at *
  go_wp2_with fail
  refine (kindof22 x hxa hxb _ T fr G0.out).mono ?_
  rw [HK.out]
  rintro e w1 ⟨rfl, hb1⟩
  have R1 := hide (keepRow R0.out hb1)
  have E1 := hide (E0.out.of hb1)
  have G1 := hide ((hb1.block _ (rowLt G0.out)).trans G0.out)
  have Ha1 := hide (Ha.out.below hb1)
  clear hb1 R0 E0 G0 Ha hx1
  have g1 := forms_at G1.out 7 (.int .i64 4) rfl
  go_wp2_with fail
  refine (pget_any _ n c f 4 _ Ha1.out Hb.out (by omega)).mono ?_
  rw [HP.out]
  rintro e w2 ⟨rfl, hd2⟩
  have R2 := hide (keepRow R1.out (drawn_below hd2 _))
  have E2 := hide (E1.out.of (drawn_below hd2 _))
  have Ha2 := hide (Ha1.out.drawn hd2)
  clear hd2 R1 E1 G1 Ha1 g1
  have al := (Below.refl w2.heap.size w2).alloc (Nat.le_refl _) (.cells #[.int .i64 3, .int .i64 0, .string ⟨#[]⟩, .bool false, .string ⟨#[]⟩, .bool false, .int .i64 0] 81)
  have Q3 := hide (heap_alloc_new w2 (.cells #[.int .i64 3, .int .i64 0, .string ⟨#[]⟩, .bool false, .string ⟨#[]⟩, .bool false, .int .i64 0] 81))
  have R3 := hide (keepRow R2.out al)
  have E3 := hide (E2.out.of al)
  have Ha3 := hide (Ha2.out.below al)
  have hne := rowLt R2.out
  clear al R2 E2 Ha2
  go_upto_region 15 with (fail)
  generalize hW : w2.alloc (.cells #[.int .i64 3, .int .i64 0, .string ⟨#[]⟩, .bool false, .string ⟨#[]⟩, .bool false, .int .i64 0] 81) = W3 at *
  generalize w2.heap.size = p at *
  clear hW
  have hAp : Hid (∀ b off2, (some (⟨bb, off, none⟩ : Addr)) = some ⟨b, off2, none⟩ → b ≠ p) := fun b off2 e h => by
    injection e with e1
    injection e1 with e2 e3
    subst e2 h
    have h1 := rd_cellS Ha3.out h0
    rw [cell_of_row W3 _ _ _ _ _ Q3.out] at h1
    have h2 : off + 0 = 0 ∨ off + 0 = 1 ∨ off + 0 = 2 ∨ off + 0 = 3 ∨ off + 0 = 4 ∨ off + 0 = 5 ∨ off + 0 = 6 ∨ 7 ≤ off + 0 := by omega
    rcases h2 with h2 | h2 | h2 | h2 | h2 | h2 | h2 | h2
    all_goals first
      | (rw [h2] at h1; simp at h1; done)
      | (rw [Array.getElem?_eq_none (by simpa using h2)] at h1; cases h1)
  go_wp2_with fail
  refine (text22 _ n c t f _ Ha3.out Hb.out htn hn).mono ?_
  rintro e w4 ⟨s, sh, q, e1, rfl, hS, hb4⟩
  have hq := slr_rng hS
  have HS := hide hS
  have R4 := hide (keepRow R3.out hb4)
  have E4 := hide (E3.out.of hb4)
  have Q4 := hide (keepRow Q3.out hb4)
  have Ha4 := hide (Ha3.out.below hb4)
  clear hb4 hS R3 E3 Q3 Ha3
  obtain ⟨q0_, q1_, q2_, q3_, q4_, q5_, q6_⟩ := row7 Q4.out
  have z0 := frozenRow Q4.out 2
  have s0 := setRow w4 p 2 (.string s) Q4.out
  simp only [List.setIfInBounds_toArray, List.set_cons_zero, List.set_cons_succ] at s0
  have z1 := frozenRow s0 3
  have s1 := setRow _ p 3 (.bool sh) s0
  simp only [List.setIfInBounds_toArray, List.set_cons_zero, List.set_cons_succ] at s1
  obtain ⟨j0_, j1_, j2_, j3_, j4_, j5_, j6_⟩ := row7 s0
  have Q5 := hide s1
  have E5 := hide ((E4.out.setCell (p := ⟨p, 2, none⟩) (Nat.le_of_lt hne) (.string s)).setCell (p := ⟨p, 3, none⟩) (Nat.le_of_lt hne) (.bool sh))
  have R5 := hide ((Below.heap_setCell _ ⟨p, 3, none⟩ (.bool sh) _ (Nat.ne_of_lt hne)).trans ((Below.heap_setCell w4 ⟨p, 2, none⟩ (.string s) _ (Nat.ne_of_lt hne)).trans R4.out))
  have Ha5 := hide (((Ha4.out.other (grown_set w4 p 2 (.string s)) hAp.out).other (grown_set _ p 3 (.bool sh)) hAp.out))
  clear s0 s1
  go_upto_region 17 with (fail)
  clear q0_ q1_ q2_ q3_ q4_ q5_ q6_ z0 z1 j0_ j1_ j2_ j3_ j4_ j5_ j6_ R4 E4 Q4 Ha4
  generalize (w4.setCell ⟨p, 2, none⟩ (.string s)).setCell ⟨p, 3, none⟩ (.bool sh) = W5 at *
  obtain ⟨q0_, q1_, q2_, q3_, q4_, q5_, q6_⟩ := row7 Q5.out
  by_cases he : e1 = 0
  · subst he
    obtain ⟨qn, rfl⟩ := Int.eq_ofNat_of_zero_le hq.1
    obtain ⟨u, hu⟩ : ∃ u, u = t + qn := ⟨_, rfl⟩
    have hui : (t : Int) + (qn : Int) = (u : Int) := by omega
    have HU := hide hui
    have htq : u ≤ n := by have := hq.2; omega
    have HU2 := hide hu
    clear hu
    rw [hui]
    clear hui
    go_wp2_with fail
    refine (text22 _ n c u f _ Ha5.out Hb.out htq hn).mono ?_
    rintro e w6 ⟨s2, sh2, q2, e2, rfl, hS2, hb4⟩
    have HS2 := hide hS2
    have R6 := hide (keepRow R5.out hb4)
    have E6 := hide (E5.out.of hb4)
    have Q6 := hide (keepRow Q5.out hb4)
    clear hb4 hS2 R5 E5 Q5 Ha5 q0_ q1_ q2_ q3_ q4_ q5_ q6_
    obtain ⟨q0_, q1_, q2_, q3_, q4_, q5_, q6_⟩ := row7 Q6.out
    have z0 := frozenRow Q6.out 4
    have s0 := setRow w6 p 4 (.string s2) Q6.out
    simp only [List.setIfInBounds_toArray, List.set_cons_zero, List.set_cons_succ] at s0
    have z1 := frozenRow s0 5
    have s1 := setRow _ p 5 (.bool sh2) s0
    simp only [List.setIfInBounds_toArray, List.set_cons_zero, List.set_cons_succ] at s1
    obtain ⟨j0_, j1_, j2_, j3_, j4_, j5_, j6_⟩ := row7 s0
    have Q7 := hide s1
    have E7 := hide ((E6.out.setCell (p := ⟨p, 4, none⟩) (Nat.le_of_lt hne) (.string s2)).setCell (p := ⟨p, 5, none⟩) (Nat.le_of_lt hne) (.bool sh2))
    have R7 := hide ((Below.heap_setCell _ ⟨p, 5, none⟩ (.bool sh2) _ (Nat.ne_of_lt hne)).trans ((Below.heap_setCell w6 ⟨p, 4, none⟩ (.string s2) _ (Nat.ne_of_lt hne)).trans R6.out))
    clear s0 s1
    go_upto_region 19 with (fail)
    clear q0_ q1_ q2_ q3_ q4_ q5_ q6_ z0 z1 j0_ j1_ j2_ j3_ j4_ j5_ j6_ R6 E6 Q6
    generalize (w6.setCell ⟨p, 4, none⟩ (.string s2)).setCell ⟨p, 5, none⟩ (.bool sh2) = W7 at *
    obtain ⟨q0_, q1_, q2_, q3_, q4_, q5_, q6_⟩ := row7 Q7.out
    by_cases he : e2 = 0
    · subst he
      obtain ⟨⟨k0, y0⟩, ⟨k1, y1⟩, ⟨k2, y2⟩, ⟨k3, y3⟩, ⟨k4, y4⟩, ⟨k5, y5⟩, ⟨k6, y6⟩, rz⟩ := store7 R7.out (.int .i64 3) (.int .i64 0) (.string s) (.bool sh) (.string s2) (.bool sh2) (.int .i64 0)
      have RZ := hide rz
      have EE := hide (below7 E7.out (p := w.heap.size) (Nat.le_refl _) (.int .i64 3) (.int .i64 0) (.string s) (.bool sh) (.string s2) (.bool sh2) (.int .i64 0))
      clear rz
      go_wp2_with fail
      obtain ⟨m0_, m1_, m2_, m3_, m4_, m5_, m6_⟩ := row7 RZ.out
      refine bodyPost_ret (v := .tuple #[.agg #[.int .i64 3, .int .i64 0, .string s, .bool sh, .string s2, .bool sh2, .int .i64 0], .int .i64 ((u : Int) + q2), .int .i64 0]) ?_ rfl ⟨s, sh, (qn : Int), 0, HS.out, .inr ⟨rfl, s2, sh2, q2, 0, by have h := HS2.out; rw [HU2.out] at h; rw [Int.toNat_natCast]; exact h, .inr ⟨rfl, by rw [← HU.out], EE.out⟩⟩⟩
      rw [results_cell_tmp2 rfl]
      go_simp
    · have te : (e2 != 0) = true := by simpa using he
      have HE2 := hide he
      clear he
      obtain ⟨⟨k0, y0⟩, ⟨k1, y1⟩, ⟨k2, y2⟩, ⟨k3, y3⟩, ⟨k4, y4⟩, ⟨k5, y5⟩, ⟨k6, y6⟩, rz⟩ := store7 R7.out (.int .i64 0) (.int .i64 0) (.string ⟨#[]⟩) (.bool false) (.string ⟨#[]⟩) (.bool false) (.int .i64 0)
      have RZ := hide rz
      have EE := hide (below7 E7.out (p := w.heap.size) (Nat.le_refl _) (.int .i64 0) (.int .i64 0) (.string ⟨#[]⟩) (.bool false) (.string ⟨#[]⟩) (.bool false) (.int .i64 0))
      clear rz
      go_wp2_with fail
      obtain ⟨m0_, m1_, m2_, m3_, m4_, m5_, m6_⟩ := row7 RZ.out
      refine bodyPost_ret (v := .tuple #[.agg #[.int .i64 0, .int .i64 0, .string ⟨#[]⟩, .bool false, .string ⟨#[]⟩, .bool false, .int .i64 0], .int .i64 0, .int .i64 e2]) ?_ rfl ⟨s, sh, (qn : Int), 0, HS.out, .inr ⟨rfl, s2, sh2, q2, e2, by have h := HS2.out; rw [HU2.out] at h; rw [Int.toNat_natCast]; exact h, .inl ⟨HE2.out, rfl, EE.out⟩⟩⟩
      rw [results_cell_tmp2 rfl]
      go_simp
  · have te : (e1 == 0) = false := by simpa using he
    have te2 : (e1 != 0) = true := by simpa using he
    have HE1 := hide he
    clear he
    obtain ⟨⟨k0, y0⟩, ⟨k1, y1⟩, ⟨k2, y2⟩, ⟨k3, y3⟩, ⟨k4, y4⟩, ⟨k5, y5⟩, ⟨k6, y6⟩, rz⟩ := store7 R5.out (.int .i64 0) (.int .i64 0) (.string ⟨#[]⟩) (.bool false) (.string ⟨#[]⟩) (.bool false) (.int .i64 0)
    have RZ := hide rz
    have EE := hide (below7 E5.out (p := w.heap.size) (Nat.le_refl _) (.int .i64 0) (.int .i64 0) (.string ⟨#[]⟩) (.bool false) (.string ⟨#[]⟩) (.bool false) (.int .i64 0))
    clear rz
    go_wp2_with fail
    obtain ⟨m0_, m1_, m2_, m3_, m4_, m5_, m6_⟩ := row7 RZ.out
    refine bodyPost_ret (v := .tuple #[.agg #[.int .i64 0, .int .i64 0, .string ⟨#[]⟩, .bool false, .string ⟨#[]⟩, .bool false, .int .i64 0], .int .i64 0, .int .i64 e1]) ?_ rfl ⟨s, sh, q, e1, HS.out, .inl ⟨HE1.out, rfl, EE.out⟩⟩
    rw [results_cell_tmp2 rfl]
    go_simp
set_option maxRecDepth 100000 in
set_option maxHeartbeats 6400000 in
theorem get_nv4 (A : Option Addr) (n c : Nat) (f : Nat → Int) (t : Nat) (w : World) (ha : Rd .u8 w A n c f) (hb : Byt n f) (h0 : 0 < n) (hn : n ≤ 100000) (hkd : kd (f 0) = 4) (hp : pg f n 4 = (0, (t : Int), 0)) (htn : t ≤ n) (T : TypeId) (fr : Nat × Nat) (hg : w.heap[0]? = some (.cells formsV T fr)) : Calls Tryd.prog 32 #[.slice A n c] w fun e w' => ∃ s sh q e1, SlR (fun j => f (t + j)) (n - t) n s sh q e1 ∧ ((e1 ≠ 0 ∧ e = .returned (.tuple #[.agg #[.int .i64 0, .int .i64 0, .string ⟨#[]⟩, .bool false, .string ⟨#[]⟩, .bool false, .int .i64 0], .int .i64 0, .int .i64 e1]) ∧ Below w.heap.size w w') ∨ (e1 = 0 ∧ ∃ s2 sh2 q2 e2, SlR (fun j => f (t + q.toNat + j)) (n - (t + q.toNat)) n s2 sh2 q2 e2 ∧ ((e2 ≠ 0 ∧ e = .returned (.tuple #[.agg #[.int .i64 0, .int .i64 0, .string ⟨#[]⟩, .bool false, .string ⟨#[]⟩, .bool false, .int .i64 0], .int .i64 0, .int .i64 e2]) ∧ Below w.heap.size w w') ∨ (e2 = 0 ∧ e = .returned (.tuple #[.agg #[.int .i64 4, .int .i64 0, .string s, .bool sh, .string s2, .bool sh2, .int .i64 0], .int .i64 ((t : Int) + q + q2), .int .i64 0]) ∧ Below w.heap.size w w')))) := by
  have R0 := hide (heap_alloc_new w (.cells #[.int .i64 0, .int .i64 0, .string ⟨#[]⟩, .bool false, .string ⟨#[]⟩, .bool false, .int .i64 0] 81))
  have al := (Below.refl w.heap.size w).alloc (Nat.le_refl _) (.cells #[.int .i64 0, .int .i64 0, .string ⟨#[]⟩, .bool false, .string ⟨#[]⟩, .bool false, .int .i64 0] 81)
  have E0 := hide al
  have G0 := hide ((al.block _ (rowLt hg)).trans hg)
  have Ha := hide (ha.below al)
  have Hb := hide hb
  have HK := hide hkd
  have HP := hide hp
  have hx := hb 0 h0
  obtain ⟨bb, off, rfl, hx0⟩ := ha.at_ (i := 0) h0
  rw [Nat.add_zero] at hx0
  have hx1 := (al.cell (World.block_lt_of_cell? w _ hx0)).trans hx0
  have nz : (n == 0) = false := by simp; omega
  have nz2 : ((n : Int) == 0) = false := by simp; omega
  have nz3 : decide (0 < n) = true := decide_eq_true h0
  obtain ⟨x, hxx⟩ : ∃ x, f 0 = x := ⟨_, rfl⟩
  rw [hxx] at hx hx1 HK
  have hxa := hx.1
  have hxb := hx.2
  clear al ha hb hkd hp hg hx0 hxx hx
  go_enter Tryd.func32, Tryd.ntmps32
  go_upto_region 1 with (fail)
  generalize w.alloc (.cells #[.int .i64 0, .int .i64 0, .string ⟨#[]⟩, .bool false, .string ⟨#[]⟩, .bool false, .int .i64 0] 81) = W0 at *
  go_wp2_with fail
  refine (kindof22 x hxa hxb _ T fr G0.out).mono ?_
  rw [HK.out]
  rintro e w1 ⟨rfl, hb1⟩
  have R1 := hide (keepRow R0.out hb1)
  have E1 := hide (E0.out.of hb1)
  have G1 := hide ((hb1.block _ (rowLt G0.out)).trans G0.out)
  have Ha1 := hide (Ha.out.below hb1)
  clear hb1 R0 E0 G0 Ha hx1
  have g1 := forms_at G1.out 9 (.int .i64 4) rfl
  go_wp2_with fail
  refine (pget_any _ n c f 4 _ Ha1.out Hb.out (by omega)).mono ?_
  rw [HP.out]
  rintro e w2 ⟨rfl, hd2⟩
  have R2 := hide (keepRow R1.out (drawn_below hd2 _))
  have E2 := hide (E1.out.of (drawn_below hd2 _))
  have Ha2 := hide (Ha1.out.drawn hd2)
  clear hd2 R1 E1 G1 Ha1 g1
  have al := (Below.refl w2.heap.size w2).alloc (Nat.le_refl _) (.cells #[.int .i64 4, .int .i64 0, .string ⟨#[]⟩, .bool false, .string ⟨#[]⟩, .bool false, .int .i64 0] 81)
  have Q3 := hide (heap_alloc_new w2 (.cells #[.int .i64 4, .int .i64 0, .string ⟨#[]⟩, .bool false, .string ⟨#[]⟩, .bool false, .int .i64 0] 81))
  have R3 := hide (keepRow R2.out al)
  have E3 := hide (E2.out.of al)
  have Ha3 := hide (Ha2.out.below al)
  have hne := rowLt R2.out
  clear al R2 E2 Ha2
  go_upto_region 15 with (fail)
  generalize hW : w2.alloc (.cells #[.int .i64 4, .int .i64 0, .string ⟨#[]⟩, .bool false, .string ⟨#[]⟩, .bool false, .int .i64 0] 81) = W3 at *
  generalize w2.heap.size = p at *
  clear hW
  have hAp : Hid (∀ b off2, (some (⟨bb, off, none⟩ : Addr)) = some ⟨b, off2, none⟩ → b ≠ p) := fun b off2 e h => by
    injection e with e1
    injection e1 with e2 e3
    subst e2 h
    have h1 := rd_cellS Ha3.out h0
    rw [cell_of_row W3 _ _ _ _ _ Q3.out] at h1
    have h2 : off + 0 = 0 ∨ off + 0 = 1 ∨ off + 0 = 2 ∨ off + 0 = 3 ∨ off + 0 = 4 ∨ off + 0 = 5 ∨ off + 0 = 6 ∨ 7 ≤ off + 0 := by omega
    rcases h2 with h2 | h2 | h2 | h2 | h2 | h2 | h2 | h2
    all_goals first
      | (rw [h2] at h1; simp at h1; done)
      | (rw [Array.getElem?_eq_none (by simpa using h2)] at h1; cases h1)
  go_wp2_with fail
  refine (text22 _ n c t f _ Ha3.out Hb.out htn hn).mono ?_
  rintro e w4 ⟨s, sh, q, e1, rfl, hS, hb4⟩
  have hq := slr_rng hS
  have HS := hide hS
  have R4 := hide (keepRow R3.out hb4)
  have E4 := hide (E3.out.of hb4)
  have Q4 := hide (keepRow Q3.out hb4)
  have Ha4 := hide (Ha3.out.below hb4)
  clear hb4 hS R3 E3 Q3 Ha3
  obtain ⟨q0_, q1_, q2_, q3_, q4_, q5_, q6_⟩ := row7 Q4.out
  have z0 := frozenRow Q4.out 2
  have s0 := setRow w4 p 2 (.string s) Q4.out
  simp only [List.setIfInBounds_toArray, List.set_cons_zero, List.set_cons_succ] at s0
  have z1 := frozenRow s0 3
  have s1 := setRow _ p 3 (.bool sh) s0
  simp only [List.setIfInBounds_toArray, List.set_cons_zero, List.set_cons_succ] at s1
  obtain ⟨j0_, j1_, j2_, j3_, j4_, j5_, j6_⟩ := row7 s0
  have Q5 := hide s1
  have E5 := hide ((E4.out.setCell (p := ⟨p, 2, none⟩) (Nat.le_of_lt hne) (.string s)).setCell (p := ⟨p, 3, none⟩) (Nat.le_of_lt hne) (.bool sh))
  have R5 := hide ((Below.heap_setCell _ ⟨p, 3, none⟩ (.bool sh) _ (Nat.ne_of_lt hne)).trans ((Below.heap_setCell w4 ⟨p, 2, none⟩ (.string s) _ (Nat.ne_of_lt hne)).trans R4.out))
  have Ha5 := hide (((Ha4.out.other (grown_set w4 p 2 (.string s)) hAp.out).other (grown_set _ p 3 (.bool sh)) hAp.out))
  clear s0 s1
  go_upto_region 17 with (fail)
  clear q0_ q1_ q2_ q3_ q4_ q5_ q6_ z0 z1 j0_ j1_ j2_ j3_ j4_ j5_ j6_ R4 E4 Q4 Ha4
  generalize (w4.setCell ⟨p, 2, none⟩ (.string s)).setCell ⟨p, 3, none⟩ (.bool sh) = W5 at *
  obtain ⟨q0_, q1_, q2_, q3_, q4_, q5_, q6_⟩ := row7 Q5.out
  by_cases he : e1 = 0
  · subst he
    obtain ⟨qn, rfl⟩ := Int.eq_ofNat_of_zero_le hq.1
    obtain ⟨u, hu⟩ : ∃ u, u = t + qn := ⟨_, rfl⟩
    have hui : (t : Int) + (qn : Int) = (u : Int) := by omega
    have HU := hide hui
    have htq : u ≤ n := by have := hq.2; omega
    have HU2 := hide hu
    clear hu
    rw [hui]
    clear hui
    go_wp2_with fail
    refine (text22 _ n c u f _ Ha5.out Hb.out htq hn).mono ?_
    rintro e w6 ⟨s2, sh2, q2, e2, rfl, hS2, hb4⟩
    have HS2 := hide hS2
    have R6 := hide (keepRow R5.out hb4)
    have E6 := hide (E5.out.of hb4)
    have Q6 := hide (keepRow Q5.out hb4)
    clear hb4 hS2 R5 E5 Q5 Ha5 q0_ q1_ q2_ q3_ q4_ q5_ q6_
    obtain ⟨q0_, q1_, q2_, q3_, q4_, q5_, q6_⟩ := row7 Q6.out
    have z0 := frozenRow Q6.out 4
    have s0 := setRow w6 p 4 (.string s2) Q6.out
    simp only [List.setIfInBounds_toArray, List.set_cons_zero, List.set_cons_succ] at s0
    have z1 := frozenRow s0 5
    have s1 := setRow _ p 5 (.bool sh2) s0
    simp only [List.setIfInBounds_toArray, List.set_cons_zero, List.set_cons_succ] at s1
    obtain ⟨j0_, j1_, j2_, j3_, j4_, j5_, j6_⟩ := row7 s0
    have Q7 := hide s1
    have E7 := hide ((E6.out.setCell (p := ⟨p, 4, none⟩) (Nat.le_of_lt hne) (.string s2)).setCell (p := ⟨p, 5, none⟩) (Nat.le_of_lt hne) (.bool sh2))
    have R7 := hide ((Below.heap_setCell _ ⟨p, 5, none⟩ (.bool sh2) _ (Nat.ne_of_lt hne)).trans ((Below.heap_setCell w6 ⟨p, 4, none⟩ (.string s2) _ (Nat.ne_of_lt hne)).trans R6.out))
    clear s0 s1
    go_upto_region 19 with (fail)
    clear q0_ q1_ q2_ q3_ q4_ q5_ q6_ z0 z1 j0_ j1_ j2_ j3_ j4_ j5_ j6_ R6 E6 Q6
    generalize (w6.setCell ⟨p, 4, none⟩ (.string s2)).setCell ⟨p, 5, none⟩ (.bool sh2) = W7 at *
    obtain ⟨q0_, q1_, q2_, q3_, q4_, q5_, q6_⟩ := row7 Q7.out
    by_cases he : e2 = 0
    · subst he
      obtain ⟨⟨k0, y0⟩, ⟨k1, y1⟩, ⟨k2, y2⟩, ⟨k3, y3⟩, ⟨k4, y4⟩, ⟨k5, y5⟩, ⟨k6, y6⟩, rz⟩ := store7 R7.out (.int .i64 4) (.int .i64 0) (.string s) (.bool sh) (.string s2) (.bool sh2) (.int .i64 0)
      have RZ := hide rz
      have EE := hide (below7 E7.out (p := w.heap.size) (Nat.le_refl _) (.int .i64 4) (.int .i64 0) (.string s) (.bool sh) (.string s2) (.bool sh2) (.int .i64 0))
      clear rz
      go_wp2_with fail
      obtain ⟨m0_, m1_, m2_, m3_, m4_, m5_, m6_⟩ := row7 RZ.out
      refine bodyPost_ret (v := .tuple #[.agg #[.int .i64 4, .int .i64 0, .string s, .bool sh, .string s2, .bool sh2, .int .i64 0], .int .i64 ((u : Int) + q2), .int .i64 0]) ?_ rfl ⟨s, sh, (qn : Int), 0, HS.out, .inr ⟨rfl, s2, sh2, q2, 0, by have h := HS2.out; rw [HU2.out] at h; rw [Int.toNat_natCast]; exact h, .inr ⟨rfl, by rw [← HU.out], EE.out⟩⟩⟩
      rw [results_cell_tmp2 rfl]
      go_simp
    · have te : (e2 != 0) = true := by simpa using he
      have HE2 := hide he
      clear he
      obtain ⟨⟨k0, y0⟩, ⟨k1, y1⟩, ⟨k2, y2⟩, ⟨k3, y3⟩, ⟨k4, y4⟩, ⟨k5, y5⟩, ⟨k6, y6⟩, rz⟩ := store7 R7.out (.int .i64 0) (.int .i64 0) (.string ⟨#[]⟩) (.bool false) (.string ⟨#[]⟩) (.bool false) (.int .i64 0)
      have RZ := hide rz
      have EE := hide (below7 E7.out (p := w.heap.size) (Nat.le_refl _) (.int .i64 0) (.int .i64 0) (.string ⟨#[]⟩) (.bool false) (.string ⟨#[]⟩) (.bool false) (.int .i64 0))
      clear rz
      go_wp2_with fail
      obtain ⟨m0_, m1_, m2_, m3_, m4_, m5_, m6_⟩ := row7 RZ.out
      refine bodyPost_ret (v := .tuple #[.agg #[.int .i64 0, .int .i64 0, .string ⟨#[]⟩, .bool false, .string ⟨#[]⟩, .bool false, .int .i64 0], .int .i64 0, .int .i64 e2]) ?_ rfl ⟨s, sh, (qn : Int), 0, HS.out, .inr ⟨rfl, s2, sh2, q2, e2, by have h := HS2.out; rw [HU2.out] at h; rw [Int.toNat_natCast]; exact h, .inl ⟨HE2.out, rfl, EE.out⟩⟩⟩
      rw [results_cell_tmp2 rfl]
      go_simp
  · have te : (e1 == 0) = false := by simpa using he
    have te2 : (e1 != 0) = true := by simpa using he
    have HE1 := hide he
    clear he
    obtain ⟨⟨k0, y0⟩, ⟨k1, y1⟩, ⟨k2, y2⟩, ⟨k3, y3⟩, ⟨k4, y4⟩, ⟨k5, y5⟩, ⟨k6, y6⟩, rz⟩ := store7 R5.out (.int .i64 0) (.int .i64 0) (.string ⟨#[]⟩) (.bool false) (.string ⟨#[]⟩) (.bool false) (.int .i64 0)
    have RZ := hide rz
    have EE := hide (below7 E5.out (p := w.heap.size) (Nat.le_refl _) (.int .i64 0) (.int .i64 0) (.string ⟨#[]⟩) (.bool false) (.string ⟨#[]⟩) (.bool false) (.int .i64 0))
    clear rz
    go_wp2_with fail
    obtain ⟨m0_, m1_, m2_, m3_, m4_, m5_, m6_⟩ := row7 RZ.out
    refine bodyPost_ret (v := .tuple #[.agg #[.int .i64 0, .int .i64 0, .string ⟨#[]⟩, .bool false, .string ⟨#[]⟩, .bool false, .int .i64 0], .int .i64 0, .int .i64 e1]) ?_ rfl ⟨s, sh, q, e1, HS.out, .inl ⟨HE1.out, rfl, EE.out⟩⟩
    rw [results_cell_tmp2 rfl]
    go_simp
end
end Go.Proofs.YtnkcbljhgcgpaaaDoor
