/- Rpc, Rpd, Rpe, Rpf in one text. -/
import Derived.Test.YtnkcbljhgcgpaaaDoorMU
import Derived.Deep.Cut
import Derived.Test.YtnkcbljhgcgpaaaDoorMR
namespace Go.Proofs.YtnkcbljhgcgpaaaDoor
set_option linter.unusedVariables false
set_option linter.unusedSimpArgs false
section
open Go.RowKit Go.PlainAid

set_option maxRecDepth 100000 in
set_option maxHeartbeats 6400000 in
theorem rget_none (c : Nat) (A : Option Addr) (w : World) : Calls Tryd.prog 34 #[.slice A 0 c] w fun e w' => e = .returned (.tuple #[.agg #[.int .i64 0, .int .i64 0, .string ⟨#[]⟩, .bool false, .string ⟨#[]⟩, .bool false, .int .i64 0], .int .i64 0, .int .i64 3]) ∧ Below w.heap.size w w' := by
  have R0 := hide (heap_alloc_new w (.cells #[.int .i64 0, .int .i64 0, .string ⟨#[]⟩, .bool false, .string ⟨#[]⟩, .bool false, .int .i64 0] 86))
  have al := (Below.refl w.heap.size w).alloc (Nat.le_refl _) (.cells #[.int .i64 0, .int .i64 0, .string ⟨#[]⟩, .bool false, .string ⟨#[]⟩, .bool false, .int .i64 0] 86)
  have E0 := hide al
  clear al
  go_enter Tryd.func34, Tryd.ntmps34
  go_upto_region 1 with (fail)
  generalize w.alloc (.cells #[.int .i64 0, .int .i64 0, .string ⟨#[]⟩, .bool false, .string ⟨#[]⟩, .bool false, .int .i64 0] 86) = W0 at *
  obtain ⟨⟨k0, y0⟩, ⟨k1, y1⟩, ⟨k2, y2⟩, ⟨k3, y3⟩, ⟨k4, y4⟩, ⟨k5, y5⟩, ⟨k6, y6⟩, rz⟩ := store7 R0.out (.int .i64 0) (.int .i64 0) (.string ⟨#[]⟩) (.bool false) (.string ⟨#[]⟩) (.bool false) (.int .i64 0)
  have RZ := hide rz
  have EE := hide (below7 E0.out (p := w.heap.size) (Nat.le_refl _) (.int .i64 0) (.int .i64 0) (.string ⟨#[]⟩) (.bool false) (.string ⟨#[]⟩) (.bool false) (.int .i64 0))
  clear rz
  go_wp2_with fail
  obtain ⟨m0_, m1_, m2_, m3_, m4_, m5_, m6_⟩ := row7 RZ.out
  refine bodyPost_ret (v := .tuple #[.agg #[.int .i64 0, .int .i64 0, .string ⟨#[]⟩, .bool false, .string ⟨#[]⟩, .bool false, .int .i64 0], .int .i64 0, .int .i64 3]) ?_ rfl ⟨rfl, EE.out⟩
  rw [results_cell_tmp2 rfl]
  go_simp
set_option maxRecDepth 100000 in
set_option maxHeartbeats 6400000 in
theorem rget_perr (A : Option Addr) (n c : Nat) (f : Nat → Int) (t : Nat) (N : Int) (d : Int) (K : Int) (hk : K = 1 ∨ K = 2 ∨ K = 3 ∨ K = 4 ∨ K = 5) (w : World) (ha : Rd .u8 w A n c f) (hb : Byt n f) (h0 : 0 < n) (hn : n ≤ 1000) (hkd : kd (f 0) = K) (hp : pg f n (bit22 K) = (N, (t : Int), d)) (hd : d ≠ 0) : Calls Tryd.prog 34 #[.slice A n c] w fun e w' => e = .returned (.tuple #[.agg #[.int .i64 0, .int .i64 0, .string ⟨#[]⟩, .bool false, .string ⟨#[]⟩, .bool false, .int .i64 0], .int .i64 0, .int .i64 d]) ∧ Below w.heap.size w w' := by
  have R0 := hide (heap_alloc_new w (.cells #[.int .i64 0, .int .i64 0, .string ⟨#[]⟩, .bool false, .string ⟨#[]⟩, .bool false, .int .i64 0] 86))
  have al := (Below.refl w.heap.size w).alloc (Nat.le_refl _) (.cells #[.int .i64 0, .int .i64 0, .string ⟨#[]⟩, .bool false, .string ⟨#[]⟩, .bool false, .int .i64 0] 86)
  have E0 := hide al
  have Ha := hide (ha.below al)
  have Hb := hide hb
  have HK := hide hkd
  have HP := hide hp
  have hx := hb 0 h0
  obtain ⟨bb, off, rfl, hx0⟩ := ha.at_ (i := 0) h0
  rw [Nat.add_zero] at hx0
  have hx1 := (al.cell (World.block_lt_of_cell? w _ hx0)).trans hx0
  have nz : (n == 0) = false := by simp; omega
  have nz2 : ((n : Int) == 0) = false := by simp; omega
  have nz3 : decide (0 < n) = true := decide_eq_true h0
  obtain ⟨x, hxx⟩ : ∃ x, f 0 = x := ⟨_, rfl⟩
  rw [hxx] at hx hx1 HK
  have hxa := hx.1
  have hxb := hx.2
  have td : (d != 0) = true := by simpa using hd
  have hk5 := hk
  clear hd hk
  have HK5 := hide hk5
  clear al ha hb hkd hp hx0 hxx hx hk5
  go_enter Tryd.func34, Tryd.ntmps34
  go_upto_region 1 with (fail)
  generalize w.alloc (.cells #[.int .i64 0, .int .i64 0, .string ⟨#[]⟩, .bool false, .string ⟨#[]⟩, .bool false, .int .i64 0] 86) = W0 at *
  go_wp2_with fail
  refine (rkind22 x hxa hxb _).mono ?_
  rw [HK.out]
  rintro e w1 ⟨rfl, rfl⟩
  have al := (Below.refl W0.heap.size W0).alloc (Nat.le_refl _) (.cells #[.int .i64 K, .int .i64 0, .string ⟨#[]⟩, .bool false, .string ⟨#[]⟩, .bool false, .int .i64 0] 86)
  have Q1 := hide (heap_alloc_new W0 (.cells #[.int .i64 K, .int .i64 0, .string ⟨#[]⟩, .bool false, .string ⟨#[]⟩, .bool false, .int .i64 0] 86))
  have R1 := hide (keepRow R0.out al)
  have E1 := hide (E0.out.of al)
  have Ha1 := hide (Ha.out.below al)
  have hne := rowLt R0.out
  clear al R0 E0 Ha
  go_upto_region 4 with (fail)
  clear hx1
  generalize hW : W0.alloc (.cells #[.int .i64 K, .int .i64 0, .string ⟨#[]⟩, .bool false, .string ⟨#[]⟩, .bool false, .int .i64 0] 86) = W1 at *
  generalize W0.heap.size = p at *
  clear hW
  have hAp : Hid (∀ b off2, (some (⟨bb, off, none⟩ : Addr)) = some ⟨b, off2, none⟩ → b ≠ p) := fun b off2 e h => by
    injection e with e1
    injection e1 with e2 e3
    subst e2 h
    have h1 := rd_cellS Ha1.out h0
    rw [cell_of_row W1 _ _ _ _ _ Q1.out] at h1
    have h2 : off + 0 = 0 ∨ off + 0 = 1 ∨ off + 0 = 2 ∨ off + 0 = 3 ∨ off + 0 = 4 ∨ off + 0 = 5 ∨ off + 0 = 6 ∨ 7 ≤ off + 0 := by omega
    rcases h2 with h2 | h2 | h2 | h2 | h2 | h2 | h2 | h2
    all_goals first
      | (rw [h2] at h1; simp at h1; done)
      | (rw [Array.getElem?_eq_none (by simpa using h2)] at h1; cases h1)
  obtain ⟨q0_, q1_, q2_, q3_, q4_, q5_, q6_⟩ := row7 Q1.out
  go_wp2_with fail
  refine (rbegin22 K HK5.out _).mono ?_
  rintro e w2 ⟨rfl, rfl⟩
  go_wp2_with fail
  refine (rpget_any _ n c f (bit22 K) _ Ha1.out Hb.out (by omega)).mono ?_
  rw [HP.out]
  rintro e w3 ⟨rfl, hd2⟩
  have R3 := hide (keepRow R1.out (drawn_below hd2 _))
  have E3 := hide (E1.out.of (drawn_below hd2 _))
  have Q3 := hide (keepRow Q1.out (drawn_below hd2 _))
  have Ha3 := hide (Ha1.out.drawn hd2)
  clear hd2 R1 E1 Q1 Ha1 q0_ q1_ q2_ q3_ q4_ q5_ q6_
  obtain ⟨⟨k0, y0⟩, ⟨k1, y1⟩, ⟨k2, y2⟩, ⟨k3, y3⟩, ⟨k4, y4⟩, ⟨k5, y5⟩, ⟨k6, y6⟩, rz⟩ := store7 R3.out (.int .i64 0) (.int .i64 0) (.string ⟨#[]⟩) (.bool false) (.string ⟨#[]⟩) (.bool false) (.int .i64 0)
  have RZ := hide rz
  have EE := hide (below7 E3.out (p := w.heap.size) (Nat.le_refl _) (.int .i64 0) (.int .i64 0) (.string ⟨#[]⟩) (.bool false) (.string ⟨#[]⟩) (.bool false) (.int .i64 0))
  clear rz
  go_wp2_with fail
  obtain ⟨m0_, m1_, m2_, m3_, m4_, m5_, m6_⟩ := row7 RZ.out
  refine bodyPost_ret (v := .tuple #[.agg #[.int .i64 0, .int .i64 0, .string ⟨#[]⟩, .bool false, .string ⟨#[]⟩, .bool false, .int .i64 0], .int .i64 0, .int .i64 d]) ?_ rfl ⟨rfl, EE.out⟩
  rw [results_cell_tmp2 rfl]
  go_simp
set_option maxRecDepth 100000 in
set_option maxHeartbeats 6400000 in
theorem rget_idx0 (A : Option Addr) (n c : Nat) (f : Nat → Int) (t : Nat) (w : World) (ha : Rd .u8 w A n c f) (hb : Byt n f) (h0 : 0 < n) (hn : n ≤ 1000) (hkd : kd (f 0) = 1) (hp : pg f n (bit22 1) = (0, (t : Int), 0)) : Calls Tryd.prog 34 #[.slice A n c] w fun e w' => e = .returned (.tuple #[.agg #[.int .i64 0, .int .i64 0, .string ⟨#[]⟩, .bool false, .string ⟨#[]⟩, .bool false, .int .i64 0], .int .i64 0, .int .i64 12]) ∧ Below w.heap.size w w' := by
  have R0 := hide (heap_alloc_new w (.cells #[.int .i64 0, .int .i64 0, .string ⟨#[]⟩, .bool false, .string ⟨#[]⟩, .bool false, .int .i64 0] 86))
  have al := (Below.refl w.heap.size w).alloc (Nat.le_refl _) (.cells #[.int .i64 0, .int .i64 0, .string ⟨#[]⟩, .bool false, .string ⟨#[]⟩, .bool false, .int .i64 0] 86)
  have E0 := hide al
  have Ha := hide (ha.below al)
  have Hb := hide hb
  have HK := hide hkd
  have HP := hide hp
  have hx := hb 0 h0
  obtain ⟨bb, off, rfl, hx0⟩ := ha.at_ (i := 0) h0
  rw [Nat.add_zero] at hx0
  have hx1 := (al.cell (World.block_lt_of_cell? w _ hx0)).trans hx0
  have nz : (n == 0) = false := by simp; omega
  have nz2 : ((n : Int) == 0) = false := by simp; omega
  have nz3 : decide (0 < n) = true := decide_eq_true h0
  obtain ⟨x, hxx⟩ : ∃ x, f 0 = x := ⟨_, rfl⟩
  rw [hxx] at hx hx1 HK
  have hxa := hx.1
  have hxb := hx.2
  have hk5 : (1 : Int) = 1 ∨ (1 : Int) = 2 ∨ (1 : Int) = 3 ∨ (1 : Int) = 4 ∨ (1 : Int) = 5 := by decide
  have HK5 := hide hk5
  clear al ha hb hkd hp hx0 hxx hx hk5
  go_enter Tryd.func34, Tryd.ntmps34
  go_upto_region 1 with (fail)
  generalize w.alloc (.cells #[.int .i64 0, .int .i64 0, .string ⟨#[]⟩, .bool false, .string ⟨#[]⟩, .bool false, .int .i64 0] 86) = W0 at *
  go_wp2_with fail
  refine (rkind22 x hxa hxb _).mono ?_
  rw [HK.out]
  rintro e w1 ⟨rfl, rfl⟩
  have al := (Below.refl W0.heap.size W0).alloc (Nat.le_refl _) (.cells #[.int .i64 1, .int .i64 0, .string ⟨#[]⟩, .bool false, .string ⟨#[]⟩, .bool false, .int .i64 0] 86)
  have Q1 := hide (heap_alloc_new W0 (.cells #[.int .i64 1, .int .i64 0, .string ⟨#[]⟩, .bool false, .string ⟨#[]⟩, .bool false, .int .i64 0] 86))
  have R1 := hide (keepRow R0.out al)
  have E1 := hide (E0.out.of al)
  have Ha1 := hide (Ha.out.below al)
  have hne := rowLt R0.out
  clear al R0 E0 Ha
  go_upto_region 4 with (fail)
  clear hx1
  generalize hW : W0.alloc (.cells #[.int .i64 1, .int .i64 0, .string ⟨#[]⟩, .bool false, .string ⟨#[]⟩, .bool false, .int .i64 0] 86) = W1 at *
  generalize W0.heap.size = p at *
  clear hW
  have hAp : Hid (∀ b off2, (some (⟨bb, off, none⟩ : Addr)) = some ⟨b, off2, none⟩ → b ≠ p) := fun b off2 e h => by
    injection e with e1
    injection e1 with e2 e3
    subst e2 h
    have h1 := rd_cellS Ha1.out h0
    rw [cell_of_row W1 _ _ _ _ _ Q1.out] at h1
    have h2 : off + 0 = 0 ∨ off + 0 = 1 ∨ off + 0 = 2 ∨ off + 0 = 3 ∨ off + 0 = 4 ∨ off + 0 = 5 ∨ off + 0 = 6 ∨ 7 ≤ off + 0 := by omega
    rcases h2 with h2 | h2 | h2 | h2 | h2 | h2 | h2 | h2
    all_goals first
      | (rw [h2] at h1; simp at h1; done)
      | (rw [Array.getElem?_eq_none (by simpa using h2)] at h1; cases h1)
  obtain ⟨q0_, q1_, q2_, q3_, q4_, q5_, q6_⟩ := row7 Q1.out
  go_wp2_with fail
  refine (rbegin22 1 (by decide) _).mono ?_
  rintro e w2 ⟨rfl, rfl⟩
  go_wp2_with fail
  refine (rpget_any _ n c f (bit22 1) _ Ha1.out Hb.out (by omega)).mono ?_
  rw [HP.out]
  rintro e w3 ⟨rfl, hd2⟩
  have R3 := hide (keepRow R1.out (drawn_below hd2 _))
  have E3 := hide (E1.out.of (drawn_below hd2 _))
  have Q3 := hide (keepRow Q1.out (drawn_below hd2 _))
  have Ha3 := hide (Ha1.out.drawn hd2)
  clear hd2 R1 E1 Q1 Ha1 q0_ q1_ q2_ q3_ q4_ q5_ q6_
  obtain ⟨q0_, q1_, q2_, q3_, q4_, q5_, q6_⟩ := row7 Q3.out
  have z0 := frozenRow Q3.out 1
  have s0 := setRow w3 p 1 (.int .i64 0) Q3.out
  simp only [List.setIfInBounds_toArray, List.set_cons_zero, List.set_cons_succ] at s0
  have Q4 := hide s0
  have E4 := hide (E3.out.setCell (p := ⟨p, 1, none⟩) (Nat.le_of_lt hne) (.int .i64 0))
  have R4 := hide ((Below.heap_setCell w3 ⟨p, 1, none⟩ (.int .i64 0) _ (Nat.ne_of_lt hne)).trans R3.out)
  have Ha4 := hide (Ha3.out.other (grown_set w3 p 1 (.int .i64 0)) hAp.out)
  clear s0
  go_upto_region 12 with (fail)
  clear z0 q0_ q1_ q2_ q3_ q4_ q5_ q6_ R3 E3 Q3 Ha3
  generalize w3.setCell ⟨p, 1, none⟩ (.int .i64 0) = W4 at *
  obtain ⟨q0_, q1_, q2_, q3_, q4_, q5_, q6_⟩ := row7 Q4.out
  obtain ⟨⟨k0, y0⟩, ⟨k1, y1⟩, ⟨k2, y2⟩, ⟨k3, y3⟩, ⟨k4, y4⟩, ⟨k5, y5⟩, ⟨k6, y6⟩, rz⟩ := store7 R4.out (.int .i64 0) (.int .i64 0) (.string ⟨#[]⟩) (.bool false) (.string ⟨#[]⟩) (.bool false) (.int .i64 0)
  have RZ := hide rz
  have EE := hide (below7 E4.out (p := w.heap.size) (Nat.le_refl _) (.int .i64 0) (.int .i64 0) (.string ⟨#[]⟩) (.bool false) (.string ⟨#[]⟩) (.bool false) (.int .i64 0))
  clear rz
  go_wp2_with fail
  obtain ⟨m0_, m1_, m2_, m3_, m4_, m5_, m6_⟩ := row7 RZ.out
  refine bodyPost_ret (v := .tuple #[.agg #[.int .i64 0, .int .i64 0, .string ⟨#[]⟩, .bool false, .string ⟨#[]⟩, .bool false, .int .i64 0], .int .i64 0, .int .i64 12]) ?_ rfl ⟨rfl, EE.out⟩
  rw [results_cell_tmp2 rfl]
  go_simp
set_option maxRecDepth 100000 in
set_option maxHeartbeats 6400000 in
theorem rget_idx (A : Option Addr) (n c : Nat) (f : Nat → Int) (t : Nat) (N : Int) (w : World) (ha : Rd .u8 w A n c f) (hb : Byt n f) (h0 : 0 < n) (hn : n ≤ 1000) (hkd : kd (f 0) = 1) (hp : pg f n (bit22 1) = (N, (t : Int), 0)) (hN : N ≠ 0) : Calls Tryd.prog 34 #[.slice A n c] w fun e w' => e = .returned (.tuple #[.agg #[.int .i64 1, .int .i64 N, .string ⟨#[]⟩, .bool false, .string ⟨#[]⟩, .bool false, .int .i64 0], .int .i64 (t : Int), .int .i64 0]) ∧ Below w.heap.size w w' := by
  have R0 := hide (heap_alloc_new w (.cells #[.int .i64 0, .int .i64 0, .string ⟨#[]⟩, .bool false, .string ⟨#[]⟩, .bool false, .int .i64 0] 86))
  have al := (Below.refl w.heap.size w).alloc (Nat.le_refl _) (.cells #[.int .i64 0, .int .i64 0, .string ⟨#[]⟩, .bool false, .string ⟨#[]⟩, .bool false, .int .i64 0] 86)
  have E0 := hide al
  have Ha := hide (ha.below al)
  have Hb := hide hb
  have HK := hide hkd
  have HP := hide hp
  have hx := hb 0 h0
  obtain ⟨bb, off, rfl, hx0⟩ := ha.at_ (i := 0) h0
  rw [Nat.add_zero] at hx0
  have hx1 := (al.cell (World.block_lt_of_cell? w _ hx0)).trans hx0
  have nz : (n == 0) = false := by simp; omega
  have nz2 : ((n : Int) == 0) = false := by simp; omega
  have nz3 : decide (0 < n) = true := decide_eq_true h0
  obtain ⟨x, hxx⟩ : ∃ x, f 0 = x := ⟨_, rfl⟩
  rw [hxx] at hx hx1 HK
  have hxa := hx.1
  have hxb := hx.2
  have tN : (N == 0) = false := by simpa using hN
  clear hN
  have hk5 : (1 : Int) = 1 ∨ (1 : Int) = 2 ∨ (1 : Int) = 3 ∨ (1 : Int) = 4 ∨ (1 : Int) = 5 := by decide
  have HK5 := hide hk5
  clear al ha hb hkd hp hx0 hxx hx hk5
  go_enter Tryd.func34, Tryd.ntmps34
  go_upto_region 1 with (fail)
  generalize w.alloc (.cells #[.int .i64 0, .int .i64 0, .string ⟨#[]⟩, .bool false, .string ⟨#[]⟩, .bool false, .int .i64 0] 86) = W0 at *
  go_wp2_with fail
  refine (rkind22 x hxa hxb _).mono ?_
  rw [HK.out]
  rintro e w1 ⟨rfl, rfl⟩
  have al := (Below.refl W0.heap.size W0).alloc (Nat.le_refl _) (.cells #[.int .i64 1, .int .i64 0, .string ⟨#[]⟩, .bool false, .string ⟨#[]⟩, .bool false, .int .i64 0] 86)
  have Q1 := hide (heap_alloc_new W0 (.cells #[.int .i64 1, .int .i64 0, .string ⟨#[]⟩, .bool false, .string ⟨#[]⟩, .bool false, .int .i64 0] 86))
  have R1 := hide (keepRow R0.out al)
  have E1 := hide (E0.out.of al)
  have Ha1 := hide (Ha.out.below al)
  have hne := rowLt R0.out
  clear al R0 E0 Ha
  go_upto_region 4 with (fail)
  clear hx1
  generalize hW : W0.alloc (.cells #[.int .i64 1, .int .i64 0, .string ⟨#[]⟩, .bool false, .string ⟨#[]⟩, .bool false, .int .i64 0] 86) = W1 at *
  generalize W0.heap.size = p at *
  clear hW
  have hAp : Hid (∀ b off2, (some (⟨bb, off, none⟩ : Addr)) = some ⟨b, off2, none⟩ → b ≠ p) := fun b off2 e h => by
    injection e with e1
    injection e1 with e2 e3
    subst e2 h
    have h1 := rd_cellS Ha1.out h0
    rw [cell_of_row W1 _ _ _ _ _ Q1.out] at h1
    have h2 : off + 0 = 0 ∨ off + 0 = 1 ∨ off + 0 = 2 ∨ off + 0 = 3 ∨ off + 0 = 4 ∨ off + 0 = 5 ∨ off + 0 = 6 ∨ 7 ≤ off + 0 := by omega
    rcases h2 with h2 | h2 | h2 | h2 | h2 | h2 | h2 | h2
    all_goals first
      | (rw [h2] at h1; simp at h1; done)
      | (rw [Array.getElem?_eq_none (by simpa using h2)] at h1; cases h1)
  obtain ⟨q0_, q1_, q2_, q3_, q4_, q5_, q6_⟩ := row7 Q1.out
  go_wp2_with fail
  refine (rbegin22 1 (by decide) _).mono ?_
  rintro e w2 ⟨rfl, rfl⟩
  go_wp2_with fail
  refine (rpget_any _ n c f (bit22 1) _ Ha1.out Hb.out (by omega)).mono ?_
  rw [HP.out]
  rintro e w3 ⟨rfl, hd2⟩
  have R3 := hide (keepRow R1.out (drawn_below hd2 _))
  have E3 := hide (E1.out.of (drawn_below hd2 _))
  have Q3 := hide (keepRow Q1.out (drawn_below hd2 _))
  have Ha3 := hide (Ha1.out.drawn hd2)
  clear hd2 R1 E1 Q1 Ha1 q0_ q1_ q2_ q3_ q4_ q5_ q6_
  obtain ⟨q0_, q1_, q2_, q3_, q4_, q5_, q6_⟩ := row7 Q3.out
  have z0 := frozenRow Q3.out 1
  have s0 := setRow w3 p 1 (.int .i64 N) Q3.out
  simp only [List.setIfInBounds_toArray, List.set_cons_zero, List.set_cons_succ] at s0
  have Q4 := hide s0
  have E4 := hide (E3.out.setCell (p := ⟨p, 1, none⟩) (Nat.le_of_lt hne) (.int .i64 N))
  have R4 := hide ((Below.heap_setCell w3 ⟨p, 1, none⟩ (.int .i64 N) _ (Nat.ne_of_lt hne)).trans R3.out)
  have Ha4 := hide (Ha3.out.other (grown_set w3 p 1 (.int .i64 N)) hAp.out)
  clear s0
  go_upto_region 12 with (fail)
  clear z0 q0_ q1_ q2_ q3_ q4_ q5_ q6_ R3 E3 Q3 Ha3
  generalize w3.setCell ⟨p, 1, none⟩ (.int .i64 N) = W4 at *
  obtain ⟨q0_, q1_, q2_, q3_, q4_, q5_, q6_⟩ := row7 Q4.out
  obtain ⟨⟨k0, y0⟩, ⟨k1, y1⟩, ⟨k2, y2⟩, ⟨k3, y3⟩, ⟨k4, y4⟩, ⟨k5, y5⟩, ⟨k6, y6⟩, rz⟩ := store7 R4.out (.int .i64 1) (.int .i64 N) (.string ⟨#[]⟩) (.bool false) (.string ⟨#[]⟩) (.bool false) (.int .i64 0)
  have RZ := hide rz
  have EE := hide (below7 E4.out (p := w.heap.size) (Nat.le_refl _) (.int .i64 1) (.int .i64 N) (.string ⟨#[]⟩) (.bool false) (.string ⟨#[]⟩) (.bool false) (.int .i64 0))
  clear rz
  go_wp2_with fail
  obtain ⟨m0_, m1_, m2_, m3_, m4_, m5_, m6_⟩ := row7 RZ.out
  refine bodyPost_ret (v := .tuple #[.agg #[.int .i64 1, .int .i64 N, .string ⟨#[]⟩, .bool false, .string ⟨#[]⟩, .bool false, .int .i64 0], .int .i64 (t : Int), .int .i64 0]) ?_ rfl ⟨rfl, EE.out⟩
  rw [results_cell_tmp2 rfl]
  go_simp
set_option maxRecDepth 100000 in
set_option maxHeartbeats 6400000 in
theorem rget_size (A : Option Addr) (n c : Nat) (f : Nat → Int) (t : Nat) (N : Int) (w : World) (ha : Rd .u8 w A n c f) (hb : Byt n f) (h0 : 0 < n) (hn : n ≤ 1000) (hkd : kd (f 0) = 5) (hp : pg f n (bit22 5) = (N, (t : Int), 0)) : Calls Tryd.prog 34 #[.slice A n c] w fun e w' => e = .returned (.tuple #[.agg #[.int .i64 5, .int .i64 0, .string ⟨#[]⟩, .bool false, .string ⟨#[]⟩, .bool false, .int .i64 N], .int .i64 (t : Int), .int .i64 0]) ∧ Below w.heap.size w w' := by
  have R0 := hide (heap_alloc_new w (.cells #[.int .i64 0, .int .i64 0, .string ⟨#[]⟩, .bool false, .string ⟨#[]⟩, .bool false, .int .i64 0] 86))
  have al := (Below.refl w.heap.size w).alloc (Nat.le_refl _) (.cells #[.int .i64 0, .int .i64 0, .string ⟨#[]⟩, .bool false, .string ⟨#[]⟩, .bool false, .int .i64 0] 86)
  have E0 := hide al
  have Ha := hide (ha.below al)
  have Hb := hide hb
  have HK := hide hkd
  have HP := hide hp
  have hx := hb 0 h0
  obtain ⟨bb, off, rfl, hx0⟩ := ha.at_ (i := 0) h0
  rw [Nat.add_zero] at hx0
  have hx1 := (al.cell (World.block_lt_of_cell? w _ hx0)).trans hx0
  have nz : (n == 0) = false := by simp; omega
  have nz2 : ((n : Int) == 0) = false := by simp; omega
  have nz3 : decide (0 < n) = true := decide_eq_true h0
  obtain ⟨x, hxx⟩ : ∃ x, f 0 = x := ⟨_, rfl⟩
  rw [hxx] at hx hx1 HK
  have hxa := hx.1
  have hxb := hx.2
  have hk5 : (5 : Int) = 1 ∨ (5 : Int) = 2 ∨ (5 : Int) = 3 ∨ (5 : Int) = 4 ∨ (5 : Int) = 5 := by decide
  have HK5 := hide hk5
  clear al ha hb hkd hp hx0 hxx hx hk5
  go_enter Tryd.func34, Tryd.ntmps34
  go_upto_region 1 with (fail)
  generalize w.alloc (.cells #[.int .i64 0, .int .i64 0, .string ⟨#[]⟩, .bool false, .string ⟨#[]⟩, .bool false, .int .i64 0] 86) = W0 at *
  go_wp2_with fail
  refine (rkind22 x hxa hxb _).mono ?_
  rw [HK.out]
  rintro e w1 ⟨rfl, rfl⟩
  have al := (Below.refl W0.heap.size W0).alloc (Nat.le_refl _) (.cells #[.int .i64 5, .int .i64 0, .string ⟨#[]⟩, .bool false, .string ⟨#[]⟩, .bool false, .int .i64 0] 86)
  have Q1 := hide (heap_alloc_new W0 (.cells #[.int .i64 5, .int .i64 0, .string ⟨#[]⟩, .bool false, .string ⟨#[]⟩, .bool false, .int .i64 0] 86))
  have R1 := hide (keepRow R0.out al)
  have E1 := hide (E0.out.of al)
  have Ha1 := hide (Ha.out.below al)
  have hne := rowLt R0.out
  clear al R0 E0 Ha
  go_upto_region 4 with (fail)
  clear hx1
  generalize hW : W0.alloc (.cells #[.int .i64 5, .int .i64 0, .string ⟨#[]⟩, .bool false, .string ⟨#[]⟩, .bool false, .int .i64 0] 86) = W1 at *
  generalize W0.heap.size = p at *
  clear hW
  have hAp : Hid (∀ b off2, (some (⟨bb, off, none⟩ : Addr)) = some ⟨b, off2, none⟩ → b ≠ p) := fun b off2 e h => by
    injection e with e1
    injection e1 with e2 e3
    subst e2 h
    have h1 := rd_cellS Ha1.out h0
    rw [cell_of_row W1 _ _ _ _ _ Q1.out] at h1
    have h2 : off + 0 = 0 ∨ off + 0 = 1 ∨ off + 0 = 2 ∨ off + 0 = 3 ∨ off + 0 = 4 ∨ off + 0 = 5 ∨ off + 0 = 6 ∨ 7 ≤ off + 0 := by omega
    rcases h2 with h2 | h2 | h2 | h2 | h2 | h2 | h2 | h2
    all_goals first
      | (rw [h2] at h1; simp at h1; done)
      | (rw [Array.getElem?_eq_none (by simpa using h2)] at h1; cases h1)
  obtain ⟨q0_, q1_, q2_, q3_, q4_, q5_, q6_⟩ := row7 Q1.out
  go_wp2_with fail
  refine (rbegin22 5 (by decide) _).mono ?_
  rintro e w2 ⟨rfl, rfl⟩
  go_wp2_with fail
  refine (rpget_any _ n c f (bit22 5) _ Ha1.out Hb.out (by omega)).mono ?_
  rw [HP.out]
  rintro e w3 ⟨rfl, hd2⟩
  have R3 := hide (keepRow R1.out (drawn_below hd2 _))
  have E3 := hide (E1.out.of (drawn_below hd2 _))
  have Q3 := hide (keepRow Q1.out (drawn_below hd2 _))
  have Ha3 := hide (Ha1.out.drawn hd2)
  clear hd2 R1 E1 Q1 Ha1 q0_ q1_ q2_ q3_ q4_ q5_ q6_
  obtain ⟨q0_, q1_, q2_, q3_, q4_, q5_, q6_⟩ := row7 Q3.out
  have z0 := frozenRow Q3.out 6
  have s0 := setRow w3 p 6 (.int .i64 N) Q3.out
  simp only [List.setIfInBounds_toArray, List.set_cons_zero, List.set_cons_succ] at s0
  have Q4 := hide s0
  have E4 := hide (E3.out.setCell (p := ⟨p, 6, none⟩) (Nat.le_of_lt hne) (.int .i64 N))
  have R4 := hide ((Below.heap_setCell w3 ⟨p, 6, none⟩ (.int .i64 N) _ (Nat.ne_of_lt hne)).trans R3.out)
  have Ha4 := hide (Ha3.out.other (grown_set w3 p 6 (.int .i64 N)) hAp.out)
  clear s0
  go_upto_region 10 with (fail)
  clear z0 q0_ q1_ q2_ q3_ q4_ q5_ q6_ R3 E3 Q3 Ha3
  generalize w3.setCell ⟨p, 6, none⟩ (.int .i64 N) = W4 at *
  obtain ⟨q0_, q1_, q2_, q3_, q4_, q5_, q6_⟩ := row7 Q4.out
  obtain ⟨⟨k0, y0⟩, ⟨k1, y1⟩, ⟨k2, y2⟩, ⟨k3, y3⟩, ⟨k4, y4⟩, ⟨k5, y5⟩, ⟨k6, y6⟩, rz⟩ := store7 R4.out (.int .i64 5) (.int .i64 0) (.string ⟨#[]⟩) (.bool false) (.string ⟨#[]⟩) (.bool false) (.int .i64 N)
  have RZ := hide rz
  have EE := hide (below7 E4.out (p := w.heap.size) (Nat.le_refl _) (.int .i64 5) (.int .i64 0) (.string ⟨#[]⟩) (.bool false) (.string ⟨#[]⟩) (.bool false) (.int .i64 N))
  clear rz
  go_wp2_with fail
  obtain ⟨m0_, m1_, m2_, m3_, m4_, m5_, m6_⟩ := row7 RZ.out
  refine bodyPost_ret (v := .tuple #[.agg #[.int .i64 5, .int .i64 0, .string ⟨#[]⟩, .bool false, .string ⟨#[]⟩, .bool false, .int .i64 N], .int .i64 (t : Int), .int .i64 0]) ?_ rfl ⟨rfl, EE.out⟩
  rw [results_cell_tmp2 rfl]
  go_simp
end

section
open Go.RowKit Go.PlainAid

set_option maxRecDepth 100000 in
set_option maxHeartbeats 6400000 in
theorem rget_v (A : Option Addr) (n c : Nat) (f : Nat → Int) (t : Nat) (N : Int) (K : Int) (hk : K = 2 ∨ K = 3 ∨ K = 4) (w : World) (ha : Rd .u8 w A n c f) (hb : Byt n f) (h0 : 0 < n) (hn : n ≤ 1000) (hkd : kd (f 0) = K) (hp : pg f n (bit22 K) = (N, (t : Int), 0)) (hN : N ≠ 0) (htn : t ≤ n) : Calls Tryd.prog 34 #[.slice A n c] w fun e w' => ∃ s sh q e1, SlR (fun j => f (t + j)) (n - t) n s sh q e1 ∧ ((e1 ≠ 0 ∧ e = .returned (.tuple #[.agg #[.int .i64 0, .int .i64 0, .string ⟨#[]⟩, .bool false, .string ⟨#[]⟩, .bool false, .int .i64 0], .int .i64 0, .int .i64 e1]) ∧ Below w.heap.size w w') ∨ (e1 = 0 ∧ e = .returned (.tuple #[.agg #[.int .i64 K, .int .i64 N, .string ⟨#[]⟩, .bool false, .string s, .bool sh, .int .i64 0], .int .i64 ((t : Int) + q), .int .i64 0]) ∧ Below w.heap.size w w')) := by
  have R0 := hide (heap_alloc_new w (.cells #[.int .i64 0, .int .i64 0, .string ⟨#[]⟩, .bool false, .string ⟨#[]⟩, .bool false, .int .i64 0] 86))
  have al := (Below.refl w.heap.size w).alloc (Nat.le_refl _) (.cells #[.int .i64 0, .int .i64 0, .string ⟨#[]⟩, .bool false, .string ⟨#[]⟩, .bool false, .int .i64 0] 86)
  have E0 := hide al
  have Ha := hide (ha.below al)
  have Hb := hide hb
  have HK := hide hkd
  have HP := hide hp
  have hx := hb 0 h0
  obtain ⟨bb, off, rfl, hx0⟩ := ha.at_ (i := 0) h0
  rw [Nat.add_zero] at hx0
  have hx1 := (al.cell (World.block_lt_of_cell? w _ hx0)).trans hx0
  have nz : (n == 0) = false := by simp; omega
  have nz2 : ((n : Int) == 0) = false := by simp; omega
  have nz3 : decide (0 < n) = true := decide_eq_true h0
  obtain ⟨x, hxx⟩ : ∃ x, f 0 = x := ⟨_, rfl⟩
  rw [hxx] at hx hx1 HK
  have hxa := hx.1
  have hxb := hx.2
  have tN : (N == 0) = false := by simpa using hN
  clear hN
  have hk5 : K = 1 ∨ K = 2 ∨ K = 3 ∨ K = 4 ∨ K = 5 := by omega
  have tk5 : (K == 5) = false := by simp; omega
  have tk1 : (K == 1) = false := by simp; omega
  clear hk
  have HK5 := hide hk5
  clear al ha hb hkd hp hx0 hxx hx hk5
  go_enter Tryd.func34, Tryd.ntmps34
  go_upto_region 1 with (fail)
  generalize w.alloc (.cells #[.int .i64 0, .int .i64 0, .string ⟨#[]⟩, .bool false, .string ⟨#[]⟩, .bool false, .int .i64 0] 86) = W0 at *
  go_wp2_with fail
  refine (rkind22 x hxa hxb _).mono ?_
  rw [HK.out]
  rintro e w1 ⟨rfl, rfl⟩
  have al := (Below.refl W0.heap.size W0).alloc (Nat.le_refl _) (.cells #[.int .i64 K, .int .i64 0, .string ⟨#[]⟩, .bool false, .string ⟨#[]⟩, .bool false, .int .i64 0] 86)
  have Q1 := hide (heap_alloc_new W0 (.cells #[.int .i64 K, .int .i64 0, .string ⟨#[]⟩, .bool false, .string ⟨#[]⟩, .bool false, .int .i64 0] 86))
  have R1 := hide (keepRow R0.out al)
  have E1 := hide (E0.out.of al)
  have Ha1 := hide (Ha.out.below al)
  have hne := rowLt R0.out
  clear al R0 E0 Ha
  go_upto_region 4 with (fail)
  clear hx1
  generalize hW : W0.alloc (.cells #[.int .i64 K, .int .i64 0, .string ⟨#[]⟩, .bool false, .string ⟨#[]⟩, .bool false, .int .i64 0] 86) = W1 at *
  generalize W0.heap.size = p at *
  clear hW
  have hAp : Hid (∀ b off2, (some (⟨bb, off, none⟩ : Addr)) = some ⟨b, off2, none⟩ → b ≠ p) := fun b off2 e h => by
    injection e with e1
    injection e1 with e2 e3
    subst e2 h
    have h1 := rd_cellS Ha1.out h0
    rw [cell_of_row W1 _ _ _ _ _ Q1.out] at h1
    have h2 : off + 0 = 0 ∨ off + 0 = 1 ∨ off + 0 = 2 ∨ off + 0 = 3 ∨ off + 0 = 4 ∨ off + 0 = 5 ∨ off + 0 = 6 ∨ 7 ≤ off + 0 := by omega
    rcases h2 with h2 | h2 | h2 | h2 | h2 | h2 | h2 | h2
    all_goals first
      | (rw [h2] at h1; simp at h1; done)
      | (rw [Array.getElem?_eq_none (by simpa using h2)] at h1; cases h1)
  obtain ⟨q0_, q1_, q2_, q3_, q4_, q5_, q6_⟩ := row7 Q1.out
  go_wp2_with fail
  refine (rbegin22 K HK5.out _).mono ?_
  rintro e w2 ⟨rfl, rfl⟩
  go_wp2_with fail
  refine (rpget_any _ n c f (bit22 K) _ Ha1.out Hb.out (by omega)).mono ?_
  rw [HP.out]
  rintro e w3 ⟨rfl, hd2⟩
  have R3 := hide (keepRow R1.out (drawn_below hd2 _))
  have E3 := hide (E1.out.of (drawn_below hd2 _))
  have Q3 := hide (keepRow Q1.out (drawn_below hd2 _))
  have Ha3 := hide (Ha1.out.drawn hd2)
  clear hd2 R1 E1 Q1 Ha1 q0_ q1_ q2_ q3_ q4_ q5_ q6_
  obtain ⟨q0_, q1_, q2_, q3_, q4_, q5_, q6_⟩ := row7 Q3.out
  have z0 := frozenRow Q3.out 1
  have s0 := setRow w3 p 1 (.int .i64 N) Q3.out
  simp only [List.setIfInBounds_toArray, List.set_cons_zero, List.set_cons_succ] at s0
  have Q4 := hide s0
  have E4 := hide (E3.out.setCell (p := ⟨p, 1, none⟩) (Nat.le_of_lt hne) (.int .i64 N))
  have R4 := hide ((Below.heap_setCell w3 ⟨p, 1, none⟩ (.int .i64 N) _ (Nat.ne_of_lt hne)).trans R3.out)
  have Ha4 := hide (Ha3.out.other (grown_set w3 p 1 (.int .i64 N)) hAp.out)
  clear s0
  go_upto_region 12 with (fail)
  clear z0 q0_ q1_ q2_ q3_ q4_ q5_ q6_ R3 E3 Q3 Ha3
  generalize w3.setCell ⟨p, 1, none⟩ (.int .i64 N) = W4 at *
  obtain ⟨q0_, q1_, q2_, q3_, q4_, q5_, q6_⟩ := row7 Q4.out
  have hcut := bytes_cut (some ⟨bb, off, none⟩) n c t htn
  have Hr := hide (Ha4.out.cutR (lo := t) (hi := n) htn (Nat.le_refl _))
  have Hbt : Hid (Byt (n - t) (fun i => f (t + i))) := fun i hi => Hb.out (t + i) (by omega)
  generalize cutA (some ⟨bb, off, none⟩) c t = A2 at *
  go_wp2_with fail
  refine (rsget_any A2 (n - t) (c - t) _ n _ Hr.out Hbt.out (by omega)).mono ?_
  rintro e w5 ⟨s, sh, q, e1, rfl, hS, hb4⟩
  have HhS := hide hS
  have R5 := hide (keepRow R4.out hb4)
  have E5 := hide (E4.out.of hb4)
  have Q5 := hide (keepRow Q4.out hb4)
  have Ha5 := hide (Ha4.out.below hb4)
  have hq := slr_rng hS
  clear hb4 hS R4 E4 Q4 Ha4 Hr Hbt hcut q0_ q1_ q2_ q3_ q4_ q5_ q6_
  by_cases he : e1 = 0
  · subst he
    have hwq : IntKind.i64.wrap ((t : Int) + q) = (t : Int) + q := IntWalk.i64_in _ (by omega)
    obtain ⟨q0_, q1_, q2_, q3_, q4_, q5_, q6_⟩ := row7 Q5.out
    have z0 := frozenRow Q5.out 4
    have s0 := setRow w5 p 4 (.string s) Q5.out
    simp only [List.setIfInBounds_toArray, List.set_cons_zero, List.set_cons_succ] at s0
    have Q6 := hide s0
    have E6 := hide (E5.out.setCell (p := ⟨p, 4, none⟩) (Nat.le_of_lt hne) (.string s))
    have R6 := hide ((Below.heap_setCell w5 ⟨p, 4, none⟩ (.string s) _ (Nat.ne_of_lt hne)).trans R5.out)
    clear s0
    go_upto_region 27 with (fail)
    clear z0 q0_ q1_ q2_ q3_ q4_ q5_ q6_ R5 E5 Q5
    generalize w5.setCell ⟨p, 4, none⟩ (.string s) = W6 at *
    obtain ⟨q0_, q1_, q2_, q3_, q4_, q5_, q6_⟩ := row7 Q6.out
    have z0 := frozenRow Q6.out 5
    have s0 := setRow W6 p 5 (.bool sh) Q6.out
    simp only [List.setIfInBounds_toArray, List.set_cons_zero, List.set_cons_succ] at s0
    have Q7 := hide s0
    have E7 := hide (E6.out.setCell (p := ⟨p, 5, none⟩) (Nat.le_of_lt hne) (.bool sh))
    have R7 := hide ((Below.heap_setCell W6 ⟨p, 5, none⟩ (.bool sh) _ (Nat.ne_of_lt hne)).trans R6.out)
    clear s0
    go_upto_region 28 with (fail)
    clear z0 q0_ q1_ q2_ q3_ q4_ q5_ q6_ R6 E6 Q6
    generalize W6.setCell ⟨p, 5, none⟩ (.bool sh) = W7 at *
    obtain ⟨q0_, q1_, q2_, q3_, q4_, q5_, q6_⟩ := row7 Q7.out
    obtain ⟨⟨k0, y0⟩, ⟨k1, y1⟩, ⟨k2, y2⟩, ⟨k3, y3⟩, ⟨k4, y4⟩, ⟨k5, y5⟩, ⟨k6, y6⟩, rz⟩ := store7 R7.out (.int .i64 K) (.int .i64 N) (.string ⟨#[]⟩) (.bool false) (.string s) (.bool sh) (.int .i64 0)
    have RZ := hide rz
    have EE := hide (below7 E7.out (p := w.heap.size) (Nat.le_refl _) (.int .i64 K) (.int .i64 N) (.string ⟨#[]⟩) (.bool false) (.string s) (.bool sh) (.int .i64 0))
    clear rz
    go_wp2_with fail
    obtain ⟨m0_, m1_, m2_, m3_, m4_, m5_, m6_⟩ := row7 RZ.out
    refine bodyPost_ret (v := .tuple #[.agg #[.int .i64 K, .int .i64 N, .string ⟨#[]⟩, .bool false, .string s, .bool sh, .int .i64 0], .int .i64 ((t : Int) + q), .int .i64 0]) ?_ rfl ⟨s, sh, q, 0, HhS.out, .inr ⟨rfl, rfl, EE.out⟩⟩
    rw [results_cell_tmp2 rfl]
    go_simp
  · have te : (e1 != 0) = true := by simpa using he
    have HE1 := hide he
    clear he
    obtain ⟨⟨k0, y0⟩, ⟨k1, y1⟩, ⟨k2, y2⟩, ⟨k3, y3⟩, ⟨k4, y4⟩, ⟨k5, y5⟩, ⟨k6, y6⟩, rz⟩ := store7 R5.out (.int .i64 0) (.int .i64 0) (.string ⟨#[]⟩) (.bool false) (.string ⟨#[]⟩) (.bool false) (.int .i64 0)
    have RZ := hide rz
    have EE := hide (below7 E5.out (p := w.heap.size) (Nat.le_refl _) (.int .i64 0) (.int .i64 0) (.string ⟨#[]⟩) (.bool false) (.string ⟨#[]⟩) (.bool false) (.int .i64 0))
    clear rz
    go_wp2_with fail
    obtain ⟨m0_, m1_, m2_, m3_, m4_, m5_, m6_⟩ := row7 RZ.out
    refine bodyPost_ret (v := .tuple #[.agg #[.int .i64 0, .int .i64 0, .string ⟨#[]⟩, .bool false, .string ⟨#[]⟩, .bool false, .int .i64 0], .int .i64 0, .int .i64 e1]) ?_ rfl ⟨s, sh, q, e1, HhS.out, .inl ⟨HE1.out, rfl, EE.out⟩⟩
    rw [results_cell_tmp2 rfl]
    go_simp
set_option maxRecDepth 100000 in
set_option maxHeartbeats 6400000 in
theorem rget_nv (A : Option Addr) (n c : Nat) (f : Nat → Int) (t : Nat) (K : Int) (hk : K = 2 ∨ K = 3 ∨ K = 4) (w : World) (ha : Rd .u8 w A n c f) (hb : Byt n f) (h0 : 0 < n) (hn : n ≤ 1000) (hkd : kd (f 0) = K) (hp : pg f n (bit22 K) = (0, (t : Int), 0)) (htn : t ≤ n) : Calls Tryd.prog 34 #[.slice A n c] w fun e w' => ∃ s sh q e1, SlR (fun j => f (t + j)) (n - t) n s sh q e1 ∧ ((e1 ≠ 0 ∧ e = .returned (.tuple #[.agg #[.int .i64 0, .int .i64 0, .string ⟨#[]⟩, .bool false, .string ⟨#[]⟩, .bool false, .int .i64 0], .int .i64 0, .int .i64 e1]) ∧ Below w.heap.size w w') ∨ (e1 = 0 ∧ ∃ s2 sh2 q2 e2, SlR (fun j => f (t + q.toNat + j)) (n - (t + q.toNat)) n s2 sh2 q2 e2 ∧ ((e2 ≠ 0 ∧ e = .returned (.tuple #[.agg #[.int .i64 0, .int .i64 0, .string ⟨#[]⟩, .bool false, .string ⟨#[]⟩, .bool false, .int .i64 0], .int .i64 0, .int .i64 e2]) ∧ Below w.heap.size w w') ∨ (e2 = 0 ∧ e = .returned (.tuple #[.agg #[.int .i64 K, .int .i64 0, .string s, .bool sh, .string s2, .bool sh2, .int .i64 0], .int .i64 ((t : Int) + q + q2), .int .i64 0]) ∧ Below w.heap.size w w')))) := by
  have R0 := hide (heap_alloc_new w (.cells #[.int .i64 0, .int .i64 0, .string ⟨#[]⟩, .bool false, .string ⟨#[]⟩, .bool false, .int .i64 0] 86))
  have al := (Below.refl w.heap.size w).alloc (Nat.le_refl _) (.cells #[.int .i64 0, .int .i64 0, .string ⟨#[]⟩, .bool false, .string ⟨#[]⟩, .bool false, .int .i64 0] 86)
  have E0 := hide al
  have Ha := hide (ha.below al)
  have Hb := hide hb
  have HK := hide hkd
  have HP := hide hp
  have hx := hb 0 h0
  obtain ⟨bb, off, rfl, hx0⟩ := ha.at_ (i := 0) h0
  rw [Nat.add_zero] at hx0
  have hx1 := (al.cell (World.block_lt_of_cell? w _ hx0)).trans hx0
  have nz : (n == 0) = false := by simp; omega
  have nz2 : ((n : Int) == 0) = false := by simp; omega
  have nz3 : decide (0 < n) = true := decide_eq_true h0
  obtain ⟨x, hxx⟩ : ∃ x, f 0 = x := ⟨_, rfl⟩
  rw [hxx] at hx hx1 HK
  have hxa := hx.1
  have hxb := hx.2
  have hk5 : K = 1 ∨ K = 2 ∨ K = 3 ∨ K = 4 ∨ K = 5 := by omega
  have tk5 : (K == 5) = false := by simp; omega
  have tk1 : (K == 1) = false := by simp; omega
  clear hk
  have HK5 := hide hk5
  clear al ha hb hkd hp hx0 hxx hx hk5
  go_enter Tryd.func34, Tryd.ntmps34
  go_upto_region 1 with (fail)
  generalize w.alloc (.cells #[.int .i64 0, .int .i64 0, .string ⟨#[]⟩, .bool false, .string ⟨#[]⟩, .bool false, .int .i64 0] 86) = W0 at *
  go_wp2_with fail
  refine (rkind22 x hxa hxb _).mono ?_
  rw [HK.out]
  rintro e w1 ⟨rfl, rfl⟩
  have al := (Below.refl W0.heap.size W0).alloc (Nat.le_refl _) (.cells #[.int .i64 K, .int .i64 0, .string ⟨#[]⟩, .bool false, .string ⟨#[]⟩, .bool false, .int .i64 0] 86)
  have Q1 := hide (heap_alloc_new W0 (.cells #[.int .i64 K, .int .i64 0, .string ⟨#[]⟩, .bool false, .string ⟨#[]⟩, .bool false, .int .i64 0] 86))
  have R1 := hide (keepRow R0.out al)
  have E1 := hide (E0.out.of al)
  have Ha1 := hide (Ha.out.below al)
  have hne := rowLt R0.out
  clear al R0 E0 Ha
  go_upto_region 4 with (fail)
  clear hx1
  generalize hW : W0.alloc (.cells #[.int .i64 K, .int .i64 0, .string ⟨#[]⟩, .bool false, .string ⟨#[]⟩, .bool false, .int .i64 0] 86) = W1 at *
  generalize W0.heap.size = p at *
  clear hW
  have hAp : Hid (∀ b off2, (some (⟨bb, off, none⟩ : Addr)) = some ⟨b, off2, none⟩ → b ≠ p) := fun b off2 e h => by
    injection e with e1
    injection e1 with e2 e3
    subst e2 h
    have h1 := rd_cellS Ha1.out h0
    rw [cell_of_row W1 _ _ _ _ _ Q1.out] at h1
    have h2 : off + 0 = 0 ∨ off + 0 = 1 ∨ off + 0 = 2 ∨ off + 0 = 3 ∨ off + 0 = 4 ∨ off + 0 = 5 ∨ off + 0 = 6 ∨ 7 ≤ off + 0 := by omega
    rcases h2 with h2 | h2 | h2 | h2 | h2 | h2 | h2 | h2
    all_goals first
      | (rw [h2] at h1; simp at h1; done)
      | (rw [Array.getElem?_eq_none (by simpa using h2)] at h1; cases h1)
  obtain ⟨q0_, q1_, q2_, q3_, q4_, q5_, q6_⟩ := row7 Q1.out
  go_wp2_with fail
  refine (rbegin22 K HK5.out _).mono ?_
  rintro e w2 ⟨rfl, rfl⟩
  go_wp2_with fail
  refine (rpget_any _ n c f (bit22 K) _ Ha1.out Hb.out (by omega)).mono ?_
  rw [HP.out]
  rintro e w3 ⟨rfl, hd2⟩
  have R3 := hide (keepRow R1.out (drawn_below hd2 _))
  have E3 := hide (E1.out.of (drawn_below hd2 _))
  have Q3 := hide (keepRow Q1.out (drawn_below hd2 _))
  have Ha3 := hide (Ha1.out.drawn hd2)
  clear hd2 R1 E1 Q1 Ha1 q0_ q1_ q2_ q3_ q4_ q5_ q6_
  obtain ⟨q0_, q1_, q2_, q3_, q4_, q5_, q6_⟩ := row7 Q3.out
  have z0 := frozenRow Q3.out 1
  have s0 := setRow w3 p 1 (.int .i64 0) Q3.out
  simp only [List.setIfInBounds_toArray, List.set_cons_zero, List.set_cons_succ] at s0
  have Q4 := hide s0
  have E4 := hide (E3.out.setCell (p := ⟨p, 1, none⟩) (Nat.le_of_lt hne) (.int .i64 0))
  have R4 := hide ((Below.heap_setCell w3 ⟨p, 1, none⟩ (.int .i64 0) _ (Nat.ne_of_lt hne)).trans R3.out)
  have Ha4 := hide (Ha3.out.other (grown_set w3 p 1 (.int .i64 0)) hAp.out)
  clear s0
  go_upto_region 12 with (fail)
  clear z0 q0_ q1_ q2_ q3_ q4_ q5_ q6_ R3 E3 Q3 Ha3
  generalize w3.setCell ⟨p, 1, none⟩ (.int .i64 0) = W4 at *
  obtain ⟨q0_, q1_, q2_, q3_, q4_, q5_, q6_⟩ := row7 Q4.out
  have hcut := bytes_cut (some ⟨bb, off, none⟩) n c t htn
  have Hr := hide (Ha4.out.cutR (lo := t) (hi := n) htn (Nat.le_refl _))
  have Hbt : Hid (Byt (n - t) (fun i => f (t + i))) := fun i hi => Hb.out (t + i) (by omega)
  generalize cutA (some ⟨bb, off, none⟩) c t = A2 at *
  go_wp2_with fail
  refine (rsget_any A2 (n - t) (c - t) _ n _ Hr.out Hbt.out (by omega)).mono ?_
  rintro e w5 ⟨s, sh, q, e1, rfl, hS, hb4⟩
  have HhS := hide hS
  have R5 := hide (keepRow R4.out hb4)
  have E5 := hide (E4.out.of hb4)
  have Q5 := hide (keepRow Q4.out hb4)
  have Ha5 := hide (Ha4.out.below hb4)
  have hq := slr_rng hS
  clear hb4 hS R4 E4 Q4 Ha4 Hr Hbt hcut q0_ q1_ q2_ q3_ q4_ q5_ q6_
  by_cases he : e1 = 0
  · subst he
    obtain ⟨qn, rfl⟩ := Int.eq_ofNat_of_zero_le hq.1
    obtain ⟨u, hu⟩ : ∃ u, u = t + qn := ⟨_, rfl⟩
    have hui : (t : Int) + (qn : Int) = (u : Int) := by omega
    have HU := hide hui
    have htq : u ≤ n := by have := hq.2; omega
    have HU2 := hide hu
    have hwu : IntKind.i64.wrap (u : Int) = (u : Int) := IntWalk.i64_in _ (by omega)
    have hwu2 : IntKind.i64.wrap ((t : Int) + (qn : Int)) = (u : Int) := by rw [hui]; exact hwu
    clear hu hui
    obtain ⟨q0_, q1_, q2_, q3_, q4_, q5_, q6_⟩ := row7 Q5.out
    have z0 := frozenRow Q5.out 2
    have s0 := setRow w5 p 2 (.string s) Q5.out
    simp only [List.setIfInBounds_toArray, List.set_cons_zero, List.set_cons_succ] at s0
    have Q6 := hide s0
    have E6 := hide (E5.out.setCell (p := ⟨p, 2, none⟩) (Nat.le_of_lt hne) (.string s))
    have R6 := hide ((Below.heap_setCell w5 ⟨p, 2, none⟩ (.string s) _ (Nat.ne_of_lt hne)).trans R5.out)
    have Ha6 := hide (Ha5.out.other (grown_set w5 p 2 (.string s)) hAp.out)
    clear s0
    go_upto_region 21 with (fail)
    clear z0 q0_ q1_ q2_ q3_ q4_ q5_ q6_ R5 E5 Q5 Ha5
    generalize w5.setCell ⟨p, 2, none⟩ (.string s) = W6 at *
    obtain ⟨q0_, q1_, q2_, q3_, q4_, q5_, q6_⟩ := row7 Q6.out
    have z0 := frozenRow Q6.out 3
    have s0 := setRow W6 p 3 (.bool sh) Q6.out
    simp only [List.setIfInBounds_toArray, List.set_cons_zero, List.set_cons_succ] at s0
    have Q7 := hide s0
    have E7 := hide (E6.out.setCell (p := ⟨p, 3, none⟩) (Nat.le_of_lt hne) (.bool sh))
    have R7 := hide ((Below.heap_setCell W6 ⟨p, 3, none⟩ (.bool sh) _ (Nat.ne_of_lt hne)).trans R6.out)
    have Ha7 := hide (Ha6.out.other (grown_set W6 p 3 (.bool sh)) hAp.out)
    clear s0
    go_upto_region 22 with (fail)
    clear z0 q0_ q1_ q2_ q3_ q4_ q5_ q6_ R6 E6 Q6 Ha6
    generalize W6.setCell ⟨p, 3, none⟩ (.bool sh) = W7 at *
    obtain ⟨q0_, q1_, q2_, q3_, q4_, q5_, q6_⟩ := row7 Q7.out
    go_upto_region 23 with (fail)
    try rw [HU.out]
    clear hwu hwu2
    have hcut := bytes_cut (some ⟨bb, off, none⟩) n c u htq
    have Hr := hide (Ha7.out.cutR (lo := u) (hi := n) htq (Nat.le_refl _))
    have Hbt : Hid (Byt (n - u) (fun i => f (u + i))) := fun i hi => Hb.out (u + i) (by omega)
    generalize cutA (some ⟨bb, off, none⟩) c u = A2 at *
    go_wp2_with fail
    refine (rsget_any A2 (n - u) (c - u) _ n _ Hr.out Hbt.out (by omega)).mono ?_
    rintro e w8 ⟨s2, sh2, q2, e2, rfl, hS2, hb4⟩
    have HhS2 := hide hS2
    have R8 := hide (keepRow R7.out hb4)
    have E8 := hide (E7.out.of hb4)
    have Q8 := hide (keepRow Q7.out hb4)
    have Ha8 := hide (Ha7.out.below hb4)
    have hq2 := slr_rng hS2
    clear hb4 hS2 R7 E7 Q7 Ha7 Hr Hbt hcut q0_ q1_ q2_ q3_ q4_ q5_ q6_
    by_cases he : e2 = 0
    · subst he
      have hwq : IntKind.i64.wrap ((u : Int) + q2) = (u : Int) + q2 := IntWalk.i64_in _ (by omega)
      obtain ⟨q0_, q1_, q2_, q3_, q4_, q5_, q6_⟩ := row7 Q8.out
      have z0 := frozenRow Q8.out 4
      have s0 := setRow w8 p 4 (.string s2) Q8.out
      simp only [List.setIfInBounds_toArray, List.set_cons_zero, List.set_cons_succ] at s0
      have Q9 := hide s0
      have E9 := hide (E8.out.setCell (p := ⟨p, 4, none⟩) (Nat.le_of_lt hne) (.string s2))
      have R9 := hide ((Below.heap_setCell w8 ⟨p, 4, none⟩ (.string s2) _ (Nat.ne_of_lt hne)).trans R8.out)
      clear s0
      go_upto_region 27 with (fail)
      clear z0 q0_ q1_ q2_ q3_ q4_ q5_ q6_ R8 E8 Q8
      generalize w8.setCell ⟨p, 4, none⟩ (.string s2) = W9 at *
      obtain ⟨q0_, q1_, q2_, q3_, q4_, q5_, q6_⟩ := row7 Q9.out
      have z0 := frozenRow Q9.out 5
      have s0 := setRow W9 p 5 (.bool sh2) Q9.out
      simp only [List.setIfInBounds_toArray, List.set_cons_zero, List.set_cons_succ] at s0
      have Q10 := hide s0
      have E10 := hide (E9.out.setCell (p := ⟨p, 5, none⟩) (Nat.le_of_lt hne) (.bool sh2))
      have R10 := hide ((Below.heap_setCell W9 ⟨p, 5, none⟩ (.bool sh2) _ (Nat.ne_of_lt hne)).trans R9.out)
      clear s0
      go_upto_region 28 with (fail)
      clear z0 q0_ q1_ q2_ q3_ q4_ q5_ q6_ R9 E9 Q9
      generalize W9.setCell ⟨p, 5, none⟩ (.bool sh2) = W10 at *
      obtain ⟨q0_, q1_, q2_, q3_, q4_, q5_, q6_⟩ := row7 Q10.out
      obtain ⟨⟨k0, y0⟩, ⟨k1, y1⟩, ⟨k2, y2⟩, ⟨k3, y3⟩, ⟨k4, y4⟩, ⟨k5, y5⟩, ⟨k6, y6⟩, rz⟩ := store7 R10.out (.int .i64 K) (.int .i64 0) (.string s) (.bool sh) (.string s2) (.bool sh2) (.int .i64 0)
      have RZ := hide rz
      have EE := hide (below7 E10.out (p := w.heap.size) (Nat.le_refl _) (.int .i64 K) (.int .i64 0) (.string s) (.bool sh) (.string s2) (.bool sh2) (.int .i64 0))
      clear rz
      go_wp2_with fail
      obtain ⟨m0_, m1_, m2_, m3_, m4_, m5_, m6_⟩ := row7 RZ.out
      refine bodyPost_ret (v := .tuple #[.agg #[.int .i64 K, .int .i64 0, .string s, .bool sh, .string s2, .bool sh2, .int .i64 0], .int .i64 ((u : Int) + q2), .int .i64 0]) ?_ rfl ⟨s, sh, (qn : Int), 0, HhS.out, .inr ⟨rfl, s2, sh2, q2, 0, by have h := HhS2.out; rw [HU2.out] at h; rw [Int.toNat_natCast]; exact h, .inr ⟨rfl, by rw [← HU.out], EE.out⟩⟩⟩
      rw [results_cell_tmp2 rfl]
      go_simp
    · have te : (e2 != 0) = true := by simpa using he
      have HE2 := hide he
      clear he
      obtain ⟨⟨k0, y0⟩, ⟨k1, y1⟩, ⟨k2, y2⟩, ⟨k3, y3⟩, ⟨k4, y4⟩, ⟨k5, y5⟩, ⟨k6, y6⟩, rz⟩ := store7 R8.out (.int .i64 0) (.int .i64 0) (.string ⟨#[]⟩) (.bool false) (.string ⟨#[]⟩) (.bool false) (.int .i64 0)
      have RZ := hide rz
      have EE := hide (below7 E8.out (p := w.heap.size) (Nat.le_refl _) (.int .i64 0) (.int .i64 0) (.string ⟨#[]⟩) (.bool false) (.string ⟨#[]⟩) (.bool false) (.int .i64 0))
      clear rz
      go_wp2_with fail
      obtain ⟨m0_, m1_, m2_, m3_, m4_, m5_, m6_⟩ := row7 RZ.out
      refine bodyPost_ret (v := .tuple #[.agg #[.int .i64 0, .int .i64 0, .string ⟨#[]⟩, .bool false, .string ⟨#[]⟩, .bool false, .int .i64 0], .int .i64 0, .int .i64 e2]) ?_ rfl ⟨s, sh, (qn : Int), 0, HhS.out, .inr ⟨rfl, s2, sh2, q2, e2, by have h := HhS2.out; rw [HU2.out] at h; rw [Int.toNat_natCast]; exact h, .inl ⟨HE2.out, rfl, EE.out⟩⟩⟩
      rw [results_cell_tmp2 rfl]
      go_simp
  · have te2 : (e1 != 0) = true := by simpa using he
    have HE1 := hide he
    clear he
    obtain ⟨⟨k0, y0⟩, ⟨k1, y1⟩, ⟨k2, y2⟩, ⟨k3, y3⟩, ⟨k4, y4⟩, ⟨k5, y5⟩, ⟨k6, y6⟩, rz⟩ := store7 R5.out (.int .i64 0) (.int .i64 0) (.string ⟨#[]⟩) (.bool false) (.string ⟨#[]⟩) (.bool false) (.int .i64 0)
    have RZ := hide rz
    have EE := hide (below7 E5.out (p := w.heap.size) (Nat.le_refl _) (.int .i64 0) (.int .i64 0) (.string ⟨#[]⟩) (.bool false) (.string ⟨#[]⟩) (.bool false) (.int .i64 0))
    clear rz
    go_wp2_with fail
    obtain ⟨m0_, m1_, m2_, m3_, m4_, m5_, m6_⟩ := row7 RZ.out
    refine bodyPost_ret (v := .tuple #[.agg #[.int .i64 0, .int .i64 0, .string ⟨#[]⟩, .bool false, .string ⟨#[]⟩, .bool false, .int .i64 0], .int .i64 0, .int .i64 e1]) ?_ rfl ⟨s, sh, q, e1, HhS.out, .inl ⟨HE1.out, rfl, EE.out⟩⟩
    rw [results_cell_tmp2 rfl]
    go_simp
end

section
open Go.RowKit Go.PlainAid

theorem kd_rng (x : Int) : kd x = 1 ∨ kd x = 2 ∨ kd x = 3 ∨ kd x = 4 ∨ kd x = 5 := by
  unfold kd
  (repeat' split) <;> simp
theorem gt_snd {f : Nat → Int} {n : Nat} : ∀ fu k acc, 0 ≤ (gt f n fu k acc).2.1
  | 0, k, acc => by simp [gt]
  | fu + 1, k, acc => by
    by_cases h1 : n ≤ k
    · rw [gt_short h1]
      exact Int.le_refl _
    · by_cases h2 : f k < 128
      · by_cases h3 : 2147483647 < acc + f k % 128 * un k
        · rw [gt_range (by omega) h2 h3]
          exact Int.le_refl _
        · rw [gt_ok (by omega) h2 h3]
          show (0 : Int) ≤ (k : Int) + 1
          omega
      · rw [gt_more (by omega) h2]
        exact gt_snd fu (k + 1) _
theorem pg_snd (f : Nat → Int) (n : Nat) (b : Int) : 0 ≤ (pg f n b).2.1 := by
  unfold pg
  split
  · exact Int.le_refl _
  · split
    · exact Int.le_refl _
    · split
      · show (0 : Int) ≤ 1
        omega
      · exact gt_snd _ _ _
theorem pg_bdB {f : Nat → Int} {n : Nat} {b : Int} (hb : b = 4 ∨ b = 5 ∨ b = 6 ∨ b = 7) (h : (pg f n b).2.2 = 0) : 0 < n ∧ 0 ≤ (pg f n b).1 ∧ (pg f n b).1 ≤ 2147483647 ∧ 1 ≤ (pg f n b).2.1 ∧ (pg f n b).2.1 ≤ n := by
  have e : 16 ≤ p8 b ∧ p8 b ≤ 128 := by
    rcases hb with rfl | rfl | rfl | rfl <;> decide
  have hm := Int.emod_nonneg (f 0) (show p8 b ≠ 0 by omega)
  have hm2 := Int.emod_lt_of_pos (f 0) (show 0 < p8 b by omega)
  unfold pg at h ⊢
  rw [if_neg (by omega)] at h ⊢
  by_cases h0 : n = 0
  · rw [if_pos h0] at h
    simp at h
  · rw [if_neg h0] at h ⊢
    by_cases h1 : f 0 % p8 b < p8 b - 1
    · rw [if_pos h1]
      exact ⟨by omega, by show 0 ≤ f 0 % p8 b; omega, by show f 0 % p8 b ≤ 2147483647; omega, by show (1 : Int) ≤ 1; omega, by show (1 : Int) ≤ n; omega⟩
    · rw [if_neg h1] at h ⊢
      exact ⟨by omega, gt_bd 5 1 _ (by omega) (by omega) h⟩
theorem bit_rng (x : Int) : bit22 (kd x) = 4 ∨ bit22 (kd x) = 5 ∨ bit22 (kd x) = 6 ∨ bit22 (kd x) = 7 := by
  rcases kd_rng x with h | h | h | h | h <;> rw [h] <;> decide
theorem GtR.same {f : Nat → Int} {n : Nat} {k i z m er k' i' z' m' er' : Int} {ns vs ns' vs' : ByteArray} {a b a' b' : Bool} (h : GtR f n k i ns a vs b z m er) (h' : GtR f n k' i' ns' a' vs' b' z' m' er') :
    k = k' ∧ i = i' ∧ ns = ns' ∧ a = a' ∧ vs = vs' ∧ b = b' ∧ z = z' ∧ m = m' ∧ er = er' := by
  rcases h with ⟨h0, hz, rfl⟩ | ⟨h0, N, t, d, hp, h⟩ <;> rcases h' with ⟨h0', hz', rfl⟩ | ⟨h0', N', t', d', hp', h'⟩
  · obtain ⟨rfl, rfl, rfl, rfl, rfl, rfl, rfl, rfl⟩ := hz
    obtain ⟨rfl, rfl, rfl, rfl, rfl, rfl, rfl, rfl⟩ := hz'
    exact ⟨rfl, rfl, rfl, rfl, rfl, rfl, rfl, rfl, rfl⟩
  · omega
  · omega
  · rw [hp] at hp'
    injection hp' with e1 e2
    injection e2 with e2 e3
    subst e1 e3
    obtain rfl : t = t' := by omega
    clear hp
    generalize kd (f 0) = K at *
    rcases h with ⟨q1, hz, rfl⟩ | ⟨q1, q2, q3, hz, rfl⟩ | ⟨q1, q2, q3, rfl, rfl, rfl, rfl, rfl, rfl, rfl, rfl, rfl⟩ | ⟨q1, q2, rfl, rfl, rfl, rfl, rfl, rfl, rfl, rfl, rfl⟩ | ⟨q1, q2, q3, q4, s, sh, q, e1, hS, h⟩ | ⟨q1, q2, q3, q4, s, sh, q, e1, hS, h⟩ <;>
    rcases h' with ⟨p1, hz', rfl⟩ | ⟨p1, p2, p3, hz', rfl⟩ | ⟨p1, p2, p3, rfl, rfl, rfl, rfl, rfl, rfl, rfl, rfl, rfl⟩ | ⟨p1, p2, rfl, rfl, rfl, rfl, rfl, rfl, rfl, rfl, rfl⟩ | ⟨p1, p2, p3, p4, s', sh', q', e1', hS', h'⟩ | ⟨p1, p2, p3, p4, s', sh', q', e1', hS', h'⟩ <;>
    first
      | (exfalso; omega)
      | (obtain ⟨rfl, rfl, rfl, rfl, rfl, rfl, rfl, rfl⟩ := hz; obtain ⟨rfl, rfl, rfl, rfl, rfl, rfl, rfl, rfl⟩ := hz'; exact ⟨rfl, rfl, rfl, rfl, rfl, rfl, rfl, rfl, rfl⟩)
      | exact ⟨rfl, rfl, rfl, rfl, rfl, rfl, rfl, rfl, rfl⟩
      | skip
    · obtain ⟨rfl, rfl, rfl, rfl⟩ := hS.same hS'
      rcases h with ⟨y1, hz, rfl⟩ | ⟨y1, rfl, rfl, rfl, rfl, rfl, rfl, rfl, rfl, rfl⟩ <;> rcases h' with ⟨x1, hz', rfl⟩ | ⟨x1, rfl, rfl, rfl, rfl, rfl, rfl, rfl, rfl, rfl⟩ <;>
      first
        | (exfalso; omega)
        | (obtain ⟨rfl, rfl, rfl, rfl, rfl, rfl, rfl, rfl⟩ := hz; obtain ⟨rfl, rfl, rfl, rfl, rfl, rfl, rfl, rfl⟩ := hz'; exact ⟨rfl, rfl, rfl, rfl, rfl, rfl, rfl, rfl, rfl⟩)
        | exact ⟨rfl, rfl, rfl, rfl, rfl, rfl, rfl, rfl, rfl⟩
    · obtain ⟨rfl, rfl, rfl, rfl⟩ := hS.same hS'
      rcases h with ⟨y1, hz, rfl⟩ | ⟨y1, s2, sh2, q2, e2, hS2, h⟩ <;> rcases h' with ⟨x1, hz', rfl⟩ | ⟨x1, s2', sh2', q2', e2', hS2', h'⟩ <;>
      first
        | (exfalso; omega)
        | (obtain ⟨rfl, rfl, rfl, rfl, rfl, rfl, rfl, rfl⟩ := hz; obtain ⟨rfl, rfl, rfl, rfl, rfl, rfl, rfl, rfl⟩ := hz'; exact ⟨rfl, rfl, rfl, rfl, rfl, rfl, rfl, rfl, rfl⟩)
        | skip
      obtain ⟨rfl, rfl, rfl, rfl⟩ := hS2.same hS2'
      rcases h with ⟨y2, hz, rfl⟩ | ⟨y2, rfl, rfl, rfl, rfl, rfl, rfl, rfl, rfl, rfl⟩ <;> rcases h' with ⟨x2, hz', rfl⟩ | ⟨x2, rfl, rfl, rfl, rfl, rfl, rfl, rfl, rfl, rfl⟩ <;>
      first
        | (exfalso; omega)
        | (obtain ⟨rfl, rfl, rfl, rfl, rfl, rfl, rfl, rfl⟩ := hz; obtain ⟨rfl, rfl, rfl, rfl, rfl, rfl, rfl, rfl⟩ := hz'; exact ⟨rfl, rfl, rfl, rfl, rfl, rfl, rfl, rfl, rfl⟩)
        | exact ⟨rfl, rfl, rfl, rfl, rfl, rfl, rfl, rfl, rfl⟩
def GGot (f : Nat → Int) (n : Nat) (w : World) (e : Ending) (w' : World) : Prop :=
  ∃ k i ns a vs b z m er, e = .returned (.tuple #[.agg #[.int .i64 k, .int .i64 i, .string ns, .bool a, .string vs, .bool b, .int .i64 z], .int .i64 m, .int .i64 er]) ∧ GtR f n k i ns a vs b z m er ∧ Below w.heap.size w w'
theorem zeroR.mk : zeroR 0 0 ⟨#[]⟩ false ⟨#[]⟩ false 0 0 := ⟨rfl, rfl, rfl, rfl, rfl, rfl, rfl, rfl⟩
theorem get22 (A : Option Addr) (n c : Nat) (f : Nat → Int) (w : World) (ha : Rd .u8 w A n c f) (hb : Byt n f) (hn : n ≤ 100000) (T : TypeId) (fr : Nat × Nat) (hg : w.heap[0]? = some (.cells formsV T fr)) : Calls Tryd.prog 32 #[.slice A n c] w (GGot f n w) := by
  rcases Nat.eq_zero_or_pos n with rfl | h0
  · exact (get_none c A w).mono fun e w' ⟨h1, h2⟩ => ⟨_, _, _, _, _, _, _, _, _, h1, .inl ⟨rfl, zeroR.mk, rfl⟩, h2⟩
  have hsn := pg_snd f n (bit22 (kd (f 0)))
  obtain ⟨N, t0, d, hp⟩ : ∃ N t d, pg f n (bit22 (kd (f 0))) = (N, t, d) := ⟨_, _, _, rfl⟩
  rw [hp] at hsn
  obtain ⟨t, rfl⟩ := Int.eq_ofNat_of_zero_le hsn
  have hkr := kd_rng (f 0)
  by_cases hd : d = 0
  case neg =>
    rcases hkr with hk | hk | hk | hk | hk
    · exact (get_perr1 A n c f t N d w ha hb h0 hn hk (by rw [hk] at hp; exact hp) hd T fr hg).mono fun e w' ⟨h1, h2⟩ => ⟨_, _, _, _, _, _, _, _, _, h1, .inr ⟨h0, N, t, d, hp, .inl ⟨hd, zeroR.mk, rfl⟩⟩, h2⟩
    · exact (get_perr2 A n c f t N d w ha hb h0 hn hk (by rw [hk] at hp; exact hp) hd T fr hg).mono fun e w' ⟨h1, h2⟩ => ⟨_, _, _, _, _, _, _, _, _, h1, .inr ⟨h0, N, t, d, hp, .inl ⟨hd, zeroR.mk, rfl⟩⟩, h2⟩
    · exact (get_perr3 A n c f t N d w ha hb h0 hn hk (by rw [hk] at hp; exact hp) hd T fr hg).mono fun e w' ⟨h1, h2⟩ => ⟨_, _, _, _, _, _, _, _, _, h1, .inr ⟨h0, N, t, d, hp, .inl ⟨hd, zeroR.mk, rfl⟩⟩, h2⟩
    · exact (get_perr4 A n c f t N d w ha hb h0 hn hk (by rw [hk] at hp; exact hp) hd T fr hg).mono fun e w' ⟨h1, h2⟩ => ⟨_, _, _, _, _, _, _, _, _, h1, .inr ⟨h0, N, t, d, hp, .inl ⟨hd, zeroR.mk, rfl⟩⟩, h2⟩
    · exact (get_perr5 A n c f t N d w ha hb h0 hn hk (by rw [hk] at hp; exact hp) hd T fr hg).mono fun e w' ⟨h1, h2⟩ => ⟨_, _, _, _, _, _, _, _, _, h1, .inr ⟨h0, N, t, d, hp, .inl ⟨hd, zeroR.mk, rfl⟩⟩, h2⟩
  subst hd
  have hbd := pg_bdB (bit_rng (f 0)) (show (pg f n (bit22 (kd (f 0)))).2.2 = 0 by rw [hp])
  rw [hp] at hbd
  have htn : t ≤ n := by
    have := hbd.2.2.2.2
    simp only at this
    omega
  clear hsn hbd
  by_cases hk : kd (f 0) = 1
  · by_cases hN : N = 0
    · subst hN
      exact (get_idx0 A n c f t w ha hb h0 hn hk (by rw [hk] at hp; exact hp) T fr hg).mono fun e w' ⟨h1, h2⟩ => ⟨_, _, _, _, _, _, _, _, _, h1, .inr ⟨h0, 0, t, 0, hp, .inr (.inl ⟨rfl, hk, rfl, zeroR.mk, rfl⟩)⟩, h2⟩
    · exact (get_idx A n c f t N w ha hb h0 hn hk (by rw [hk] at hp; exact hp) hN T fr hg).mono fun e w' ⟨h1, h2⟩ => ⟨_, _, _, _, _, _, _, _, _, h1, .inr ⟨h0, N, t, 0, hp, .inr (.inr (.inl ⟨rfl, hk, hN, rfl, rfl, rfl, rfl, rfl, rfl, rfl, rfl, rfl⟩))⟩, h2⟩
  have hk1 := hk
  clear hk
  by_cases hk : kd (f 0) = 5
  · exact (get_size A n c f t N w ha hb h0 hn hk (by rw [hk] at hp; exact hp) T fr hg).mono fun e w' ⟨h1, h2⟩ => ⟨_, _, _, _, _, _, _, _, _, h1, .inr ⟨h0, N, t, 0, hp, .inr (.inr (.inr (.inl ⟨rfl, hk, rfl, rfl, rfl, rfl, rfl, rfl, rfl, rfl, rfl⟩)))⟩, h2⟩
  have hk5 := hk
  clear hk
  have hk234 : kd (f 0) = 2 ∨ kd (f 0) = 3 ∨ kd (f 0) = 4 := by omega
  by_cases hN : N = 0
  · subst hN
    rcases hk234 with hk | hk | hk
    · exact (get_nv2 A n c f t w ha hb h0 hn hk (by rw [hk] at hp; exact hp) htn T fr hg).mono fun e w' ⟨s, sh, q, e1, hS, hh⟩ => by
        rcases hh with ⟨y1, h1, h2⟩ | ⟨rfl, s2, sh2, q2, e2, hS2, hh⟩
        · exact ⟨_, _, _, _, _, _, _, _, _, h1, .inr ⟨h0, 0, t, 0, hp, .inr (.inr (.inr (.inr (.inr ⟨rfl, hk1, hk5, rfl, s, sh, q, e1, hS, .inl ⟨y1, zeroR.mk, rfl⟩⟩))))⟩, h2⟩
        · rcases hh with ⟨y2, h1, h2⟩ | ⟨rfl, h1, h2⟩
          · exact ⟨_, _, _, _, _, _, _, _, _, h1, .inr ⟨h0, 0, t, 0, hp, .inr (.inr (.inr (.inr (.inr ⟨rfl, hk1, hk5, rfl, s, sh, q, 0, hS, .inr ⟨rfl, s2, sh2, q2, e2, hS2, .inl ⟨y2, zeroR.mk, rfl⟩⟩⟩))))⟩, h2⟩
          · exact ⟨_, _, _, _, _, _, _, _, _, h1, .inr ⟨h0, 0, t, 0, hp, .inr (.inr (.inr (.inr (.inr ⟨rfl, hk1, hk5, rfl, s, sh, q, 0, hS, .inr ⟨rfl, s2, sh2, q2, 0, hS2, .inr ⟨rfl, hk.symm, rfl, rfl, rfl, rfl, rfl, rfl, rfl, rfl⟩⟩⟩))))⟩, h2⟩
    · exact (get_nv3 A n c f t w ha hb h0 hn hk (by rw [hk] at hp; exact hp) htn T fr hg).mono fun e w' ⟨s, sh, q, e1, hS, hh⟩ => by
        rcases hh with ⟨y1, h1, h2⟩ | ⟨rfl, s2, sh2, q2, e2, hS2, hh⟩
        · exact ⟨_, _, _, _, _, _, _, _, _, h1, .inr ⟨h0, 0, t, 0, hp, .inr (.inr (.inr (.inr (.inr ⟨rfl, hk1, hk5, rfl, s, sh, q, e1, hS, .inl ⟨y1, zeroR.mk, rfl⟩⟩))))⟩, h2⟩
        · rcases hh with ⟨y2, h1, h2⟩ | ⟨rfl, h1, h2⟩
          · exact ⟨_, _, _, _, _, _, _, _, _, h1, .inr ⟨h0, 0, t, 0, hp, .inr (.inr (.inr (.inr (.inr ⟨rfl, hk1, hk5, rfl, s, sh, q, 0, hS, .inr ⟨rfl, s2, sh2, q2, e2, hS2, .inl ⟨y2, zeroR.mk, rfl⟩⟩⟩))))⟩, h2⟩
          · exact ⟨_, _, _, _, _, _, _, _, _, h1, .inr ⟨h0, 0, t, 0, hp, .inr (.inr (.inr (.inr (.inr ⟨rfl, hk1, hk5, rfl, s, sh, q, 0, hS, .inr ⟨rfl, s2, sh2, q2, 0, hS2, .inr ⟨rfl, hk.symm, rfl, rfl, rfl, rfl, rfl, rfl, rfl, rfl⟩⟩⟩))))⟩, h2⟩
    · exact (get_nv4 A n c f t w ha hb h0 hn hk (by rw [hk] at hp; exact hp) htn T fr hg).mono fun e w' ⟨s, sh, q, e1, hS, hh⟩ => by
        rcases hh with ⟨y1, h1, h2⟩ | ⟨rfl, s2, sh2, q2, e2, hS2, hh⟩
        · exact ⟨_, _, _, _, _, _, _, _, _, h1, .inr ⟨h0, 0, t, 0, hp, .inr (.inr (.inr (.inr (.inr ⟨rfl, hk1, hk5, rfl, s, sh, q, e1, hS, .inl ⟨y1, zeroR.mk, rfl⟩⟩))))⟩, h2⟩
        · rcases hh with ⟨y2, h1, h2⟩ | ⟨rfl, h1, h2⟩
          · exact ⟨_, _, _, _, _, _, _, _, _, h1, .inr ⟨h0, 0, t, 0, hp, .inr (.inr (.inr (.inr (.inr ⟨rfl, hk1, hk5, rfl, s, sh, q, 0, hS, .inr ⟨rfl, s2, sh2, q2, e2, hS2, .inl ⟨y2, zeroR.mk, rfl⟩⟩⟩))))⟩, h2⟩
          · exact ⟨_, _, _, _, _, _, _, _, _, h1, .inr ⟨h0, 0, t, 0, hp, .inr (.inr (.inr (.inr (.inr ⟨rfl, hk1, hk5, rfl, s, sh, q, 0, hS, .inr ⟨rfl, s2, sh2, q2, 0, hS2, .inr ⟨rfl, hk.symm, rfl, rfl, rfl, rfl, rfl, rfl, rfl, rfl⟩⟩⟩))))⟩, h2⟩
  · rcases hk234 with hk | hk | hk
    · exact (get_v2 A n c f t N w ha hb h0 hn hk (by rw [hk] at hp; exact hp) hN htn T fr hg).mono fun e w' ⟨s, sh, q, e1, hS, hh⟩ => by
        rcases hh with ⟨y1, h1, h2⟩ | ⟨rfl, h1, h2⟩
        · exact ⟨_, _, _, _, _, _, _, _, _, h1, .inr ⟨h0, N, t, 0, hp, .inr (.inr (.inr (.inr (.inl ⟨rfl, hk1, hk5, hN, s, sh, q, e1, hS, .inl ⟨y1, zeroR.mk, rfl⟩⟩))))⟩, h2⟩
        · exact ⟨_, _, _, _, _, _, _, _, _, h1, .inr ⟨h0, N, t, 0, hp, .inr (.inr (.inr (.inr (.inl ⟨rfl, hk1, hk5, hN, s, sh, q, 0, hS, .inr ⟨rfl, hk.symm, rfl, rfl, rfl, rfl, rfl, rfl, rfl, rfl⟩⟩))))⟩, h2⟩
    · exact (get_v3 A n c f t N w ha hb h0 hn hk (by rw [hk] at hp; exact hp) hN htn T fr hg).mono fun e w' ⟨s, sh, q, e1, hS, hh⟩ => by
        rcases hh with ⟨y1, h1, h2⟩ | ⟨rfl, h1, h2⟩
        · exact ⟨_, _, _, _, _, _, _, _, _, h1, .inr ⟨h0, N, t, 0, hp, .inr (.inr (.inr (.inr (.inl ⟨rfl, hk1, hk5, hN, s, sh, q, e1, hS, .inl ⟨y1, zeroR.mk, rfl⟩⟩))))⟩, h2⟩
        · exact ⟨_, _, _, _, _, _, _, _, _, h1, .inr ⟨h0, N, t, 0, hp, .inr (.inr (.inr (.inr (.inl ⟨rfl, hk1, hk5, hN, s, sh, q, 0, hS, .inr ⟨rfl, hk.symm, rfl, rfl, rfl, rfl, rfl, rfl, rfl, rfl⟩⟩))))⟩, h2⟩
    · exact (get_v4 A n c f t N w ha hb h0 hn hk (by rw [hk] at hp; exact hp) hN htn T fr hg).mono fun e w' ⟨s, sh, q, e1, hS, hh⟩ => by
        rcases hh with ⟨y1, h1, h2⟩ | ⟨rfl, h1, h2⟩
        · exact ⟨_, _, _, _, _, _, _, _, _, h1, .inr ⟨h0, N, t, 0, hp, .inr (.inr (.inr (.inr (.inl ⟨rfl, hk1, hk5, hN, s, sh, q, e1, hS, .inl ⟨y1, zeroR.mk, rfl⟩⟩))))⟩, h2⟩
        · exact ⟨_, _, _, _, _, _, _, _, _, h1, .inr ⟨h0, N, t, 0, hp, .inr (.inr (.inr (.inr (.inl ⟨rfl, hk1, hk5, hN, s, sh, q, 0, hS, .inr ⟨rfl, hk.symm, rfl, rfl, rfl, rfl, rfl, rfl, rfl, rfl⟩⟩))))⟩, h2⟩
theorem rget22 (A : Option Addr) (n c : Nat) (f : Nat → Int) (w : World) (ha : Rd .u8 w A n c f) (hb : Byt n f) (hn : n ≤ 1000) : Calls Tryd.prog 34 #[.slice A n c] w (GGot f n w) := by
  rcases Nat.eq_zero_or_pos n with rfl | h0
  · exact (rget_none c A w).mono fun e w' ⟨h1, h2⟩ => ⟨_, _, _, _, _, _, _, _, _, h1, .inl ⟨rfl, zeroR.mk, rfl⟩, h2⟩
  have hsn := pg_snd f n (bit22 (kd (f 0)))
  obtain ⟨N, t0, d, hp⟩ : ∃ N t d, pg f n (bit22 (kd (f 0))) = (N, t, d) := ⟨_, _, _, rfl⟩
  rw [hp] at hsn
  obtain ⟨t, rfl⟩ := Int.eq_ofNat_of_zero_le hsn
  have hkr := kd_rng (f 0)
  by_cases hd : d = 0
  case neg =>
    exact (rget_perr A n c f t N d (kd (f 0)) hkr w ha hb h0 hn rfl hp hd).mono fun e w' ⟨h1, h2⟩ => ⟨_, _, _, _, _, _, _, _, _, h1, .inr ⟨h0, N, t, d, hp, .inl ⟨hd, zeroR.mk, rfl⟩⟩, h2⟩
  subst hd
  have hbd := pg_bdB (bit_rng (f 0)) (show (pg f n (bit22 (kd (f 0)))).2.2 = 0 by rw [hp])
  rw [hp] at hbd
  have htn : t ≤ n := by
    have := hbd.2.2.2.2
    simp only at this
    omega
  clear hsn hbd
  by_cases hk : kd (f 0) = 1
  · by_cases hN : N = 0
    · subst hN
      exact (rget_idx0 A n c f t w ha hb h0 hn hk (by rw [hk] at hp; exact hp)).mono fun e w' ⟨h1, h2⟩ => ⟨_, _, _, _, _, _, _, _, _, h1, .inr ⟨h0, 0, t, 0, hp, .inr (.inl ⟨rfl, hk, rfl, zeroR.mk, rfl⟩)⟩, h2⟩
    · exact (rget_idx A n c f t N w ha hb h0 hn hk (by rw [hk] at hp; exact hp) hN).mono fun e w' ⟨h1, h2⟩ => ⟨_, _, _, _, _, _, _, _, _, h1, .inr ⟨h0, N, t, 0, hp, .inr (.inr (.inl ⟨rfl, hk, hN, rfl, rfl, rfl, rfl, rfl, rfl, rfl, rfl, rfl⟩))⟩, h2⟩
  have hk1 := hk
  clear hk
  by_cases hk : kd (f 0) = 5
  · exact (rget_size A n c f t N w ha hb h0 hn hk (by rw [hk] at hp; exact hp)).mono fun e w' ⟨h1, h2⟩ => ⟨_, _, _, _, _, _, _, _, _, h1, .inr ⟨h0, N, t, 0, hp, .inr (.inr (.inr (.inl ⟨rfl, hk, rfl, rfl, rfl, rfl, rfl, rfl, rfl, rfl, rfl⟩)))⟩, h2⟩
  have hk5 := hk
  clear hk
  have hk234 : kd (f 0) = 2 ∨ kd (f 0) = 3 ∨ kd (f 0) = 4 := by omega
  by_cases hN : N = 0
  · subst hN
    exact (rget_nv A n c f t (kd (f 0)) hk234 w ha hb h0 hn rfl hp htn).mono fun e w' ⟨s, sh, q, e1, hS, hh⟩ => by
        rcases hh with ⟨y1, h1, h2⟩ | ⟨rfl, s2, sh2, q2, e2, hS2, hh⟩
        · exact ⟨_, _, _, _, _, _, _, _, _, h1, .inr ⟨h0, 0, t, 0, hp, .inr (.inr (.inr (.inr (.inr ⟨rfl, hk1, hk5, rfl, s, sh, q, e1, hS, .inl ⟨y1, zeroR.mk, rfl⟩⟩))))⟩, h2⟩
        · rcases hh with ⟨y2, h1, h2⟩ | ⟨rfl, h1, h2⟩
          · exact ⟨_, _, _, _, _, _, _, _, _, h1, .inr ⟨h0, 0, t, 0, hp, .inr (.inr (.inr (.inr (.inr ⟨rfl, hk1, hk5, rfl, s, sh, q, 0, hS, .inr ⟨rfl, s2, sh2, q2, e2, hS2, .inl ⟨y2, zeroR.mk, rfl⟩⟩⟩))))⟩, h2⟩
          · exact ⟨_, _, _, _, _, _, _, _, _, h1, .inr ⟨h0, 0, t, 0, hp, .inr (.inr (.inr (.inr (.inr ⟨rfl, hk1, hk5, rfl, s, sh, q, 0, hS, .inr ⟨rfl, s2, sh2, q2, 0, hS2, .inr ⟨rfl, rfl, rfl, rfl, rfl, rfl, rfl, rfl, rfl, rfl⟩⟩⟩))))⟩, h2⟩
  · exact (rget_v A n c f t N (kd (f 0)) hk234 w ha hb h0 hn rfl hp hN htn).mono fun e w' ⟨s, sh, q, e1, hS, hh⟩ => by
        rcases hh with ⟨y1, h1, h2⟩ | ⟨rfl, h1, h2⟩
        · exact ⟨_, _, _, _, _, _, _, _, _, h1, .inr ⟨h0, N, t, 0, hp, .inr (.inr (.inr (.inr (.inl ⟨rfl, hk1, hk5, hN, s, sh, q, e1, hS, .inl ⟨y1, zeroR.mk, rfl⟩⟩))))⟩, h2⟩
        · exact ⟨_, _, _, _, _, _, _, _, _, h1, .inr ⟨h0, N, t, 0, hp, .inr (.inr (.inr (.inr (.inl ⟨rfl, hk1, hk5, hN, s, sh, q, 0, hS, .inr ⟨rfl, rfl, rfl, rfl, rfl, rfl, rfl, rfl, rfl, rfl⟩⟩))))⟩, h2⟩
end

section
open Go.RowKit Go.PlainAid

theorem noT_of {s : ByteArray} {a : Bool} (h : noT s a = true) : s = ⟨#[]⟩ ∧ a = false := by
  unfold noT at h
  rw [Bool.and_eq_true] at h
  refine ⟨?_, by simpa using h.2⟩
  have h1 := List.isEmpty_iff.1 h.1
  rw [ByteArray.toList_eq] at h1
  apply ByteArray.ext
  exact Array.toList_inj.1 h1
theorem isN_of {n : Int} (h : isN n = true) : 0 ≤ n ∧ n ≤ 2147483647 := by
  unfold isN at h
  rw [Bool.and_eq_true] at h
  exact ⟨of_decide_eq_true h.1, of_decide_eq_true h.2⟩
/-- What one that is right looks like. -/
theorem rpB_cases {k i : Int} {ns : ByteArray} {a : Bool} {vs : ByteArray} {b : Bool} {z : Int} (h : rpB k i ns a vs b z = true) :
    (k = 1 ∧ 0 < i ∧ i ≤ 2147483647 ∧ ns = ⟨#[]⟩ ∧ a = false ∧ vs = ⟨#[]⟩ ∧ b = false ∧ z = 0) ∨ (k = 5 ∧ 0 ≤ z ∧ z ≤ 2147483647 ∧ i = 0 ∧ ns = ⟨#[]⟩ ∧ a = false ∧ vs = ⟨#[]⟩ ∧ b = false) ∨
    ((k = 2 ∨ k = 3 ∨ k = 4) ∧ z = 0 ∧ (i = 0 ∨ (0 < i ∧ i ≤ 2147483647 ∧ ns = ⟨#[]⟩ ∧ a = false))) := by
  unfold rpB at h
  split at h
  · rename_i hk
    simp only [Bool.and_eq_true, decide_eq_true_eq, beq_iff_eq] at h
    obtain ⟨h1, h2, h3, h4, h5⟩ := h
    obtain ⟨rfl, rfl⟩ := noT_of h3
    obtain ⟨rfl, rfl⟩ := noT_of h4
    exact .inl ⟨hk, h1, (isN_of h2).2, rfl, rfl, rfl, rfl, h5⟩
  · split at h
    · rename_i hk
      simp only [Bool.and_eq_true, Bool.or_eq_true, beq_iff_eq] at h
      obtain ⟨h1, h2, h3⟩ := h
      refine .inr (.inr ⟨hk, h2, ?_⟩)
      by_cases h0 : i = 0
      · exact .inl h0
      · rcases h3 with h3 | h3
        · exact absurd h3 h0
        · obtain ⟨rfl, rfl⟩ := noT_of h3
          have := isN_of h1
          exact .inr ⟨by omega, this.2, rfl, rfl⟩
    · split at h
      · rename_i hk
        simp only [Bool.and_eq_true, beq_iff_eq] at h
        obtain ⟨h1, h2, h3, h4⟩ := h
        obtain ⟨rfl, rfl⟩ := noT_of h3
        obtain ⟨rfl, rfl⟩ := noT_of h4
        have := isN_of h1
        exact .inr (.inl ⟨hk, this.1, this.2, h2, rfl, rfl, rfl, rfl⟩)
      · cases h
theorem put22 (k i : Int) (ns : ByteArray) (a : Bool) (vs : ByteArray) (b : Bool) (z : Int) (hns : ns.size ≤ 1000) (hvs : vs.size ≤ 1000) (w : World) (hr : rpB k i ns a vs b z = true) (T : TypeId) (fr : Nat × Nat) (hg : w.heap[0]? = some (.cells formsV T fr)) : Calls Tryd.prog 65 #[.agg #[.int .i64 k, .int .i64 i, .string ns, .bool a, .string vs, .bool b, .int .i64 z]] w (PutG (rpN k i ns a vs b z) (rpF k i ns a vs b z) w) := by
  rcases rpB_cases hr with ⟨rfl, h1, h2, rfl, rfl, rfl, rfl, rfl⟩ | ⟨rfl, h1, h2, rfl, rfl, rfl, rfl, rfl⟩ | ⟨hk, rfl, rfl | ⟨h1, h2, rfl, rfl⟩⟩
  · exact put22_1 i h1 h2 w T fr hg
  · exact put22_5 z h1 h2 w T fr hg
  · rcases hk with rfl | rfl | rfl
    · exact put22_2z ns a vs b hns hvs w T fr hg
    · exact put22_3z ns a vs b hns hvs w T fr hg
    · exact put22_4z ns a vs b hns hvs w T fr hg
  · have hi : i ≠ 0 := by omega
    rcases hk with rfl | rfl | rfl
    · have hN : rpN 2 i ⟨#[]⟩ false vs b 0 = pfN 6 i + slN vs b := by unfold rpN; rw [if_neg (by decide), if_neg (by decide), if_neg hi]; rfl
      have hF : rpF 2 i ⟨#[]⟩ false vs b 0 = catF (pfN 6 i) (pfF 64 6 i) (slF vs b) := by unfold rpF; rw [if_neg (by decide), if_neg (by decide), if_neg hi]; rfl
      rw [hN, hF]
      exact put22_2n i vs b hvs h1 h2 w T fr hg
    · have hN : rpN 3 i ⟨#[]⟩ false vs b 0 = pfN 4 i + slN vs b := by unfold rpN; rw [if_neg (by decide), if_neg (by decide), if_neg hi]; rfl
      have hF : rpF 3 i ⟨#[]⟩ false vs b 0 = catF (pfN 4 i) (pfF 0 4 i) (slF vs b) := by unfold rpF; rw [if_neg (by decide), if_neg (by decide), if_neg hi]; rfl
      rw [hN, hF]
      exact put22_3n i vs b hvs h1 h2 w T fr hg
    · have hN : rpN 4 i ⟨#[]⟩ false vs b 0 = pfN 4 i + slN vs b := by unfold rpN; rw [if_neg (by decide), if_neg (by decide), if_neg hi]; rfl
      have hF : rpF 4 i ⟨#[]⟩ false vs b 0 = catF (pfN 4 i) (pfF 16 4 i) (slF vs b) := by unfold rpF; rw [if_neg (by decide), if_neg (by decide), if_neg hi]; rfl
      rw [hN, hF]
      exact put22_4n i vs b hvs h1 h2 w T fr hg
theorem rput22 (k i : Int) (ns : ByteArray) (a : Bool) (vs : ByteArray) (b : Bool) (z : Int) (hns : ns.size ≤ 1000) (hvs : vs.size ≤ 1000) (w : World) (hr : rpB k i ns a vs b z = true)  : Calls Tryd.prog 46 #[.agg #[.int .i64 k, .int .i64 i, .string ns, .bool a, .string vs, .bool b, .int .i64 z]] w (Cloned w (rpN k i ns a vs b z) (rpF k i ns a vs b z)) := by
  rcases rpB_cases hr with ⟨rfl, h1, h2, rfl, rfl, rfl, rfl, rfl⟩ | ⟨rfl, h1, h2, rfl, rfl, rfl, rfl, rfl⟩ | ⟨hk, rfl, rfl | ⟨h1, h2, rfl, rfl⟩⟩
  · exact rput22_1 i h1 h2 w
  · exact rput22_5 z h1 h2 w
  · rcases hk with rfl | rfl | rfl
    · exact rput22_2z ns a vs b hns hvs w
    · exact rput22_3z ns a vs b hns hvs w
    · exact rput22_4z ns a vs b hns hvs w
  · have hi : i ≠ 0 := by omega
    rcases hk with rfl | rfl | rfl
    · have hN : rpN 2 i ⟨#[]⟩ false vs b 0 = pfN 6 i + slN vs b := by unfold rpN; rw [if_neg (by decide), if_neg (by decide), if_neg hi]; rfl
      have hF : rpF 2 i ⟨#[]⟩ false vs b 0 = catF (pfN 6 i) (pfF 64 6 i) (slF vs b) := by unfold rpF; rw [if_neg (by decide), if_neg (by decide), if_neg hi]; rfl
      rw [hN, hF]
      exact rput22_2n i vs b hvs h1 h2 w
    · have hN : rpN 3 i ⟨#[]⟩ false vs b 0 = pfN 4 i + slN vs b := by unfold rpN; rw [if_neg (by decide), if_neg (by decide), if_neg hi]; rfl
      have hF : rpF 3 i ⟨#[]⟩ false vs b 0 = catF (pfN 4 i) (pfF 0 4 i) (slF vs b) := by unfold rpF; rw [if_neg (by decide), if_neg (by decide), if_neg hi]; rfl
      rw [hN, hF]
      exact rput22_3n i vs b hvs h1 h2 w
    · have hN : rpN 4 i ⟨#[]⟩ false vs b 0 = pfN 4 i + slN vs b := by unfold rpN; rw [if_neg (by decide), if_neg (by decide), if_neg hi]; rfl
      have hF : rpF 4 i ⟨#[]⟩ false vs b 0 = catF (pfN 4 i) (pfF 16 4 i) (slF vs b) := by unfold rpF; rw [if_neg (by decide), if_neg (by decide), if_neg hi]; rfl
      rw [hN, hF]
      exact rput22_4n i vs b hvs h1 h2 w
set_option maxRecDepth 20000 in
set_option maxHeartbeats 1600000 in
theorem put22_no (k i : Int) (ns : ByteArray) (a : Bool) (vs : ByteArray) (b : Bool) (z : Int) (w : World) (hr : rpB k i ns a vs b z = false) : Calls Tryd.prog 65 #[.agg #[.int .i64 k, .int .i64 i, .string ns, .bool a, .string vs, .bool b, .int .i64 z]] w fun e w' => e = .returned (.tuple #[.slice none 0 0, .int .i64 1]) ∧ Below w.heap.size w w' := by
  have R0 := hide (heap_alloc_new w (.cells #[.int .i64 k, .int .i64 i, .string ns, .bool a, .string vs, .bool b, .int .i64 z] 81))
  have E0 := hide ((Below.refl w.heap.size w).alloc (Nat.le_refl _) (.cells #[.int .i64 k, .int .i64 i, .string ns, .bool a, .string vs, .bool b, .int .i64 z] 81))
  have HR := hide hr
  clear hr
  go_enter Tryd.func65, Tryd.ntmps65
  obtain ⟨c0, c1, c2, c3, c4, c5, c6⟩ := row7 R0.out
  go_wp2_with fail
  refine (right22 k i ns a vs b z _).mono ?_
  rw [HR.out]
  rintro e w1 ⟨rfl, hb⟩
  have E1 := hide (E0.out.of hb)
  clear hb
  go_wp2_with fail
  go_ret2
  exact ⟨rfl, E1.out⟩
theorem results_cell1 {fn : Func} {p : Tmp} {ty : TypeId} (h : fn.results = #[.cell p ty]) (tmps : Array Value) (P : Program) (w : World) :
    (results fn tmps).run P w = ((asAddr (tmps.getD p undef)).run P w).andThen fun a w' => (loadVar ty a).run P w' := by
  simp [results, h]
def e22a : Nat → Int := oneF 130
def e22b : Nat → Int := fun j => if j = 0 then 64 else if j = 1 then 1 else if j = 2 then 97 else 0
def e22c : Nat → Int := fun j => if j = 0 then 63 else 0
theorem e22a_r : GtR e22a 1 1 2 ⟨#[]⟩ false ⟨#[]⟩ false 0 1 0 := .inr ⟨by decide, 2, 1, 0, by decide, .inr (.inr (.inl ⟨rfl, by decide, by decide, rfl, rfl, rfl, rfl, rfl, rfl, rfl, rfl, rfl⟩))⟩
theorem e22b_s1 : SlR (fun j => e22b (1 + j)) (4 - 1) (4 : Nat) ⟨#[97]⟩ false 2 0 := ⟨1, 1, 0, by decide, .inr (.inr (.inr (.inl ⟨rfl, by decide, by decide, by decide, by decide +kernel, rfl, rfl, rfl⟩)))⟩
theorem e22b_s2 : SlR (fun j => e22b (1 + (2 : Int).toNat + j)) (4 - (1 + (2 : Int).toNat)) (4 : Nat) ⟨#[]⟩ false 1 0 := ⟨0, 1, 0, by decide, .inr (.inr (.inr (.inl ⟨rfl, by decide, by decide, by decide, by decide +kernel, rfl, rfl, rfl⟩)))⟩
theorem e22b_r : GtR e22b 4 2 0 ⟨#[97]⟩ false ⟨#[]⟩ false 0 4 0 := .inr ⟨by decide, 0, 1, 0, by decide, .inr (.inr (.inr (.inr (.inr ⟨rfl, by decide, by decide, rfl, _, _, _, _, e22b_s1, .inr ⟨rfl, _, _, _, _, e22b_s2, .inr ⟨rfl, by decide, rfl, rfl, rfl, rfl, rfl, rfl, rfl, rfl⟩⟩⟩))))⟩
theorem e22c_r : GtR e22c 2 5 0 ⟨#[]⟩ false ⟨#[]⟩ false 31 2 0 := .inr ⟨by decide, 31, 2, 0, by decide, .inr (.inr (.inr (.inl ⟨rfl, by decide, rfl, rfl, rfl, rfl, rfl, rfl, rfl, rfl, rfl⟩)))⟩
theorem byt22 {n : Nat} {f : Nat → Int} (h : f = e22a ∨ f = e22b ∨ f = e22c) : Byt n f := fun j _ => by
  rcases h with rfl | rfl | rfl
  · simp [e22a, oneF]
  · unfold e22b
    (repeat' split) <;> omega
  · unfold e22c
    (repeat' split) <;> omega
end
end Go.Proofs.YtnkcbljhgcgpaaaDoor
