/- Layer 22: what bytes begin with, by the reference, way by way. -/
import Derived.Test.YtdnfhddahpmnmabDoorRp8
import Derived.Deep.Cut
namespace Go.Proofs.YtdnfhddahpmnmabDoor
open Go.RowKit Go.PlainAid

set_option maxRecDepth 100000 in
set_option maxHeartbeats 6400000 in
theorem rget_none (c : Nat) (A : Option Addr) (w : World) : Calls Tryd.prog 20 #[.slice A 0 c] w fun e w' => e = .returned (.tuple #[.agg #[.int .i64 0, .int .i64 0, .string ⟨#[]⟩, .bool false, .string ⟨#[]⟩, .bool false, .int .i64 0], .int .i64 0, .int .i64 3]) ∧ Below w.heap.size w w' := by
  have R0 := hide (heap_alloc_new w (.cells #[.int .i64 0, .int .i64 0, .string ⟨#[]⟩, .bool false, .string ⟨#[]⟩, .bool false, .int .i64 0] 27))
  have al := (Below.refl w.heap.size w).alloc (Nat.le_refl _) (.cells #[.int .i64 0, .int .i64 0, .string ⟨#[]⟩, .bool false, .string ⟨#[]⟩, .bool false, .int .i64 0] 27)
  have E0 := hide al
  clear al
  go_enter Tryd.func20, Tryd.ntmps20
  go_upto_region 1 with (fail)
  generalize w.alloc (.cells #[.int .i64 0, .int .i64 0, .string ⟨#[]⟩, .bool false, .string ⟨#[]⟩, .bool false, .int .i64 0] 27) = W0 at *
  obtain ⟨⟨k0, y0⟩, ⟨k1, y1⟩, ⟨k2, y2⟩, ⟨k3, y3⟩, ⟨k4, y4⟩, ⟨k5, y5⟩, ⟨k6, y6⟩, rz⟩ := store7 R0.out (.int .i64 0) (.int .i64 0) (.string ⟨#[]⟩) (.bool false) (.string ⟨#[]⟩) (.bool false) (.int .i64 0)
  have RZ := hide rz
  have EE := hide (below7 E0.out (p := w.heap.size) (Nat.le_refl _) (.int .i64 0) (.int .i64 0) (.string ⟨#[]⟩) (.bool false) (.string ⟨#[]⟩) (.bool false) (.int .i64 0))
  clear rz
  go_wp2_with fail
  obtain ⟨m0_, m1_, m2_, m3_, m4_, m5_, m6_⟩ := row7 RZ.out
  refine bodyPost_ret (v := .tuple #[.agg #[.int .i64 0, .int .i64 0, .string ⟨#[]⟩, .bool false, .string ⟨#[]⟩, .bool false, .int .i64 0], .int .i64 0, .int .i64 3]) ?_ rfl ⟨rfl, EE.out⟩
  rw [results_cell_tmp2 rfl]
  go_simp
set_option maxRecDepth 100000 in
set_option maxHeartbeats 6400000 in
theorem rget_perr (A : Option Addr) (n c : Nat) (f : Nat → Int) (t : Nat) (N : Int) (d : Int) (K : Int) (hk : K = 1 ∨ K = 2 ∨ K = 3 ∨ K = 4 ∨ K = 5) (w : World) (ha : Rd .u8 w A n c f) (hb : Byt n f) (h0 : 0 < n) (hn : n ≤ 1000) (hkd : kd (f 0) = K) (hp : pg f n (bit22 K) = (N, (t : Int), d)) (hd : d ≠ 0) : Calls Tryd.prog 20 #[.slice A n c] w fun e w' => e = .returned (.tuple #[.agg #[.int .i64 0, .int .i64 0, .string ⟨#[]⟩, .bool false, .string ⟨#[]⟩, .bool false, .int .i64 0], .int .i64 0, .int .i64 d]) ∧ Below w.heap.size w w' := by
  have R0 := hide (heap_alloc_new w (.cells #[.int .i64 0, .int .i64 0, .string ⟨#[]⟩, .bool false, .string ⟨#[]⟩, .bool false, .int .i64 0] 27))
  have al := (Below.refl w.heap.size w).alloc (Nat.le_refl _) (.cells #[.int .i64 0, .int .i64 0, .string ⟨#[]⟩, .bool false, .string ⟨#[]⟩, .bool false, .int .i64 0] 27)
  have E0 := hide al
  have Ha := hide (ha.below al)
  have Hb := hide hb
  have HK := hide hkd
  have HP := hide hp
  have hx := hb 0 h0
  obtain ⟨bb, off, rfl, hx0⟩ := ha.at_ (i := 0) h0
  rw [Nat.add_zero] at hx0
  have hx1 := (al.cell (World.block_lt_of_cell? w _ hx0)).trans hx0
  have nz : (n == 0) = false := by simp; omega
  have nz2 : ((n : Int) == 0) = false := by simp; omega
  have nz3 : decide (0 < n) = true := decide_eq_true h0
  obtain ⟨x, hxx⟩ : ∃ x, f 0 = x := ⟨_, rfl⟩
  rw [hxx] at hx hx1 HK
  have hxa := hx.1
  have hxb := hx.2
  have td : (d != 0) = true := by simpa using hd
  have hk5 := hk
  clear hd hk
  have HK5 := hide hk5
  clear al ha hb hkd hp hx0 hxx hx hk5
  go_enter Tryd.func20, Tryd.ntmps20
  go_upto_region 1 with (fail)
  generalize w.alloc (.cells #[.int .i64 0, .int .i64 0, .string ⟨#[]⟩, .bool false, .string ⟨#[]⟩, .bool false, .int .i64 0] 27) = W0 at *
  go_wp2_with fail
  refine (rkind22 x hxa hxb _).mono ?_
  rw [HK.out]
  rintro e w1 ⟨rfl, rfl⟩
  have al := (Below.refl W0.heap.size W0).alloc (Nat.le_refl _) (.cells #[.int .i64 K, .int .i64 0, .string ⟨#[]⟩, .bool false, .string ⟨#[]⟩, .bool false, .int .i64 0] 27)
  have Q1 := hide (heap_alloc_new W0 (.cells #[.int .i64 K, .int .i64 0, .string ⟨#[]⟩, .bool false, .string ⟨#[]⟩, .bool false, .int .i64 0] 27))
  have R1 := hide (keepRow R0.out al)
  have E1 := hide (E0.out.of al)
  have Ha1 := hide (Ha.out.below al)
  have hne := rowLt R0.out
  clear al R0 E0 Ha
  go_upto_region 4 with (fail)
  clear hx1
  generalize hW : W0.alloc (.cells #[.int .i64 K, .int .i64 0, .string ⟨#[]⟩, .bool false, .string ⟨#[]⟩, .bool false, .int .i64 0] 27) = W1 at *
  generalize W0.heap.size = p at *
  clear hW
  have hAp : Hid (∀ b off2, (some (⟨bb, off, none⟩ : Addr)) = some ⟨b, off2, none⟩ → b ≠ p) := fun b off2 e h => by
    injection e with e1
    injection e1 with e2 e3
    subst e2 h
    have h1 := rd_cellS Ha1.out h0
    rw [cell_of_row W1 _ _ _ _ _ Q1.out] at h1
    have h2 : off + 0 = 0 ∨ off + 0 = 1 ∨ off + 0 = 2 ∨ off + 0 = 3 ∨ off + 0 = 4 ∨ off + 0 = 5 ∨ off + 0 = 6 ∨ 7 ≤ off + 0 := by omega
    rcases h2 with h2 | h2 | h2 | h2 | h2 | h2 | h2 | h2
    all_goals first
      | (rw [h2] at h1; simp at h1; done)
      | (rw [Array.getElem?_eq_none (by simpa using h2)] at h1; cases h1)
  obtain ⟨q0_, q1_, q2_, q3_, q4_, q5_, q6_⟩ := row7 Q1.out
  go_wp2_with fail
  refine (rbegin22 K HK5.out _).mono ?_
  rintro e w2 ⟨rfl, rfl⟩
  go_wp2_with fail
  refine (rpget_any _ n c f (bit22 K) _ Ha1.out Hb.out (by omega)).mono ?_
  rw [HP.out]
  rintro e w3 ⟨rfl, hd2⟩
  have R3 := hide (keepRow R1.out (drawn_below hd2 _))
  have E3 := hide (E1.out.of (drawn_below hd2 _))
  have Q3 := hide (keepRow Q1.out (drawn_below hd2 _))
  have Ha3 := hide (Ha1.out.drawn hd2)
  clear hd2 R1 E1 Q1 Ha1 q0_ q1_ q2_ q3_ q4_ q5_ q6_
  obtain ⟨⟨k0, y0⟩, ⟨k1, y1⟩, ⟨k2, y2⟩, ⟨k3, y3⟩, ⟨k4, y4⟩, ⟨k5, y5⟩, ⟨k6, y6⟩, rz⟩ := store7 R3.out (.int .i64 0) (.int .i64 0) (.string ⟨#[]⟩) (.bool false) (.string ⟨#[]⟩) (.bool false) (.int .i64 0)
  have RZ := hide rz
  have EE := hide (below7 E3.out (p := w.heap.size) (Nat.le_refl _) (.int .i64 0) (.int .i64 0) (.string ⟨#[]⟩) (.bool false) (.string ⟨#[]⟩) (.bool false) (.int .i64 0))
  clear rz
  go_wp2_with fail
  obtain ⟨m0_, m1_, m2_, m3_, m4_, m5_, m6_⟩ := row7 RZ.out
  refine bodyPost_ret (v := .tuple #[.agg #[.int .i64 0, .int .i64 0, .string ⟨#[]⟩, .bool false, .string ⟨#[]⟩, .bool false, .int .i64 0], .int .i64 0, .int .i64 d]) ?_ rfl ⟨rfl, EE.out⟩
  rw [results_cell_tmp2 rfl]
  go_simp
set_option maxRecDepth 100000 in
set_option maxHeartbeats 6400000 in
theorem rget_idx0 (A : Option Addr) (n c : Nat) (f : Nat → Int) (t : Nat) (w : World) (ha : Rd .u8 w A n c f) (hb : Byt n f) (h0 : 0 < n) (hn : n ≤ 1000) (hkd : kd (f 0) = 1) (hp : pg f n (bit22 1) = (0, (t : Int), 0)) : Calls Tryd.prog 20 #[.slice A n c] w fun e w' => e = .returned (.tuple #[.agg #[.int .i64 0, .int .i64 0, .string ⟨#[]⟩, .bool false, .string ⟨#[]⟩, .bool false, .int .i64 0], .int .i64 0, .int .i64 12]) ∧ Below w.heap.size w w' := by
  have R0 := hide (heap_alloc_new w (.cells #[.int .i64 0, .int .i64 0, .string ⟨#[]⟩, .bool false, .string ⟨#[]⟩, .bool false, .int .i64 0] 27))
  have al := (Below.refl w.heap.size w).alloc (Nat.le_refl _) (.cells #[.int .i64 0, .int .i64 0, .string ⟨#[]⟩, .bool false, .string ⟨#[]⟩, .bool false, .int .i64 0] 27)
  have E0 := hide al
  have Ha := hide (ha.below al)
  have Hb := hide hb
  have HK := hide hkd
  have HP := hide hp
  have hx := hb 0 h0
  obtain ⟨bb, off, rfl, hx0⟩ := ha.at_ (i := 0) h0
  rw [Nat.add_zero] at hx0
  have hx1 := (al.cell (World.block_lt_of_cell? w _ hx0)).trans hx0
  have nz : (n == 0) = false := by simp; omega
  have nz2 : ((n : Int) == 0) = false := by simp; omega
  have nz3 : decide (0 < n) = true := decide_eq_true h0
  obtain ⟨x, hxx⟩ : ∃ x, f 0 = x := ⟨_, rfl⟩
  rw [hxx] at hx hx1 HK
  have hxa := hx.1
  have hxb := hx.2
  have hk5 : (1 : Int) = 1 ∨ (1 : Int) = 2 ∨ (1 : Int) = 3 ∨ (1 : Int) = 4 ∨ (1 : Int) = 5 := by decide
  have HK5 := hide hk5
  clear al ha hb hkd hp hx0 hxx hx hk5
  go_enter Tryd.func20, Tryd.ntmps20
  go_upto_region 1 with (fail)
  generalize w.alloc (.cells #[.int .i64 0, .int .i64 0, .string ⟨#[]⟩, .bool false, .string ⟨#[]⟩, .bool false, .int .i64 0] 27) = W0 at *
  go_wp2_with fail
  refine (rkind22 x hxa hxb _).mono ?_
  rw [HK.out]
  rintro e w1 ⟨rfl, rfl⟩
  have al := (Below.refl W0.heap.size W0).alloc (Nat.le_refl _) (.cells #[.int .i64 1, .int .i64 0, .string ⟨#[]⟩, .bool false, .string ⟨#[]⟩, .bool false, .int .i64 0] 27)
  have Q1 := hide (heap_alloc_new W0 (.cells #[.int .i64 1, .int .i64 0, .string ⟨#[]⟩, .bool false, .string ⟨#[]⟩, .bool false, .int .i64 0] 27))
  have R1 := hide (keepRow R0.out al)
  have E1 := hide (E0.out.of al)
  have Ha1 := hide (Ha.out.below al)
  have hne := rowLt R0.out
  clear al R0 E0 Ha
  go_upto_region 4 with (fail)
  clear hx1
  generalize hW : W0.alloc (.cells #[.int .i64 1, .int .i64 0, .string ⟨#[]⟩, .bool false, .string ⟨#[]⟩, .bool false, .int .i64 0] 27) = W1 at *
  generalize W0.heap.size = p at *
  clear hW
  have hAp : Hid (∀ b off2, (some (⟨bb, off, none⟩ : Addr)) = some ⟨b, off2, none⟩ → b ≠ p) := fun b off2 e h => by
    injection e with e1
    injection e1 with e2 e3
    subst e2 h
    have h1 := rd_cellS Ha1.out h0
    rw [cell_of_row W1 _ _ _ _ _ Q1.out] at h1
    have h2 : off + 0 = 0 ∨ off + 0 = 1 ∨ off + 0 = 2 ∨ off + 0 = 3 ∨ off + 0 = 4 ∨ off + 0 = 5 ∨ off + 0 = 6 ∨ 7 ≤ off + 0 := by omega
    rcases h2 with h2 | h2 | h2 | h2 | h2 | h2 | h2 | h2
    all_goals first
      | (rw [h2] at h1; simp at h1; done)
      | (rw [Array.getElem?_eq_none (by simpa using h2)] at h1; cases h1)
  obtain ⟨q0_, q1_, q2_, q3_, q4_, q5_, q6_⟩ := row7 Q1.out
  go_wp2_with fail
  refine (rbegin22 1 (by decide) _).mono ?_
  rintro e w2 ⟨rfl, rfl⟩
  go_wp2_with fail
  refine (rpget_any _ n c f (bit22 1) _ Ha1.out Hb.out (by omega)).mono ?_
  rw [HP.out]
  rintro e w3 ⟨rfl, hd2⟩
  have R3 := hide (keepRow R1.out (drawn_below hd2 _))
  have E3 := hide (E1.out.of (drawn_below hd2 _))
  have Q3 := hide (keepRow Q1.out (drawn_below hd2 _))
  have Ha3 := hide (Ha1.out.drawn hd2)
  clear hd2 R1 E1 Q1 Ha1 q0_ q1_ q2_ q3_ q4_ q5_ q6_
  obtain ⟨q0_, q1_, q2_, q3_, q4_, q5_, q6_⟩ := row7 Q3.out
  have z0 := frozenRow Q3.out 1
  have s0 := setRow w3 p 1 (.int .i64 0) Q3.out
  simp only [List.setIfInBounds_toArray, List.set_cons_zero, List.set_cons_succ] at s0
  have Q4 := hide s0
  have E4 := hide (E3.out.setCell (p := ⟨p, 1, none⟩) (Nat.le_of_lt hne) (.int .i64 0))
  have R4 := hide ((Below.heap_setCell w3 ⟨p, 1, none⟩ (.int .i64 0) _ (Nat.ne_of_lt hne)).trans R3.out)
  have Ha4 := hide (Ha3.out.other (grown_set w3 p 1 (.int .i64 0)) hAp.out)
  clear s0
  go_upto_region 12 with (fail)
  clear z0 q0_ q1_ q2_ q3_ q4_ q5_ q6_ R3 E3 Q3 Ha3
  generalize w3.setCell ⟨p, 1, none⟩ (.int .i64 0) = W4 at *
  obtain ⟨q0_, q1_, q2_, q3_, q4_, q5_, q6_⟩ := row7 Q4.out
  obtain ⟨⟨k0, y0⟩, ⟨k1, y1⟩, ⟨k2, y2⟩, ⟨k3, y3⟩, ⟨k4, y4⟩, ⟨k5, y5⟩, ⟨k6, y6⟩, rz⟩ := store7 R4.out (.int .i64 0) (.int .i64 0) (.string ⟨#[]⟩) (.bool false) (.string ⟨#[]⟩) (.bool false) (.int .i64 0)
  have RZ := hide rz
  have EE := hide (below7 E4.out (p := w.heap.size) (Nat.le_refl _) (.int .i64 0) (.int .i64 0) (.string ⟨#[]⟩) (.bool false) (.string ⟨#[]⟩) (.bool false) (.int .i64 0))
  clear rz
  go_wp2_with fail
  obtain ⟨m0_, m1_, m2_, m3_, m4_, m5_, m6_⟩ := row7 RZ.out
  refine bodyPost_ret (v := .tuple #[.agg #[.int .i64 0, .int .i64 0, .string ⟨#[]⟩, .bool false, .string ⟨#[]⟩, .bool false, .int .i64 0], .int .i64 0, .int .i64 12]) ?_ rfl ⟨rfl, EE.out⟩
  rw [results_cell_tmp2 rfl]
  go_simp
set_option maxRecDepth 100000 in
set_option maxHeartbeats 6400000 in
theorem rget_idx (A : Option Addr) (n c : Nat) (f : Nat → Int) (t : Nat) (N : Int) (w : World) (ha : Rd .u8 w A n c f) (hb : Byt n f) (h0 : 0 < n) (hn : n ≤ 1000) (hkd : kd (f 0) = 1) (hp : pg f n (bit22 1) = (N, (t : Int), 0)) (hN : N ≠ 0) : Calls Tryd.prog 20 #[.slice A n c] w fun e w' => e = .returned (.tuple #[.agg #[.int .i64 1, .int .i64 N, .string ⟨#[]⟩, .bool false, .string ⟨#[]⟩, .bool false, .int .i64 0], .int .i64 (t : Int), .int .i64 0]) ∧ Below w.heap.size w w' := by
  have R0 := hide (heap_alloc_new w (.cells #[.int .i64 0, .int .i64 0, .string ⟨#[]⟩, .bool false, .string ⟨#[]⟩, .bool false, .int .i64 0] 27))
  have al := (Below.refl w.heap.size w).alloc (Nat.le_refl _) (.cells #[.int .i64 0, .int .i64 0, .string ⟨#[]⟩, .bool false, .string ⟨#[]⟩, .bool false, .int .i64 0] 27)
  have E0 := hide al
  have Ha := hide (ha.below al)
  have Hb := hide hb
  have HK := hide hkd
  have HP := hide hp
  have hx := hb 0 h0
  obtain ⟨bb, off, rfl, hx0⟩ := ha.at_ (i := 0) h0
  rw [Nat.add_zero] at hx0
  have hx1 := (al.cell (World.block_lt_of_cell? w _ hx0)).trans hx0
  have nz : (n == 0) = false := by simp; omega
  have nz2 : ((n : Int) == 0) = false := by simp; omega
  have nz3 : decide (0 < n) = true := decide_eq_true h0
  obtain ⟨x, hxx⟩ : ∃ x, f 0 = x := ⟨_, rfl⟩
  rw [hxx] at hx hx1 HK
  have hxa := hx.1
  have hxb := hx.2
  have tN : (N == 0) = false := by simpa using hN
  clear hN
  have hk5 : (1 : Int) = 1 ∨ (1 : Int) = 2 ∨ (1 : Int) = 3 ∨ (1 : Int) = 4 ∨ (1 : Int) = 5 := by decide
  have HK5 := hide hk5
  clear al ha hb hkd hp hx0 hxx hx hk5
  go_enter Tryd.func20, Tryd.ntmps20
  go_upto_region 1 with (fail)
  generalize w.alloc (.cells #[.int .i64 0, .int .i64 0, .string ⟨#[]⟩, .bool false, .string ⟨#[]⟩, .bool false, .int .i64 0] 27) = W0 at *
  go_wp2_with fail
  refine (rkind22 x hxa hxb _).mono ?_
  rw [HK.out]
  rintro e w1 ⟨rfl, rfl⟩
  have al := (Below.refl W0.heap.size W0).alloc (Nat.le_refl _) (.cells #[.int .i64 1, .int .i64 0, .string ⟨#[]⟩, .bool false, .string ⟨#[]⟩, .bool false, .int .i64 0] 27)
  have Q1 := hide (heap_alloc_new W0 (.cells #[.int .i64 1, .int .i64 0, .string ⟨#[]⟩, .bool false, .string ⟨#[]⟩, .bool false, .int .i64 0] 27))
  have R1 := hide (keepRow R0.out al)
  have E1 := hide (E0.out.of al)
  have Ha1 := hide (Ha.out.below al)
  have hne := rowLt R0.out
  clear al R0 E0 Ha
  go_upto_region 4 with (fail)
  clear hx1
  generalize hW : W0.alloc (.cells #[.int .i64 1, .int .i64 0, .string ⟨#[]⟩, .bool false, .string ⟨#[]⟩, .bool false, .int .i64 0] 27) = W1 at *
  generalize W0.heap.size = p at *
  clear hW
  have hAp : Hid (∀ b off2, (some (⟨bb, off, none⟩ : Addr)) = some ⟨b, off2, none⟩ → b ≠ p) := fun b off2 e h => by
    injection e with e1
    injection e1 with e2 e3
    subst e2 h
    have h1 := rd_cellS Ha1.out h0
    rw [cell_of_row W1 _ _ _ _ _ Q1.out] at h1
    have h2 : off + 0 = 0 ∨ off + 0 = 1 ∨ off + 0 = 2 ∨ off + 0 = 3 ∨ off + 0 = 4 ∨ off + 0 = 5 ∨ off + 0 = 6 ∨ 7 ≤ off + 0 := by omega
    rcases h2 with h2 | h2 | h2 | h2 | h2 | h2 | h2 | h2
    all_goals first
      | (rw [h2] at h1; simp at h1; done)
      | (rw [Array.getElem?_eq_none (by simpa using h2)] at h1; cases h1)
  obtain ⟨q0_, q1_, q2_, q3_, q4_, q5_, q6_⟩ := row7 Q1.out
  go_wp2_with fail
  refine (rbegin22 1 (by decide) _).mono ?_
  rintro e w2 ⟨rfl, rfl⟩
  go_wp2_with fail
  refine (rpget_any _ n c f (bit22 1) _ Ha1.out Hb.out (by omega)).mono ?_
  rw [HP.out]
  rintro e w3 ⟨rfl, hd2⟩
  have R3 := hide (keepRow R1.out (drawn_below hd2 _))
  have E3 := hide (E1.out.of (drawn_below hd2 _))
  have Q3 := hide (keepRow Q1.out (drawn_below hd2 _))
  have Ha3 := hide (Ha1.out.drawn hd2)
  clear hd2 R1 E1 Q1 Ha1 q0_ q1_ q2_ q3_ q4_ q5_ q6_
  obtain ⟨q0_, q1_, q2_, q3_, q4_, q5_, q6_⟩ := row7 Q3.out
  have z0 := frozenRow Q3.out 1
  have s0 := setRow w3 p 1 (.int .i64 N) Q3.out
  simp only [List.setIfInBounds_toArray, List.set_cons_zero, List.set_cons_succ] at s0
  have Q4 := hide s0
  have E4 := hide (E3.out.setCell (p := ⟨p, 1, none⟩) (Nat.le_of_lt hne) (.int .i64 N))
  have R4 := hide ((Below.heap_setCell w3 ⟨p, 1, none⟩ (.int .i64 N) _ (Nat.ne_of_lt hne)).trans R3.out)
  have Ha4 := hide (Ha3.out.other (grown_set w3 p 1 (.int .i64 N)) hAp.out)
  clear s0
  go_upto_region 12 with (fail)
  clear z0 q0_ q1_ q2_ q3_ q4_ q5_ q6_ R3 E3 Q3 Ha3
  generalize w3.setCell ⟨p, 1, none⟩ (.int .i64 N) = W4 at *
  obtain ⟨q0_, q1_, q2_, q3_, q4_, q5_, q6_⟩ := row7 Q4.out
  obtain ⟨⟨k0, y0⟩, ⟨k1, y1⟩, ⟨k2, y2⟩, ⟨k3, y3⟩, ⟨k4, y4⟩, ⟨k5, y5⟩, ⟨k6, y6⟩, rz⟩ := store7 R4.out (.int .i64 1) (.int .i64 N) (.string ⟨#[]⟩) (.bool false) (.string ⟨#[]⟩) (.bool false) (.int .i64 0)
  have RZ := hide rz
  have EE := hide (below7 E4.out (p := w.heap.size) (Nat.le_refl _) (.int .i64 1) (.int .i64 N) (.string ⟨#[]⟩) (.bool false) (.string ⟨#[]⟩) (.bool false) (.int .i64 0))
  clear rz
  go_wp2_with fail
  obtain ⟨m0_, m1_, m2_, m3_, m4_, m5_, m6_⟩ := row7 RZ.out
  refine bodyPost_ret (v := .tuple #[.agg #[.int .i64 1, .int .i64 N, .string ⟨#[]⟩, .bool false, .string ⟨#[]⟩, .bool false, .int .i64 0], .int .i64 (t : Int), .int .i64 0]) ?_ rfl ⟨rfl, EE.out⟩
  rw [results_cell_tmp2 rfl]
  go_simp
set_option maxRecDepth 100000 in
set_option maxHeartbeats 6400000 in
theorem rget_size (A : Option Addr) (n c : Nat) (f : Nat → Int) (t : Nat) (N : Int) (w : World) (ha : Rd .u8 w A n c f) (hb : Byt n f) (h0 : 0 < n) (hn : n ≤ 1000) (hkd : kd (f 0) = 5) (hp : pg f n (bit22 5) = (N, (t : Int), 0)) : Calls Tryd.prog 20 #[.slice A n c] w fun e w' => e = .returned (.tuple #[.agg #[.int .i64 5, .int .i64 0, .string ⟨#[]⟩, .bool false, .string ⟨#[]⟩, .bool false, .int .i64 N], .int .i64 (t : Int), .int .i64 0]) ∧ Below w.heap.size w w' := by
  have R0 := hide (heap_alloc_new w (.cells #[.int .i64 0, .int .i64 0, .string ⟨#[]⟩, .bool false, .string ⟨#[]⟩, .bool false, .int .i64 0] 27))
  have al := (Below.refl w.heap.size w).alloc (Nat.le_refl _) (.cells #[.int .i64 0, .int .i64 0, .string ⟨#[]⟩, .bool false, .string ⟨#[]⟩, .bool false, .int .i64 0] 27)
  have E0 := hide al
  have Ha := hide (ha.below al)
  have Hb := hide hb
  have HK := hide hkd
  have HP := hide hp
  have hx := hb 0 h0
  obtain ⟨bb, off, rfl, hx0⟩ := ha.at_ (i := 0) h0
  rw [Nat.add_zero] at hx0
  have hx1 := (al.cell (World.block_lt_of_cell? w _ hx0)).trans hx0
  have nz : (n == 0) = false := by simp; omega
  have nz2 : ((n : Int) == 0) = false := by simp; omega
  have nz3 : decide (0 < n) = true := decide_eq_true h0
  obtain ⟨x, hxx⟩ : ∃ x, f 0 = x := ⟨_, rfl⟩
  rw [hxx] at hx hx1 HK
  have hxa := hx.1
  have hxb := hx.2
  have hk5 : (5 : Int) = 1 ∨ (5 : Int) = 2 ∨ (5 : Int) = 3 ∨ (5 : Int) = 4 ∨ (5 : Int) = 5 := by decide
  have HK5 := hide hk5
  clear al ha hb hkd hp hx0 hxx hx hk5
  go_enter Tryd.func20, Tryd.ntmps20
  go_upto_region 1 with (fail)
  generalize w.alloc (.cells #[.int .i64 0, .int .i64 0, .string ⟨#[]⟩, .bool false, .string ⟨#[]⟩, .bool false, .int .i64 0] 27) = W0 at *
  go_wp2_with fail
  refine (rkind22 x hxa hxb _).mono ?_
  rw [HK.out]
  rintro e w1 ⟨rfl, rfl⟩
  have al := (Below.refl W0.heap.size W0).alloc (Nat.le_refl _) (.cells #[.int .i64 5, .int .i64 0, .string ⟨#[]⟩, .bool false, .string ⟨#[]⟩, .bool false, .int .i64 0] 27)
  have Q1 := hide (heap_alloc_new W0 (.cells #[.int .i64 5, .int .i64 0, .string ⟨#[]⟩, .bool false, .string ⟨#[]⟩, .bool false, .int .i64 0] 27))
  have R1 := hide (keepRow R0.out al)
  have E1 := hide (E0.out.of al)
  have Ha1 := hide (Ha.out.below al)
  have hne := rowLt R0.out
  clear al R0 E0 Ha
  go_upto_region 4 with (fail)
  clear hx1
  generalize hW : W0.alloc (.cells #[.int .i64 5, .int .i64 0, .string ⟨#[]⟩, .bool false, .string ⟨#[]⟩, .bool false, .int .i64 0] 27) = W1 at *
  generalize W0.heap.size = p at *
  clear hW
  have hAp : Hid (∀ b off2, (some (⟨bb, off, none⟩ : Addr)) = some ⟨b, off2, none⟩ → b ≠ p) := fun b off2 e h => by
    injection e with e1
    injection e1 with e2 e3
    subst e2 h
    have h1 := rd_cellS Ha1.out h0
    rw [cell_of_row W1 _ _ _ _ _ Q1.out] at h1
    have h2 : off + 0 = 0 ∨ off + 0 = 1 ∨ off + 0 = 2 ∨ off + 0 = 3 ∨ off + 0 = 4 ∨ off + 0 = 5 ∨ off + 0 = 6 ∨ 7 ≤ off + 0 := by omega
    rcases h2 with h2 | h2 | h2 | h2 | h2 | h2 | h2 | h2
    all_goals first
      | (rw [h2] at h1; simp at h1; done)
      | (rw [Array.getElem?_eq_none (by simpa using h2)] at h1; cases h1)
  obtain ⟨q0_, q1_, q2_, q3_, q4_, q5_, q6_⟩ := row7 Q1.out
  go_wp2_with fail
  refine (rbegin22 5 (by decide) _).mono ?_
  rintro e w2 ⟨rfl, rfl⟩
  go_wp2_with fail
  refine (rpget_any _ n c f (bit22 5) _ Ha1.out Hb.out (by omega)).mono ?_
  rw [HP.out]
  rintro e w3 ⟨rfl, hd2⟩
  have R3 := hide (keepRow R1.out (drawn_below hd2 _))
  have E3 := hide (E1.out.of (drawn_below hd2 _))
  have Q3 := hide (keepRow Q1.out (drawn_below hd2 _))
  have Ha3 := hide (Ha1.out.drawn hd2)
  clear hd2 R1 E1 Q1 Ha1 q0_ q1_ q2_ q3_ q4_ q5_ q6_
  obtain ⟨q0_, q1_, q2_, q3_, q4_, q5_, q6_⟩ := row7 Q3.out
  have z0 := frozenRow Q3.out 6
  have s0 := setRow w3 p 6 (.int .i64 N) Q3.out
  simp only [List.setIfInBounds_toArray, List.set_cons_zero, List.set_cons_succ] at s0
  have Q4 := hide s0
  have E4 := hide (E3.out.setCell (p := ⟨p, 6, none⟩) (Nat.le_of_lt hne) (.int .i64 N))
  have R4 := hide ((Below.heap_setCell w3 ⟨p, 6, none⟩ (.int .i64 N) _ (Nat.ne_of_lt hne)).trans R3.out)
  have Ha4 := hide (Ha3.out.other (grown_set w3 p 6 (.int .i64 N)) hAp.out)
  clear s0
  go_upto_region 10 with (fail)
  clear z0 q0_ q1_ q2_ q3_ q4_ q5_ q6_ R3 E3 Q3 Ha3
  generalize w3.setCell ⟨p, 6, none⟩ (.int .i64 N) = W4 at *
  obtain ⟨q0_, q1_, q2_, q3_, q4_, q5_, q6_⟩ := row7 Q4.out
  obtain ⟨⟨k0, y0⟩, ⟨k1, y1⟩, ⟨k2, y2⟩, ⟨k3, y3⟩, ⟨k4, y4⟩, ⟨k5, y5⟩, ⟨k6, y6⟩, rz⟩ := store7 R4.out (.int .i64 5) (.int .i64 0) (.string ⟨#[]⟩) (.bool false) (.string ⟨#[]⟩) (.bool false) (.int .i64 N)
  have RZ := hide rz
  have EE := hide (below7 E4.out (p := w.heap.size) (Nat.le_refl _) (.int .i64 5) (.int .i64 0) (.string ⟨#[]⟩) (.bool false) (.string ⟨#[]⟩) (.bool false) (.int .i64 N))
  clear rz
  go_wp2_with fail
  obtain ⟨m0_, m1_, m2_, m3_, m4_, m5_, m6_⟩ := row7 RZ.out
  refine bodyPost_ret (v := .tuple #[.agg #[.int .i64 5, .int .i64 0, .string ⟨#[]⟩, .bool false, .string ⟨#[]⟩, .bool false, .int .i64 N], .int .i64 (t : Int), .int .i64 0]) ?_ rfl ⟨rfl, EE.out⟩
  rw [results_cell_tmp2 rfl]
  go_simp
end Go.Proofs.YtdnfhddahpmnmabDoor
