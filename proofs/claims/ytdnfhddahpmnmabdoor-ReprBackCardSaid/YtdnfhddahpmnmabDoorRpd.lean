/- Layer 22: what bytes begin with, by the reference, way by way. -/
import Derived.Test.YtdnfhddahpmnmabDoorRp8
import Derived.Deep.Cut
namespace Go.Proofs.YtdnfhddahpmnmabDoor
open Go.RowKit Go.PlainAid

set_option maxRecDepth 100000 in
set_option maxHeartbeats 6400000 in
theorem rget_v (A : Option Addr) (n c : Nat) (f : Nat → Int) (t : Nat) (N : Int) (K : Int) (hk : K = 2 ∨ K = 3 ∨ K = 4) (w : World) (ha : Rd .u8 w A n c f) (hb : Byt n f) (h0 : 0 < n) (hn : n ≤ 1000) (hkd : kd (f 0) = K) (hp : pg f n (bit22 K) = (N, (t : Int), 0)) (hN : N ≠ 0) (htn : t ≤ n) : Calls Tryd.prog 20 #[.slice A n c] w fun e w' => ∃ s sh q e1, SlR (fun j => f (t + j)) (n - t) n s sh q e1 ∧ ((e1 ≠ 0 ∧ e = .returned (.tuple #[.agg #[.int .i64 0, .int .i64 0, .string ⟨#[]⟩, .bool false, .string ⟨#[]⟩, .bool false, .int .i64 0], .int .i64 0, .int .i64 e1]) ∧ Below w.heap.size w w') ∨ (e1 = 0 ∧ e = .returned (.tuple #[.agg #[.int .i64 K, .int .i64 N, .string ⟨#[]⟩, .bool false, .string s, .bool sh, .int .i64 0], .int .i64 ((t : Int) + q), .int .i64 0]) ∧ Below w.heap.size w w')) := by
  have R0 := hide (heap_alloc_new w (.cells #[.int .i64 0, .int .i64 0, .string ⟨#[]⟩, .bool false, .string ⟨#[]⟩, .bool false, .int .i64 0] 27))
  have al := (Below.refl w.heap.size w).alloc (Nat.le_refl _) (.cells #[.int .i64 0, .int .i64 0, .string ⟨#[]⟩, .bool false, .string ⟨#[]⟩, .bool false, .int .i64 0] 27)
  have E0 := hide al
  have Ha := hide (ha.below al)
  have Hb := hide hb
  have HK := hide hkd
  have HP := hide hp
  have hx := hb 0 h0
  obtain ⟨bb, off, rfl, hx0⟩ := ha.at_ (i := 0) h0
  rw [Nat.add_zero] at hx0
  have hx1 := (al.cell (World.block_lt_of_cell? w _ hx0)).trans hx0
  have nz : (n == 0) = false := by simp; omega
  have nz2 : ((n : Int) == 0) = false := by simp; omega
  have nz3 : decide (0 < n) = true := decide_eq_true h0
  obtain ⟨x, hxx⟩ : ∃ x, f 0 = x := ⟨_, rfl⟩
  rw [hxx] at hx hx1 HK
  have hxa := hx.1
  have hxb := hx.2
  have tN : (N == 0) = false := by simpa using hN
  clear hN
  have hk5 : K = 1 ∨ K = 2 ∨ K = 3 ∨ K = 4 ∨ K = 5 := by omega
  have tk5 : (K == 5) = false := by simp; omega
  have tk1 : (K == 1) = false := by simp; omega
  clear hk
  have HK5 := hide hk5
  clear al ha hb hkd hp hx0 hxx hx hk5
  go_enter Tryd.func20, Tryd.ntmps20
  go_upto_region 1 with (fail)
  generalize w.alloc (.cells #[.int .i64 0, .int .i64 0, .string ⟨#[]⟩, .bool false, .string ⟨#[]⟩, .bool false, .int .i64 0] 27) = W0 at *
  go_wp2_with fail
  refine (rkind22 x hxa hxb _).mono ?_
  rw [HK.out]
  rintro e w1 ⟨rfl, rfl⟩
  have al := (Below.refl W0.heap.size W0).alloc (Nat.le_refl _) (.cells #[.int .i64 K, .int .i64 0, .string ⟨#[]⟩, .bool false, .string ⟨#[]⟩, .bool false, .int .i64 0] 27)
  have Q1 := hide (heap_alloc_new W0 (.cells #[.int .i64 K, .int .i64 0, .string ⟨#[]⟩, .bool false, .string ⟨#[]⟩, .bool false, .int .i64 0] 27))
  have R1 := hide (keepRow R0.out al)
  have E1 := hide (E0.out.of al)
  have Ha1 := hide (Ha.out.below al)
  have hne := rowLt R0.out
  clear al R0 E0 Ha
  go_upto_region 4 with (fail)
  clear hx1
  generalize hW : W0.alloc (.cells #[.int .i64 K, .int .i64 0, .string ⟨#[]⟩, .bool false, .string ⟨#[]⟩, .bool false, .int .i64 0] 27) = W1 at *
  generalize W0.heap.size = p at *
  clear hW
  have hAp : Hid (∀ b off2, (some (⟨bb, off, none⟩ : Addr)) = some ⟨b, off2, none⟩ → b ≠ p) := fun b off2 e h => by
    injection e with e1
    injection e1 with e2 e3
    subst e2 h
    have h1 := rd_cellS Ha1.out h0
    rw [cell_of_row W1 _ _ _ _ _ Q1.out] at h1
    have h2 : off + 0 = 0 ∨ off + 0 = 1 ∨ off + 0 = 2 ∨ off + 0 = 3 ∨ off + 0 = 4 ∨ off + 0 = 5 ∨ off + 0 = 6 ∨ 7 ≤ off + 0 := by omega
    rcases h2 with h2 | h2 | h2 | h2 | h2 | h2 | h2 | h2
    all_goals first
      | (rw [h2] at h1; simp at h1; done)
      | (rw [Array.getElem?_eq_none (by simpa using h2)] at h1; cases h1)
  obtain ⟨q0_, q1_, q2_, q3_, q4_, q5_, q6_⟩ := row7 Q1.out
  go_wp2_with fail
  refine (rbegin22 K HK5.out _).mono ?_
  rintro e w2 ⟨rfl, rfl⟩
  go_wp2_with fail
  refine (rpget_any _ n c f (bit22 K) _ Ha1.out Hb.out (by omega)).mono ?_
  rw [HP.out]
  rintro e w3 ⟨rfl, hd2⟩
  have R3 := hide (keepRow R1.out (drawn_below hd2 _))
  have E3 := hide (E1.out.of (drawn_below hd2 _))
  have Q3 := hide (keepRow Q1.out (drawn_below hd2 _))
  have Ha3 := hide (Ha1.out.drawn hd2)
  clear hd2 R1 E1 Q1 Ha1 q0_ q1_ q2_ q3_ q4_ q5_ q6_
  obtain ⟨q0_, q1_, q2_, q3_, q4_, q5_, q6_⟩ := row7 Q3.out
  have z0 := frozenRow Q3.out 1
  have s0 := setRow w3 p 1 (.int .i64 N) Q3.out
  simp only [List.setIfInBounds_toArray, List.set_cons_zero, List.set_cons_succ] at s0
  have Q4 := hide s0
  have E4 := hide (E3.out.setCell (p := ⟨p, 1, none⟩) (Nat.le_of_lt hne) (.int .i64 N))
  have R4 := hide ((Below.heap_setCell w3 ⟨p, 1, none⟩ (.int .i64 N) _ (Nat.ne_of_lt hne)).trans R3.out)
  have Ha4 := hide (Ha3.out.other (grown_set w3 p 1 (.int .i64 N)) hAp.out)
  clear s0
  go_upto_region 12 with (fail)
  clear z0 q0_ q1_ q2_ q3_ q4_ q5_ q6_ R3 E3 Q3 Ha3
  generalize w3.setCell ⟨p, 1, none⟩ (.int .i64 N) = W4 at *
  obtain ⟨q0_, q1_, q2_, q3_, q4_, q5_, q6_⟩ := row7 Q4.out
  have hcut := bytes_cut (some ⟨bb, off, none⟩) n c t htn
  have Hr := hide (Ha4.out.cutR (lo := t) (hi := n) htn (Nat.le_refl _))
  have Hbt : Hid (Byt (n - t) (fun i => f (t + i))) := fun i hi => Hb.out (t + i) (by omega)
  generalize cutA (some ⟨bb, off, none⟩) c t = A2 at *
  go_wp2_with fail
  refine (rsget_any A2 (n - t) (c - t) _ n _ Hr.out Hbt.out (by omega)).mono ?_
  rintro e w5 ⟨s, sh, q, e1, rfl, hS, hb4⟩
  have HhS := hide hS
  have R5 := hide (keepRow R4.out hb4)
  have E5 := hide (E4.out.of hb4)
  have Q5 := hide (keepRow Q4.out hb4)
  have Ha5 := hide (Ha4.out.below hb4)
  have hq := slr_rng hS
  clear hb4 hS R4 E4 Q4 Ha4 Hr Hbt hcut q0_ q1_ q2_ q3_ q4_ q5_ q6_
  by_cases he : e1 = 0
  · subst he
    have hwq : IntKind.i64.wrap ((t : Int) + q) = (t : Int) + q := IntWalk.i64_in _ (by omega)
    obtain ⟨q0_, q1_, q2_, q3_, q4_, q5_, q6_⟩ := row7 Q5.out
    have z0 := frozenRow Q5.out 4
    have s0 := setRow w5 p 4 (.string s) Q5.out
    simp only [List.setIfInBounds_toArray, List.set_cons_zero, List.set_cons_succ] at s0
    have Q6 := hide s0
    have E6 := hide (E5.out.setCell (p := ⟨p, 4, none⟩) (Nat.le_of_lt hne) (.string s))
    have R6 := hide ((Below.heap_setCell w5 ⟨p, 4, none⟩ (.string s) _ (Nat.ne_of_lt hne)).trans R5.out)
    clear s0
    go_upto_region 27 with (fail)
    clear z0 q0_ q1_ q2_ q3_ q4_ q5_ q6_ R5 E5 Q5
    generalize w5.setCell ⟨p, 4, none⟩ (.string s) = W6 at *
    obtain ⟨q0_, q1_, q2_, q3_, q4_, q5_, q6_⟩ := row7 Q6.out
    have z0 := frozenRow Q6.out 5
    have s0 := setRow W6 p 5 (.bool sh) Q6.out
    simp only [List.setIfInBounds_toArray, List.set_cons_zero, List.set_cons_succ] at s0
    have Q7 := hide s0
    have E7 := hide (E6.out.setCell (p := ⟨p, 5, none⟩) (Nat.le_of_lt hne) (.bool sh))
    have R7 := hide ((Below.heap_setCell W6 ⟨p, 5, none⟩ (.bool sh) _ (Nat.ne_of_lt hne)).trans R6.out)
    clear s0
    go_upto_region 28 with (fail)
    clear z0 q0_ q1_ q2_ q3_ q4_ q5_ q6_ R6 E6 Q6
    generalize W6.setCell ⟨p, 5, none⟩ (.bool sh) = W7 at *
    obtain ⟨q0_, q1_, q2_, q3_, q4_, q5_, q6_⟩ := row7 Q7.out
    obtain ⟨⟨k0, y0⟩, ⟨k1, y1⟩, ⟨k2, y2⟩, ⟨k3, y3⟩, ⟨k4, y4⟩, ⟨k5, y5⟩, ⟨k6, y6⟩, rz⟩ := store7 R7.out (.int .i64 K) (.int .i64 N) (.string ⟨#[]⟩) (.bool false) (.string s) (.bool sh) (.int .i64 0)
    have RZ := hide rz
    have EE := hide (below7 E7.out (p := w.heap.size) (Nat.le_refl _) (.int .i64 K) (.int .i64 N) (.string ⟨#[]⟩) (.bool false) (.string s) (.bool sh) (.int .i64 0))
    clear rz
    go_wp2_with fail
    obtain ⟨m0_, m1_, m2_, m3_, m4_, m5_, m6_⟩ := row7 RZ.out
    refine bodyPost_ret (v := .tuple #[.agg #[.int .i64 K, .int .i64 N, .string ⟨#[]⟩, .bool false, .string s, .bool sh, .int .i64 0], .int .i64 ((t : Int) + q), .int .i64 0]) ?_ rfl ⟨s, sh, q, 0, HhS.out, .inr ⟨rfl, rfl, EE.out⟩⟩
    rw [results_cell_tmp2 rfl]
    go_simp
  · have te : (e1 != 0) = true := by simpa using he
    have HE1 := hide he
    clear he
    obtain ⟨⟨k0, y0⟩, ⟨k1, y1⟩, ⟨k2, y2⟩, ⟨k3, y3⟩, ⟨k4, y4⟩, ⟨k5, y5⟩, ⟨k6, y6⟩, rz⟩ := store7 R5.out (.int .i64 0) (.int .i64 0) (.string ⟨#[]⟩) (.bool false) (.string ⟨#[]⟩) (.bool false) (.int .i64 0)
    have RZ := hide rz
    have EE := hide (below7 E5.out (p := w.heap.size) (Nat.le_refl _) (.int .i64 0) (.int .i64 0) (.string ⟨#[]⟩) (.bool false) (.string ⟨#[]⟩) (.bool false) (.int .i64 0))
    clear rz
    go_wp2_with fail
    obtain ⟨m0_, m1_, m2_, m3_, m4_, m5_, m6_⟩ := row7 RZ.out
    refine bodyPost_ret (v := .tuple #[.agg #[.int .i64 0, .int .i64 0, .string ⟨#[]⟩, .bool false, .string ⟨#[]⟩, .bool false, .int .i64 0], .int .i64 0, .int .i64 e1]) ?_ rfl ⟨s, sh, q, e1, HhS.out, .inl ⟨HE1.out, rfl, EE.out⟩⟩
    rw [results_cell_tmp2 rfl]
    go_simp
set_option maxRecDepth 100000 in
set_option maxHeartbeats 6400000 in
theorem rget_nv (A : Option Addr) (n c : Nat) (f : Nat → Int) (t : Nat) (K : Int) (hk : K = 2 ∨ K = 3 ∨ K = 4) (w : World) (ha : Rd .u8 w A n c f) (hb : Byt n f) (h0 : 0 < n) (hn : n ≤ 1000) (hkd : kd (f 0) = K) (hp : pg f n (bit22 K) = (0, (t : Int), 0)) (htn : t ≤ n) : Calls Tryd.prog 20 #[.slice A n c] w fun e w' => ∃ s sh q e1, SlR (fun j => f (t + j)) (n - t) n s sh q e1 ∧ ((e1 ≠ 0 ∧ e = .returned (.tuple #[.agg #[.int .i64 0, .int .i64 0, .string ⟨#[]⟩, .bool false, .string ⟨#[]⟩, .bool false, .int .i64 0], .int .i64 0, .int .i64 e1]) ∧ Below w.heap.size w w') ∨ (e1 = 0 ∧ ∃ s2 sh2 q2 e2, SlR (fun j => f (t + q.toNat + j)) (n - (t + q.toNat)) n s2 sh2 q2 e2 ∧ ((e2 ≠ 0 ∧ e = .returned (.tuple #[.agg #[.int .i64 0, .int .i64 0, .string ⟨#[]⟩, .bool false, .string ⟨#[]⟩, .bool false, .int .i64 0], .int .i64 0, .int .i64 e2]) ∧ Below w.heap.size w w') ∨ (e2 = 0 ∧ e = .returned (.tuple #[.agg #[.int .i64 K, .int .i64 0, .string s, .bool sh, .string s2, .bool sh2, .int .i64 0], .int .i64 ((t : Int) + q + q2), .int .i64 0]) ∧ Below w.heap.size w w')))) := by
  have R0 := hide (heap_alloc_new w (.cells #[.int .i64 0, .int .i64 0, .string ⟨#[]⟩, .bool false, .string ⟨#[]⟩, .bool false, .int .i64 0] 27))
  have al := (Below.refl w.heap.size w).alloc (Nat.le_refl _) (.cells #[.int .i64 0, .int .i64 0, .string ⟨#[]⟩, .bool false, .string ⟨#[]⟩, .bool false, .int .i64 0] 27)
  have E0 := hide al
  have Ha := hide (ha.below al)
  have Hb := hide hb
  have HK := hide hkd
  have HP := hide hp
  have hx := hb 0 h0
  obtain ⟨bb, off, rfl, hx0⟩ := ha.at_ (i := 0) h0
  rw [Nat.add_zero] at hx0
  have hx1 := (al.cell (World.block_lt_of_cell? w _ hx0)).trans hx0
  have nz : (n == 0) = false := by simp; omega
  have nz2 : ((n : Int) == 0) = false := by simp; omega
  have nz3 : decide (0 < n) = true := decide_eq_true h0
  obtain ⟨x, hxx⟩ : ∃ x, f 0 = x := ⟨_, rfl⟩
  rw [hxx] at hx hx1 HK
  have hxa := hx.1
  have hxb := hx.2
  have hk5 : K = 1 ∨ K = 2 ∨ K = 3 ∨ K = 4 ∨ K = 5 := by omega
  have tk5 : (K == 5) = false := by simp; omega
  have tk1 : (K == 1) = false := by simp; omega
  clear hk
  have HK5 := hide hk5
  clear al ha hb hkd hp hx0 hxx hx hk5
  go_enter Tryd.func20, Tryd.ntmps20
  go_upto_region 1 with (fail)
  generalize w.alloc (.cells #[.int .i64 0, .int .i64 0, .string ⟨#[]⟩, .bool false, .string ⟨#[]⟩, .bool false, .int .i64 0] 27) = W0 at *
  go_wp2_with fail
  refine (rkind22 x hxa hxb _).mono ?_
  rw [HK.out]
  rintro e w1 ⟨rfl, rfl⟩
  have al := (Below.refl W0.heap.size W0).alloc (Nat.le_refl _) (.cells #[.int .i64 K, .int .i64 0, .string ⟨#[]⟩, .bool false, .string ⟨#[]⟩, .bool false, .int .i64 0] 27)
  have Q1 := hide (heap_alloc_new W0 (.cells #[.int .i64 K, .int .i64 0, .string ⟨#[]⟩, .bool false, .string ⟨#[]⟩, .bool false, .int .i64 0] 27))
  have R1 := hide (keepRow R0.out al)
  have E1 := hide (E0.out.of al)
  have Ha1 := hide (Ha.out.below al)
  have hne := rowLt R0.out
  clear al R0 E0 Ha
  go_upto_region 4 with (fail)
  clear hx1
  generalize hW : W0.alloc (.cells #[.int .i64 K, .int .i64 0, .string ⟨#[]⟩, .bool false, .string ⟨#[]⟩, .bool false, .int .i64 0] 27) = W1 at *
  generalize W0.heap.size = p at *
  clear hW
  have hAp : Hid (∀ b off2, (some (⟨bb, off, none⟩ : Addr)) = some ⟨b, off2, none⟩ → b ≠ p) := fun b off2 e h => by
    injection e with e1
    injection e1 with e2 e3
    subst e2 h
    have h1 := rd_cellS Ha1.out h0
    rw [cell_of_row W1 _ _ _ _ _ Q1.out] at h1
    have h2 : off + 0 = 0 ∨ off + 0 = 1 ∨ off + 0 = 2 ∨ off + 0 = 3 ∨ off + 0 = 4 ∨ off + 0 = 5 ∨ off + 0 = 6 ∨ 7 ≤ off + 0 := by omega
    rcases h2 with h2 | h2 | h2 | h2 | h2 | h2 | h2 | h2
    all_goals first
      | (rw [h2] at h1; simp at h1; done)
      | (rw [Array.getElem?_eq_none (by simpa using h2)] at h1; cases h1)
  obtain ⟨q0_, q1_, q2_, q3_, q4_, q5_, q6_⟩ := row7 Q1.out
  go_wp2_with fail
  refine (rbegin22 K HK5.out _).mono ?_
  rintro e w2 ⟨rfl, rfl⟩
  go_wp2_with fail
  refine (rpget_any _ n c f (bit22 K) _ Ha1.out Hb.out (by omega)).mono ?_
  rw [HP.out]
  rintro e w3 ⟨rfl, hd2⟩
  have R3 := hide (keepRow R1.out (drawn_below hd2 _))
  have E3 := hide (E1.out.of (drawn_below hd2 _))
  have Q3 := hide (keepRow Q1.out (drawn_below hd2 _))
  have Ha3 := hide (Ha1.out.drawn hd2)
  clear hd2 R1 E1 Q1 Ha1 q0_ q1_ q2_ q3_ q4_ q5_ q6_
  obtain ⟨q0_, q1_, q2_, q3_, q4_, q5_, q6_⟩ := row7 Q3.out
  have z0 := frozenRow Q3.out 1
  have s0 := setRow w3 p 1 (.int .i64 0) Q3.out
  simp only [List.setIfInBounds_toArray, List.set_cons_zero, List.set_cons_succ] at s0
  have Q4 := hide s0
  have E4 := hide (E3.out.setCell (p := ⟨p, 1, none⟩) (Nat.le_of_lt hne) (.int .i64 0))
  have R4 := hide ((Below.heap_setCell w3 ⟨p, 1, none⟩ (.int .i64 0) _ (Nat.ne_of_lt hne)).trans R3.out)
  have Ha4 := hide (Ha3.out.other (grown_set w3 p 1 (.int .i64 0)) hAp.out)
  clear s0
  go_upto_region 12 with (fail)
  clear z0 q0_ q1_ q2_ q3_ q4_ q5_ q6_ R3 E3 Q3 Ha3
  generalize w3.setCell ⟨p, 1, none⟩ (.int .i64 0) = W4 at *
  obtain ⟨q0_, q1_, q2_, q3_, q4_, q5_, q6_⟩ := row7 Q4.out
  have hcut := bytes_cut (some ⟨bb, off, none⟩) n c t htn
  have Hr := hide (Ha4.out.cutR (lo := t) (hi := n) htn (Nat.le_refl _))
  have Hbt : Hid (Byt (n - t) (fun i => f (t + i))) := fun i hi => Hb.out (t + i) (by omega)
  generalize cutA (some ⟨bb, off, none⟩) c t = A2 at *
  go_wp2_with fail
  refine (rsget_any A2 (n - t) (c - t) _ n _ Hr.out Hbt.out (by omega)).mono ?_
  rintro e w5 ⟨s, sh, q, e1, rfl, hS, hb4⟩
  have HhS := hide hS
  have R5 := hide (keepRow R4.out hb4)
  have E5 := hide (E4.out.of hb4)
  have Q5 := hide (keepRow Q4.out hb4)
  have Ha5 := hide (Ha4.out.below hb4)
  have hq := slr_rng hS
  clear hb4 hS R4 E4 Q4 Ha4 Hr Hbt hcut q0_ q1_ q2_ q3_ q4_ q5_ q6_
  by_cases he : e1 = 0
  · subst he
    obtain ⟨qn, rfl⟩ := Int.eq_ofNat_of_zero_le hq.1
    obtain ⟨u, hu⟩ : ∃ u, u = t + qn := ⟨_, rfl⟩
    have hui : (t : Int) + (qn : Int) = (u : Int) := by omega
    have HU := hide hui
    have htq : u ≤ n := by have := hq.2; omega
    have HU2 := hide hu
    have hwu : IntKind.i64.wrap (u : Int) = (u : Int) := IntWalk.i64_in _ (by omega)
    have hwu2 : IntKind.i64.wrap ((t : Int) + (qn : Int)) = (u : Int) := by rw [hui]; exact hwu
    clear hu hui
    obtain ⟨q0_, q1_, q2_, q3_, q4_, q5_, q6_⟩ := row7 Q5.out
    have z0 := frozenRow Q5.out 2
    have s0 := setRow w5 p 2 (.string s) Q5.out
    simp only [List.setIfInBounds_toArray, List.set_cons_zero, List.set_cons_succ] at s0
    have Q6 := hide s0
    have E6 := hide (E5.out.setCell (p := ⟨p, 2, none⟩) (Nat.le_of_lt hne) (.string s))
    have R6 := hide ((Below.heap_setCell w5 ⟨p, 2, none⟩ (.string s) _ (Nat.ne_of_lt hne)).trans R5.out)
    have Ha6 := hide (Ha5.out.other (grown_set w5 p 2 (.string s)) hAp.out)
    clear s0
    go_upto_region 21 with (fail)
    clear z0 q0_ q1_ q2_ q3_ q4_ q5_ q6_ R5 E5 Q5 Ha5
    generalize w5.setCell ⟨p, 2, none⟩ (.string s) = W6 at *
    obtain ⟨q0_, q1_, q2_, q3_, q4_, q5_, q6_⟩ := row7 Q6.out
    have z0 := frozenRow Q6.out 3
    have s0 := setRow W6 p 3 (.bool sh) Q6.out
    simp only [List.setIfInBounds_toArray, List.set_cons_zero, List.set_cons_succ] at s0
    have Q7 := hide s0
    have E7 := hide (E6.out.setCell (p := ⟨p, 3, none⟩) (Nat.le_of_lt hne) (.bool sh))
    have R7 := hide ((Below.heap_setCell W6 ⟨p, 3, none⟩ (.bool sh) _ (Nat.ne_of_lt hne)).trans R6.out)
    have Ha7 := hide (Ha6.out.other (grown_set W6 p 3 (.bool sh)) hAp.out)
    clear s0
    go_upto_region 22 with (fail)
    clear z0 q0_ q1_ q2_ q3_ q4_ q5_ q6_ R6 E6 Q6 Ha6
    generalize W6.setCell ⟨p, 3, none⟩ (.bool sh) = W7 at *
    obtain ⟨q0_, q1_, q2_, q3_, q4_, q5_, q6_⟩ := row7 Q7.out
    go_upto_region 23 with (fail)
    try rw [HU.out]
    clear hwu hwu2
    have hcut := bytes_cut (some ⟨bb, off, none⟩) n c u htq
    have Hr := hide (Ha7.out.cutR (lo := u) (hi := n) htq (Nat.le_refl _))
    have Hbt : Hid (Byt (n - u) (fun i => f (u + i))) := fun i hi => Hb.out (u + i) (by omega)
    generalize cutA (some ⟨bb, off, none⟩) c u = A2 at *
    go_wp2_with fail
    refine (rsget_any A2 (n - u) (c - u) _ n _ Hr.out Hbt.out (by omega)).mono ?_
    rintro e w8 ⟨s2, sh2, q2, e2, rfl, hS2, hb4⟩
    have HhS2 := hide hS2
    have R8 := hide (keepRow R7.out hb4)
    have E8 := hide (E7.out.of hb4)
    have Q8 := hide (keepRow Q7.out hb4)
    have Ha8 := hide (Ha7.out.below hb4)
    have hq2 := slr_rng hS2
    clear hb4 hS2 R7 E7 Q7 Ha7 Hr Hbt hcut q0_ q1_ q2_ q3_ q4_ q5_ q6_
    by_cases he : e2 = 0
    · subst he
      have hwq : IntKind.i64.wrap ((u : Int) + q2) = (u : Int) + q2 := IntWalk.i64_in _ (by omega)
      obtain ⟨q0_, q1_, q2_, q3_, q4_, q5_, q6_⟩ := row7 Q8.out
      have z0 := frozenRow Q8.out 4
      have s0 := setRow w8 p 4 (.string s2) Q8.out
      simp only [List.setIfInBounds_toArray, List.set_cons_zero, List.set_cons_succ] at s0
      have Q9 := hide s0
      have E9 := hide (E8.out.setCell (p := ⟨p, 4, none⟩) (Nat.le_of_lt hne) (.string s2))
      have R9 := hide ((Below.heap_setCell w8 ⟨p, 4, none⟩ (.string s2) _ (Nat.ne_of_lt hne)).trans R8.out)
      clear s0
      go_upto_region 27 with (fail)
      clear z0 q0_ q1_ q2_ q3_ q4_ q5_ q6_ R8 E8 Q8
      generalize w8.setCell ⟨p, 4, none⟩ (.string s2) = W9 at *
      obtain ⟨q0_, q1_, q2_, q3_, q4_, q5_, q6_⟩ := row7 Q9.out
      have z0 := frozenRow Q9.out 5
      have s0 := setRow W9 p 5 (.bool sh2) Q9.out
      simp only [List.setIfInBounds_toArray, List.set_cons_zero, List.set_cons_succ] at s0
      have Q10 := hide s0
      have E10 := hide (E9.out.setCell (p := ⟨p, 5, none⟩) (Nat.le_of_lt hne) (.bool sh2))
      have R10 := hide ((Below.heap_setCell W9 ⟨p, 5, none⟩ (.bool sh2) _ (Nat.ne_of_lt hne)).trans R9.out)
      clear s0
      go_upto_region 28 with (fail)
      clear z0 q0_ q1_ q2_ q3_ q4_ q5_ q6_ R9 E9 Q9
      generalize W9.setCell ⟨p, 5, none⟩ (.bool sh2) = W10 at *
      obtain ⟨q0_, q1_, q2_, q3_, q4_, q5_, q6_⟩ := row7 Q10.out
      obtain ⟨⟨k0, y0⟩, ⟨k1, y1⟩, ⟨k2, y2⟩, ⟨k3, y3⟩, ⟨k4, y4⟩, ⟨k5, y5⟩, ⟨k6, y6⟩, rz⟩ := store7 R10.out (.int .i64 K) (.int .i64 0) (.string s) (.bool sh) (.string s2) (.bool sh2) (.int .i64 0)
      have RZ := hide rz
      have EE := hide (below7 E10.out (p := w.heap.size) (Nat.le_refl _) (.int .i64 K) (.int .i64 0) (.string s) (.bool sh) (.string s2) (.bool sh2) (.int .i64 0))
      clear rz
      go_wp2_with fail
      obtain ⟨m0_, m1_, m2_, m3_, m4_, m5_, m6_⟩ := row7 RZ.out
      refine bodyPost_ret (v := .tuple #[.agg #[.int .i64 K, .int .i64 0, .string s, .bool sh, .string s2, .bool sh2, .int .i64 0], .int .i64 ((u : Int) + q2), .int .i64 0]) ?_ rfl ⟨s, sh, (qn : Int), 0, HhS.out, .inr ⟨rfl, s2, sh2, q2, 0, by have h := HhS2.out; rw [HU2.out] at h; rw [Int.toNat_natCast]; exact h, .inr ⟨rfl, by rw [← HU.out], EE.out⟩⟩⟩
      rw [results_cell_tmp2 rfl]
      go_simp
    · have te : (e2 != 0) = true := by simpa using he
      have HE2 := hide he
      clear he
      obtain ⟨⟨k0, y0⟩, ⟨k1, y1⟩, ⟨k2, y2⟩, ⟨k3, y3⟩, ⟨k4, y4⟩, ⟨k5, y5⟩, ⟨k6, y6⟩, rz⟩ := store7 R8.out (.int .i64 0) (.int .i64 0) (.string ⟨#[]⟩) (.bool false) (.string ⟨#[]⟩) (.bool false) (.int .i64 0)
      have RZ := hide rz
      have EE := hide (below7 E8.out (p := w.heap.size) (Nat.le_refl _) (.int .i64 0) (.int .i64 0) (.string ⟨#[]⟩) (.bool false) (.string ⟨#[]⟩) (.bool false) (.int .i64 0))
      clear rz
      go_wp2_with fail
      obtain ⟨m0_, m1_, m2_, m3_, m4_, m5_, m6_⟩ := row7 RZ.out
      refine bodyPost_ret (v := .tuple #[.agg #[.int .i64 0, .int .i64 0, .string ⟨#[]⟩, .bool false, .string ⟨#[]⟩, .bool false, .int .i64 0], .int .i64 0, .int .i64 e2]) ?_ rfl ⟨s, sh, (qn : Int), 0, HhS.out, .inr ⟨rfl, s2, sh2, q2, e2, by have h := HhS2.out; rw [HU2.out] at h; rw [Int.toNat_natCast]; exact h, .inl ⟨HE2.out, rfl, EE.out⟩⟩⟩
      rw [results_cell_tmp2 rfl]
      go_simp
  · have te2 : (e1 != 0) = true := by simpa using he
    have HE1 := hide he
    clear he
    obtain ⟨⟨k0, y0⟩, ⟨k1, y1⟩, ⟨k2, y2⟩, ⟨k3, y3⟩, ⟨k4, y4⟩, ⟨k5, y5⟩, ⟨k6, y6⟩, rz⟩ := store7 R5.out (.int .i64 0) (.int .i64 0) (.string ⟨#[]⟩) (.bool false) (.string ⟨#[]⟩) (.bool false) (.int .i64 0)
    have RZ := hide rz
    have EE := hide (below7 E5.out (p := w.heap.size) (Nat.le_refl _) (.int .i64 0) (.int .i64 0) (.string ⟨#[]⟩) (.bool false) (.string ⟨#[]⟩) (.bool false) (.int .i64 0))
    clear rz
    go_wp2_with fail
    obtain ⟨m0_, m1_, m2_, m3_, m4_, m5_, m6_⟩ := row7 RZ.out
    refine bodyPost_ret (v := .tuple #[.agg #[.int .i64 0, .int .i64 0, .string ⟨#[]⟩, .bool false, .string ⟨#[]⟩, .bool false, .int .i64 0], .int .i64 0, .int .i64 e1]) ?_ rfl ⟨s, sh, q, e1, HhS.out, .inl ⟨HE1.out, rfl, EE.out⟩⟩
    rw [results_cell_tmp2 rfl]
    go_simp
end Go.Proofs.YtdnfhddahpmnmabDoor
