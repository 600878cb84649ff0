/- Layer 32: a queue that is not there; one that nobody made. -/
import Derived.Test.YteikpdolickkaaaPf7
import Derived.Deep.RegionLaw
namespace Go.Proofs.Yteikpdolickkaaa
open Go.RowKit Go.Deep Go.ChangeShapes Go.WideShapes

theorem pushNil32 (v : Value) (w : World) : Calls Try.prog 49 #[.pointer none, v] w fun e w' => e = .returned (.tuple #[]) ∧ w = w' := by
  go_enter Try.func49, Try.ntmps49
  go_wp2
  refine bodyPost_ret (results_none rfl _ _ _) rfl ?_
  exact ⟨rfl, rfl⟩
theorem ackNil32 (w : World) : Calls Try.prog 51 #[.pointer none] w fun e w' => e = .returned (.bool false) ∧ Drawn w w' := by
  go_enter Try.func51, Try.ntmps51
  go_wp2_with fail
  go_quiet (fail)
  go_wp2_with fail
  go_ret
  exact ⟨rfl, ⟨_, rfl⟩⟩
theorem narrowNil32 (v : Value) (w : World) : Calls Try.prog 53 #[.pointer none, v] w fun e w' => e = .returned (.bool false) ∧ w = w' := by
  go_enter Try.func53, Try.ntmps53
  go_wp2
  go_ret
  exact ⟨rfl, rfl⟩
theorem sentNil32 (w : World) : Calls Try.prog 58 #[.pointer none] w fun e w' => e = .returned (.int .i64 0) ∧ w = w' := by
  go_enter Try.func58, Try.ntmps58
  go_wp2
  go_ret
  exact ⟨rfl, rfl⟩
theorem ackedNil32 (w : World) : Calls Try.prog 59 #[.pointer none] w fun e w' => e = .returned (.int .i64 0) ∧ w = w' := by
  go_enter Try.func59, Try.ntmps59
  go_wp2
  go_ret
  exact ⟨rfl, rfl⟩
theorem leastNil32 (w : World) : Calls Try.prog 60 #[.pointer none] w fun e w' => e = .returned (.int .i64 0) ∧ w = w' := by
  go_enter Try.func60, Try.ntmps60
  go_wp2
  go_ret
  exact ⟨rfl, rfl⟩
theorem allNil32 (w : World) : Calls Try.prog 57 #[.pointer none] w fun e w' => e = .returned (.slice none 0 0) ∧ w = w' := by
  go_enter Try.func57, Try.ntmps57
  go_wp2
  go_ret
  exact ⟨rfl, rfl⟩
theorem newestNil32 (w : World) : Calls Try.prog 61 #[.pointer none] w fun e w' => e = .returned (.agg #[.int .i64 0, .int .i64 0, .int .i64 0, .int .i64 0, .int .i64 0, .int .i64 0]) ∧ Below w.heap.size w w' := by
  have al := (Below.refl w.heap.size w).alloc (Nat.le_refl _) (.cells #[.int .i64 0, .int .i64 0, .int .i64 0, .int .i64 0, .int .i64 0, .int .i64 0] 113)
  have R := heap_alloc_new w (.cells #[.int .i64 0, .int .i64 0, .int .i64 0, .int .i64 0, .int .i64 0, .int .i64 0] 113)
  obtain ⟨p0, p1, p2, p3, p4, p5⟩ := row6 R
  go_enter Try.func61, Try.ntmps61
  go_wp2
  refine bodyPost_ret (v := .agg #[.int .i64 0, .int .i64 0, .int .i64 0, .int .i64 0, .int .i64 0, .int .i64 0]) ?_ rfl ⟨rfl, ?_⟩
  · rw [results_cellS rfl]
    go_simp
  · go_grown
set_option maxRecDepth 20000 in
set_option maxHeartbeats 6400000 in
theorem nobody_walk32 (d : Pd) (w : World) (hd : d.ok w) :
    Calls Try.prog 11 #[.agg #[.int .i64 d.k, .slice d.A d.n d.c, .slice d.A2 d.n2 d.c2]] w (Yes w) := by
  obtain ⟨dk, dA, dn, dc, df, dg, dA2, dn2, dc2, db⟩ := d
  have Hr := hide hd.1
  have Hrb := hide hd.2
  have hc1 := hd.1.1
  have hc2 := hd.1.2.1
  have hc3 := hd.2.1
  have hc4 := hd.2.2.1
  simp only [maxLen] at hc1 hc2 hc3 hc4
  have E0 := hide ((Below.refl w.heap.size w).alloc (Nat.le_refl _) (.cells #[.int .i64 dk, .slice dA dn dc, .slice dA2 dn2 dc2] 99))
  have D0 := hide (heap_alloc_new w (.cells #[.int .i64 dk, .slice dA dn dc, .slice dA2 dn2 dc2] 99))
  have al := (Below.refl (w.alloc (.cells #[.int .i64 dk, .slice dA dn dc, .slice dA2 dn2 dc2] 99)).heap.size (w.alloc (.cells #[.int .i64 dk, .slice dA dn dc, .slice dA2 dn2 dc2] 99))).alloc (Nat.le_refl _) (.cells #[.int .i64 dk, .slice dA dn dc, .slice dA2 dn2 dc2] 99)
  have E1 := hide (E0.out.of al)
  have D1 := hide (keepRow D0.out al)
  have L1 : Hid (RdP ((w.alloc (.cells #[.int .i64 dk, .slice dA dn dc, .slice dA2 dn2 dc2] 99)).alloc (.cells #[.int .i64 dk, .slice dA dn dc, .slice dA2 dn2 dc2] 99)) (some ⟨(w.alloc (.cells #[.int .i64 dk, .slice dA dn dc, .slice dA2 dn2 dc2] 99)).heap.size, 0, none⟩) 1 1 (fun _ => ⟨dk, dA, dn, dc, df, dg, dA2, dn2, dc2, db⟩)) := by
    refine ⟨Nat.le_refl _, by simp [maxLen], fun e => (by cases e), fun _ => ⟨_, 0, rfl, fun i hi => ?_⟩, fun i hi => hd.below E1.out⟩
    obtain rfl : i = 0 := by omega
    exact rowQ (heap_alloc_new _ _)
  clear al hd
  go_enter Try.func11, Try.ntmps11
  have hz1 : (w.alloc (.cells #[.int .i64 dk, .slice dA dn dc, .slice dA2 dn2 dc2] 99)).heap.size = w.heap.size + 1 := by simp
  rw [hz1] at L1
  clear hz1
  go_wp2_with fail
  generalize (w.alloc (.cells #[.int .i64 dk, .slice dA dn dc, .slice dA2 dn2 dc2] 99)).alloc (.cells #[.int .i64 dk, .slice dA dn dc, .slice dA2 dn2 dc2] 99) = W1 at *
  refine (large32 L1.out).mono ?_
  rintro e wl ⟨h1, rfl⟩
  rcases h1 with rfl | ⟨rfl, _, hsm⟩
  · go_wp2_with fail
    refine (alive32 _).mono ?_
    rintro e w2 ⟨rfl, hb2⟩
    go_wp2_with fail
    go_ret
    exact ⟨rfl, E1.out.of hb2⟩
  obtain ⟨hs1, hs2⟩ := hsm 0 (by omega)
  simp only at hs1 hs2
  have hp1 := rowLt D1.out
  have al := (Below.refl W1.heap.size W1).alloc (Nat.le_refl _) (.cells #[.int .i64 0, .int .i64 0, .slice none 0 0] 111)
  have Q2 := hide (QOk.new (B := w.heap.size) W1 E1.out.size)
  have E2 := hide (E1.out.of al)
  have D2 := hide (keepRow D1.out al)
  obtain ⟨t0, t1, t2⟩ := rowQ D2.out
  have Hne : Hid (w.heap.size ≠ W1.heap.size) := by show _ ≠ _; omega
  clear al hsm D1 L1
  go_wp2_with fail
  generalize hpz : W1.heap.size = pz at *
  generalize W1.alloc (.cells #[.int .i64 0, .int .i64 0, .slice none 0 0] 111) = W2 at *
  clear hpz hp1
  refine (pushNil32 _ _).mono ?_
  rintro e wl ⟨rfl, rfl⟩
  go_wp2_with fail
  refine (push32 Q2.out E2.out.size (by omega) (Hr.out.below E2.out) (by omega)).mono ?_
  rintro e w3 ⟨g, rfl, hq, hf, hg⟩
  have Q3 := hide hq
  have E3 := hide (E2.out.trans hf.below)
  have D3 := hide (hf.row D2.out (fun h => by
    rcases h with h | h
    · exact Hne.out h
    · cases h))
  clear hq hf hg t0 t1 t2 Q2 D2 E2
  obtain ⟨t0, t1, t2⟩ := rowQ D3.out
  have Q3d : Hid (QOk w.heap.size w3.drew pz g 0 0 (1 + 1) (pushV 1 (fun _ => initF) (apv df dg dn ((fun _ => initF) (1 - 1))))) := Q3.out.drew
  have E3d : Hid (Below w.heap.size w w3.drew) := E3.out.drew
  have D3d : Hid (w3.drew.heap[w.heap.size]? = some (.cells #[.int .i64 dk, .slice dA dn dc, .slice dA2 dn2 dc2] 99 (0, 0))) := D3.out
  have alz3 := ((Below.refl w3.heap.size w3).alloc (Nat.le_refl _) (.cells #[.slice none 0 0, .int .i64 0, .slice none 0 0] 95)).drew
  have D3z : Hid ((w3.alloc (.cells #[.slice none 0 0, .int .i64 0, .slice none 0 0] 95)).drew.heap[w.heap.size]? = some (.cells #[.int .i64 dk, .slice dA dn dc, .slice dA2 dn2 dc2] 99 (0, 0))) := keepRow D3.out alz3
  have Q3z : Hid (QOk w.heap.size (w3.alloc (.cells #[.slice none 0 0, .int .i64 0, .slice none 0 0] 95)).drew pz g 0 0 (1 + 1) (pushV 1 (fun _ => initF) (apv df dg dn ((fun _ => initF) (1 - 1))))) := Q3.out.below alz3
  have E3z : Hid (Below w.heap.size w (w3.alloc (.cells #[.slice none 0 0, .int .i64 0, .slice none 0 0] 95)).drew) := E3.out.of alz3
  have R3z : Hid ((w3.alloc (.cells #[.slice none 0 0, .int .i64 0, .slice none 0 0] 95)).drew.heap[w3.heap.size]? = some (.cells #[.slice none 0 0, .int .i64 0, .slice none 0 0] 95 (0, 0))) := heap_alloc_new w3 (.cells #[.slice none 0 0, .int .i64 0, .slice none 0 0] 95)
  have hne3 : w.heap.size ≠ w3.heap.size := Nat.ne_of_lt (rowLt D3.out)
  clear alz3
  go_wp2_with fail
  go_region_held3 (fun W => W.cell? ⟨w.heap.size, 1, none⟩ = some (.slice dA dn dc)) ((first | exact t1 | exact (rowQ D4.out).2.1 | exact (rowQ D5.out).2.1 | exact (rowQ (keepRow D5.out ((Below.refl _ _).alloc (Nat.le_refl _) _))).2.1 | exact (rowQ D4z.out).2.1 | exact (rowQ D3z.out).2.1 | exact (rowQ ((set3o hne3 _ _ _).trans D5.out)).2.1 | exact (rowQ ((set3o hne4 _ _ _).trans D5.out)).2.1 | (go_keep; done)))
    ((first
      | (go_at_call 48; (with_reducible refine (rnew32 (w3.alloc (.cells #[.slice none 0 0, .int .i64 0, .slice none 0 0] 95)).drew).mono ?_); rintro e w4 ⟨vn, rfl, hvn, hb4⟩; obtain ⟨A0, c0, rfl, _, _⟩ := hvn.rd; have Q4 := hide (Q3z.out.below hb4); have E4 := hide (E3z.out.of hb4); have D4 := hide (keepRow D3z.out hb4); have R4c := hide (keepRow R3z.out hb4))
      | (go_at_call 50; have R4d := R4c; (with_reducible refine (rpush32 (B := w4.heap.size) (l := 0) (D := fun _ => ⟨none, 0, 0, fun _ => 0, fun _ => 0⟩) ⟨dA, dn, dc, df, dg⟩ (OwnV.nil _ _ _ _ _) hvn.rdS (by omega) (by omega) (by omega)).mono ?_); rintro e w5 ⟨vl, vn', rfl, hl5, hn5, hb5⟩; obtain ⟨A5, c5, rfl, _, _⟩ := hl5.rd; obtain ⟨A6, c6, rfl, _, _⟩ := hn5.rd; have Q5 := hide (Q4.out.below hb5); have E5 := hide (E4.out.of hb5); have D5 := hide (keepRow D4.out hb5); have R5 := hide (keepRow R4c.out hb5); obtain ⟨y0, y1, y2⟩ := rowQ R5.out; have z0 := frozenRow R5.out 0; have z1 := frozenRow R5.out 1; have z2 := frozenRow R5.out 2)
      | (go_at_call 48; (with_reducible refine (rnew32 w3.drew).mono ?_); rintro e w4 ⟨vn, rfl, hvn, hb4⟩; obtain ⟨A0, c0, rfl, _, _⟩ := hvn.rd; have Q4 := hide (Q3d.out.below hb4); have E4 := hide (E3d.out.of hb4); have D4 := hide (keepRow D3d.out hb4); have hne4 : w.heap.size ≠ w4.heap.size := Nat.ne_of_lt (rowLt D4.out); have alz := (Below.refl w4.heap.size w4).alloc (Nat.le_refl _) (.cells #[.slice none 0 0, .int .i64 0, .slice none 0 0] 95); have D4z := hide (keepRow D4.out alz); have Q4z := hide (Q4.out.below alz); have E4z := hide (E4.out.of alz); have hvz := hvn.below alz; have R4z := hide (heap_alloc_new w4 (.cells #[.slice none 0 0, .int .i64 0, .slice none 0 0] 95)))
      | (go_at_call 50; (with_reducible refine (rpush32 (B := w4.heap.size) (l := 0) (D := fun _ => ⟨none, 0, 0, fun _ => 0, fun _ => 0⟩) ⟨dA, dn, dc, df, dg⟩ (OwnV.nil _ _ _ _ _) hvn.rdS (by omega) (by omega) (by omega)).mono ?_); rintro e w5 ⟨vl, vn', rfl, hl5, hn5, hb5⟩; obtain ⟨A5, c5, rfl, _, _⟩ := hl5.rd; obtain ⟨A6, c6, rfl, _, _⟩ := hn5.rd; have Q5 := hide (Q4.out.below hb5); have E5 := hide (E4.out.of hb5); have D5 := hide (keepRow D4.out hb5))
      | (go_at_call 50; (with_reducible refine (rpush32 (B := w4.heap.size) (l := 0) (D := fun _ => ⟨none, 0, 0, fun _ => 0, fun _ => 0⟩) ⟨dA, dn, dc, df, dg⟩ (OwnV.nil _ _ _ _ _) hvz.rdS (by omega) (by omega) (by omega)).mono ?_); rintro e w5 ⟨vl, vn', rfl, hl5, hn5, hb5⟩; obtain ⟨A5, c5, rfl, _, _⟩ := hl5.rd; obtain ⟨A6, c6, rfl, _, _⟩ := hn5.rd; have Q5 := hide (Q4z.out.below hb5); have E5 := hide (E4z.out.of hb5); have D5 := hide (keepRow D4z.out hb5); have R5 := hide (keepRow R4z.out hb5); obtain ⟨y0, y1, y2⟩ := rowQ R5.out; have z0 := frozenRow R5.out 0; have z1 := frozenRow R5.out 1; have z2 := frozenRow R5.out 2)))
  · simp only [Nat.zero_add, Nat.reduceAdd, Nat.sub_zero] at hl5 hn5
    have Row6 : Hid ((w5.alloc (.cells #[.slice A5 1 c5, .int .i64 0, .slice A6 2 c6] 95)).heap[w5.heap.size]? = some (.cells #[.slice A5 1 c5, .int .i64 0, .slice A6 2 c6] 95 (0, 0))) := heap_alloc_new w5 _
    have Q6 : Hid (QOk w.heap.size (w5.alloc (.cells #[.slice A5 1 c5, .int .i64 0, .slice A6 2 c6] 95)) pz g 0 0 2 (pushV 1 (fun _ => initF) (apv df dg dn initF))) := Q5.out.below ((Below.refl w5.heap.size w5).alloc (Nat.le_refl _) _)
    have L6 : Hid (RdV 1 (w5.alloc (.cells #[.slice A5 1 c5, .int .i64 0, .slice A6 2 c6] 95)) A5 1 c5 (sgF (appD 0 (fun _ => ⟨none, 0, 0, fun _ => 0, fun _ => 0⟩) ⟨dA, dn, dc, df, dg⟩))) := hl5.rdS2.below36O ((Below.refl w5.heap.size w5).alloc (Nat.le_refl _) _)
    have N6 : Hid (Rd .i64 (w5.alloc (.cells #[.slice A5 1 c5, .int .i64 0, .slice A6 2 c6] 95)) A6 2 c6 (fun i => (i : Int))) := hn5.rdS.below ((Below.refl w5.heap.size w5).alloc (Nat.le_refl _) _)
    have D6 : Hid ((w5.alloc (.cells #[.slice A5 1 c5, .int .i64 0, .slice A6 2 c6] 95)).heap[w.heap.size]? = some (.cells #[.int .i64 dk, .slice dA dn dc, .slice dA2 dn2 dc2] 99 (0, 0))) := keepRow D5.out ((Below.refl w5.heap.size w5).alloc (Nat.le_refl _) _)
    have E6 : Hid (Below w.heap.size w (w5.alloc (.cells #[.slice A5 1 c5, .int .i64 0, .slice A6 2 c6] 95))) := E5.out.of ((Below.refl w5.heap.size w5).alloc (Nat.le_refl _) _)
    clear hl5 hn5 D5 Q5 E5 D4z Q4z E4z hvz alz R4z hb5 hvn D4 Q4 E4 hb4 D3z Q3z E3z R3z D3d E3d Q3d t0 t1 t2
    generalize (w5.alloc (.cells #[.slice A5 1 c5, .int .i64 0, .slice A6 2 c6] 95)) = W6 at *
    generalize w5.heap.size = pr at *
    obtain ⟨j0, j1, j2⟩ := rowQ D6.out
    obtain ⟨r0, r1, r2⟩ := rowQ Row6.out
    go_wp2_with fail
    refine (ackNil32 _).mono ?_
    rintro e w7 ⟨rfl, hdr⟩
    have bl := drawn_below hdr W6.heap.size
    have Row7 := hide (keepRow Row6.out bl)
    have Q7 := hide (Q6.out.below bl)
    have L7 := hide (L6.out.below36O bl)
    have N7 := hide (N6.out.below bl)
    have D7 := hide (keepRow D6.out bl)
    have E7 := hide (E6.out.of bl)
    clear hdr bl j0 j1 j2 r0 r1 r2
    obtain ⟨j0, j1, j2⟩ := rowQ D7.out
    go_wp2_with fail
    refine (narrowNil32 _ _).mono ?_
    rintro e wl ⟨rfl, rfl⟩
    go_wp2_with fail
    refine (sentNil32 _).mono ?_
    rintro e wl ⟨rfl, rfl⟩
    go_wp2_with fail
    refine (ackedNil32 _).mono ?_
    rintro e wl ⟨rfl, rfl⟩
    go_wp2_with fail
    refine (leastNil32 _).mono ?_
    rintro e wl ⟨rfl, rfl⟩
    go_wp2_with fail
    refine (allNil32 _).mono ?_
    rintro e wl ⟨rfl, rfl⟩
    go_wp2_with fail
    refine (newestNil32 _).mono ?_
    rintro e w8 ⟨rfl, bl⟩
    have Row8 := hide (keepRow Row7.out bl)
    have Q8 := hide (Q7.out.below bl)
    have L8 := hide (L7.out.below36O bl)
    have N8 := hide (N7.out.below bl)
    have E8 := hide (E7.out.of bl)
    clear bl j0 j1 j2
    obtain ⟨r0, r1, r2⟩ := rowQ Row8.out
    go_wp2_with fail
    refine (alike32 (m := 1) Q8.out E8.out.size L8.out (fun i hi => ⟨(by (obtain rfl : i = 0 := by omega); exact Hr.out.below E8.out), (by (obtain rfl : i = 0 := by omega); show dn ≤ 1000; omega)⟩) (by omega) N8.out (fun i _ => by rw [Nat.zero_add]) rfl (fun i hi j _ => ?_)).mono ?_
    · obtain rfl | rfl : i = 0 ∨ i = 1 := by omega
      · rfl
      · rfl
    rintro e w9 ⟨rfl, hb9⟩
    have E9 := hide (E8.out.of hb9)
    clear hb9
    go_wp2_with fail
    refine (alive32 _).mono ?_
    rintro e wa ⟨rfl, hba⟩
    go_wp2_with fail
    go_ret
    exact ⟨rfl, E9.out.of hba⟩
  · simp only [Nat.zero_add, Nat.reduceAdd, Nat.sub_zero] at hl5 hn5
    have Row6 : Hid ((((w5.setCell ⟨w4.heap.size, 0, none⟩ (.slice A5 1 c5)).setCell ⟨w4.heap.size, 1, none⟩ (.int .i64 0)).setCell ⟨w4.heap.size, 2, none⟩ (.slice A6 2 c6)).heap[w4.heap.size]? = some (.cells #[.slice A5 1 c5, .int .i64 0, .slice A6 2 c6] 95 (0, 0))) := set3 R5.out _ _ _
    have Q6 : Hid (QOk w.heap.size (((w5.setCell ⟨w4.heap.size, 0, none⟩ (.slice A5 1 c5)).setCell ⟨w4.heap.size, 1, none⟩ (.int .i64 0)).setCell ⟨w4.heap.size, 2, none⟩ (.slice A6 2 c6)) pz g 0 0 2 (pushV 1 (fun _ => initF) (apv df dg dn initF))) := Q5.out.set3 (fun h => by have := (Q4.out.lt _ h).2; omega) _ _ _
    have L6 : Hid (RdV 1 (((w5.setCell ⟨w4.heap.size, 0, none⟩ (.slice A5 1 c5)).setCell ⟨w4.heap.size, 1, none⟩ (.int .i64 0)).setCell ⟨w4.heap.size, 2, none⟩ (.slice A6 2 c6)) A5 1 c5 (sgF (appD 0 (fun _ => ⟨none, 0, 0, fun _ => 0, fun _ => 0⟩) ⟨dA, dn, dc, df, dg⟩))) := (ownV_set (ownV_set (ownV_set hl5 (show w4.heap.size < (w4.alloc (.cells #[.slice none 0 0, .int .i64 0, .slice none 0 0] 95)).heap.size by simp) _) (show w4.heap.size < (w4.alloc (.cells #[.slice none 0 0, .int .i64 0, .slice none 0 0] 95)).heap.size by simp) _) (show w4.heap.size < (w4.alloc (.cells #[.slice none 0 0, .int .i64 0, .slice none 0 0] 95)).heap.size by simp) _).rdS2
    have N6 : Hid (Rd .i64 (((w5.setCell ⟨w4.heap.size, 0, none⟩ (.slice A5 1 c5)).setCell ⟨w4.heap.size, 1, none⟩ (.int .i64 0)).setCell ⟨w4.heap.size, 2, none⟩ (.slice A6 2 c6)) A6 2 c6 (fun i => (i : Int))) := (own_set3 hn5 (show w4.heap.size < (w4.alloc (.cells #[.slice none 0 0, .int .i64 0, .slice none 0 0] 95)).heap.size by simp) (Nat.le_refl _) _ _ _).rdS
    have D6 : Hid ((((w5.setCell ⟨w4.heap.size, 0, none⟩ (.slice A5 1 c5)).setCell ⟨w4.heap.size, 1, none⟩ (.int .i64 0)).setCell ⟨w4.heap.size, 2, none⟩ (.slice A6 2 c6)).heap[w.heap.size]? = some (.cells #[.int .i64 dk, .slice dA dn dc, .slice dA2 dn2 dc2] 99 (0, 0))) := (set3o hne4 _ _ _).trans D5.out
    have E6 : Hid (Below w.heap.size w (((w5.setCell ⟨w4.heap.size, 0, none⟩ (.slice A5 1 c5)).setCell ⟨w4.heap.size, 1, none⟩ (.int .i64 0)).setCell ⟨w4.heap.size, 2, none⟩ (.slice A6 2 c6))) := set3b E5.out E4.out.size _ _ _
    clear hl5 hn5 D5 Q5 E5 D4z Q4z E4z hvz alz R4z hb5 hvn D4 Q4 E4 hb4 D3z Q3z E3z R3z D3d E3d Q3d t0 t1 t2 y0 y1 y2 z0 z1 z2 R5
    generalize (((w5.setCell ⟨w4.heap.size, 0, none⟩ (.slice A5 1 c5)).setCell ⟨w4.heap.size, 1, none⟩ (.int .i64 0)).setCell ⟨w4.heap.size, 2, none⟩ (.slice A6 2 c6)) = W6 at *
    generalize w4.heap.size = pr at *
    obtain ⟨j0, j1, j2⟩ := rowQ D6.out
    obtain ⟨r0, r1, r2⟩ := rowQ Row6.out
    go_wp2_with fail
    refine (ackNil32 _).mono ?_
    rintro e w7 ⟨rfl, hdr⟩
    have bl := drawn_below hdr W6.heap.size
    have Row7 := hide (keepRow Row6.out bl)
    have Q7 := hide (Q6.out.below bl)
    have L7 := hide (L6.out.below36O bl)
    have N7 := hide (N6.out.below bl)
    have D7 := hide (keepRow D6.out bl)
    have E7 := hide (E6.out.of bl)
    clear hdr bl j0 j1 j2 r0 r1 r2
    obtain ⟨j0, j1, j2⟩ := rowQ D7.out
    go_wp2_with fail
    refine (narrowNil32 _ _).mono ?_
    rintro e wl ⟨rfl, rfl⟩
    go_wp2_with fail
    refine (sentNil32 _).mono ?_
    rintro e wl ⟨rfl, rfl⟩
    go_wp2_with fail
    refine (ackedNil32 _).mono ?_
    rintro e wl ⟨rfl, rfl⟩
    go_wp2_with fail
    refine (leastNil32 _).mono ?_
    rintro e wl ⟨rfl, rfl⟩
    go_wp2_with fail
    refine (allNil32 _).mono ?_
    rintro e wl ⟨rfl, rfl⟩
    go_wp2_with fail
    refine (newestNil32 _).mono ?_
    rintro e w8 ⟨rfl, bl⟩
    have Row8 := hide (keepRow Row7.out bl)
    have Q8 := hide (Q7.out.below bl)
    have L8 := hide (L7.out.below36O bl)
    have N8 := hide (N7.out.below bl)
    have E8 := hide (E7.out.of bl)
    clear bl j0 j1 j2
    obtain ⟨r0, r1, r2⟩ := rowQ Row8.out
    go_wp2_with fail
    refine (alike32 (m := 1) Q8.out E8.out.size L8.out (fun i hi => ⟨(by (obtain rfl : i = 0 := by omega); exact Hr.out.below E8.out), (by (obtain rfl : i = 0 := by omega); show dn ≤ 1000; omega)⟩) (by omega) N8.out (fun i _ => by rw [Nat.zero_add]) rfl (fun i hi j _ => ?_)).mono ?_
    · obtain rfl | rfl : i = 0 ∨ i = 1 := by omega
      · rfl
      · rfl
    rintro e w9 ⟨rfl, hb9⟩
    have E9 := hide (E8.out.of hb9)
    clear hb9
    go_wp2_with fail
    refine (alive32 _).mono ?_
    rintro e wa ⟨rfl, hba⟩
    go_wp2_with fail
    go_ret
    exact ⟨rfl, E9.out.of hba⟩
  · simp only [Nat.zero_add, Nat.reduceAdd, Nat.sub_zero] at hl5 hn5
    have Row6 : Hid ((((w5.setCell ⟨w3.heap.size, 0, none⟩ (.slice A5 1 c5)).setCell ⟨w3.heap.size, 1, none⟩ (.int .i64 0)).setCell ⟨w3.heap.size, 2, none⟩ (.slice A6 2 c6)).heap[w3.heap.size]? = some (.cells #[.slice A5 1 c5, .int .i64 0, .slice A6 2 c6] 95 (0, 0))) := set3 R5.out _ _ _
    have Q6 : Hid (QOk w.heap.size (((w5.setCell ⟨w3.heap.size, 0, none⟩ (.slice A5 1 c5)).setCell ⟨w3.heap.size, 1, none⟩ (.int .i64 0)).setCell ⟨w3.heap.size, 2, none⟩ (.slice A6 2 c6)) pz g 0 0 2 (pushV 1 (fun _ => initF) (apv df dg dn initF))) := Q5.out.set3 (fun h => by have := (Q3.out.lt _ h).2; omega) _ _ _
    have L6 : Hid (RdV 1 (((w5.setCell ⟨w3.heap.size, 0, none⟩ (.slice A5 1 c5)).setCell ⟨w3.heap.size, 1, none⟩ (.int .i64 0)).setCell ⟨w3.heap.size, 2, none⟩ (.slice A6 2 c6)) A5 1 c5 (sgF (appD 0 (fun _ => ⟨none, 0, 0, fun _ => 0, fun _ => 0⟩) ⟨dA, dn, dc, df, dg⟩))) := (ownV_set (ownV_set (ownV_set hl5 (rowLt R4c.out) _) (rowLt R4c.out) _) (rowLt R4c.out) _).rdS2
    have N6 : Hid (Rd .i64 (((w5.setCell ⟨w3.heap.size, 0, none⟩ (.slice A5 1 c5)).setCell ⟨w3.heap.size, 1, none⟩ (.int .i64 0)).setCell ⟨w3.heap.size, 2, none⟩ (.slice A6 2 c6)) A6 2 c6 (fun i => (i : Int))) := (own_set3 hn5 (rowLt R4c.out) (Nat.le_refl _) _ _ _).rdS
    have D6 : Hid ((((w5.setCell ⟨w3.heap.size, 0, none⟩ (.slice A5 1 c5)).setCell ⟨w3.heap.size, 1, none⟩ (.int .i64 0)).setCell ⟨w3.heap.size, 2, none⟩ (.slice A6 2 c6)).heap[w.heap.size]? = some (.cells #[.int .i64 dk, .slice dA dn dc, .slice dA2 dn2 dc2] 99 (0, 0))) := (set3o hne3 _ _ _).trans D5.out
    have E6 : Hid (Below w.heap.size w (((w5.setCell ⟨w3.heap.size, 0, none⟩ (.slice A5 1 c5)).setCell ⟨w3.heap.size, 1, none⟩ (.int .i64 0)).setCell ⟨w3.heap.size, 2, none⟩ (.slice A6 2 c6))) := set3b E5.out E3.out.size _ _ _
    clear hl5 hn5 D5 Q5 E5 R4c R4d hb5 hvn D4 Q4 E4 hb4 D3z Q3z E3z R3z D3d E3d Q3d t0 t1 t2 y0 y1 y2 z0 z1 z2 R5
    generalize (((w5.setCell ⟨w3.heap.size, 0, none⟩ (.slice A5 1 c5)).setCell ⟨w3.heap.size, 1, none⟩ (.int .i64 0)).setCell ⟨w3.heap.size, 2, none⟩ (.slice A6 2 c6)) = W6 at *
    generalize w3.heap.size = pr at *
    obtain ⟨j0, j1, j2⟩ := rowQ D6.out
    obtain ⟨r0, r1, r2⟩ := rowQ Row6.out
    go_wp2_with fail
    refine (ackNil32 _).mono ?_
    rintro e w7 ⟨rfl, hdr⟩
    have bl := drawn_below hdr W6.heap.size
    have Row7 := hide (keepRow Row6.out bl)
    have Q7 := hide (Q6.out.below bl)
    have L7 := hide (L6.out.below36O bl)
    have N7 := hide (N6.out.below bl)
    have D7 := hide (keepRow D6.out bl)
    have E7 := hide (E6.out.of bl)
    clear hdr bl j0 j1 j2 r0 r1 r2
    obtain ⟨j0, j1, j2⟩ := rowQ D7.out
    go_wp2_with fail
    refine (narrowNil32 _ _).mono ?_
    rintro e wl ⟨rfl, rfl⟩
    go_wp2_with fail
    refine (sentNil32 _).mono ?_
    rintro e wl ⟨rfl, rfl⟩
    go_wp2_with fail
    refine (ackedNil32 _).mono ?_
    rintro e wl ⟨rfl, rfl⟩
    go_wp2_with fail
    refine (leastNil32 _).mono ?_
    rintro e wl ⟨rfl, rfl⟩
    go_wp2_with fail
    refine (allNil32 _).mono ?_
    rintro e wl ⟨rfl, rfl⟩
    go_wp2_with fail
    refine (newestNil32 _).mono ?_
    rintro e w8 ⟨rfl, bl⟩
    have Row8 := hide (keepRow Row7.out bl)
    have Q8 := hide (Q7.out.below bl)
    have L8 := hide (L7.out.below36O bl)
    have N8 := hide (N7.out.below bl)
    have E8 := hide (E7.out.of bl)
    clear bl j0 j1 j2
    obtain ⟨r0, r1, r2⟩ := rowQ Row8.out
    go_wp2_with fail
    refine (alike32 (m := 1) Q8.out E8.out.size L8.out (fun i hi => ⟨(by (obtain rfl : i = 0 := by omega); exact Hr.out.below E8.out), (by (obtain rfl : i = 0 := by omega); show dn ≤ 1000; omega)⟩) (by omega) N8.out (fun i _ => by rw [Nat.zero_add]) rfl (fun i hi j _ => ?_)).mono ?_
    · obtain rfl | rfl : i = 0 ∨ i = 1 := by omega
      · rfl
      · rfl
    rintro e w9 ⟨rfl, hb9⟩
    have E9 := hide (E8.out.of hb9)
    clear hb9
    go_wp2_with fail
    refine (alive32 _).mono ?_
    rintro e wa ⟨rfl, hba⟩
    go_wp2_with fail
    go_ret
    exact ⟨rfl, E9.out.of hba⟩
end Go.Proofs.Yteikpdolickkaaa
