/- Layer 33: the walks of LifeAsks and LifeKnows. -/
import Derived.Test.YtopgcimjdlhclaaLfB
namespace Go.Proofs.Ytopgcimjdlhclaa
open Go.RowKit

theorem cellKeepL {w w' : World} {a : Addr} {u : Value} (hb : Below w.heap.size w w') (h : w.cell? a = some u) : w'.cell? a = some u := by
  rw [hb.cell (World.block_lt_of_cell? w _ h)]
  exact h
theorem S5keep {w1 w2 : World} (hb : Below w1.heap.size w1 w2) {a0 a1 a2 a3 a4 : Addr} {u0 u1 u2 u3 u4 : Value} (h : w1.cell? a0 = some u0 ∧ w1.cell? a1 = some u1 ∧ w1.cell? a2 = some u2 ∧ w1.cell? a3 = some u3 ∧ w1.cell? a4 = some u4) : w2.cell? a0 = some u0 ∧ w2.cell? a1 = some u1 ∧ w2.cell? a2 = some u2 ∧ w2.cell? a3 = some u3 ∧ w2.cell? a4 = some u4 :=
  ⟨cellKeepL hb h.1, cellKeepL hb h.2.1, cellKeepL hb h.2.2.1, cellKeepL hb h.2.2.2.1, cellKeepL hb h.2.2.2.2⟩
set_option maxRecDepth 100000 in
set_option maxHeartbeats 3200000 in
theorem lifeAsks_walk (k o : Int) (x y : Bool) (b s t : Int) (w : World) : Calls Try.prog 3 #[.agg (StL k o x y b), .int .i64 s, .int .i64 t] w (Yes w) := by
  have o1 := fun W => own33_any k o x y b W
  have a1 := fun kept W => ask_any k o x y b s t kept W
  have a2 := fun kept W => rask_any k o x y b s t kept W
  have a3 := fun W => right33_any k o x y b W
  have a4 := fun W => rright33_any k o x y b W
  have a5 := alive33
  simp only [← ask_eq] at a2
  generalize askP k o x y b s t = F at *
  generalize riB k o x y b = ri at *
  have x1 := fun W => a1 true W
  have x2 := fun W => a2 true W
  have y1 := fun W => a1 false W
  have y2 := fun W => a2 false W
  obtain ⟨p, hp⟩ : ∃ p, p = F true := ⟨_, rfl⟩
  obtain ⟨q, hq⟩ : ∃ q, q = F false := ⟨_, rfl⟩
  rw [← hp] at x1 x2
  rw [← hq] at y1 y2
  clear a1 a2 hp hq F
  obtain ⟨p1, p2⟩ := p
  obtain ⟨q1, q2⟩ := q
  unfold StL at *
  simp only at x1 x2 y1 y2
  have R0 := hide (heap_alloc_new w (.cells #[.int .i64 k, .int .i64 o, .bool x, .bool y, .int .i64 b] 24))
  have E0 : Hid (Below w.heap.size w (w.alloc (.cells #[.int .i64 k, .int .i64 o, .bool x, .bool y, .int .i64 b] 24))) := (Below.refl w.heap.size w).alloc (Nat.le_refl _) _
  go_enter Try.func3, Try.ntmps3
  go_wp2_with fail
  refine (o1 _).mono ?_
  rintro e w1 ⟨rfl, hb1⟩
  have HB1 := hide (E0.out.of hb1)
  have R1 := hide (keepRow R0.out hb1)
  clear hb1
  obtain ⟨c0, c1, c2, c3, c4⟩ := row5 R1.out
  go_wp2_with fail
  refine (x1 _).mono ?_
  rintro e w2 ⟨rfl, hb2⟩
  have HB2 := hide (HB1.out.of hb2)
  have R2 := hide (keepRow R1.out hb2)
  clear hb2 c0 c1 c2 c3 c4
  obtain ⟨c0, c1, c2, c3, c4⟩ := row5 R2.out
  go_wp2_with fail
  refine (x2 _).mono ?_
  rintro e w3 ⟨rfl, hb3⟩
  have HB3 := hide (HB2.out.of hb3)
  have R3 := hide (keepRow R2.out hb3)
  clear hb3 c0 c1 c2 c3 c4
  obtain ⟨c0, c1, c2, c3, c4⟩ := row5 R3.out
  go_wp2_with fail
  refine (o1 _).mono ?_
  rintro e w4 ⟨rfl, hb4⟩
  have HB4 := hide (HB3.out.of hb4)
  have R4 := hide (keepRow R3.out hb4)
  clear hb4 c0 c1 c2 c3 c4
  obtain ⟨c0, c1, c2, c3, c4⟩ := row5 R4.out
  go_wp2_with fail
  refine (y1 _).mono ?_
  rintro e w5 ⟨rfl, hb5⟩
  have HB5 := hide (HB4.out.of hb5)
  have R5 := hide (keepRow R4.out hb5)
  clear hb5 c0 c1 c2 c3 c4
  obtain ⟨c0, c1, c2, c3, c4⟩ := row5 R5.out
  go_wp2_with fail
  refine (y2 _).mono ?_
  rintro e w6 ⟨rfl, hb6⟩
  have HB6 := hide (HB5.out.of hb6)
  have R6 := hide (keepRow R5.out hb6)
  clear hb6 c0 c1 c2 c3 c4
  obtain ⟨c0, c1, c2, c3, c4⟩ := row5 R6.out
  have e1 : (p1 == p1) = true := by simp
  have e2 : (p2 == p2) = true := by simp
  have e3 : (q1 == q1) = true := by simp
  have e4 : (q2 == q2) = true := by simp
  have e5 : (ri == ri) = true := by simp
  clear x1 x2 y1 y2
  go_wp2_with fail
  go_region_held3 (fun w' : World => w'.cell? ⟨w.heap.size, 0, none⟩ = some (.int .i64 k) ∧ w'.cell? ⟨w.heap.size, 1, none⟩ = some (.int .i64 o) ∧ w'.cell? ⟨w.heap.size, 2, none⟩ = some (.bool x) ∧ w'.cell? ⟨w.heap.size, 3, none⟩ = some (.bool y) ∧ w'.cell? ⟨w.heap.size, 4, none⟩ = some (.int .i64 b))
    ((first | exact S5keep hv4 (by assumption) | exact S5keep hv3 (by assumption) | exact S5keep hv2 (by assumption) | exact S5keep hv1 (by assumption) | (go_keep; done)))
    ((first
      | (go_at_call 16; (with_reducible refine (o1 _).mono ?_); rintro e v1 ⟨rfl, hv1⟩)
      | (go_at_call 18; (with_reducible refine (a3 _).mono ?_); rintro e v2 ⟨rfl, hv2⟩)
      | (go_at_call 19; (with_reducible refine (a4 _).mono ?_); rintro e v3 ⟨rfl, hv3⟩)
      | (go_at_call 20; (with_reducible refine (a5 _).mono ?_); rintro e v4 ⟨rfl, hv4⟩)))
  all_goals
    go_wp2_with fail
    go_ret
    exact ⟨rfl, (((HB6.out.drew.of hv1).of hv2).of hv3).of hv4⟩
theorem knows_clP (k o : Int) (x y : Bool) (b s t : Int) (hk : k = 4) : (askP k o x y b s t false).1 = (askP k o x y b s t true).1 ∨ (askP k o x y b s t false).1 = 3 := by
  subst hk
  unfold askP
  split
  · exact .inl rfl
  split
  · exact .inl rfl
  split
  · unfold unP unA prB
    cases (s == 1 && o == 0) <;> simp
  split
  · right
    unfold kdP clP
    simp
  · exact .inl rfl
theorem knows_other (k o : Int) (x y : Bool) (b s t : Int) (hk : k ≠ 4) : askP k o x y b s t false = askP k o x y b s t true := by
  unfold askP
  split
  · rfl
  rename_i h
  have h1 : riB k o x y b = true := by cases hh : riB k o x y b <;> simp_all
  have hk' : k = 0 ∨ k = 1 ∨ k = 2 ∨ k = 3 := by
    unfold riB at h1
    simp at h1
    omega
  split
  · rfl
  split
  · unfold prB
    rcases hk' with rfl | rfl | rfl | rfl <;> simp
  split
  · unfold kdP
    rcases hk' with rfl | rfl | rfl | rfl <;> simp
  · rfl
set_option maxRecDepth 100000 in
set_option maxHeartbeats 3200000 in
theorem lifeKnows_walk (k o : Int) (x y : Bool) (b s t : Int) (w : World) : Calls Try.prog 6 #[.agg (StL k o x y b), .int .i64 s, .int .i64 t] w (Yes w) := by
  have o1 := fun W => own33_any k o x y b W
  have a1 := fun kept W => ask_any k o x y b s t kept W
  have a5 := alive33
  have x1 := fun W => a1 true W
  have y1 := fun W => a1 false W
  have R0 := hide (heap_alloc_new w (.cells #[.int .i64 k, .int .i64 o, .bool x, .bool y, .int .i64 b] 24))
  have E0 : Hid (Below w.heap.size w (w.alloc (.cells #[.int .i64 k, .int .i64 o, .bool x, .bool y, .int .i64 b] 24))) := (Below.refl w.heap.size w).alloc (Nat.le_refl _) _
  clear a1
  by_cases hk : k = 4
  · have hc := knows_clP k o x y b s t hk
    subst hk
    obtain ⟨p, hp⟩ : ∃ p, p = askP 4 o x y b s t true := ⟨_, rfl⟩
    obtain ⟨q, hq⟩ : ∃ q, q = askP 4 o x y b s t false := ⟨_, rfl⟩
    rw [← hp] at x1 hc
    rw [← hq] at y1 hc
    clear hp hq
    obtain ⟨p1, p2⟩ := p
    obtain ⟨q1, q2⟩ := q
    unfold StL at *
    simp only at x1 y1 hc
    by_cases hqp : q1 = p1
    · subst hqp
      clear hc
      go_enter Try.func6, Try.ntmps6
      go_wp2_with fail
      refine (o1 _).mono ?_
      rintro e w1 ⟨rfl, hb1⟩
      have HB1 := hide (E0.out.of hb1)
      have R1 := hide (keepRow R0.out hb1)
      clear hb1
      obtain ⟨c0, c1, c2, c3, c4⟩ := row5 R1.out
      go_wp2_with fail
      refine (x1 _).mono ?_
      rintro e w2 ⟨rfl, hb2⟩
      have HB2 := hide (HB1.out.of hb2)
      have R2 := hide (keepRow R1.out hb2)
      clear hb2 c0 c1 c2 c3 c4
      obtain ⟨c0, c1, c2, c3, c4⟩ := row5 R2.out
      go_wp2_with fail
      refine (o1 _).mono ?_
      rintro e w3 ⟨rfl, hb3⟩
      have HB3 := hide (HB2.out.of hb3)
      have R3 := hide (keepRow R2.out hb3)
      clear hb3 c0 c1 c2 c3 c4
      obtain ⟨c0, c1, c2, c3, c4⟩ := row5 R3.out
      go_wp2_with fail
      refine (y1 _).mono ?_
      rintro e w4 ⟨rfl, hb4⟩
      have HB4 := hide (HB3.out.of hb4)
      have R4 := hide (keepRow R3.out hb4)
      clear hb4 c0 c1 c2 c3 c4
      obtain ⟨c0, c1, c2, c3, c4⟩ := row5 R4.out
      go_wp2_with fail
      refine (a5 _).mono ?_
      rintro e w5 ⟨rfl, hb5⟩
      have HB5 := hide (HB4.out.of hb5)
      have R5 := hide (keepRow R4.out hb5)
      clear hb5 c0 c1 c2 c3 c4
      obtain ⟨c0, c1, c2, c3, c4⟩ := row5 R5.out
      go_wp2_with fail
      all_goals (go_ret; exact ⟨rfl, HB5.out⟩)
    · obtain rfl : q1 = 3 := hc.resolve_left hqp
      have d1 : ((3 : Int) == p1) = false := by simp; omega
      have d2 : (p1 == 3) = false := by simp; omega
      have d3 : (p1 != 3) = true := by simp; omega
      clear hc hqp
      go_enter Try.func6, Try.ntmps6
      go_wp2_with fail
      refine (o1 _).mono ?_
      rintro e w1 ⟨rfl, hb1⟩
      have HB1 := hide (E0.out.of hb1)
      have R1 := hide (keepRow R0.out hb1)
      clear hb1
      obtain ⟨c0, c1, c2, c3, c4⟩ := row5 R1.out
      go_wp2_with fail
      refine (x1 _).mono ?_
      rintro e w2 ⟨rfl, hb2⟩
      have HB2 := hide (HB1.out.of hb2)
      have R2 := hide (keepRow R1.out hb2)
      clear hb2 c0 c1 c2 c3 c4
      obtain ⟨c0, c1, c2, c3, c4⟩ := row5 R2.out
      go_wp2_with fail
      refine (o1 _).mono ?_
      rintro e w3 ⟨rfl, hb3⟩
      have HB3 := hide (HB2.out.of hb3)
      have R3 := hide (keepRow R2.out hb3)
      clear hb3 c0 c1 c2 c3 c4
      obtain ⟨c0, c1, c2, c3, c4⟩ := row5 R3.out
      go_wp2_with fail
      refine (y1 _).mono ?_
      rintro e w4 ⟨rfl, hb4⟩
      have HB4 := hide (HB3.out.of hb4)
      have R4 := hide (keepRow R3.out hb4)
      clear hb4 c0 c1 c2 c3 c4
      obtain ⟨c0, c1, c2, c3, c4⟩ := row5 R4.out
      go_wp2_with fail
      refine (a5 _).mono ?_
      rintro e w5 ⟨rfl, hb5⟩
      have HB5 := hide (HB4.out.of hb5)
      have R5 := hide (keepRow R4.out hb5)
      clear hb5 c0 c1 c2 c3 c4
      obtain ⟨c0, c1, c2, c3, c4⟩ := row5 R5.out
      go_wp2_with fail
      all_goals (go_ret; exact ⟨rfl, HB5.out⟩)
  · have hc := knows_other k o x y b s t hk
    rw [hc] at y1
    have d4 : (k == 4) = false := by simpa using hk
    have d5 : (k != 4) = true := by simpa using hk
    clear hk hc
    generalize askP k o x y b s t true = p at *
    obtain ⟨p1, p2⟩ := p
    unfold StL at *
    simp only at x1 y1
    go_enter Try.func6, Try.ntmps6
    go_wp2_with fail
    refine (o1 _).mono ?_
    rintro e w1 ⟨rfl, hb1⟩
    have HB1 := hide (E0.out.of hb1)
    have R1 := hide (keepRow R0.out hb1)
    clear hb1
    obtain ⟨c0, c1, c2, c3, c4⟩ := row5 R1.out
    go_wp2_with fail
    refine (x1 _).mono ?_
    rintro e w2 ⟨rfl, hb2⟩
    have HB2 := hide (HB1.out.of hb2)
    have R2 := hide (keepRow R1.out hb2)
    clear hb2 c0 c1 c2 c3 c4
    obtain ⟨c0, c1, c2, c3, c4⟩ := row5 R2.out
    go_wp2_with fail
    refine (o1 _).mono ?_
    rintro e w3 ⟨rfl, hb3⟩
    have HB3 := hide (HB2.out.of hb3)
    have R3 := hide (keepRow R2.out hb3)
    clear hb3 c0 c1 c2 c3 c4
    obtain ⟨c0, c1, c2, c3, c4⟩ := row5 R3.out
    go_wp2_with fail
    refine (y1 _).mono ?_
    rintro e w4 ⟨rfl, hb4⟩
    have HB4 := hide (HB3.out.of hb4)
    have R4 := hide (keepRow R3.out hb4)
    clear hb4 c0 c1 c2 c3 c4
    obtain ⟨c0, c1, c2, c3, c4⟩ := row5 R4.out
    go_wp2_with fail
    refine (a5 _).mono ?_
    rintro e w5 ⟨rfl, hb5⟩
    have HB5 := hide (HB4.out.of hb5)
    have R5 := hide (keepRow R4.out hb5)
    clear hb5 c0 c1 c2 c3 c4
    obtain ⟨c0, c1, c2, c3, c4⟩ := row5 R5.out
    go_wp2_with fail
    all_goals (go_ret; exact ⟨rfl, HB5.out⟩)
end Go.Proofs.Ytopgcimjdlhclaa
