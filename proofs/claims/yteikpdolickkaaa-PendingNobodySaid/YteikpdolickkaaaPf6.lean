/- Layer 32: a queue stands as the document's does. -/
import Derived.Test.YteikpdolickkaaaPf5
namespace Go.Proofs.Yteikpdolickkaaa
open Go.RowKit Go.Deep Go.ChangeShapes Go.WideShapes

theorem vA_congr {f g : Nat → Int} (h : ∀ j, j < 6 → f j = g j) : vA f = vA g := by
  unfold vA
  rw [h 0 (by omega), h 1 (by omega), h 2 (by omega), h 3 (by omega), h 4 (by omega), h 5 (by omega)]
set_option maxRecDepth 20000 in
theorem newestF32 {B : Nat} {w : World} {p : Nat} {g : Option Nat} {a l n : Nat} {V : Nat → Nat → Int} (h : QOk B w p g a l n V) (hB : B ≤ w.heap.size) (hn : n ≤ 1000) {X : Nat → Int} (hX : ∀ j, j < 6 → V (n - 1) j = X j) :
    Calls Try.prog 61 #[.pointer (some ⟨p, 0, none⟩)] w fun e w' => e = .returned (.agg #[.int .i64 (X 0), .int .i64 (X 1), .int .i64 (X 2), .int .i64 (X 3), .int .i64 (X 4), .int .i64 (X 5)]) ∧ Below w.heap.size w w' := by
  refine (newest32 h hB hn).mono ?_
  rintro e w' ⟨rfl, h2⟩
  rw [vA_congr hX]
  exact ⟨rfl, h2⟩
set_option maxRecDepth 20000 in
theorem rvaluesF32 {w : World} {A1 : Option Addr} {m c1 : Nat} {a : Int} {A3 : Option Addr} {n3 c3 : Nat} {D : Nat → Sg} (hl : RdV 1 w A1 m c1 (sgF D)) (he : ∀ i, i < m → Rd2 w (D i).A (D i).n (D i).c (D i).f (D i).g ∧ (D i).n ≤ 1000) (hm : m ≤ 100) (k : Nat) (hk : k ≤ m) {X : Nat → Int} (hX : vq D k = X) :
    Calls Try.prog 120 #[.agg #[.slice A1 m c1, .int .i64 a, .slice A3 n3 c3], .int .i64 (k : Int)] w fun e w' => e = .returned (.agg #[.int .i64 (X 0), .int .i64 (X 1), .int .i64 (X 2), .int .i64 (X 3), .int .i64 (X 4), .int .i64 (X 5)]) ∧ Below w.heap.size w w' := by
  refine (rvalues32 ⟨A3, n3, c3, rfl⟩ hl he hm k hk).mono ?_
  rintro e w' ⟨rfl, h2⟩
  rw [hX]
  exact ⟨rfl, h2⟩
set_option maxRecDepth 20000 in
set_option maxHeartbeats 3200000 in
theorem alike32 {B : Nat} {w : World} {p : Nat} {g : Option Nat} {a l n m : Nat} {V : Nat → Nat → Int} (h : QOk B w p g a l n V) (hB : B ≤ w.heap.size) {A1 : Option Addr} {c1 : Nat} {A3 : Option Addr} {c3 : Nat} {f : Nat → Int} {D : Nat → Sg}
    (hl : RdV 1 w A1 m c1 (sgF D)) (he : ∀ i, i < m → Rd2 w (D i).A (D i).n (D i).c (D i).f (D i).g ∧ (D i).n ≤ 1000) (hm : m ≤ 100) (ho : Rd .i64 w A3 n c3 f) (hf : ∀ i, i < n → f i = ((l + i : Nat) : Int)) (hlm : l + n = m + 1)
    (hV : ∀ i, i < n → ∀ j, j < 6 → V i j = vq D (l + i) j) :
    Calls Try.prog 56 #[.pointer (some ⟨p, 0, none⟩), .agg #[.slice A1 m c1, .int .i64 (a : Int), .slice A3 n c3]] w fun e w' => e = .returned (.bool true) ∧ Below w.heap.size w w' := by
  have hpos := h.pos
  have R0 := hide (heap_alloc_new w (.cells #[.slice A1 m c1, .int .i64 (a : Int), .slice A3 n c3] 95))
  have E0 := hide ((Below.refl w.heap.size w).alloc (Nat.le_refl _) (.cells #[.slice A1 m c1, .int .i64 (a : Int), .slice A3 n c3] 95))
  have H0 := hide (h.below E0.out)
  have Hl := hide hl
  have He := hide he
  have Ho := hide ho
  have Hf := hide hf
  have HV := hide hV
  have Hm := hide hlm
  have HBs : Hid (B ≤ (w.alloc (.cells #[.slice A1 m c1, .int .i64 (a : Int), .slice A3 n c3] 95)).heap.size) := Nat.le_trans hB E0.out.size
  clear h hl he ho hf hV hB
  have hn101 : n ≤ 101 := by omega
  clear hlm
  go_enter Try.func56, Try.ntmps56
  go_upto_region 1 with (fail)
  generalize w.alloc (.cells #[.slice A1 m c1, .int .i64 (a : Int), .slice A3 n c3] 95) = W0 at *
  obtain ⟨t0, t1, t2⟩ := rowQ R0.out
  obtain ⟨b3, o3, rfl, hc3⟩ := (Ho.out.below E0.out).at_ (i := 0) (by omega)
  rw [Hf.out 0 (by omega), Nat.add_zero, Nat.add_zero] at hc3
  have HD := hide H0.out.drew
  have HBd : Hid (B ≤ W0.drew.heap.size) := HBs.out
  have hm1 : Hid (l + n - 1 = m) := by show _ = _; have := Hm.out; omega
  obtain ⟨X, hX⟩ : ∃ X, X = vq D m := ⟨_, rfl⟩
  have HX := hide hX
  have HXn : Hid (∀ j, j < 6 → V (n - 1) j = X j) := fun j hj => by
    have h1 := HV.out (n - 1) (by omega) j hj
    have h2 := hm1.out
    rw [h1, HX.out, show l + (n - 1) = m by omega]
  have hn0 : (0 : Int) < (n : Int) := by omega
  have hn1 : 0 < n := by omega
  have hn2 : decide (0 < n) = true := decide_eq_true hn1
  clear hX
  go_region_held3 (fun W => W.cell? ⟨w.heap.size, 0, none⟩ = some (.slice A1 m c1) ∧ W.cell? ⟨w.heap.size, 1, none⟩ = some (.int .i64 (a : Int)) ∧ W.cell? ⟨w.heap.size, 2, none⟩ = some (.slice (some ⟨b3, o3, none⟩) n c3) ∧ W.cell? ⟨b3, o3, none⟩ = some (.int .i64 (l : Int)))
    ((first | exact ⟨t0, t1, t2, hc3⟩ | exact S1.out | exact S2.out | exact S3.out | (go_keep; done)))
    ((first
      | (go_at_call 58; (with_reducible refine (sent32 HD.out HBd.out (by have := Hm.out; omega)).mono ?_); rintro e w1 ⟨rfl, hb1⟩; rw [hm1.out]; have Q1 := hide (HD.out.below hb1); have E1 := hide (E0.out.drew.of hb1); have RB1 := hide (keepRow (w := W0.drew) R0.out hb1); have HB1 : Hid (B ≤ w1.heap.size) := Nat.le_trans HBd.out hb1.size; have S1 := hide (And.intro ((hb1.cell (World.block_lt_of_cell? W0 _ t0)).trans t0) (And.intro ((hb1.cell (World.block_lt_of_cell? W0 _ t1)).trans t1) (And.intro ((hb1.cell (World.block_lt_of_cell? W0 _ t2)).trans t2) ((hb1.cell (World.block_lt_of_cell? W0 _ hc3)).trans hc3)))))
      | (go_at_call 59; (with_reducible refine (acked32 Q1.out).mono ?_); rintro e wl ⟨rfl, rfl⟩)
      | (go_at_call 60; (with_reducible refine (least32 Q1.out).mono ?_); rintro e wl ⟨rfl, rfl⟩)
      | (go_at_call 61; (with_reducible refine (newestF32 Q1.out HB1.out (by omega) HXn.out).mono ?_); rintro e w2 ⟨rfl, hb2⟩; have Q2 := hide (Q1.out.below hb2); have E2 := hide (E1.out.of hb2); have RB2 := hide (keepRow RB1.out hb2); have S2 := hide (And.intro ((hb2.cell (World.block_lt_of_cell? w1 _ S1.out.1)).trans S1.out.1) (And.intro ((hb2.cell (World.block_lt_of_cell? w1 _ S1.out.2.1)).trans S1.out.2.1) (And.intro ((hb2.cell (World.block_lt_of_cell? w1 _ S1.out.2.2.1)).trans S1.out.2.2.1) ((hb2.cell (World.block_lt_of_cell? w1 _ S1.out.2.2.2)).trans S1.out.2.2.2)))))
      | (go_at_call 120; (with_reducible refine (rvaluesF32 (Hl.out.below36O E2.out) (fun i hi => ⟨(He.out i hi).1.below E2.out, (He.out i hi).2⟩) (by omega) m (by omega) HX.out.symm).mono ?_); rintro e w3 ⟨rfl, hb3⟩; have Q3 := hide (Q2.out.below hb3); have E3 := hide (E2.out.of hb3); have RB3 := hide (keepRow RB2.out hb3); have S3 := hide (And.intro ((hb3.cell (World.block_lt_of_cell? w2 _ S2.out.1)).trans S2.out.1) (And.intro ((hb3.cell (World.block_lt_of_cell? w2 _ S2.out.2.1)).trans S2.out.2.1) (And.intro ((hb3.cell (World.block_lt_of_cell? w2 _ S2.out.2.2.1)).trans S2.out.2.2.1) ((hb3.cell (World.block_lt_of_cell? w2 _ S2.out.2.2.2)).trans S2.out.2.2.2)))))))
  all_goals
    clear t0 t1 t2 hc3 hn0 hn1 hn2
    obtain ⟨t0, t1, t2, _⟩ := S3.out
    have hB3 := hb3.size
    have HB3 : Hid (B ≤ w3.heap.size) := Nat.le_trans HB1.out (Nat.le_trans hb2.size hb3.size)
    clear hb1 hb2 hb3 hB3
    have hnn : ((n : Int) != (n : Int)) = false := by simp
    go_wp2_with fail
    refine (all32 Q3.out HB3.out (by omega)).mono ?_
    rintro e w4 ⟨v4, rfl, ho4, hb4⟩
    obtain ⟨A4, c4, rfl, _, _⟩ := ho4.rd
    have HO4 := hide ho4
    have R4 : Hid (w4.heap[w.heap.size]? = some (.cells #[.slice A1 m c1, .int .i64 (a : Int), .slice (some ⟨b3, o3, none⟩) n c3] 95 (0, 0))) := keepRow RB3.out hb4
    have E4 := hide (E3.out.of hb4)
    obtain ⟨s0, s1, s2⟩ := rowQ R4.out
    clear ho4 hb4 t0 t1 t2
    go_wp2_with fail
    go_loopw [6] (fun i wr => ∃ k : Nat, k ≤ n ∧ i = .int .i64 k ∧ Below w4.heap.size w4 wr) (fun i _ => n - (intOf i).toNat)
    case atStart => exact ⟨0, Nat.zero_le _, rfl, Below.refl _ _⟩
    case round =>
      obtain ⟨k, hk, rfl, hbl⟩ := hrel
      clear s0 s1 s2
      by_cases hlt : k < n
      · have hlt' : (k : Int) < (n : Int) := by omega
        obtain ⟨b4, o4, rfl, hc4⟩ := (HO4.out.rdS2.below36O hbl).2.2.2 (by omega)
        obtain ⟨Y, hY⟩ : ∃ Y, Y = vq D (l + k) := ⟨_, rfl⟩
        obtain ⟨x, hx⟩ : ∃ x, x = l + k := ⟨_, rfl⟩
        have HY : Hid (vq D x = Y) := by show _ = _; rw [hY, hx]
        have Hxm : Hid (x ≤ m) := by show _ ≤ _; have := Hm.out; omega
        have q : ∀ j, j < 6 → wr.cell? ⟨b4, o4 + k * 6 + j, none⟩ = some (.int .i64 (Y j)) := fun j hj => by
          rw [Nat.add_assoc, hc4 _ (by omega), vlF_at _ _ _ hj, HV.out k hlt j hj, hY]
        have q0 := q 0 (by omega)
        have q1 := q 1 (by omega)
        have q2 := q 2 (by omega)
        have q3 := q 3 (by omega)
        have q4 := q 4 (by omega)
        have q5 := q 5 (by omega)
        rw [Nat.add_zero] at q0
        have hc3 : wr.cell? ⟨b3, o3 + k, none⟩ = some (.int .i64 (x : Int)) := by
          obtain ⟨b', o', e', h'⟩ := (Ho.out.below (E4.out.of hbl)).2.2.2 (by omega)
          cases e'
          rw [h' k hlt, Hf.out k hlt, hx]
        have RB := hide (keepRow R4.out hbl)
        have E5 := hide (E4.out.of hbl)
        have HE := hide hbl
        have E5d : Hid (Below w.heap.size w wr.drew) := E5.out.drew
        have HEd : Hid (Below w4.heap.size w4 wr.drew) := HE.out.drew
        obtain ⟨t0, t1, t2⟩ := rowQ RB.out
        clear hbl hc4 q hY hx
        go_wp2_with fail
        go_region_held3 (fun W => (W.cell? ⟨w.heap.size, 0, none⟩ = some (.slice A1 m c1) ∧ W.cell? ⟨w.heap.size, 1, none⟩ = some (.int .i64 (a : Int)) ∧ W.cell? ⟨w.heap.size, 2, none⟩ = some (.slice (some ⟨b3, o3, none⟩) n c3) ∧ W.cell? ⟨b3, o3 + k, none⟩ = some (.int .i64 (x : Int))) ∧ W.cell? ⟨b4, o4 + k * 6, none⟩ = some (.int .i64 (Y 0)) ∧ W.cell? ⟨b4, o4 + k * 6 + 1, none⟩ = some (.int .i64 (Y 1)) ∧ W.cell? ⟨b4, o4 + k * 6 + 2, none⟩ = some (.int .i64 (Y 2)) ∧ W.cell? ⟨b4, o4 + k * 6 + 3, none⟩ = some (.int .i64 (Y 3)) ∧ W.cell? ⟨b4, o4 + k * 6 + 4, none⟩ = some (.int .i64 (Y 4)) ∧ W.cell? ⟨b4, o4 + k * 6 + 5, none⟩ = some (.int .i64 (Y 5)))
          ((first | exact ⟨⟨t0, t1, t2, hc3⟩, q0, q1, q2, q3, q4, q5⟩ | exact ST.out | (go_keep; done)))
          ((first
            | (go_at_call 120; (with_reducible refine (rvaluesF32 (Hl.out.below36O E5d.out) (fun i hi => ⟨(He.out i hi).1.below E5d.out, (He.out i hi).2⟩) (by omega) x Hxm.out HY.out).mono ?_); rintro e w6 ⟨rfl, hb6⟩; have keep := fun {a : Addr} {v : Value} (h : wr.cell? a = some v) => (hb6.cell (World.block_lt_of_cell? wr _ h)).trans h; have ST := hide (And.intro (And.intro (keep t0) (And.intro (keep t1) (And.intro (keep t2) (keep hc3)))) (And.intro (keep q0) (And.intro (keep q1) (And.intro (keep q2) (And.intro (keep q3) (And.intro (keep q4) (keep q5))))))); clear keep)))
        all_goals
          go_wp2_with fail
          go_roundw
          case rel => exact ⟨k + 1, by omega, by go_num, HEd.out.of hb6⟩
          case measure => simp [intOf]; omega
      · obtain rfl : n = k := by omega
        have E5 := hide (E4.out.of hbl)
        go_wp2_with fail
        go_ret
        exact ⟨rfl, E5.out⟩
end Go.Proofs.Yteikpdolickkaaa
