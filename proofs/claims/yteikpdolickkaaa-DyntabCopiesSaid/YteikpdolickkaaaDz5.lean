/- Layer 21: a table stands as the document's does. -/
import Derived.Test.YteikpdolickkaaaDz3
import Derived.Deep.Cut
namespace Go.Proofs.Yteikpdolickkaaa
open Go.RowKit Go.Deep Go.ChangeShapes Go.WideShapes

set_option maxRecDepth 20000 in
set_option maxHeartbeats 3200000 in
theorem alike21 {B : Nat} {w : World} {p : Nat} {g : Option Nat} {n max : Nat} {F : Nat → Fd} (h : TOk B w p g n max F) (hn : n ≤ 100) {A : Option Addr} {c : Nat} (hr : RdV 3 w A n c (fdV (rvF n F))) (nm vl : ByteArray) :
    Calls Try.prog 28 #[.pointer (some ⟨p, 0, none⟩), .agg #[.slice A n c, .int .i64 (max : Int)], .string nm, .string vl] w fun e w' => e = .returned (.bool true) ∧ Below w.heap.size w w' := by
  have E0 := (Below.refl w.heap.size w).alloc (Nat.le_refl _) (.cells #[.slice A n c, .int .i64 (max : Int)] 50)
  have R0 := hide (heap_alloc_new w (.cells #[.slice A n c, .int .i64 (max : Int)] 50))
  have T0 := hide (h.below E0)
  have H0 := hide (hr.below36O E0)
  have HE := hide E0
  obtain ⟨L, hL⟩ : ∃ L, L = rvF n F := ⟨_, rfl⟩
  have HL := hide hL
  rw [← hL] at H0
  have HW : Hid (∀ i, i < n → wt (L i) ≤ 500) := fun i hi => by rw [HL.out]; exact h.wl _ (by omega)
  have HS : Hid (sumW L n = sumW F n) := by
    show _ = _
    rw [HL.out, sumW_rvF F (Nat.le_refl _), Nat.sub_self, shF_zero]
  clear h hr E0 hL
  go_enter Try.func28, Try.ntmps28
  go_upto_region 1 with (fail)
  generalize w.alloc (.cells #[.slice A n c, .int .i64 (max : Int)] 50) = W0 at *
  go_wp2_with fail
  refine (find21 T0.out hn nm vl).mono ?_
  rintro e w1 ⟨i, b, rfl, hf1, hb1⟩
  rw [← HL.out] at hf1
  have T1 := hide (T0.out.below hb1)
  have R1 := hide (keepRow R0.out hb1)
  have H1 := hide (H0.out.below36O hb1)
  have E1 := hide (HE.out.of hb1)
  have Hf1 := hide hf1
  clear hb1 hf1 T0 R0 H0 HE
  obtain ⟨t0, t1⟩ := row2 R1.out
  go_wp2_with fail
  refine (rfind21 H1.out (by omega) nm vl).mono ?_
  rintro e w2 ⟨k, d, rfl, hf2, hb2⟩
  obtain ⟨rfl, rfl⟩ := Hf1.out.same hf2
  have hrng := hf2.range
  have T2 := hide (T1.out.below hb2)
  have R2 := hide (keepRow R1.out hb2)
  have H2 := hide (H1.out.below36O hb2)
  have E2 := hide (E1.out.of hb2)
  have hi0 : -9223372036854775808 ≤ i := by
    rcases hrng with h | ⟨q, _, h⟩ <;> omega
  clear hb2 hf2 Hf1 T1 R1 H1 E1 t0 t1 hrng
  go_wp2_with fail
  refine (at21R T2.out (by omega) i).mono ?_
  rintro e w3 ⟨N, V, X, hs, rfl, ha3, hb3⟩
  rw [← HL.out] at ha3
  have al3 := (Below.refl w3.heap.size w3).alloc (Nat.le_refl _) (.cells #[.string N, .string V, .bool X] 52)
  have T3 := hide ((T2.out.below hb3).below al3)
  have R3 := hide (keepRow (keepRow R2.out hb3) al3)
  have H3 := hide ((H2.out.below36O hb3).below36O al3)
  have E3 := hide ((E2.out.of hb3).of al3)
  have D3 := hide (heap_alloc_new w3 (.cells #[.string N, .string V, .bool X] 52))
  have Ha3 := hide ha3
  clear hb3 al3 ha3 T2 R2 H2 E2
  obtain ⟨t0, t1⟩ := row2 R3.out
  go_wp2_with fail
  refine (rat21 H3.out (by omega) i hi0).mono ?_
  rintro e w4 ⟨N', V', X', hs', rfl, ha4, hb4⟩
  obtain ⟨rfl, rfl, rfl, rfl⟩ := Ha3.out.same ha4
  have al4 := (Below.refl w4.heap.size w4).alloc (Nat.le_refl _) (.cells #[.string N, .string V, .bool X] 52)
  have T4 := hide ((T3.out.below hb4).below al4)
  have R4 := hide (keepRow (keepRow R3.out hb4) al4)
  have H4 := hide ((H3.out.below36O hb4).below36O al4)
  have E4 := hide ((E3.out.of hb4).of al4)
  have D4 := hide (keepRow (keepRow D3.out hb4) al4)
  have F4 := hide (heap_alloc_new w4 (.cells #[.string N, .string V, .bool X] 52))
  clear hb4 al4 ha4 Ha3 T3 R3 H3 E3 D3 t0 t1
  obtain ⟨t0, t1⟩ := row2 R4.out
  obtain ⟨d0, d1, d2⟩ := rowT D4.out
  obtain ⟨f0, f1, f2⟩ := rowT F4.out
  generalize w3.alloc (.cells #[.string N, .string V, .bool X] 52) = z3 at *
  go_upto_region 5 with (fail)
  generalize hz4 : w4.alloc (.cells #[.string N, .string V, .bool X] 52) = W4 at *
  generalize w4.heap.size = p4 at *
  generalize w3.heap.size = p3 at *
  clear hz4
  have TD := hide T4.out.drew
  have HD : Hid (RdV 3 W4.drew A n c (fdV L)) := H4.out
  have ED := hide E4.out.drew
  have hNN := str_eq21 (rfl : N = N)
  have hVV := str_eq21 (rfl : V = V)
  have hXX : (X == X) = true := by simp
  obtain ⟨S0, hS0⟩ : ∃ S0, S0 = sumW F n := ⟨_, rfl⟩
  have HS0 := hide hS0
  clear hS0
  go_region_held3 (fun W => (W.cell? ⟨w.heap.size, 0, none⟩ = some (.slice A n c) ∧ W.cell? ⟨w.heap.size, 1, none⟩ = some (.int .i64 (max : Int))) ∧ (W.cell? ⟨p3, 0, none⟩ = some (.string N) ∧ W.cell? ⟨p3, 1, none⟩ = some (.string V) ∧ W.cell? ⟨p3, 2, none⟩ = some (.bool X)) ∧ (W.cell? ⟨p4, 0, none⟩ = some (.string N) ∧ W.cell? ⟨p4, 1, none⟩ = some (.string V) ∧ W.cell? ⟨p4, 2, none⟩ = some (.bool X)))
    ((first | exact ⟨⟨t0, t1⟩, ⟨d0, d1, d2⟩, ⟨f0, f1, f2⟩⟩ | exact S5.out | exact S6.out | exact S7.out | (go_keep; done)))
    ((first
      | (go_at_call 35; (with_reducible refine (len21 TD.out).mono ?_); rintro e wl ⟨rfl, rfl⟩)
      | (go_at_call 33; (with_reducible refine (size21 TD.out).mono ?_); rintro e wl ⟨rfl, rfl⟩; rw [← HS0.out])
      | (go_at_call 103; (with_reducible refine (rsize21 HD.out hn HW.out).mono ?_); rintro e w5 ⟨rfl, hb5⟩; rw [HS.out, ← HS0.out]; have T5 := hide (TD.out.below hb5); have H5 := hide (HD.out.below36O hb5); have E5 := hide (ED.out.of hb5); have keep5 := fun {a : Addr} {v : Value} (h : W4.cell? a = some v) => (hb5.cell (World.block_lt_of_cell? W4 _ h)).trans h; have S5 := hide (And.intro (And.intro (keep5 t0) (keep5 t1)) (And.intro (And.intro (keep5 d0) (And.intro (keep5 d1) (keep5 d2))) (And.intro (keep5 f0) (And.intro (keep5 f1) (keep5 f2))))); clear keep5)
      | (go_at_call 31; (with_reducible refine (max21 T5.out).mono ?_); rintro e wl ⟨rfl, rfl⟩)
      | (go_at_call 32; (with_reducible refine (all21 T5.out (by omega)).mono ?_); rintro e w6 ⟨v6, rfl, ho6, hb6⟩; obtain ⟨A6, c6, rfl, _, _⟩ := ho6.rd; have O6 : Hid (RdV 3 w6 A6 n c6 (fdV L)) := (by rw [HL.out]; exact ho6.rdS2); have H6 := hide (H5.out.below36O hb6); have E6 := hide (E5.out.of hb6); have keep6 := fun {a : Addr} {v : Value} (h : w5.cell? a = some v) => (hb6.cell (World.block_lt_of_cell? w5 _ h)).trans h; have S6 := hide (And.intro (And.intro (keep6 S5.out.1.1) (keep6 S5.out.1.2)) (And.intro (And.intro (keep6 S5.out.2.1.1) (And.intro (keep6 S5.out.2.1.2.1) (keep6 S5.out.2.1.2.2))) (And.intro (keep6 S5.out.2.2.1) (And.intro (keep6 S5.out.2.2.2.1) (keep6 S5.out.2.2.2.2))))); clear keep6)
      | (go_at_call 104; (with_reducible refine (rsame21 O6.out H6.out (by omega)).mono ?_); rintro e w7 ⟨rfl, hb7⟩; have E7 := hide (E6.out.of hb7); have keep7 := fun {a : Addr} {v : Value} (h : w6.cell? a = some v) => (hb7.cell (World.block_lt_of_cell? w6 _ h)).trans h; have S7 := hide (And.intro (And.intro (keep7 S6.out.1.1) (keep7 S6.out.1.2)) (And.intro (And.intro (keep7 S6.out.2.1.1) (And.intro (keep7 S6.out.2.1.2.1) (keep7 S6.out.2.1.2.2))) (And.intro (keep7 S6.out.2.2.1) (And.intro (keep7 S6.out.2.2.2.1) (keep7 S6.out.2.2.2.2))))); clear keep7)))
  all_goals
    go_wp2_with fail
    go_ret
    exact ⟨rfl, E7.out⟩
end Go.Proofs.Yteikpdolickkaaa
