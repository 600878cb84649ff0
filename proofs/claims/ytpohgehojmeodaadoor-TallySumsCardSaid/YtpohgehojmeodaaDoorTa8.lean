/- Layer 29: the example; fields of answers. -/
import Derived.Test.YtpohgehojmeodaaDoorTa7
namespace Go.Proofs.YtpohgehojmeodaaDoor
set_option linter.unusedVariables false
set_option linter.unusedSimpArgs false
open Go.RowKit Go.PlainAid

def ex29 : Nat → Fd := fun i => [(⟨⟨#[58, 109, 101, 116, 104, 111, 100]⟩, ⟨#[80, 79, 83, 84]⟩, false⟩ : Fd), ⟨⟨#[58, 115, 99, 104, 101, 109, 101]⟩, ⟨#[104, 116, 116, 112]⟩, false⟩, ⟨⟨#[58, 112, 97, 116, 104]⟩, ⟨#[47]⟩, false⟩, ⟨⟨#[99, 111, 110, 116, 101, 110, 116, 45, 108, 101, 110, 103, 116, 104]⟩, ⟨#[53]⟩, false⟩].getD i default
theorem ex29_r_l : LenR ex29 4 5 true true := .inl ⟨rfl, some 5, ⟨fun i hi e => by
      have : i = 0 ∨ i = 1 ∨ i = 2 ∨ i = 3 := by omega
      rcases this with rfl | rfl | rfl | rfl
      all_goals first
        | exact ⟨by decide +kernel, by decide +kernel⟩
        | exact absurd e (by decide +kernel), fun _ => ⟨3, by omega, rfl⟩⟩, rfl, rfl⟩
theorem ex29_r : ChkR 0 ex29 4 ⟨#[80, 79, 83, 84]⟩ 0 5 true 0 :=
  .inr (.inr (.inr (.inr (.inr ⟨by decide +kernel, by decide +kernel, by decide +kernel, ex29_r_l, fun h => absurd h (by decide), rfl, by decide +kernel, by decide +kernel⟩))))
theorem ex29_r_s : ∀ i, i < 4 → (ex29 i).name.size ≤ 1000 ∧ (ex29 i).val.size ≤ 1000 := fun i hi => by
  have : i = 0 ∨ i = 1 ∨ i = 2 ∨ i = 3 := by omega
  rcases this with rfl | rfl | rfl | rfl
  all_goals decide +kernel
def an200n : Nat → Fd := fun i => [(⟨⟨#[58, 115, 116, 97, 116, 117, 115]⟩, ⟨#[50, 48, 48]⟩, false⟩ : Fd)].getD i default
theorem an200n_r_l : LenR an200n 1 0 false true := .inl ⟨rfl, none, ⟨fun i hi e => by
      obtain rfl : i = 0 := by omega
      all_goals exact absurd e (by decide +kernel), fun h => absurd rfl h⟩, rfl, rfl⟩
theorem an200n_r : ChkR 1 an200n 1 ⟨#[]⟩ 200 0 false 0 :=
  .inr (.inr (.inr (.inr (.inr ⟨by decide +kernel, by decide +kernel, by decide +kernel, an200n_r_l, fun h => absurd h (by decide), rfl, by decide +kernel, by decide +kernel⟩))))
theorem an200n_r_s : ∀ i, i < 1 → (an200n i).name.size ≤ 1000 ∧ (an200n i).val.size ≤ 1000 := fun i hi => by
  obtain rfl : i = 0 := by omega
  all_goals decide +kernel
def an200t : Nat → Fd := fun i => [(⟨⟨#[58, 115, 116, 97, 116, 117, 115]⟩, ⟨#[50, 48, 48]⟩, false⟩ : Fd), ⟨⟨#[99, 111, 110, 116, 101, 110, 116, 45, 108, 101, 110, 103, 116, 104]⟩, ⟨#[55]⟩, false⟩].getD i default
theorem an200t_r_l : LenR an200t 2 7 true true := .inl ⟨rfl, some 7, ⟨fun i hi e => by
      have : i = 0 ∨ i = 1 := by omega
      rcases this with rfl | rfl
      all_goals first
        | exact ⟨by decide +kernel, by decide +kernel⟩
        | exact absurd e (by decide +kernel), fun _ => ⟨1, by omega, rfl⟩⟩, rfl, rfl⟩
theorem an200t_r : ChkR 1 an200t 2 ⟨#[]⟩ 200 7 true 0 :=
  .inr (.inr (.inr (.inr (.inr ⟨by decide +kernel, by decide +kernel, by decide +kernel, an200t_r_l, fun h => absurd h (by decide), rfl, by decide +kernel, by decide +kernel⟩))))
theorem an200t_r_s : ∀ i, i < 2 → (an200t i).name.size ≤ 1000 ∧ (an200t i).val.size ≤ 1000 := fun i hi => by
  have : i = 0 ∨ i = 1 := by omega
  rcases this with rfl | rfl
  all_goals decide +kernel
def an204n : Nat → Fd := fun i => [(⟨⟨#[58, 115, 116, 97, 116, 117, 115]⟩, ⟨#[50, 48, 52]⟩, false⟩ : Fd)].getD i default
theorem an204n_r_l : LenR an204n 1 0 false true := .inl ⟨rfl, none, ⟨fun i hi e => by
      obtain rfl : i = 0 := by omega
      all_goals exact absurd e (by decide +kernel), fun h => absurd rfl h⟩, rfl, rfl⟩
theorem an204n_r : ChkR 1 an204n 1 ⟨#[]⟩ 204 0 false 0 :=
  .inr (.inr (.inr (.inr (.inr ⟨by decide +kernel, by decide +kernel, by decide +kernel, an204n_r_l, fun h => absurd h (by decide), rfl, by decide +kernel, by decide +kernel⟩))))
theorem an204n_r_s : ∀ i, i < 1 → (an204n i).name.size ≤ 1000 ∧ (an204n i).val.size ≤ 1000 := fun i hi => by
  obtain rfl : i = 0 := by omega
  all_goals decide +kernel
def an204t : Nat → Fd := fun i => [(⟨⟨#[58, 115, 116, 97, 116, 117, 115]⟩, ⟨#[50, 48, 52]⟩, false⟩ : Fd), ⟨⟨#[99, 111, 110, 116, 101, 110, 116, 45, 108, 101, 110, 103, 116, 104]⟩, ⟨#[55]⟩, false⟩].getD i default
theorem an204t_r_l : LenR an204t 2 7 true true := .inl ⟨rfl, some 7, ⟨fun i hi e => by
      have : i = 0 ∨ i = 1 := by omega
      rcases this with rfl | rfl
      all_goals first
        | exact ⟨by decide +kernel, by decide +kernel⟩
        | exact absurd e (by decide +kernel), fun _ => ⟨1, by omega, rfl⟩⟩, rfl, rfl⟩
theorem an204t_r : ChkR 1 an204t 2 ⟨#[]⟩ 204 7 true 0 :=
  .inr (.inr (.inr (.inr (.inr ⟨by decide +kernel, by decide +kernel, by decide +kernel, an204t_r_l, fun h => absurd h (by decide), rfl, by decide +kernel, by decide +kernel⟩))))
theorem an204t_r_s : ∀ i, i < 2 → (an204t i).name.size ≤ 1000 ∧ (an204t i).val.size ≤ 1000 := fun i hi => by
  have : i = 0 ∨ i = 1 := by omega
  rcases this with rfl | rfl
  all_goals decide +kernel
def an304n : Nat → Fd := fun i => [(⟨⟨#[58, 115, 116, 97, 116, 117, 115]⟩, ⟨#[51, 48, 52]⟩, false⟩ : Fd)].getD i default
theorem an304n_r_l : LenR an304n 1 0 false true := .inl ⟨rfl, none, ⟨fun i hi e => by
      obtain rfl : i = 0 := by omega
      all_goals exact absurd e (by decide +kernel), fun h => absurd rfl h⟩, rfl, rfl⟩
theorem an304n_r : ChkR 1 an304n 1 ⟨#[]⟩ 304 0 false 0 :=
  .inr (.inr (.inr (.inr (.inr ⟨by decide +kernel, by decide +kernel, by decide +kernel, an304n_r_l, fun h => absurd h (by decide), rfl, by decide +kernel, by decide +kernel⟩))))
theorem an304n_r_s : ∀ i, i < 1 → (an304n i).name.size ≤ 1000 ∧ (an304n i).val.size ≤ 1000 := fun i hi => by
  obtain rfl : i = 0 := by omega
  all_goals decide +kernel
def an304t : Nat → Fd := fun i => [(⟨⟨#[58, 115, 116, 97, 116, 117, 115]⟩, ⟨#[51, 48, 52]⟩, false⟩ : Fd), ⟨⟨#[99, 111, 110, 116, 101, 110, 116, 45, 108, 101, 110, 103, 116, 104]⟩, ⟨#[55]⟩, false⟩].getD i default
theorem an304t_r_l : LenR an304t 2 7 true true := .inl ⟨rfl, some 7, ⟨fun i hi e => by
      have : i = 0 ∨ i = 1 := by omega
      rcases this with rfl | rfl
      all_goals first
        | exact ⟨by decide +kernel, by decide +kernel⟩
        | exact absurd e (by decide +kernel), fun _ => ⟨1, by omega, rfl⟩⟩, rfl, rfl⟩
theorem an304t_r : ChkR 1 an304t 2 ⟨#[]⟩ 304 7 true 0 :=
  .inr (.inr (.inr (.inr (.inr ⟨by decide +kernel, by decide +kernel, by decide +kernel, an304t_r_l, fun h => absurd h (by decide), rfl, by decide +kernel, by decide +kernel⟩))))
theorem an304t_r_s : ∀ i, i < 2 → (an304t i).name.size ≤ 1000 ∧ (an304t i).val.size ≤ 1000 := fun i hi => by
  have : i = 0 ∨ i = 1 := by omega
  rcases this with rfl | rfl
  all_goals decide +kernel
set_option maxRecDepth 100000 in
set_option maxHeartbeats 3200000 in
theorem alive29 (w : World) (T : TypeId) (fr : Nat × Nat) (hg : w.heap[6]? = some (.cells barV T fr)) : Calls Tryd.prog 61 #[] w (Yes w) := by
  have a1 := (OwnV.lit 3 60 0 w (fdV ex29) #[.string ⟨#[58, 109, 101, 116, 104, 111, 100]⟩, .string ⟨#[80, 79, 83, 84]⟩, .bool false, .string ⟨#[58, 115, 99, 104, 101, 109, 101]⟩, .string ⟨#[104, 116, 116, 112]⟩, .bool false, .string ⟨#[58, 112, 97, 116, 104]⟩, .string ⟨#[47]⟩, .bool false, .string ⟨#[99, 111, 110, 116, 101, 110, 116, 45, 108, 101, 110, 103, 116, 104]⟩, .string ⟨#[53]⟩, .bool false] 4 (Nat.zero_le _) (by simp [maxLen]) rfl).rdS2
  have A1 := hide (rdFd_of_rdV a1 (fun i hi => by have := ex29_r_s i hi; simp only [maxLen]; omega))
  have Hs : Hid (Sm28 ex29 4) := ex29_r_s
  have al := (Below.refl w.heap.size w).alloc (Nat.le_refl _) (.cells #[.string ⟨#[58, 109, 101, 116, 104, 111, 100]⟩, .string ⟨#[80, 79, 83, 84]⟩, .bool false, .string ⟨#[58, 115, 99, 104, 101, 109, 101]⟩, .string ⟨#[104, 116, 116, 112]⟩, .bool false, .string ⟨#[58, 112, 97, 116, 104]⟩, .string ⟨#[47]⟩, .bool false, .string ⟨#[99, 111, 110, 116, 101, 110, 116, 45, 108, 101, 110, 103, 116, 104]⟩, .string ⟨#[53]⟩, .bool false] 60)
  have G1 := hide ((al.block _ (rowLt hg)).trans hg)
  have B1 := hide al
  clear a1 al hg
  go_enter Tryd.func61, Tryd.ntmps61
  go_wp2_with fail
  refine (asks29 _).mono ?_
  rintro e w1 ⟨rfl, hb1⟩
  have A2 := hide (A1.out.below hb1)
  have G2 := hide ((hb1.block _ (rowLt G1.out)).trans G1.out)
  have B2 := hide (B1.out.of hb1)
  clear hb1 A1 G1 B1
  go_wp2_with fail
  refine (head29 0 0 0 _ 4 _ ex29 false _ A2.out Hs.out T fr G2.out (mm := ⟨#[80, 79, 83, 84]⟩) (st := 0) (N := 5) (T' := true) ex29_r (by decide) (fun h => by cases h)).mono ?_
  rw [show behM 0 ⟨#[80, 79, 83, 84]⟩ 0 true = 2 by decide +kernel, show behL 0 ⟨#[80, 79, 83, 84]⟩ 0 5 true = 5 by decide +kernel]
  rintro e w2 ⟨rfl, hb2⟩
  have al1 := (Below.refl w2.heap.size w2).alloc (Nat.le_refl _) (.cells #[.int .i64 0, .int .i64 1, .int .i64 2, .int .i64 5] 63)
  have al2 := (Below.refl (w2.alloc (.cells #[.int .i64 0, .int .i64 1, .int .i64 2, .int .i64 5] 63)).heap.size (w2.alloc (.cells #[.int .i64 0, .int .i64 1, .int .i64 2, .int .i64 5] 63))).alloc (Nat.le_refl _) (.cells #[.string ⟨#[80, 79, 83, 84]⟩, .int .i64 0, .int .i64 5, .bool true] 67)
  have B3 := hide (B2.out.of (hb2.of (al1.of al2)))
  have R3 := hide (keepRow (heap_alloc_new w2 (.cells #[.int .i64 0, .int .i64 1, .int .i64 2, .int .i64 5] 63)) al2)
  clear hb2 al1 al2 A2 G2 B2
  obtain ⟨c0, c1, c2, c3⟩ := row4m R3.out
  go_wp2_with fail
  refine (data29 0 1 2 5 3 3 false _ (by decide) (by decide) (by decide)).mono ?_
  rw [show dtO 0 1 2 5 3 false = (.agg #[.int .i64 0, .int .i64 1, .int .i64 2, .int .i64 2], 0) by rfl]
  rintro e w4 ⟨rfl, hb4⟩
  have al4 := (Below.refl w4.heap.size w4).alloc (Nat.le_refl _) (.cells #[.int .i64 0, .int .i64 1, .int .i64 2, .int .i64 2] 63)
  have B4 := hide (B3.out.of (hb4.of al4))
  have R4 := hide (keepRow R3.out (hb4.of al4))
  have Q4 := hide (heap_alloc_new w4 (.cells #[.int .i64 0, .int .i64 1, .int .i64 2, .int .i64 2] 63))
  clear hb4 al4 B3 c0 c1 c2 c3 R3
  obtain ⟨c0, c1, c2, c3⟩ := row4m R4.out
  obtain ⟨d0, d1, d2, d3⟩ := row4m Q4.out
  go_wp2_with fail
  refine (data29 0 1 2 2 2 2 true _ (by decide) (by decide) (by decide)).mono ?_
  rw [show dtO 0 1 2 2 2 true = (.agg #[.int .i64 0, .int .i64 2, .int .i64 0, .int .i64 0], 0) by rfl]
  rintro e w5 ⟨rfl, hb5⟩
  have al5 := (Below.refl w5.heap.size w5).alloc (Nat.le_refl _) (.cells #[.int .i64 0, .int .i64 2, .int .i64 0, .int .i64 0] 63)
  have B5 := hide (B4.out.of (hb5.of al5))
  have R5 := hide (keepRow R4.out (hb5.of al5))
  have Q5 := hide (keepRow Q4.out (hb5.of al5))
  have P5 := hide (heap_alloc_new w5 (.cells #[.int .i64 0, .int .i64 2, .int .i64 0, .int .i64 0] 63))
  clear hb5 al5 B4 c0 c1 c2 c3 d0 d1 d2 d3 R4 Q4
  obtain ⟨c0, c1, c2, c3⟩ := row4m R5.out
  go_wp2_with fail
  refine (data29 0 1 2 5 3 3 true _ (by decide) (by decide) (by decide)).mono ?_
  rw [show dtO 0 1 2 5 3 true = (.agg #[.int .i64 0, .int .i64 0, .int .i64 0, .int .i64 0], 31) by rfl]
  rintro e w6 ⟨rfl, hb6⟩
  have al6 := (Below.refl w6.heap.size w6).alloc (Nat.le_refl _) (.cells #[.int .i64 0, .int .i64 0, .int .i64 0, .int .i64 0] 63)
  have B6 := hide (B5.out.of (hb6.of al6))
  have Q6 := hide (keepRow Q5.out (hb6.of al6))
  have P6 := hide (keepRow P5.out (hb6.of al6))
  clear hb6 al6 B5 c0 c1 c2 c3 R5 Q5 P5
  obtain ⟨d0, d1, d2, d3⟩ := row4m Q6.out
  obtain ⟨e0, e1, e2, e3⟩ := row4m P6.out
  go_wp2_with fail
  refine (over29 0 2 0 0 _).mono ?_
  rw [show ((2 : Int) == 2) = true by rfl]
  rintro e w7 ⟨rfl, hb7⟩
  have B7 := hide (B6.out.of hb7)
  have Q7 := hide (keepRow Q6.out hb7)
  clear hb7 B6 Q6 P6 d0 d1 d2 d3 e0 e1 e2 e3
  obtain ⟨d0, d1, d2, d3⟩ := row4m Q7.out
  go_wp2_with fail
  refine (over29 0 1 2 2 _).mono ?_
  rw [show ((1 : Int) == 2) = false by rfl]
  rintro e w8 ⟨rfl, hb8⟩
  have B8 := hide (B7.out.of hb8)
  clear hb8 B7
  go_wp2_with fail
  go_ret
  exact ⟨rfl, B8.out⟩
end Go.Proofs.YtpohgehojmeodaaDoor
