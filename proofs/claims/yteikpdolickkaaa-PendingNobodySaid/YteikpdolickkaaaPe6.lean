/- Layer 32: the example; how many are possible. -/
import Derived.Test.YteikpdolickkaaaPe5
namespace Go.Proofs.Yteikpdolickkaaa
open Go.RowKit Go.Deep Go.ChangeShapes Go.WideShapes

set_option maxRecDepth 20000 in
set_option maxHeartbeats 1600000 in
theorem alive32 (w : World) : Calls Try.prog 46 #[] w (Yes w) := by
  have Q0 := hide (QOk.new (B := w.heap.size) w (Nat.le_refl _))
  have E0 := hide ((Below.refl w.heap.size w).alloc (Nat.le_refl _) (.cells #[.int .i64 0, .int .i64 0, .slice none 0 0] 111))
  go_enter Try.func46, Try.ntmps46
  go_wp2_with fail
  refine (new32 _).mono ?_
  rintro e z ⟨rfl, rfl⟩
  generalize w.alloc (.cells #[.int .i64 0, .int .i64 0, .slice none 0 0] 111) = z at *
  have al := (Below.refl z.heap.size z).alloc (Nat.le_refl _) (.cells #[.int .i64 4, .int .i64 5] 195)
  have Q1 := hide (Q0.out.below al)
  have E1 := hide (E0.out.of al)
  have R1 := hide (OwnV.lit 2 195 0 z (pr (fun _ => 4) (fun _ => 5)) #[.int .i64 4, .int .i64 5] 1 (Nat.zero_le _) (by simp [maxLen]) rfl).rdS2
  clear al Q0 E0
  go_wp2_with fail
  refine (push32 Q1.out E1.out.size (by omega) (rd2_of_rdV R1.out) (by omega)).mono ?_
  rintro e w2 ⟨g, rfl, hq, hf, _⟩
  have h3 : pushV 1 (fun _ => initF) (apv (fun _ => 4) (fun _ => 5) 1 ((fun _ => initF) (1 - 1))) 1 3 = 5 := by decide
  generalize pushV 1 (fun _ => initF) (apv (fun _ => 4) (fun _ => 5) 1 ((fun _ => initF) (1 - 1))) = V2 at hq h3
  simp only [Nat.reduceAdd] at hq
  have H3 := hide h3
  clear h3
  have Q2 := hide hq
  have E2 := hide (E1.out.trans hf.below)
  clear hq hf Q1 E1 R1
  go_wp2_with fail
  refine (all32 Q2.out E2.out.size (by omega)).mono ?_
  rintro e w3 ⟨v3, rfl, ho3, hb3⟩
  obtain ⟨A3, c3, rfl, _, _⟩ := ho3.rd
  have Q3 := hide (Q2.out.below hb3)
  have E3 := hide (E2.out.of hb3)
  clear ho3 hb3 Q2 E2
  have al := (Below.refl w3.heap.size w3).alloc (Nat.le_refl _) (.cells #[.bool false, .bool true] 4)
  have Q4 := hide (Q3.out.below al)
  have E4 := hide (E3.out.of al)
  have R4 : Hid (RdB (w3.alloc (.cells #[.bool false, .bool true] 4)) (some ⟨w3.heap.size, 0, none⟩) 2 2 (fun i => decide (i = 1))) := by
    have h := row2 (heap_alloc_new w3 (.cells #[.bool false, .bool true] 4))
    refine ⟨Nat.le_refl _, by simp [maxLen], fun e => (by cases e), fun _ => ⟨_, 0, rfl, fun i hi => ?_⟩⟩
    obtain rfl | rfl : i = 0 ∨ i = 1 := by omega
    · exact h.1
    · exact h.2
  clear al Q3 E3
  go_wp2_with fail
  refine (narrow32 Q4.out E4.out.size (by omega) R4.out (by omega)).mono ?_
  rintro e w5 ⟨hf, ⟨hno, _⟩ | ⟨i, hi2, hin, hfi, hfst, rfl, hq⟩⟩
  · have := hno 1 (by omega) (by omega)
    cases this
  obtain rfl : i = 1 := of_decide_eq_true hfi
  have E5 := hide (E4.out.trans hf.below)
  simp only [Nat.zero_add, Nat.reduceSub] at hq
  have Q5 : Hid (QOk w.heap.size w5 w.heap.size g 0 1 1 (fun j => V2 (1 + j))) := hq
  clear hq hf hi2 hin hfi hfst Q4 E4 R4
  go_wp2_with fail
  refine (ack32 Q5.out E5.out.size (by omega) (by omega)).mono ?_
  rintro e w6 ⟨hf, ⟨h0, _⟩ | ⟨_, rfl, hq⟩⟩
  · omega
  have E6 := hide (E5.out.trans hf.below)
  simp only [Nat.zero_add, Nat.sub_self, Nat.add_zero, Nat.sub_zero] at hq
  have Q6 : Hid (QOk w.heap.size w6 w.heap.size g 1 1 1 (fun i => V2 (1 + i))) := hq
  clear hf hq Q5 E5
  go_wp2_with fail
  refine (ack32 Q6.out E6.out.size (by omega) (by omega)).mono ?_
  rintro e w7 ⟨hf, hcase⟩
  obtain ⟨rfl, hq⟩ : e = .returned (.bool false) ∧ QOk w.heap.size w7 w.heap.size g 1 1 1 (fun i => V2 (1 + i)) := by
    rcases hcase with ⟨_, h1, h2⟩ | ⟨h0, _⟩
    · exact ⟨h1, h2⟩
    · omega
  have E7 := hide (E6.out.trans hf.below)
  have Q7 := hide hq
  clear hf hq Q6 E6
  go_wp2_with fail
  refine (least32 Q7.out).mono ?_
  rintro e wl ⟨rfl, rfl⟩
  go_wp2_with fail
  refine (all32 Q7.out E7.out.size (by omega)).mono ?_
  rintro e w8 ⟨v8, rfl, ho8, hb8⟩
  obtain ⟨A8, c8, rfl, _, _⟩ := ho8.rd
  have Q8 := hide (Q7.out.below hb8)
  have E8 := hide (E7.out.of hb8)
  clear ho8 hb8 Q7 E7
  go_wp2_with fail
  refine (newest32 Q8.out E8.out.size (by omega)).mono ?_
  rintro e w9 ⟨rfl, hb9⟩
  have hfd : ∀ (x0 x1 x2 x3 x4 x5 : Int) (W : World), (Instr.field 113 (.agg #[.int .i64 x0, .int .i64 x1, .int .i64 x2, .int .i64 x3, .int .i64 x4, .int .i64 x5]) 3).run Try.prog W = .ok (.int .i64 x3) W := fun _ _ _ _ _ _ _ => by kernel_rfl
  unfold vA
  simp only [Nat.sub_self, Nat.add_zero]
  rw [H3.out]
  go_wp2_with fail
  go_ret
  exact ⟨rfl, E8.out.of hb9⟩
end Go.Proofs.Yteikpdolickkaaa
