/- Layer 9: the document's code of a name. -/
import Derived.Test.YtbkdegjkjjdcdaaDoorFc2
namespace Go.Proofs.YtbkdegjkjjdcdaaDoor
set_option linter.unusedVariables false
set_option linter.unusedSimpArgs false
open Go.RowKit Go.PlainAid

theorem cells14 (w : World) (k : Nat) (hd : k < 14) : (w.alloc (.cells #[.string ⟨#[78, 79, 95, 69, 82, 82, 79, 82]⟩, .string ⟨#[80, 82, 79, 84, 79, 67, 79, 76, 95, 69, 82, 82, 79, 82]⟩, .string ⟨#[73, 78, 84, 69, 82, 78, 65, 76, 95, 69, 82, 82, 79, 82]⟩, .string ⟨#[70, 76, 79, 87, 95, 67, 79, 78, 84, 82, 79, 76, 95, 69, 82, 82, 79, 82]⟩, .string ⟨#[83, 69, 84, 84, 73, 78, 71, 83, 95, 84, 73, 77, 69, 79, 85, 84]⟩, .string ⟨#[83, 84, 82, 69, 65, 77, 95, 67, 76, 79, 83, 69, 68]⟩, .string ⟨#[70, 82, 65, 77, 69, 95, 83, 73, 90, 69, 95, 69, 82, 82, 79, 82]⟩, .string ⟨#[82, 69, 70, 85, 83, 69, 68, 95, 83, 84, 82, 69, 65, 77]⟩, .string ⟨#[67, 65, 78, 67, 69, 76]⟩, .string ⟨#[67, 79, 77, 80, 82, 69, 83, 83, 73, 79, 78, 95, 69, 82, 82, 79, 82]⟩, .string ⟨#[67, 79, 78, 78, 69, 67, 84, 95, 69, 82, 82, 79, 82]⟩, .string ⟨#[69, 78, 72, 65, 78, 67, 69, 95, 89, 79, 85, 82, 95, 67, 65, 76, 77]⟩, .string ⟨#[73, 78, 65, 68, 69, 81, 85, 65, 84, 69, 95, 83, 69, 67, 85, 82, 73, 84, 89]⟩, .string ⟨#[72, 84, 84, 80, 95, 49, 95, 49, 95, 82, 69, 81, 85, 73, 82, 69, 68]⟩] 9)).cell? ⟨w.heap.size, k, none⟩ = some (.string (cdL.getD k ⟨#[]⟩)) := by
  have R := heap_alloc_new w (.cells #[.string ⟨#[78, 79, 95, 69, 82, 82, 79, 82]⟩, .string ⟨#[80, 82, 79, 84, 79, 67, 79, 76, 95, 69, 82, 82, 79, 82]⟩, .string ⟨#[73, 78, 84, 69, 82, 78, 65, 76, 95, 69, 82, 82, 79, 82]⟩, .string ⟨#[70, 76, 79, 87, 95, 67, 79, 78, 84, 82, 79, 76, 95, 69, 82, 82, 79, 82]⟩, .string ⟨#[83, 69, 84, 84, 73, 78, 71, 83, 95, 84, 73, 77, 69, 79, 85, 84]⟩, .string ⟨#[83, 84, 82, 69, 65, 77, 95, 67, 76, 79, 83, 69, 68]⟩, .string ⟨#[70, 82, 65, 77, 69, 95, 83, 73, 90, 69, 95, 69, 82, 82, 79, 82]⟩, .string ⟨#[82, 69, 70, 85, 83, 69, 68, 95, 83, 84, 82, 69, 65, 77]⟩, .string ⟨#[67, 65, 78, 67, 69, 76]⟩, .string ⟨#[67, 79, 77, 80, 82, 69, 83, 83, 73, 79, 78, 95, 69, 82, 82, 79, 82]⟩, .string ⟨#[67, 79, 78, 78, 69, 67, 84, 95, 69, 82, 82, 79, 82]⟩, .string ⟨#[69, 78, 72, 65, 78, 67, 69, 95, 89, 79, 85, 82, 95, 67, 65, 76, 77]⟩, .string ⟨#[73, 78, 65, 68, 69, 81, 85, 65, 84, 69, 95, 83, 69, 67, 85, 82, 73, 84, 89]⟩, .string ⟨#[72, 84, 84, 80, 95, 49, 95, 49, 95, 82, 69, 81, 85, 73, 82, 69, 68]⟩] 9)
  have hd10 : k = 0 ∨ k = 1 ∨ k = 2 ∨ k = 3 ∨ k = 4 ∨ k = 5 ∨ k = 6 ∨ k = 7 ∨ k = 8 ∨ k = 9 ∨ k = 10 ∨ k = 11 ∨ k = 12 ∨ k = 13 := by omega
  unfold World.cell?
  simp only
  rw [R]
  rcases hd10 with rfl | rfl | rfl | rfl | rfl | rfl | rfl | rfl | rfl | rfl | rfl | rfl | rfl | rfl <;> rfl
theorem rnames09s (w : World) : Calls Tryd.prog 74 #[] w fun e w' => e = .returned (.slice (some ⟨w.heap.size, 0, none⟩) 14 14) ∧ Below w.heap.size w w' ∧ ∀ k, k < 14 → w'.cell? ⟨w.heap.size, k, none⟩ = some (.string (cdL.getD k ⟨#[]⟩)) := by
  refine (rnames09 w).mono ?_
  rintro e w' ⟨rfl, rfl⟩
  exact ⟨rfl, (Below.refl w.heap.size w).alloc (Nat.le_refl _) _, fun k h => cells14 w k h⟩
set_option maxRecDepth 20000 in
set_option maxHeartbeats 1600000 in
theorem rcode09 (s : ByteArray) (w : World) (hs : s.size ≤ 9223372036854775807) : Calls Tryd.prog 55 #[.string s] w (CdE s w) := by
  have Hs := hide hs
  clear hs
  go_enter Tryd.func55, Tryd.ntmps55
  go_wp2_with fail
  go_loopw [4] (fun i wr => ∃ k : Nat, k ≤ 14 ∧ i = .int .i64 k ∧ Below w.heap.size w wr ∧ ∀ j, j < k → cdL.getD j ⟨#[]⟩ ≠ s) (fun i _ => 14 - (intOf i).toNat)
  case atStart => exact ⟨0, by omega, rfl, Below.refl _ _, fun j hj => absurd hj (by omega)⟩
  case round =>
    obtain ⟨k, hk, rfl, hbl, hne⟩ := hrel
    have HN := hide hne
    have HBL := hide hbl
    clear hne hbl
    by_cases hlt : k < 14
    · have d1 : decide ((k : Int) < 14) = true := decide_eq_true (by omega)
      have ew : IntKind.i64.wrap ((k : Int) + 1) = (k : Int) + 1 := IntWalk.i64_in _ (by omega)
      have HK := hide hlt
      go_wp2_with fail
      refine (rnames09s _).mono ?_
      rintro e w1 ⟨rfl, hb1, hc1⟩
      have kc := hc1 k hlt
      have HB2 := hide (HBL.out.of hb1)
      clear hb1 hc1
      obtain ⟨x, hx⟩ : ∃ x, cdL.getD k ⟨#[]⟩ = x := ⟨_, rfl⟩
      rw [hx] at kc
      have HX := hide hx
      clear hx
      by_cases he : x = s
      · have q1 : (x.toList == s.toList) = true := by rw [he]; exact beq_self_eq_true _
        have q2 : (s.toList == x.toList) = true := by rw [he]; exact beq_self_eq_true _
        have HE : Hid (CdR s (k : Int) true) := cd_name HK.out (by rw [← he, HX.out]) HN.out
        clear he
        go_wp2_with fail
        go_ret2
        exact ⟨k, true, rfl, HE.out, HB2.out⟩
      · have q1 : (x.toList == s.toList) = false := tl_ne he
        have q2 : (s.toList == x.toList) = false := tl_ne (fun e => he e.symm)
        have HE : Hid (∀ j, j < k + 1 → cdL.getD j ⟨#[]⟩ ≠ s) := before_succ HN.out (by rw [HX.out]; exact he)
        clear he
        go_wp2_with fail
        exact ⟨⟨k + 1, by omega, by simp, HB2.out, HE.out⟩, by simp [intOf]; omega⟩
    · obtain rfl : k = 14 := by omega
      clear hk hlt
      go_wp2_with fail
      refine (rread03 s _ Hs.out).mono ?_
      rintro e w2 ⟨t, ok, rfl, hq, hb⟩
      have HQ := hide hq
      have HB := hide (HBL.out.of hb)
      clear hq hb
      cases ok with
      | false =>
        go_wp2_with fail
        go_ret2
        exact ⟨0, false, rfl, cd_no HN.out HQ.out, HB.out⟩
      | true =>
        by_cases h14 : 14 ≤ t
        · have t5 : decide (14 ≤ t) = true := decide_eq_true h14
          by_cases hm : t < 4294967296
          · have t6 : decide (t < 4294967296) = true := decide_eq_true hm
            have HO := hide (And.intro h14 hm)
            clear h14 hm
            go_wp2_with fail
            go_ret2
            exact ⟨t, true, rfl, cd_num HN.out HO.out.1 (by have := HO.out.2; omega) HQ.out, HB.out⟩
          · have t6 : decide (t < 4294967296) = false := decide_eq_false hm
            have HO := hide hm
            clear h14 hm
            go_wp2_with fail
            go_ret2
            exact ⟨0, false, rfl, cd_out HN.out (fun h => by have := HO.out; omega) HQ.out, HB.out⟩
        · have t5 : decide (14 ≤ t) = false := decide_eq_false h14
          have HO := hide h14
          clear h14
          go_wp2_with fail
          go_ret2
          exact ⟨0, false, rfl, cd_out HN.out (fun h => by have := HO.out; omega) HQ.out, HB.out⟩
end Go.Proofs.YtbkdegjkjjdcdaaDoor
