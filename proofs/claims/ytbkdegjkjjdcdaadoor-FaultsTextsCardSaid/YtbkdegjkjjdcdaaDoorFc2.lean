/- Layer 9: the code of a name, the program's side. -/
import Derived.Test.YtbkdegjkjjdcdaaDoorFcl
namespace Go.Proofs.YtbkdegjkjjdcdaaDoor
set_option linter.unusedVariables false
set_option linter.unusedSimpArgs false
open Go.RowKit Go.PlainAid

theorem ix09 (k : Nat) (h : k < 14) (W : World) : (Instr.index 89 (.agg #[.string ⟨#[78, 79, 95, 69, 82, 82, 79, 82]⟩, .string ⟨#[80, 82, 79, 84, 79, 67, 79, 76, 95, 69, 82, 82, 79, 82]⟩, .string ⟨#[73, 78, 84, 69, 82, 78, 65, 76, 95, 69, 82, 82, 79, 82]⟩, .string ⟨#[70, 76, 79, 87, 95, 67, 79, 78, 84, 82, 79, 76, 95, 69, 82, 82, 79, 82]⟩, .string ⟨#[83, 69, 84, 84, 73, 78, 71, 83, 95, 84, 73, 77, 69, 79, 85, 84]⟩, .string ⟨#[83, 84, 82, 69, 65, 77, 95, 67, 76, 79, 83, 69, 68]⟩, .string ⟨#[70, 82, 65, 77, 69, 95, 83, 73, 90, 69, 95, 69, 82, 82, 79, 82]⟩, .string ⟨#[82, 69, 70, 85, 83, 69, 68, 95, 83, 84, 82, 69, 65, 77]⟩, .string ⟨#[67, 65, 78, 67, 69, 76]⟩, .string ⟨#[67, 79, 77, 80, 82, 69, 83, 83, 73, 79, 78, 95, 69, 82, 82, 79, 82]⟩, .string ⟨#[67, 79, 78, 78, 69, 67, 84, 95, 69, 82, 82, 79, 82]⟩, .string ⟨#[69, 78, 72, 65, 78, 67, 69, 95, 89, 79, 85, 82, 95, 67, 65, 76, 77]⟩, .string ⟨#[73, 78, 65, 68, 69, 81, 85, 65, 84, 69, 95, 83, 69, 67, 85, 82, 73, 84, 89]⟩, .string ⟨#[72, 84, 84, 80, 95, 49, 95, 49, 95, 82, 69, 81, 85, 73, 82, 69, 68]⟩]) (.int .i64 (k : Int))).run Tryd.prog W = .ok (.string (cdL.getD k ⟨#[]⟩)) W := by
  have hd : k = 0 ∨ k = 1 ∨ k = 2 ∨ k = 3 ∨ k = 4 ∨ k = 5 ∨ k = 6 ∨ k = 7 ∨ k = 8 ∨ k = 9 ∨ k = 10 ∨ k = 11 ∨ k = 12 ∨ k = 13 := by omega
  rcases hd with rfl | rfl | rfl | rfl | rfl | rfl | rfl | rfl | rfl | rfl | rfl | rfl | rfl | rfl
  · exact ix09_0 W
  · exact ix09_1 W
  · exact ix09_2 W
  · exact ix09_3 W
  · exact ix09_4 W
  · exact ix09_5 W
  · exact ix09_6 W
  · exact ix09_7 W
  · exact ix09_8 W
  · exact ix09_9 W
  · exact ix09_10 W
  · exact ix09_11 W
  · exact ix09_12 W
  · exact ix09_13 W
theorem tl_ne {a b : ByteArray} (h : a ≠ b) : (a.toList == b.toList) = false := by
  have e : a.toList ≠ b.toList := fun h2 => by
    rw [tl_data, tl_data] at h2
    exact h (by rw [← data_back a, h2, data_back b])
  simpa using e
theorem before_succ {s : ByteArray} {k : Nat} (h : ∀ j, j < k → cdL.getD j ⟨#[]⟩ ≠ s) (h2 : cdL.getD k ⟨#[]⟩ ≠ s) : ∀ j, j < k + 1 → cdL.getD j ⟨#[]⟩ ≠ s := fun j hj => by
  by_cases e : j = k
  · subst e
    exact h2
  · exact h j (by omega)
set_option maxRecDepth 20000 in
set_option maxHeartbeats 1600000 in
theorem kcode09s (cs : Array Value) (s : ByteArray) (w : World) (T : TypeId) (fr : Nat × Nat) (hs : s.size ≤ 9223372036854775807) (hg : w.heap[1]? = some (.cells cs T fr)) (hz : ((Tryd.prog.info? 89).map (·.size)) = some cs.size)
    (hi : ∀ (k : Nat) (W : World), k < 14 → (Instr.index 89 (.agg cs) (.int .i64 (k : Int))).run Tryd.prog W = .ok (.string (cdL.getD k ⟨#[]⟩)) W) : Calls Tryd.prog 53 #[.string s] w (CdE s w) := by
  have Hs := hide hs
  have Hg := hide hg
  have Hz := hide hz
  have Hi := hide hi
  clear hg hs hz hi
  go_enter Tryd.func53, Tryd.ntmps53
  go_wp2_with (refine wpList_load_row rfl 89 _ rfl 1 rfl T cs fr _ Hg.out Tryd.underlying89 rfl Hz.out ?_)
  go_loopw [9] (fun i wr => ∃ k : Nat, k ≤ 14 ∧ i = .int .i64 k ∧ wr = w ∧ ∀ j, j < k → cdL.getD j ⟨#[]⟩ ≠ s) (fun i _ => 14 - (intOf i).toNat)
  case atStart => exact ⟨0, by omega, rfl, rfl, fun j hj => absurd hj (by omega)⟩
  case round =>
    obtain ⟨k, hk, rfl, rfl, hne⟩ := hrel
    have HN := hide hne
    clear hne
    by_cases hlt : k < 14
    · have d1 : decide ((k : Int) < 14) = true := decide_eq_true (by omega)
      have kx := fun W => Hi.out k W hlt
      have ew : IntKind.i64.wrap ((k : Int) + 1) = (k : Int) + 1 := IntWalk.i64_in _ (by omega)
      obtain ⟨x, hx⟩ : ∃ x, cdL.getD k ⟨#[]⟩ = x := ⟨_, rfl⟩
      rw [hx] at kx
      have HX := hide hx
      have HK := hide hlt
      clear hx
      by_cases he : x = s
      · have q1 : (x.toList == s.toList) = true := by rw [he]; exact beq_self_eq_true _
        have q2 : (s.toList == x.toList) = true := by rw [he]; exact beq_self_eq_true _
        have HE : Hid (CdR s (k : Int) true) := cd_name HK.out (by rw [← he, HX.out]) HN.out
        clear he
        go_wp2_with fail
        go_ret2
        exact ⟨k, true, rfl, HE.out, Below.refl _ _⟩
      · have q1 : (x.toList == s.toList) = false := tl_ne he
        have q2 : (s.toList == x.toList) = false := tl_ne (fun e => he e.symm)
        have HE : Hid (∀ j, j < k + 1 → cdL.getD j ⟨#[]⟩ ≠ s) := before_succ HN.out (by rw [HX.out]; exact he)
        clear he
        go_wp2_with fail
        exact ⟨⟨k + 1, by omega, by simp, trivial, HE.out⟩, by simp [intOf]; omega⟩
    · obtain rfl : k = 14 := by omega
      clear hk hlt
      go_wp2_with fail
      refine (kread03 s _ Hs.out).mono ?_
      rintro e w2 ⟨t, ok, rfl, hq, hb⟩
      have HQ := hide hq
      have HB := hide hb
      clear hq hb
      cases ok with
      | false =>
        go_wp2_with fail
        go_ret2
        exact ⟨0, false, rfl, cd_no HN.out HQ.out, HB.out⟩
      | true =>
        go_wp2_with fail
        refine (iscode09 t _).mono ?_
        rintro e w3 ⟨rfl, rfl⟩
        by_cases ho : 0 ≤ t ∧ t ≤ 4294967295
        · rw [decide_eq_true ho.1, decide_eq_true ho.2, Bool.and_self]
          have HO := hide ho
          clear ho
          go_wp2_with fail
          refine (isnum09 t _).mono ?_
          rintro e w3 ⟨rfl, rfl⟩
          by_cases h14 : 14 ≤ t
          · rw [decide_eq_true h14]
            have H14 := hide h14
            clear h14
            go_wp2_with fail
            go_ret2
            exact ⟨t, true, rfl, cd_num HN.out H14.out HO.out.2 HQ.out, HB.out⟩
          · rw [decide_eq_false h14]
            have H14 := hide h14
            clear h14
            go_wp2_with fail
            go_ret2
            exact ⟨0, false, rfl, cd_out HN.out (fun h => by have := H14.out; omega) HQ.out, HB.out⟩
        · have hf : (decide (0 ≤ t) && decide (t ≤ 4294967295)) = false := by simp; omega
          rw [hf]
          have HO := hide ho
          clear ho hf
          go_wp2_with fail
          go_ret2
          exact ⟨0, false, rfl, cd_out HN.out (fun h => by have := HO.out; omega) HQ.out, HB.out⟩
theorem kcode09 (s : ByteArray) (w : World) (hs : s.size ≤ 9223372036854775807) (hN : CdW w) : Calls Tryd.prog 53 #[.string s] w (CdE s w) := by
  obtain ⟨T, fr, hg0⟩ := hN
  exact kcode09s #[.string ⟨#[78, 79, 95, 69, 82, 82, 79, 82]⟩, .string ⟨#[80, 82, 79, 84, 79, 67, 79, 76, 95, 69, 82, 82, 79, 82]⟩, .string ⟨#[73, 78, 84, 69, 82, 78, 65, 76, 95, 69, 82, 82, 79, 82]⟩, .string ⟨#[70, 76, 79, 87, 95, 67, 79, 78, 84, 82, 79, 76, 95, 69, 82, 82, 79, 82]⟩, .string ⟨#[83, 69, 84, 84, 73, 78, 71, 83, 95, 84, 73, 77, 69, 79, 85, 84]⟩, .string ⟨#[83, 84, 82, 69, 65, 77, 95, 67, 76, 79, 83, 69, 68]⟩, .string ⟨#[70, 82, 65, 77, 69, 95, 83, 73, 90, 69, 95, 69, 82, 82, 79, 82]⟩, .string ⟨#[82, 69, 70, 85, 83, 69, 68, 95, 83, 84, 82, 69, 65, 77]⟩, .string ⟨#[67, 65, 78, 67, 69, 76]⟩, .string ⟨#[67, 79, 77, 80, 82, 69, 83, 83, 73, 79, 78, 95, 69, 82, 82, 79, 82]⟩, .string ⟨#[67, 79, 78, 78, 69, 67, 84, 95, 69, 82, 82, 79, 82]⟩, .string ⟨#[69, 78, 72, 65, 78, 67, 69, 95, 89, 79, 85, 82, 95, 67, 65, 76, 77]⟩, .string ⟨#[73, 78, 65, 68, 69, 81, 85, 65, 84, 69, 95, 83, 69, 67, 85, 82, 73, 84, 89]⟩, .string ⟨#[72, 84, 84, 80, 95, 49, 95, 49, 95, 82, 69, 81, 85, 73, 82, 69, 68]⟩] s w T fr hs hg0 (by kernel_rfl) (fun k W h => ix09 k h W)
end Go.Proofs.YtbkdegjkjjdcdaaDoor
