/- Layer 25: the reference's values; fields; the walks of TokenNames and TokenValues. -/
import Derived.Test.YtkdldcmeiihbcaaTok3
namespace Go.Proofs.Ytkdldcmeiihbcaa
open Go.RowKit Go.PlainAid

def edB (c : Int) : Bool := decide (c = 9 ∨ c = 32)
set_option maxHeartbeats 400000 in
theorem edge_any (c : Int) (w : World) : Calls Try.prog 67 #[.int .u8 c] w fun e w' => e = .returned (.bool (edB c)) ∧ w = w' := by
  by_cases h1 : c = 9
  · have H : Hid (edB c = true) := decide_eq_true (.inl h1)
    have d1 : (c == 9) = true := by simpa using h1
    clear h1
    go_enter Try.func67, Try.ntmps67
    go_wp2
    go_ret
    exact ⟨by rw [H.out]; rfl, rfl⟩
  · have d1 : (c == 9) = false := by simpa using h1
    have H : Hid (edB c = (c == 32)) := by
      unfold Hid edB
      by_cases h2 : c = 32 <;> simp [h1, h2]
    clear h1
    go_enter Try.func67, Try.ntmps67
    go_wp2
    go_ret
    exact ⟨by rw [H.out]; rfl, rfl⟩
set_option maxHeartbeats 1000000 in
theorem rvalue_any (s : ByteArray) (w : World) (hs : s.size ≤ 9223372036854775807) : Calls Try.prog 32 #[.string s] w fun e w' => e = .returned (.bool (valB s)) ∧ w = w' := by
  have Hs := hide hs
  go_enter Try.func32, Try.ntmps32
  go_wp2
  go_loop [3] (fun i => ∃ k : Nat, k ≤ s.size ∧ i = .int .i64 k ∧ ∀ j, j < k → bt s j ≠ 0 ∧ bt s j ≠ 10 ∧ bt s j ≠ 13) (fun i => s.size - (intOf i).toNat)
  case atStart => exact ⟨0, Nat.zero_le _, rfl, fun j hj => absurd hj (by omega)⟩
  case round =>
    obtain ⟨k, hk, rfl, hall⟩ := hrel
    have Hall := hide hall
    clear hall
    by_cases hlt : k < s.size
    · have hb := get_bt s k hlt
      have Hy : Hid (bt s k ≠ 0 ∧ bt s k ≠ 10 ∧ bt s k ≠ 13 → ∀ j, j < k + 1 → bt s j ≠ 0 ∧ bt s j ≠ 10 ∧ bt s j ≠ 13) := fun hc j hj => by
        by_cases e : j = k
        · subst e; exact hc
        · exact Hall.out j (by omega)
      have Hn : Hid (¬ (bt s k ≠ 0 ∧ bt s k ≠ 10 ∧ bt s k ≠ 13) → valB s = false) := fun hc => val_no hlt (by unfold okV; omega)
      generalize bt s k = c at hb Hy Hn
      go_wp2
      all_goals first
        | (refine ⟨⟨k + 1, by omega, by go_num, Hy.out ?_⟩, by simp [intOf]; omega⟩
           (try simp only [beq_iff_eq, beq_eq_false_iff_ne, ne_eq] at *)
           omega)
        | (go_ret
           refine ⟨?_, rfl⟩
           rw [Hn.out (by (try simp only [beq_iff_eq, beq_eq_false_iff_ne, ne_eq] at *); omega)]
           rfl)
    · obtain rfl : k = s.size := by omega
      by_cases h0 : s.size = 0
      · have Hn : Hid (valB s = true) := val_yes fun i hi => by omega
        have d0 : ((s.size : Int) == 0) = true := by simpa using h0
        clear h0
        go_wp2
        go_ret
        exact ⟨by rw [Hn.out]; rfl, rfl⟩
      · have d0 : ((s.size : Int) == 0) = false := by simpa using h0
        have h2 : 0 < s.size := by omega
        have h1 : s.size - 1 < s.size := by omega
        have h3 : 1 ≤ s.size := by omega
        clear h0
        have hb0 := get_bt s 0 h2
        have hb1 := get_bt s (s.size - 1) h1
        have hlo : ((s.size : Int) - 1).toNat = s.size - 1 := by omega
        have Hy : Hid (¬ (bt s 0 = 9 ∨ bt s 0 = 32) → ¬ (bt s (s.size - 1) = 9 ∨ bt s (s.size - 1) = 32) → valB s = true) := fun g1 g2 => val_yes fun i hi => by
          have := Hall.out i hi
          refine ⟨this.1, this.2.1, this.2.2, fun g3 => ⟨fun e => ?_, fun e => ?_⟩⟩
          · subst e; exact g1 g3
          · obtain rfl : i = s.size - 1 := by omega
            exact g2 g3
        have Hn0 : Hid (bt s 0 = 9 ∨ bt s 0 = 32 → valB s = false) := fun g => val_no h2 fun h => (h.2.2.2 g).1 rfl
        have Hn1 : Hid (bt s (s.size - 1) = 9 ∨ bt s (s.size - 1) = 32 → valB s = false) := fun g => val_no h1 fun h => (h.2.2.2 g).2 (by omega)
        generalize bt s 0 = c0 at *
        generalize bt s (s.size - 1) = c1 at *
        by_cases g0 : c0 = 9 ∨ c0 = 32
        · have E0 : Hid (edB c0 = true) := decide_eq_true g0
          have HN := hide (Hn0.out g0)
          clear g0
          go_wp2_with (go_at_call 67; refine (edge_any _ _).mono ?_; rintro e w' ⟨rfl, rfl⟩; rw [E0.out])
          go_ret
          exact ⟨by rw [HN.out]; rfl, rfl⟩
        · have E0 : Hid (edB c0 = false) := decide_eq_false g0
          by_cases g1 : c1 = 9 ∨ c1 = 32
          · have E1 : Hid (edB c1 = true) := decide_eq_true g1
            have HN := hide (Hn1.out g1)
            clear g0 g1
            go_wp2_with fail
            refine (edge_any _ _).mono ?_
            rintro e w' ⟨rfl, rfl⟩
            rw [E0.out]
            go_wp2_with fail
            refine (edge_any _ _).mono ?_
            rintro e w' ⟨rfl, rfl⟩
            rw [E1.out]
            go_wp2_with fail
            go_ret
            exact ⟨by rw [HN.out]; rfl, rfl⟩
          · have E1 : Hid (edB c1 = false) := decide_eq_false g1
            have HN := hide (Hy.out g0 g1)
            clear g0 g1
            go_wp2_with fail
            refine (edge_any _ _).mono ?_
            rintro e w' ⟨rfl, rfl⟩
            rw [E0.out]
            go_wp2_with fail
            refine (edge_any _ _).mono ?_
            rintro e w' ⟨rfl, rfl⟩
            rw [E1.out]
            go_wp2_with fail
            go_ret
            exact ⟨by rw [HN.out]; rfl, rfl⟩
def fieldB (n v : ByteArray) : Bool := (nameB n || pseB n) && valB v
set_option maxHeartbeats 400000 in
theorem field_any (n v : ByteArray) (b : Bool) (w : World) (hn : n.size ≤ 9223372036854775807) (hv : v.size ≤ 9223372036854775807) : Calls Try.prog 33 #[.agg #[.string n, .string v, .bool b]] w fun e w' => e = .returned (.bool (fieldB n v)) ∧ w' = w.alloc (.cells #[.string n, .string v, .bool b] 36) := by
  obtain ⟨b1, hb1⟩ : ∃ x, nameB n = x := ⟨_, rfl⟩
  obtain ⟨b2, hb2⟩ : ∃ x, pseB n = x := ⟨_, rfl⟩
  obtain ⟨b3, hb3⟩ : ∃ x, valB v = x := ⟨_, rfl⟩
  have H : Hid (fieldB n v = ((b1 || b2) && b3)) := by unfold Hid fieldB; rw [hb1, hb2, hb3]
  have H1 := hide hb1
  have H2 := hide hb2
  have H3 := hide hb3
  clear hb1 hb2 hb3
  go_enter Try.func33, Try.ntmps33
  cases b1 <;> cases b2 <;> cases b3
  all_goals
    go_wp2_with (first
      | (go_at_call 27; refine (name_any _ _ hn).mono ?_; rintro e w' ⟨rfl, rfl⟩; rw [H1.out])
      | (go_at_call 29; refine (pseudo_any _ _ hn).mono ?_; rintro e w' ⟨rfl, rfl⟩; rw [H2.out])
      | (go_at_call 31; refine (value_any _ _ hv).mono ?_; rintro e w' ⟨rfl, rfl⟩; rw [H3.out]))
    go_ret
    exact ⟨by rw [H.out]; rfl, rfl⟩
set_option maxHeartbeats 400000 in
theorem rfield_any (n v : ByteArray) (b : Bool) (w : World) (hn : n.size ≤ 9223372036854775807) (hv : v.size ≤ 9223372036854775807) : Calls Try.prog 34 #[.agg #[.string n, .string v, .bool b]] w fun e w' => e = .returned (.bool (fieldB n v)) ∧ w' = w.alloc (.cells #[.string n, .string v, .bool b] 36) := by
  obtain ⟨b1, hb1⟩ : ∃ x, nameB n = x := ⟨_, rfl⟩
  obtain ⟨b2, hb2⟩ : ∃ x, pseB n = x := ⟨_, rfl⟩
  obtain ⟨b3, hb3⟩ : ∃ x, valB v = x := ⟨_, rfl⟩
  have H : Hid (fieldB n v = ((b1 || b2) && b3)) := by unfold Hid fieldB; rw [hb1, hb2, hb3]
  have H1 := hide hb1
  have H2 := hide hb2
  have H3 := hide hb3
  clear hb1 hb2 hb3
  go_enter Try.func34, Try.ntmps34
  cases b1 <;> cases b2 <;> cases b3
  all_goals
    go_wp2_with (first
      | (go_at_call 28; refine (rname_any _ _ hn).mono ?_; rintro e w' ⟨rfl, rfl⟩; rw [H1.out])
      | (go_at_call 30; refine (rpseudo_any _ _ hn).mono ?_; rintro e w' ⟨rfl, rfl⟩; rw [H2.out])
      | (go_at_call 32; refine (rvalue_any _ _ hv).mono ?_; rintro e w' ⟨rfl, rfl⟩; rw [H3.out]))
    go_ret
    exact ⟨by rw [H.out]; rfl, rfl⟩
end Go.Proofs.Ytkdldcmeiihbcaa
