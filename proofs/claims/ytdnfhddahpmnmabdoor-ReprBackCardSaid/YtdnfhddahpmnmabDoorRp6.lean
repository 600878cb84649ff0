/- Layer 22: the kind of a first byte. -/
import Derived.Test.YtdnfhddahpmnmabDoorRp3
namespace Go.Proofs.YtdnfhddahpmnmabDoor
open Go.RowKit Go.PlainAid

def kd (x : Int) : Int := if 128 ≤ x then 1 else if 64 ≤ x then 2 else if 32 ≤ x then 5 else if 16 ≤ x then 4 else 3
theorem kd_of {x : Int} (hx0 : 0 ≤ x) (hx1 : x ≤ 255) : kd x = if (x / 128 == 1) = true then 1 else if (x / 64 == 1) = true then 2 else if (x / 16 == 0) = true then 3 else if (x / 16 == 1) = true then 4 else 5 := by
  unfold kd
  by_cases h1 : 128 ≤ x
  · have : (x / 128 == 1) = true := by simp; omega
    rw [if_pos h1, if_pos this]
  have n1 : ¬ (x / 128 == 1) = true := by simp; omega
  rw [if_neg h1, if_neg n1]
  by_cases h2 : 64 ≤ x
  · have : (x / 64 == 1) = true := by simp; omega
    rw [if_pos h2, if_pos this]
  have n2 : ¬ (x / 64 == 1) = true := by simp; omega
  rw [if_neg h2, if_neg n2]
  by_cases h3 : 32 ≤ x
  · have n3 : ¬ (x / 16 == 0) = true := by simp; omega
    have n4 : ¬ (x / 16 == 1) = true := by simp; omega
    rw [if_pos h3, if_neg n3, if_neg n4]
  rw [if_neg h3]
  by_cases h4 : 16 ≤ x
  · have n3 : ¬ (x / 16 == 0) = true := by simp; omega
    have : (x / 16 == 1) = true := by simp; omega
    rw [if_pos h4, if_neg n3, if_pos this]
  · have : (x / 16 == 0) = true := by simp; omega
    rw [if_neg h4, if_pos this]
set_option maxRecDepth 20000 in
set_option maxHeartbeats 3200000 in
theorem kindof22 (x : Int) (hx0 : 0 ≤ x) (hx1 : x ≤ 255) (w : World) (T : TypeId) (fr : Nat × Nat) (hg : w.heap[0]? = some (.cells formsV T fr)) : Calls Tryd.prog 40 #[.int .u8 x] w fun e w' => e = .returned (.int .i64 (kd x)) ∧ Below w.heap.size w w' := by
  have Hg := hide hg
  clear hg
  have hwx : IntKind.i64.wrap x = x := IntWalk.i64_in _ (by omega)
  have hk := kd_of hx0 hx1
  obtain ⟨b1, t1⟩ : ∃ b, (x / 128 == 1) = b := ⟨_, rfl⟩
  obtain ⟨b2, t2⟩ : ∃ b, (x / 64 == 1) = b := ⟨_, rfl⟩
  obtain ⟨b3, t3⟩ : ∃ b, (x / 16 == 0) = b := ⟨_, rfl⟩
  obtain ⟨b4, t4⟩ : ∃ b, (x / 16 == 1) = b := ⟨_, rfl⟩
  rw [t1, t2, t3, t4] at hk
  have HK := hide hk
  clear hk hx0 hx1
  go_enter Tryd.func40, Tryd.ntmps40
  go_wp2
  go_loopw [3] (fun i wr => (i = .int .i64 1 ∨ (i = .int .i64 2 ∧ b1 = false) ∨ (i = .int .i64 3 ∧ b1 = false ∧ b2 = false) ∨ (i = .int .i64 4 ∧ b1 = false ∧ b2 = false ∧ b3 = false) ∨ (i = .int .i64 5 ∧ b1 = false ∧ b2 = false ∧ b3 = false ∧ b4 = false)) ∧ Below w.heap.size w wr) (fun i _ => 5 - (intOf i).toNat)
  case atStart => exact ⟨.inl rfl, Below.refl _ _⟩
  case round =>
    obtain ⟨hi, hb⟩ := hrel
    have G1 := (hb.block _ (rowLt Hg.out)).trans Hg.out
    have HB := hide hb
    have hbs := hb.size
    clear hb
    rcases hi with rfl | ⟨rfl, rfl⟩ | ⟨rfl, rfl, rfl⟩ | ⟨rfl, rfl, rfl, rfl⟩ | ⟨rfl, rfl, rfl, rfl, rfl⟩
    · have g0 := forms_at G1 2 (.int .i64 128) rfl
      have g1 := forms_at G1 3 (.int .i64 7) rfl
      have FF := heap_alloc_new wr (.cells #[.int .i64 128, .int .i64 7] 67)
      have B1 := hide (HB.out.alloc hbs (.cells #[.int .i64 128, .int .i64 7] 67))
      obtain ⟨x0, x1⟩ := row2 FF
      go_wp2
      go_quiet (fail)
      cases b1 with
      | true =>
        go_wp2
        go_ret
        exact ⟨by rw [HK.out]; rfl, B1.out.trans (drawn_below (Drawn.of _ _) _)⟩
      | false =>
        go_wp2
        go_roundw
        case rel => exact ⟨by first | exact .inr (.inl ⟨rfl, rfl⟩) | simp, B1.out.trans (drawn_below (Drawn.of _ _) _)⟩
        case measure => simp [intOf]
    · have g0 := forms_at G1 4 (.int .i64 64) rfl
      have g1 := forms_at G1 5 (.int .i64 6) rfl
      have FF := heap_alloc_new wr (.cells #[.int .i64 64, .int .i64 6] 67)
      have B1 := hide (HB.out.alloc hbs (.cells #[.int .i64 64, .int .i64 6] 67))
      obtain ⟨x0, x1⟩ := row2 FF
      go_wp2
      go_quiet (fail)
      cases b2 with
      | true =>
        go_wp2
        go_ret
        exact ⟨by rw [HK.out]; rfl, B1.out.trans (drawn_below (Drawn.of _ _) _)⟩
      | false =>
        go_wp2
        go_roundw
        case rel => exact ⟨by first | exact .inr (.inr (.inl ⟨rfl, rfl, rfl⟩)) | simp, B1.out.trans (drawn_below (Drawn.of _ _) _)⟩
        case measure => simp [intOf]
    · have g0 := forms_at G1 6 (.int .i64 0) rfl
      have g1 := forms_at G1 7 (.int .i64 4) rfl
      have FF := heap_alloc_new wr (.cells #[.int .i64 0, .int .i64 4] 67)
      have B1 := hide (HB.out.alloc hbs (.cells #[.int .i64 0, .int .i64 4] 67))
      obtain ⟨x0, x1⟩ := row2 FF
      go_wp2
      go_quiet (fail)
      cases b3 with
      | true =>
        go_wp2
        go_ret
        exact ⟨by rw [HK.out]; rfl, B1.out.trans (drawn_below (Drawn.of _ _) _)⟩
      | false =>
        go_wp2
        go_roundw
        case rel => exact ⟨by first | exact .inr (.inr (.inr (.inl ⟨rfl, rfl, rfl, rfl⟩))) | simp, B1.out.trans (drawn_below (Drawn.of _ _) _)⟩
        case measure => simp [intOf]
    · have g0 := forms_at G1 8 (.int .i64 16) rfl
      have g1 := forms_at G1 9 (.int .i64 4) rfl
      have FF := heap_alloc_new wr (.cells #[.int .i64 16, .int .i64 4] 67)
      have B1 := hide (HB.out.alloc hbs (.cells #[.int .i64 16, .int .i64 4] 67))
      obtain ⟨x0, x1⟩ := row2 FF
      go_wp2
      go_quiet (fail)
      cases b4 with
      | true =>
        go_wp2
        go_ret
        exact ⟨by rw [HK.out]; rfl, B1.out.trans (drawn_below (Drawn.of _ _) _)⟩
      | false =>
        go_wp2
        go_roundw
        case rel => exact ⟨by first | exact .inr (.inr (.inr (.inr ⟨rfl, rfl, rfl, rfl, rfl⟩))) | simp, B1.out.trans (drawn_below (Drawn.of _ _) _)⟩
        case measure => simp [intOf]
    · go_wp2
      go_ret
      exact ⟨by rw [HK.out]; rfl, HB.out⟩
set_option maxHeartbeats 1600000 in
theorem rkind22 (x : Int) (hx0 : 0 ≤ x) (hx1 : x ≤ 255) (w : World) : Calls Tryd.prog 43 #[.int .u8 x] w fun e w' => e = .returned (.int .i64 (kd x)) ∧ w = w' := by
  unfold kd
  by_cases h1 : 128 ≤ x
  · have d1 : decide (128 ≤ x) = true := decide_eq_true h1
    rw [if_pos h1]
    clear h1
    go_enter Tryd.func43, Tryd.ntmps43
    go_wp2
    go_ret
    exact ⟨rfl, rfl⟩
  have d1 : decide (128 ≤ x) = false := decide_eq_false h1
  rw [if_neg h1]
  by_cases h2 : 64 ≤ x
  · have d2 : decide (64 ≤ x) = true := decide_eq_true h2
    rw [if_pos h2]
    clear h1 h2
    go_enter Tryd.func43, Tryd.ntmps43
    go_wp2
    go_ret
    exact ⟨rfl, rfl⟩
  have d2 : decide (64 ≤ x) = false := decide_eq_false h2
  rw [if_neg h2]
  by_cases h3 : 32 ≤ x
  · have d3 : decide (32 ≤ x) = true := decide_eq_true h3
    rw [if_pos h3]
    clear h1 h2 h3
    go_enter Tryd.func43, Tryd.ntmps43
    go_wp2
    go_ret
    exact ⟨rfl, rfl⟩
  have d3 : decide (32 ≤ x) = false := decide_eq_false h3
  rw [if_neg h3]
  by_cases h4 : 16 ≤ x
  · have d4 : decide (16 ≤ x) = true := decide_eq_true h4
    rw [if_pos h4]
    clear h1 h2 h3 h4
    go_enter Tryd.func43, Tryd.ntmps43
    go_wp2
    go_ret
    exact ⟨rfl, rfl⟩
  have d4 : decide (16 ≤ x) = false := decide_eq_false h4
  rw [if_neg h4]
  clear h1 h2 h3 h4
  go_enter Tryd.func43, Tryd.ntmps43
  go_wp2
  go_ret
  exact ⟨rfl, rfl⟩
end Go.Proofs.YtdnfhddahpmnmabDoor
