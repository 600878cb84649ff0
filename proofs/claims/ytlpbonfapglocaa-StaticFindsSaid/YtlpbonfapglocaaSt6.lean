/- Layer 20: the walk of StaticAt. -/
import Derived.Test.YtlpbonfapglocaaSt5
namespace Go.Proofs.Ytlpbonfapglocaa
open Go.RowKit

theorem at_pair (z : Int) : ∃ N V b, Hid (∀ W, Calls Try.prog 35 #[.int .i64 z] W fun e w' => e = .returned (.tuple #[.agg #[.string N, .string V, .bool false], .bool b]) ∧ Below W.heap.size W w') ∧ Hid (∀ W, Calls Try.prog 36 #[.int .i64 z] W fun e w' => e = .returned (.tuple #[.agg #[.string N, .string V, .bool false], .bool b]) ∧ Below W.heap.size W w') := by
  by_cases h : z < 1 ∨ 61 < z
  · exact ⟨_, _, _, fun W => at_out z W h, fun W => rat_out z W h⟩
  · obtain ⟨k, rfl⟩ : ∃ k : Nat, z = (k : Int) + 1 := ⟨(z - 1).toNat, by omega⟩
    exact ⟨_, _, _, fun W => at_in k W (by omega), fun W => rat_in k W (by omega)⟩
set_option maxHeartbeats 3200000 in
theorem statAt (z : Int) (w : World) : Calls Try.prog 11 #[.int .i64 z] w (Yes w) := by
  obtain ⟨N, V, b, HA, HR⟩ := at_pair z
  go_enter Try.func11, Try.ntmps11
  go_wp2_with fail
  refine (HA.out _).mono ?_
  rintro e w1 ⟨rfl, hb1⟩
  have R1 := hide (heap_alloc_new w1 (.cells #[.string N, .string V, .bool false] 60))
  have HB1 := hide (hb1.alloc hb1.size (.cells #[.string N, .string V, .bool false] 60))
  clear hb1
  go_wp2_with fail
  refine (HR.out _).mono ?_
  rintro e w2 ⟨rfl, hb2⟩
  have R2 := hide (keepRow R1.out hb2)
  have HB2 := hide (HB1.out.of hb2)
  have hs2 := hb2.size
  clear hb2
  have R3 := hide (heap_alloc_new w2 (.cells #[.string N, .string V, .bool false] 60))
  have HB3 := hide (HB2.out.alloc HB2.out.size (.cells #[.string N, .string V, .bool false] 60))
  have R4 := hide (keepRow R2.out ((Below.refl _ _).alloc (Nat.le_refl _) (.cells #[.string N, .string V, .bool false] 60)))
  obtain ⟨c0, c1, c2⟩ := row3s R3.out
  obtain ⟨d0, d1, d2⟩ := row3s R4.out
  go_wp2_with fail
  refine (alive20 _).mono ?_
  rintro e w3 ⟨rfl, hb3⟩
  have HB4 := hide (HB3.out.of hb3)
  clear hb3
  go_wp2_with fail
  go_ret
  exact ⟨rfl, HB4.out⟩
end Go.Proofs.Ytlpbonfapglocaa
