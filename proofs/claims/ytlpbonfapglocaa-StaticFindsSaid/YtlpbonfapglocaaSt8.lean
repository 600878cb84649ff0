/- Layer 20: the walk of StaticFinds. -/
import Derived.Test.YtlpbonfapglocaaSt7
namespace Go.Proofs.Ytlpbonfapglocaa
open Go.RowKit

set_option maxHeartbeats 3200000 in
theorem statFinds (n v : ByteArray) (w : World) : Calls Try.prog 12 #[.string n, .string v] w (Yes w) := by
  go_enter Try.func12, Try.ntmps12
  go_wp2_with fail
  any_goals (first | (refine (alive20 _).mono ?_; rintro e w1 ⟨rfl, hb⟩; have HB := hide hb; clear hb; go_wp2_with fail; go_ret; exact ⟨rfl, HB.out⟩) | skip)
  refine (sfind_any n v _).mono ?_
  rintro e w1 ⟨i, b, rfl, hR, hb1⟩
  have HB1 := hide hb1
  have HR1 := hide hR
  clear hb1 hR
  go_wp2_with fail
  refine (rfind_any n v _).mono ?_
  rintro e w2 ⟨i', b', rfl, hR', rfl⟩
  obtain ⟨rfl, rfl⟩ := HR1.out.same hR'
  clear hR'
  rcases HR1.out with ⟨rfl, k, hk, rfl, hn, hv, _⟩ | ⟨rfl, _, ⟨rfl, _⟩ | ⟨k, hk, rfl, hn, _⟩⟩
  · subst hn
    subst hv
    obtain ⟨N, hN⟩ : ∃ N, nmB k = N := ⟨_, rfl⟩
    obtain ⟨V, hV⟩ : ∃ V, vlB k = V := ⟨_, rfl⟩
    have HA : Hid (∀ W, Calls Try.prog 35 #[.int .i64 ((k : Int) + 1)] W fun e w' => e = .returned (.tuple #[.agg #[.string N, .string V, .bool false], .bool true]) ∧ Below W.heap.size W w') := fun W => by
      have := at_in k W hk
      rwa [hN, hV] at this
    rw [hN, hV] at *
    clear hN hV HR1
    have hd : decide (0 < (k : Int) + 1) = true := decide_eq_true (by omega)
    go_wp2_with fail
    refine (HA.out _).mono ?_
    rintro e w2 ⟨rfl, hb2⟩
    have HB2 := hide (HB1.out.of hb2)
    clear hb2
    have R2 := hide (heap_alloc_new w2 (.cells #[.string N, .string V, .bool false] 60))
    have HB3 := hide (HB2.out.alloc HB2.out.size (.cells #[.string N, .string V, .bool false] 60))
    obtain ⟨c0, c1, c2⟩ := row3s R2.out
    go_wp2_with fail
    refine (alive20 _).mono ?_
    rintro e w3 ⟨rfl, hb3⟩
    have HB4 := hide (HB3.out.of hb3)
    clear hb3
    go_wp2_with fail
    go_ret
    exact ⟨rfl, HB4.out⟩
  · have HA : Hid (∀ W, Calls Try.prog 35 #[.int .i64 0] W fun e w' => e = .returned (.tuple #[.agg #[.string ⟨#[]⟩, .string ⟨#[]⟩, .bool false], .bool false]) ∧ Below W.heap.size W w') := fun W => at_out 0 W (by omega)
    clear HR1
    go_wp2_with fail
    refine (HA.out _).mono ?_
    rintro e w2 ⟨rfl, hb2⟩
    have HB2 := hide (HB1.out.of hb2)
    clear hb2
    have R2 := hide (heap_alloc_new w2 (.cells #[.string ⟨#[]⟩, .string ⟨#[]⟩, .bool false] 60))
    have HB3 := hide (HB2.out.alloc HB2.out.size (.cells #[.string ⟨#[]⟩, .string ⟨#[]⟩, .bool false] 60))
    obtain ⟨c0, c1, c2⟩ := row3s R2.out
    go_wp2_with fail
    refine (alive20 _).mono ?_
    rintro e w3 ⟨rfl, hb3⟩
    have HB4 := hide (HB3.out.of hb3)
    clear hb3
    go_wp2_with fail
    go_ret
    exact ⟨rfl, HB4.out⟩
  · subst hn
    obtain ⟨N, hN⟩ : ∃ N, nmB k = N := ⟨_, rfl⟩
    obtain ⟨V, hV⟩ : ∃ V, vlB k = V := ⟨_, rfl⟩
    have HA : Hid (∀ W, Calls Try.prog 35 #[.int .i64 ((k : Int) + 1)] W fun e w' => e = .returned (.tuple #[.agg #[.string N, .string V, .bool false], .bool true]) ∧ Below W.heap.size W w') := fun W => by
      have := at_in k W hk
      rwa [hN, hV] at this
    rw [hN] at *
    clear hN hV HR1
    have hd : decide (0 < (k : Int) + 1) = true := decide_eq_true (by omega)
    go_wp2_with fail
    refine (HA.out _).mono ?_
    rintro e w2 ⟨rfl, hb2⟩
    have HB2 := hide (HB1.out.of hb2)
    clear hb2
    have R2 := hide (heap_alloc_new w2 (.cells #[.string N, .string V, .bool false] 60))
    have HB3 := hide (HB2.out.alloc HB2.out.size (.cells #[.string N, .string V, .bool false] 60))
    obtain ⟨c0, c1, c2⟩ := row3s R2.out
    go_wp2_with fail
    refine (alive20 _).mono ?_
    rintro e w3 ⟨rfl, hb3⟩
    have HB4 := hide (HB3.out.of hb3)
    clear hb3
    go_wp2_with fail
    go_ret
    exact ⟨rfl, HB4.out⟩
end Go.Proofs.Ytlpbonfapglocaa
