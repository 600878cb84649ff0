/- Layer 16: the walk of the law on codes. -/
import Derived.Test.YtlpbonfapglocaaCbB
import Derived.Test.YtlpbonfapglocaaSam3
namespace Go.Proofs.Ytlpbonfapglocaa
open Go.RowKit

theorem rcode_any (s : Int) (w : World) : Calls Try.prog 31 #[.int .i64 s] w fun e w' => e = .returned (.tuple #[.int .i64 (codI s), .int .i64 (lnI s)]) ∧ Below w.heap.size w w' := by
  by_cases hs : 0 ≤ s ∧ s < 257
  · obtain ⟨S, rfl⟩ := Int.eq_ofNat_of_zero_le hs.1
    unfold codI lnI
    rw [if_pos hs, if_pos hs]
    exact rcode_at S w (by omega)
  · unfold codI lnI
    rw [if_neg hs, if_neg hs]
    exact rcode_out s w hs
set_option maxHeartbeats 3200000 in
theorem codes_walk (s : Int) (w : World) : Calls Try.prog 10 #[.int .i64 s] w (Yes w) := by
  go_enter Try.func10, Try.ntmps10
  go_wp2_with fail
  refine (mk_any _).mono ?_
  rintro e w1 ⟨B, rfl, hb, hb1⟩
  have HBk := hide hb
  have HB1 := hide hb1
  clear hb hb1
  go_wp2_with fail
  refine (code_any B s _ HBk.out).mono ?_
  rintro e w2 ⟨rfl, hd2⟩
  have HBk2 := hide (HBk.out.below (drawn_below hd2 _))
  have HB2 := hide (HB1.out.trans (drawn_below hd2 _))
  clear hd2
  go_wp2_with fail
  refine (rcode_any s _).mono ?_
  rintro e w3 ⟨rfl, hb3⟩
  have HBk3 := hide (HBk2.out.below hb3)
  have HB3 := hide (HB2.out.of hb3)
  clear hb3
  go_wp2_with fail
  refine (length_of _ s _ _ _ (code_any B s _ HBk3.out)).mono ?_
  rintro e w4 ⟨rfl, hd4⟩
  have HBk4 := hide (HBk3.out.below (drawn_below hd4 _))
  have HB4 := hide (HB3.out.trans (drawn_below hd4 _))
  clear hd4
  go_wp2_with fail
  refine (rlen_any s _).mono ?_
  rintro e w5 ⟨rfl, hb5⟩
  have HBk5 := hide (HBk4.out.below hb5)
  have HB5 := hide (HB4.out.of hb5)
  clear hb5
  go_wp2_with fail
  obtain ⟨og, hsl, hrd⟩ := HBk5.out.sl
  refine (order_of B 257 257 _ _ _ HBk5.out.lt hsl hrd (by omega)).mono ?_
  rintro e w6 ⟨v6, rfl, ho6, hb6⟩
  obtain ⟨A6, c6, rfl, hr6, _⟩ := ho6.rd
  have Hr6 := hide hr6
  have HB6 := hide (HB5.out.of hb6)
  clear ho6 hr6 hb6 hsl hrd
  go_wp2_with fail
  refine (rorder_any _).mono ?_
  rintro e w7 ⟨v7, rfl, ho7, hb7⟩
  obtain ⟨A7, c7, rfl, hr7, _⟩ := ho7.rd
  have Hr7 := hide hr7
  have Hr6' := hide (Hr6.out.below hb7)
  have HB7 := hide (HB6.out.of hb7)
  clear ho7 hr7 hb7
  go_wp2_with fail
  refine (rsame3_yes _ _ 257 _ _ _ _ _ Hr6'.out Hr7.out (fun _ _ => rfl)).mono ?_
  rintro e w8 ⟨rfl, hd8⟩
  have HB8 := hide (HB7.out.trans (drawn_below hd8 _))
  clear hd8
  go_wp2_with fail
  refine (alive16 _).mono ?_
  rintro e w9 ⟨rfl, hb9⟩
  go_wp2_with fail
  go_ret
  exact ⟨rfl, HB8.out.of hb9⟩
end Go.Proofs.Ytlpbonfapglocaa
