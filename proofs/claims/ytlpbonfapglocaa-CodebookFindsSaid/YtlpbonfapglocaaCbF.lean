/- Layer 16: the walk of the law on finding. -/
import Derived.Test.YtlpbonfapglocaaCbA
namespace Go.Proofs.Ytlpbonfapglocaa
open Go.RowKit

set_option maxRecDepth 100000 in
set_option maxHeartbeats 3200000 in
theorem finds_walk (c n : Int) (w : World) (hc0 : -9223372036854775808 ≤ c) (hc1 : c ≤ 9223372036854775807) : Calls Try.prog 8 #[.int .i64 c, .int .i64 n] w (Yes w) := by
  have HC : Hid (-9223372036854775808 ≤ c ∧ c ≤ 9223372036854775807) := ⟨hc0, hc1⟩
  clear hc0 hc1
  go_enter Try.func8, Try.ntmps8
  go_wp2_with fail
  refine (mk_any _).mono ?_
  rintro e w1 ⟨B, rfl, hb, hb1⟩
  have HBk := hide hb
  have HB1 := hide hb1
  clear hb hb1
  go_wp2_with fail
  refine (findI B c n _ HBk.out HC.out.1 HC.out.2).mono ?_
  rintro e w2 ⟨s, b, rfl, hF, hd2⟩
  have HF := hide hF
  have HBk2 := hide (HBk.out.below (drawn_below hd2 _))
  have HB2 := hide (HB1.out.trans (drawn_below hd2 _))
  clear hF hd2
  go_wp2_with fail
  refine (rfind_any c n _).mono ?_
  rintro e w3 ⟨t, d, rfl, hG, hb3⟩
  obtain ⟨rfl, rfl⟩ := HF.out.same hG
  have HBk3 := hide (HBk2.out.below hb3)
  have HB3 := hide (HB2.out.of hb3)
  clear hG hb3
  rcases HF.out with ⟨rfl, S, hS, rfl, h1, h2⟩ | ⟨rfl, rfl, _⟩
  · have eC : codI (S : Int) = c := by unfold codI; rw [if_pos (by omega), ← h1]; rfl
    have eL : lnI (S : Int) = n := by unfold lnI; rw [if_pos (by omega), ← h2]; rfl
    have EC := hide eC
    have EL := hide eL
    clear eC eL h1 h2
    go_wp2_with fail
    refine (code_any B S _ HBk3.out).mono ?_
    rintro e w4 ⟨rfl, hd4⟩
    rw [EC.out, EL.out]
    have HB4 := hide (HB3.out.trans (drawn_below hd4 _))
    clear hd4
    go_wp2_with fail
    refine (alive16 _).mono ?_
    rintro e w5 ⟨rfl, hb5⟩
    go_wp2_with fail
    go_ret
    exact ⟨rfl, HB4.out.of hb5⟩
  · go_wp2_with fail
    refine (code_any B 0 _ HBk3.out).mono ?_
    rintro e w4 ⟨rfl, hd4⟩
    have HB4 := hide (HB3.out.trans (drawn_below hd4 _))
    clear hd4
    generalize codI 0 = x
    generalize lnI 0 = y
    go_wp2_with fail
    refine (alive16 _).mono ?_
    rintro e w5 ⟨rfl, hb5⟩
    go_wp2_with fail
    go_ret
    exact ⟨rfl, HB4.out.of hb5⟩
end Go.Proofs.Ytlpbonfapglocaa
