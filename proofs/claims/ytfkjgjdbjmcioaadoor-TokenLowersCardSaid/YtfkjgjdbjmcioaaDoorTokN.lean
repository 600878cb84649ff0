/- Layer 25: the walk of TokenLowers; the table that the program's text lays. -/
import Derived.Test.YtfkjgjdbjmcioaaDoorTokM
namespace Go.Proofs.YtfkjgjdbjmcioaaDoor
open Go.RowKit Go.PlainAid

set_option maxRecDepth 20000 in
set_option maxHeartbeats 1600000 in
theorem tokenLowers_walk (s : ByteArray) (w : World) (hs : s.size ≤ 9223372036854775807) (T : TypeId) (fr : Nat × Nat) (hg : w.heap[1]? = some (.cells barV T fr)) : Calls Tryd.prog 6 #[.string s] w (Yes w) := by
  by_cases hbig : 500 < s.size
  · have hd : decide ((500 : Int) < (s.size : Int)) = true := decide_eq_true (by omega)
    clear hg
    go_enter Tryd.func6, Tryd.ntmps6
    go_wp2_with (go_at_call 30; refine (alive25 _).mono ?_; rintro e w' ⟨rfl, rfl⟩)
    go_ret
    exact ⟨rfl, Below.refl _ _⟩
  · have hd : decide ((500 : Int) < (s.size : Int)) = false := decide_eq_false (by omega)
    have hs1 : s.size ≤ 1000 := by omega
    have hs2 : (smallB s).size ≤ 1000 := by rw [smallB_size]; exact hs1
    have hlt := (Array.getElem?_eq_some_iff.1 hg).1
    have Hg := hide hg
    obtain ⟨b1, hb1⟩ : ∃ x, nameB s = x := ⟨_, rfl⟩
    obtain ⟨b2, hb2⟩ : ∃ x, barB s = x := ⟨_, rfl⟩
    have HN : Hid (b1 = true → smallB s = s) := fun h => low_name (hb1.trans h)
    have H1 := hide hb1
    have H2 := hide hb2
    have HT := hide (low_low s)
    obtain ⟨u, hu⟩ : ∃ u, smallB s = u := ⟨_, rfl⟩
    have HU := hide hu
    rw [hu] at hs2 HN HT
    have e1 := str_eq (rfl : u = u)
    clear hb1 hb2 hbig hg hu
    go_enter Tryd.func6, Tryd.ntmps6
    go_wp2_with fail
    refine (lower_any s _ hs1).mono ?_
    rw [HU.out]
    rintro e w1 ⟨rfl, hw1⟩
    have HB1 := hide hw1
    clear hw1
    go_wp2_with fail
    refine (rlower_any s _ hs1).mono ?_
    rw [HU.out]
    rintro e w2 ⟨rfl, hw2⟩
    have HB2 := hide (HB1.out.of hw2)
    clear hw2
    go_wp2_with fail
    refine (lower_any u _ hs2).mono ?_
    rw [HT.out]
    rintro e w3 ⟨rfl, hw3⟩
    have HB3 := hide (HB2.out.of hw3)
    have Hg3 := hide ((HB3.out.block _ hlt).trans Hg.out)
    clear hw3
    go_wp2_with fail
    refine (name_any s _ hs).mono ?_
    rw [H1.out]
    rintro e w4 ⟨rfl, rfl⟩
    cases b1 with
    | false =>
      go_wp2_with fail
      refine (barred_any s _ T fr Hg3.out).mono ?_
      rw [H2.out]
      rintro e w5 ⟨rfl, rfl⟩
      go_wp2_with fail
      refine (rbarred_any s _).mono ?_
      rw [H2.out]
      rintro e w5 ⟨rfl, rfl⟩
      cases b2
      all_goals
        go_wp2_with fail
        refine (alive25 _).mono ?_
        rintro e w5 ⟨rfl, rfl⟩
        go_wp2_with fail
        go_ret
        exact ⟨rfl, HB3.out⟩
    | true =>
      have e2 := str_eq (HN.out rfl)
      go_wp2_with fail
      refine (barred_any s _ T fr Hg3.out).mono ?_
      rw [H2.out]
      rintro e w5 ⟨rfl, rfl⟩
      go_wp2_with fail
      refine (rbarred_any s _).mono ?_
      rw [H2.out]
      rintro e w5 ⟨rfl, rfl⟩
      cases b2
      all_goals
        go_wp2_with fail
        refine (alive25 _).mono ?_
        rintro e w5 ⟨rfl, rfl⟩
        go_wp2_with fail
        go_ret
        exact ⟨rfl, HB3.out⟩
end Go.Proofs.YtfkjgjdbjmcioaaDoor
