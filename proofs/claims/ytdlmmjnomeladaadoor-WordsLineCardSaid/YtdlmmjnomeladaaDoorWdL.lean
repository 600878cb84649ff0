/- Layer 4: the laws on lines. -/
import Derived.Test.YtdlmmjnomeladaaDoorN7
namespace Go.Proofs.YtdlmmjnomeladaaDoor
set_option linter.unusedVariables false
set_option linter.unusedSimpArgs false
open Go Go.RowKit Go.PlainAid

set_option maxRecDepth 20000 in
set_option maxHeartbeats 3200000 in
theorem rsplit04 (s : ByteArray) (w : World) (hs : s.size ≤ 900) : Calls Tryd.prog 31 #[.string s] w (SwE s w) := by
  by_cases hz : s.size = 0
  · have t1 := isEmpty_yes hz
    have HQ : Hid (SwR s [] true) := .inl ⟨rfl, .inl ⟨hz, rfl⟩⟩
    clear hz
    go_enter Tryd.func31, Tryd.ntmps31
    go_wp2
    go_ret2
    exact ⟨none, 0, 0, [], true, rfl, rfl, rdV_nil _ _, HQ.out, Below.refl _ _⟩
  have t1 := isEmpty_no hz
  have hp := hide (fun W => rparts04 32 s W (by omega))
  obtain ⟨ps, hps⟩ : ∃ ps, pcB 32 s = ps := ⟨_, rfl⟩
  have HS : Hid (∀ t ok, LiR ps t ok → SwR s (if ok then ps else []) ok ∧ (ok = true → t = s)) := fun t ok h => by
    rcases h with ⟨rfl, h1, rfl⟩ | ⟨rfl, rfl, h1⟩
    · exact ⟨.inl ⟨rfl, .inr ⟨by omega, hps.symm, h1⟩⟩, fun _ => by rw [← hps, jnS_pcB]⟩
    · refine ⟨.inr ⟨rfl, rfl, by omega, ?_⟩, fun h => by cases h⟩
      rw [hps]
      exact h1
  have hb : Hid (∀ x ∈ ps, x.size ≤ 1000) := fun x hx => by
    rw [← hps] at hx
    have := pcB_size hx
    omega
  obtain ⟨m, hm⟩ : ∃ m, ps.length = m := ⟨_, rfl⟩
  have HM := hide hm
  have hmb : m ≤ 1000 := by
    rw [← hm, ← hps]
    have := pcB_len 32 s.size s (Nat.le_refl _)
    omega
  rw [hps, hm] at hp
  clear hps hm hz
  go_enter Tryd.func31, Tryd.ntmps31
  go_wp2_with fail
  refine (hp.out _).mono ?_
  rintro e w1 ⟨A, cp, rfl, hr, hb1⟩
  have HR := hide hr
  have HB1 := hide hb1
  clear hr hb1
  go_wp2_with fail
  refine (rline04 A m cp ps _ HR.out HM.out.symm hb.out hmb).mono ?_
  rintro e w2 ⟨t, ok, rfl, hq, hb2⟩
  obtain ⟨h1, h2⟩ := HS.out t ok hq
  have HQ := hide h1
  have HT := hide h2
  have HB2 := hide (HB1.out.of hb2)
  have HR2 := hide (rdV_below HR.out hb2)
  clear hq hb2 h1 h2
  cases ok with
  | false =>
    go_wp2_with fail
    go_ret2
    exact ⟨none, 0, 0, [], false, rfl, rfl, rdV_nil _ _, HQ.out, HB2.out⟩
  | true =>
    obtain rfl := HT.out rfl
    have q1 : (t.toList != t.toList) = false := by simp
    have q2 : (t.toList == t.toList) = true := beq_self_eq_true _
    go_wp2_with fail
    go_ret2
    exact ⟨A, m, cp, ps, true, rfl, HM.out.symm, HR2.out, HQ.out, HB2.out⟩
set_option maxRecDepth 20000 in
set_option maxHeartbeats 3200000 in
theorem split_walk04 (s : ByteArray) (w : World) (hs : s.size ≤ 9223372036854775807) : Calls Tryd.prog 6 #[.string s] w (Yes4 w) := by
  by_cases hbig : 500 < s.size
  · have t1 : decide (500 < s.size) = true := decide_eq_true hbig
    have t2 : decide ((500 : Int) < (s.size : Int)) = true := decide_eq_true (by omega)
    clear hbig
    go_enter Tryd.func6, Tryd.ntmps6
    go_wp2_with fail
    refine (alive04 _).mono ?_
    rintro e w1 ⟨rfl, hb1⟩
    have HB := hide hb1
    clear hb1
    go_wp2_with fail
    go_ret
    exact ⟨rfl, HB.out⟩
  have t1 : decide (500 < s.size) = false := decide_eq_false hbig
  have t2 : decide ((500 : Int) < (s.size : Int)) = false := decide_eq_false (by omega)
  have Hs : Hid (s.size ≤ 500) := by unfold Hid; omega
  clear hbig
  go_enter Tryd.func6, Tryd.ntmps6
  go_wp2_with fail
  refine (split04 s _ (by have := Hs.out; omega)).mono ?_
  rintro e w1 ⟨A, k, c, ps, ok, rfl, hk, hr, hq, hb1⟩
  have HQ1 := hide hq
  have HK1 := hide hk
  have HR1 := hide hr
  have HB1 := hide hb1
  clear hb1 hr hq hk
  go_wp2_with fail
  refine (rsplit04 s _ (by have := Hs.out; omega)).mono ?_
  rintro e w2 ⟨A2, k2, c2, ps2, ok2, rfl, hk2, hr2, hq2, hb2⟩
  obtain ⟨rfl, rfl⟩ := HQ1.out.same hq2
  obtain rfl : k = k2 := by rw [hk2, HK1.out]
  have HR2 := hide hr2
  have HR12 := hide (rdV_below HR1.out hb2)
  have HB2 := hide (HB1.out.of hb2)
  clear hb2 hr2 hq2 hk2 HR1
  go_wp2_with fail
  refine (lines04 s _ (by have := Hs.out; omega)).mono ?_
  rintro e w3 ⟨A3, k3, c3, ps3, ok3, rfl, hk3, hr3, hq3, hb3⟩
  have HQ3 := hide hq3
  have HK3 := hide hk3
  have HR3 := hide hr3
  have HR13 := hide (rdV_below HR12.out hb3)
  have HR23 := hide (rdV_below HR2.out hb3)
  have HB3 := hide (HB2.out.of hb3)
  clear hb3 hr3 hq3 hk3 HR12 HR2
  go_wp2_with fail
  refine (rlines04 s _ (by have := Hs.out; omega)).mono ?_
  rintro e w4 ⟨A4, k4, c4, ps4, ok4, rfl, hk4, hr4, hq4, hb4⟩
  obtain ⟨rfl, rfl⟩ := HQ3.out.same hq4
  obtain rfl : k3 = k4 := by rw [hk4, HK3.out]
  have HR4 := hide hr4
  have HR34 := hide (rdV_below HR3.out hb4)
  have HR14 := hide (rdV_below HR13.out hb4)
  have HR24 := hide (rdV_below HR23.out hb4)
  have HB4 := hide (HB3.out.of hb4)
  have q1 : (ok == ok) = true := beq_self_eq_true _
  have q2 : (ok3 == ok3) = true := beq_self_eq_true _
  clear hb4 hr4 hq4 hk4 HR3 HR13 HR23
  go_wp2_with fail
  refine (strs_same04 _ _ _ _ _ ps _ HR14.out HR24.out).mono ?_
  rintro e w5 ⟨rfl, hd5⟩
  have HB5 := hide (HB4.out.trans (drawn_below hd5 _))
  have HR5 := hide (rdV_below HR4.out (drawn_below hd5 _))
  have HR35 := hide (rdV_below HR34.out (drawn_below hd5 _))
  clear hd5
  go_wp2_with fail
  refine (strs_same04 _ _ _ _ _ ps3 _ HR35.out HR5.out).mono ?_
  rintro e w6 ⟨rfl, hd6⟩
  have HB6 := hide (HB5.out.trans (drawn_below hd6 _))
  clear hd6
  go_wp2_with fail
  refine (alive04 _).mono ?_
  rintro e w9 ⟨rfl, hb9⟩
  have HB9 := hide (HB6.out.of hb9)
  clear hb9
  go_wp2_with fail
  go_ret
  exact ⟨rfl, HB9.out⟩
end Go.Proofs.YtdlmmjnomeladaaDoor
