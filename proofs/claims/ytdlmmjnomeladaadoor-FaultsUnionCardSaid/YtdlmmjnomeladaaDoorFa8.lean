/- Layer 9: the law of codes. -/
import Derived.Test.YtdlmmjnomeladaaDoorFa7
namespace Go.Proofs.YtdlmmjnomeladaaDoor
set_option linter.unusedVariables false
set_option linter.unusedSimpArgs false
open Go.RowKit Go.PlainAid

theorem bt_name (j : Nat) (hj : j < 14) : 65 ≤ bt (cdL.getD j ⟨#[]⟩) 0 := by
  have h : j = 0 ∨ j = 1 ∨ j = 2 ∨ j = 3 ∨ j = 4 ∨ j = 5 ∨ j = 6 ∨ j = 7 ∨ j = 8 ∨ j = 9 ∨ j = 10 ∨ j = 11 ∨ j = 12 ∨ j = 13 := by omega
  rcases h with rfl | rfl | rfl | rfl | rfl | rfl | rfl | rfl | rfl | rfl | rfl | rfl | rfl | rfl <;> decide
theorem name_no_int {t : Int} (h : 14 ≤ t) (h2 : t ≤ 4294967295) (j : Nat) (hj : j < 14) : cdL.getD j ⟨#[]⟩ ≠ codeT t := fun e => by
  have h3 := bt_name j hj
  rw [e, codeT_more h h2] at h3
  have h4 := (decL_len 10 t.toNat (by omega) (by omega)).2
  have := (dec_bt t.toNat 0 (by rw [decS_size]; exact h4)).2
  omega
theorem names_two (d j : Nat) (hd : d < 14) (hj : j < d) : cdL.getD j ⟨#[]⟩ ≠ cdL.getD d ⟨#[]⟩ := by
  have h : ∀ d, d < 14 → ∀ j, j < d → cdL.getD j ⟨#[]⟩ ≠ cdL.getD d ⟨#[]⟩ := by decide
  exact h d hd j hj
theorem cd_own {t : Int} (h : 0 ≤ t) (h2 : t ≤ 4294967295) : CdR (codeT t) t true := by
  by_cases h3 : t < 14
  · obtain ⟨d, rfl⟩ : ∃ d : Nat, t = (d : Int) := ⟨t.toNat, by omega⟩
    refine cd_name (by omega) (cdL_at d (by omega)) (fun j hj => ?_)
    rw [cdL_at d (by omega)]
    exact names_two d j (by omega) hj
  · refine cd_num (fun j hj => name_no_int (by omega) h2 j hj) (by omega) h2 ?_
    exact .inl ⟨rfl, by omega, by omega, codeT_int (by omega) h2⟩
theorem codeT_pos {t : Int} (h : 0 ≤ t) (h2 : t ≤ 4294967295) : codeT t ≠ ⟨#[]⟩ := fun e => by
  by_cases h3 : t < 14
  · rw [codeT_known h h3] at e
    have : ∀ d, d < 14 → cdL.getD d ⟨#[]⟩ ≠ ⟨#[]⟩ := by decide
    exact this _ (by omega) e
  · rw [codeT_int (by omega) h2] at e
    have h4 := (intS_size (u := t) (by omega) (by omega)).1
    rw [e] at h4
    exact absurd h4 (by decide)
def Yes9 (w : World) (e : Ending) (w' : World) : Prop := e = .returned (.bool true) ∧ Below w.heap.size w w'
set_option maxRecDepth 20000 in
set_option maxHeartbeats 1600000 in
theorem codes_walk09 (t : Int) (s : ByteArray) (w : World) (hs : s.size ≤ 9223372036854775807) (hN : CdW w) (hP : PowW w) : Calls Tryd.prog 13 #[.int .i64 t, .string s] w (Yes9 w) := by
  have HN := hide hN
  have HP := hide hP
  have Hs := hide hs
  by_cases hbig : 100 < s.size
  · have t1 : decide (100 < s.size) = true := decide_eq_true hbig
    have t2 : decide ((100 : Int) < (s.size : Int)) = true := decide_eq_true (by omega)
    clear hbig hN hP hs
    go_enter Tryd.func13, Tryd.ntmps13
    go_wp2_with fail
    refine (alive09 _ HN.out HP.out).mono ?_
    rintro e w1 ⟨rfl, hb1⟩
    have HB := hide hb1
    clear hb1
    go_wp2_with fail
    go_ret
    exact ⟨rfl, HB.out⟩
  have t1 : decide (100 < s.size) = false := decide_eq_false hbig
  have t2 : decide ((100 : Int) < (s.size : Int)) = false := decide_eq_false (by omega)
  clear hbig hN hP hs
  obtain ⟨n, hn⟩ : ∃ n, codeT t = n := ⟨_, rfl⟩
  have HCN := hide hn
  have K1 := hide (kcname09 t w HN.out HP.out)
  rw [hn] at K1
  have hn20 : n.size ≤ 9223372036854775807 := by rw [← hn]; have := codeT_size t; omega
  have HS20 := hide hn20
  clear hn hn20
  go_enter Tryd.func13, Tryd.ntmps13
  go_wp2_with fail
  refine K1.out.mono ?_
  rintro e w1 ⟨rfl, hb1⟩
  have HB1 := hide hb1
  have HN1 := hide (HN.out.below hb1)
  have HP1 := hide (HP.out.below hb1)
  clear hb1 K1
  go_wp2_with fail
  refine (kcode09 s _ Hs.out HN1.out).mono ?_
  rintro e w2 ⟨x, is, rfl, hq, hb2⟩
  have HQ := hide hq
  have HB2 := hide (HB1.out.of hb2)
  have HN2 := hide (HN1.out.below hb2)
  have HP2 := hide (HP1.out.below hb2)
  clear hq hb2
  go_wp2_with fail
  refine (rcode09 s _ Hs.out).mono ?_
  rintro e w3 ⟨y, was, rfl, hq, hb3⟩
  obtain ⟨rfl, rfl⟩ := HQ.out.same hq
  have HB3 := hide (HB2.out.of hb3)
  have HN3 := hide (HN2.out.below hb3)
  have HP3 := hide (HP2.out.below hb3)
  clear hq hb3 HQ
  go_wp2_with fail
  refine (kcode09 n _ HS20.out HN3.out).mono ?_
  rintro e w4 ⟨z, has, rfl, hq, hb4⟩
  have HQ := hide hq
  have HB4 := hide (HB3.out.of hb4)
  have HN4 := hide (HN3.out.below hb4)
  have HP4 := hide (HP3.out.below hb4)
  clear hq hb4
  have q1 : (n.toList == n.toList) = true := beq_self_eq_true _
  have q2 : (x == x) = true := beq_self_eq_true _
  have q3 : (is == is) = true := beq_self_eq_true _
  have K2 : Hid (∀ W, Calls Tryd.prog 62 #[.int .i64 t] W fun e w' => e = .returned (.string n) ∧ Below W.heap.size W w') := fun W => by
    rw [← HCN.out]
    exact rcname09 t W
  go_wp2_with fail
  refine (K2.out _).mono ?_
  rintro e w5 ⟨rfl, hb5⟩
  have HB5 := hide (HB4.out.of hb5)
  have HN5 := hide (HN4.out.below hb5)
  have HP5 := hide (HP4.out.below hb5)
  clear hb5
  by_cases hin : 0 ≤ t ∧ t ≤ 4294967295
  · have hne : n ≠ ⟨#[]⟩ := by rw [← HCN.out]; exact codeT_pos hin.1 hin.2
    have hzz : z = t ∧ has = true := HQ.out.same (by rw [← HCN.out]; exact cd_own hin.1 hin.2)
    obtain ⟨rfl, rfl⟩ := hzz
    obtain ⟨q5, q6⟩ := lit_no (l := []) hne
    have q7 : (z == z) = true := beq_self_eq_true _
    clear hin hne HQ K2 HCN
    go_wp2_with fail
    refine (alive09 _ HN5.out HP5.out).mono ?_
    rintro e w9 ⟨rfl, hb9⟩
    have HB9 := hide (HB5.out.of hb9)
    clear hb9
    go_wp2_with fail
    go_ret
    exact ⟨rfl, HB9.out⟩
  · have hne : n = ⟨#[]⟩ := by rw [← HCN.out]; exact codeT_other (by omega)
    obtain ⟨q5, q6⟩ := lit_yes (l := []) hne
    clear hin hne HQ K2 HCN
    go_wp2_with fail
    refine (alive09 _ HN5.out HP5.out).mono ?_
    rintro e w9 ⟨rfl, hb9⟩
    have HB9 := hide (HB5.out.of hb9)
    clear hb9
    go_wp2_with fail
    go_ret
    exact ⟨rfl, HB9.out⟩
end Go.Proofs.YtdlmmjnomeladaaDoor
