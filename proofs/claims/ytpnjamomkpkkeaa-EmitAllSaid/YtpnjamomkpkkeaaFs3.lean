/- Layer 14: lengths, what stands ahead, the first fault, by the reference. -/
import Derived.Test.YtpnjamomkpkkeaaFs2
import Derived.Test.YtpnjamomkpkkeaaFrd
namespace Go.Proofs.Ytpnjamomkpkkeaa
set_option linter.unusedVariables false
set_option linter.unusedSimpArgs false
open Go.RowKit

def lenB (T fl : Int) (n : Nat) : Bool := if T = 2 then (n : Int) == 5 else if T = 3 ∨ T = 8 then (n : Int) == 4 else if T = 4 then (if hsB 4 fl 0 = true then (n : Int) == 0 else ((n % 6 : Nat) : Int) == 0) else if T = 6 then (n : Int) == 8 else if T = 7 then decide (8 ≤ n) else true
theorem lenB_out {T fl : Int} {n : Nat} (h : T ≠ 2 ∧ T ≠ 3 ∧ T ≠ 8 ∧ T ≠ 6 ∧ T ≠ 4 ∧ T ≠ 7) : lenB T fl n = true := by
  unfold lenB
  rw [if_neg (by omega), if_neg (by omega), if_neg (by omega), if_neg (by omega), if_neg (by omega)]
set_option maxHeartbeats 1600000 in
theorem rlen14 (fm T fl st : Int) (rs : Bool) (A : Option Addr) (n c : Nat) (h0 : 0 ≤ fl) (hfl : fl ≤ 255) (hn : n ≤ 100000) (w : World) : Calls Try.prog 144 #[.agg #[.int .i64 fm, .int .i64 T, .int .i64 fl, .int .i64 st, .bool rs, .slice A n c]] w fun e w' => e = .returned (.bool (lenB T fl n)) ∧ Below w.heap.size w w' := by
  have R0 := hide (heap_alloc_new w (.cells #[.int .i64 fm, .int .i64 T, .int .i64 fl, .int .i64 st, .bool rs, .slice A n c] 29))
  have E0 := hide ((Below.refl w.heap.size w).alloc (Nat.le_refl _) (.cells #[.int .i64 fm, .int .i64 T, .int .i64 fl, .int .i64 st, .bool rs, .slice A n c] 29))
  obtain ⟨s0, s1, s2, s3, s4, s5⟩ := row6 R0.out
  by_cases h : T = 2 ∨ T = 3 ∨ T = 8 ∨ T = 6
  · rcases h with rfl | rfl | rfl | rfl
    all_goals
      go_enter Try.func144, Try.ntmps144
      go_wp2_with fail
      go_ret
      exact ⟨by rfl, E0.out⟩
  by_cases h4 : T = 4
  · subst h4
    clear h
    obtain ⟨b, hb⟩ : ∃ b, hsB 4 fl 0 = b := ⟨_, rfl⟩
    have HW : Hid (lenB 4 fl n = if b = true then (n : Int) == 0 else ((n % 6 : Nat) : Int) == 0) := by
      show _ = _
      unfold lenB
      rw [if_neg (by decide), if_neg (by decide), if_pos rfl, hb]
    have HB := hide hb
    obtain ⟨dz, hd⟩ : ∃ dz, Int.tmod (n : Int) 6 = dz := ⟨_, rfl⟩
    have hdv : dz = ((n % 6 : Nat) : Int) := by rw [← hd, Int.tmod_eq_emod_of_nonneg (by omega)]; omega
    have w2 : IntKind.i64.wrap dz = dz := IntWalk.i64_in _ (by omega)
    have HD := hide hdv
    clear hb hdv
    go_enter Try.func144, Try.ntmps144
    go_wp2_with fail
    refine (rhas_0 4 fl h0 hfl _).mono ?_
    rw [HB.out]
    rintro e w1 ⟨rfl, rfl⟩
    cases b with
    | true =>
      go_wp2_with fail
      go_ret
      exact ⟨by rw [HW.out]; rfl, E0.out⟩
    | false =>
      go_wp2_with fail
      go_ret
      exact ⟨by rw [HW.out, ← HD.out]; rfl, E0.out⟩
  by_cases h7 : T = 7
  · subst h7
    clear h h4
    obtain ⟨b, hb⟩ : ∃ b, decide (8 ≤ n) = b := ⟨_, rfl⟩
    have hb2 : decide ((8 : Int) ≤ (n : Int)) = b := by rw [← hb]; congr 1; apply propext; omega
    have HW : Hid (lenB 7 fl n = b) := by
      show _ = _
      unfold lenB
      rw [if_neg (by decide), if_neg (by decide), if_neg (by decide), if_neg (by decide), if_pos rfl, hb]
    clear hb
    go_enter Try.func144, Try.ntmps144
    go_wp2_with fail
    go_ret
    exact ⟨by rw [HW.out]; rfl, E0.out⟩
  have HW := hide (lenB_out (fl := fl) (n := n) (show T ≠ 2 ∧ T ≠ 3 ∧ T ≠ 8 ∧ T ≠ 6 ∧ T ≠ 4 ∧ T ≠ 7 by omega))
  have n2 : (T == 2) = false := by simp; omega
  have n3 : (T == 3) = false := by simp; omega
  have n4 : (T == 4) = false := by simp; omega
  have n6 : (T == 6) = false := by simp; omega
  have n7 : (T == 7) = false := by simp; omega
  have n8 : (T == 8) = false := by simp; omega
  clear h h4 h7
  go_enter Try.func144, Try.ntmps144
  go_wp2_with fail
  go_ret
  exact ⟨by rw [HW.out]; rfl, E0.out⟩
def ahdN (T fl : Int) : Nat := (if hsB T fl 3 = true then 1 else 0) + (if hsB T fl 5 = true then 5 else 0) + (if T = 5 then 4 else 0)
set_option maxHeartbeats 1600000 in
theorem rahead14 (fm T fl st : Int) (rs : Bool) (A : Option Addr) (n c : Nat) (h0 : 0 ≤ fl) (hfl : fl ≤ 255) (w : World) : Calls Try.prog 145 #[.agg #[.int .i64 fm, .int .i64 T, .int .i64 fl, .int .i64 st, .bool rs, .slice A n c]] w fun e w' => e = .returned (.int .i64 (ahdN T fl : Nat)) ∧ Below w.heap.size w w' := by
  have R0 := hide (heap_alloc_new w (.cells #[.int .i64 fm, .int .i64 T, .int .i64 fl, .int .i64 st, .bool rs, .slice A n c] 29))
  have E0 := hide ((Below.refl w.heap.size w).alloc (Nat.le_refl _) (.cells #[.int .i64 fm, .int .i64 T, .int .i64 fl, .int .i64 st, .bool rs, .slice A n c] 29))
  obtain ⟨s0, s1, s2, s3, s4, s5⟩ := row6 R0.out
  obtain ⟨b3, hb3⟩ : ∃ b, hsB T fl 3 = b := ⟨_, rfl⟩
  obtain ⟨b5, hb5⟩ : ∃ b, hsB T fl 5 = b := ⟨_, rfl⟩
  have HB3 := hide hb3
  have HB5 := hide hb5
  have HW : Hid (ahdN T fl = (if b3 = true then 1 else 0) + (if b5 = true then 5 else 0) + (if T = 5 then 4 else 0)) := by
    show _ = _
    unfold ahdN
    rw [hb3, hb5]
  clear hb3 hb5
  obtain ⟨d5, hd5⟩ : ∃ d, (T == 5) = d := ⟨_, rfl⟩
  have H5 := hide hd5
  go_enter Try.func145, Try.ntmps145
  go_wp2_with fail
  refine (rhas_3 T fl h0 hfl _).mono ?_
  rw [HB3.out]
  rintro e w1 ⟨rfl, rfl⟩
  cases b3 <;> cases b5
  all_goals
    go_wp2_with fail
    refine (rhas_5 T fl h0 hfl _).mono ?_
    rw [HB5.out]
    rintro e w1 ⟨rfl, rfl⟩
    cases d5
    all_goals
      go_wp2_with fail
      go_ret
      exact ⟨by have := H5.out; simp at this; rw [HW.out]; simp [this], E0.out⟩
def rflt (T fl st : Int) (n : Nat) (f : Nat → Int) : Int × Int :=
  if misB T st = true then (2, 1)
  else if lenB T fl n = false then ((if T = 2 then 1 else 2), 6)
  else if n < ahdN T fl then ((if T = 0 then 1 else 2), 6)
  else if hsB T fl 3 = true ∧ ((n - ahdN T fl : Nat) : Int) < f 0 then (2, 1)
  else (0, 0)
theorem ahd_pos {T fl : Int} (h : hsB T fl 3 = true) : 1 ≤ ahdN T fl := by unfold ahdN; rw [if_pos h]; omega
theorem ahd_le (T fl : Int) : ahdN T fl ≤ 10 := by unfold ahdN; (repeat' split) <;> omega
set_option maxRecDepth 20000 in
set_option maxHeartbeats 6400000 in
theorem rfault14 (fm T fl st : Int) (rs : Bool) (A : Option Addr) (n c : Nat) (f : Nat → Int) (h0 : 0 ≤ fl) (hfl : fl ≤ 255) (hn : n ≤ 100000) (w : World) (ha : Rd .u8 w A n c f) (hf : Byt n f) : Calls Try.prog 107 #[.agg #[.int .i64 fm, .int .i64 T, .int .i64 fl, .int .i64 st, .bool rs, .slice A n c]] w fun e w' => e = .returned (.agg #[.int .i64 (rflt T fl st n f).1, .int .i64 (rflt T fl st n f).2]) ∧ Below w.heap.size w w' := by
  obtain ⟨x0, x1, e0⟩ := heap2f w #[.int .i64 fm, .int .i64 T, .int .i64 fl, .int .i64 st, .bool rs, .slice A n c] #[.int .i64 0, .int .i64 0] 29 38
  have R0 := hide x0
  have U0 := hide x1
  have E0 := hide e0
  clear x0 x1 e0
  obtain ⟨s0, s1, s2, s3, s4, s5⟩ := row6 R0.out
  obtain ⟨S, hS⟩ : ∃ S, rflt T fl st n f = S := ⟨_, rfl⟩
  have HS := hide hS
  have HA := hide (ha.below E0.out)
  have Hf := hide hf
  rw [hS]
  obtain ⟨k, hk⟩ : ∃ k, strN T = k := ⟨_, rfl⟩
  have hm : misB T st = if k = 0 then st != 0 else if k = 1 then st == 0 else false := by unfold misB; rw [hk]
  have HK := hide hk
  have HM := hide hm
  have h3 : k = 0 ∨ k = 1 ∨ k = 2 := by
    rw [← hk]
    unfold strN
    (repeat' split) <;> simp
  obtain ⟨z, hz⟩ : ∃ z, (st == 0) = z := ⟨_, rfl⟩
  have hz2 : (st != 0) = !z := by rw [← hz]; rfl
  clear ha hf hS hk hm
  rcases h3 with rfl | rfl | rfl <;> cases z
  · have HMB : Hid (misB T st = true) := by show _ = _; rw [HM.out]; simp [hz, hz2]
    have HV : Hid (S = (2, 1)) := by show _ = _; rw [← HS.out]; unfold rflt; rw [HMB.out, if_pos rfl]
    go_enter Try.func107, Try.ntmps107
    go_wp2_with fail
    refine (rstreams14 T _).mono ?_
    rw [HK.out]
    rintro e w0 ⟨rfl, rfl⟩
    go_wp2_with fail
    refine bodyPost_ret (v := .agg #[.int .i64 2, .int .i64 1]) ?_ rfl ⟨by rw [HV.out], ((Below.refl w.heap.size w).alloc (Nat.le_refl _) _).alloc (by simp) _⟩
    rw [results_cellS rfl]
    go_simp
  · have HMB : Hid (misB T st = false) := by show _ = _; rw [HM.out]; simp [hz, hz2]
    go_enter Try.func107, Try.ntmps107
    go_wp2_with fail
    refine (rstreams14 T _).mono ?_
    rw [HK.out]
    rintro e w0 ⟨rfl, rfl⟩
    go_wp2_with fail
    refine (rlen14 fm T fl st rs A n c h0 hfl hn _).mono ?_
    rintro e w1 ⟨rfl, hb⟩
    have E1 := hide (E0.out.of hb)
    have R1 := hide (keepRow R0.out hb)
    have U1 := hide (keepRow U0.out hb)
    have HA1 := hide (HA.out.below hb)
    clear hb s0 s1 s2 s3 s4 s5
    obtain ⟨s0, s1, s2, s3, s4, s5⟩ := row6 R1.out
    obtain ⟨L, hL⟩ : ∃ L, lenB T fl n = L := ⟨_, rfl⟩
    rw [hL]
    have HL := hide hL
    clear hL
    cases L with
    | false =>
      have EE := E1
      have UU := U1
      by_cases h2 : T = 2
      · have n2 : (T == 2) = true := by simp [h2]
        have HV : Hid (S = (1, 6)) := by show _ = _; rw [← HS.out]; unfold rflt; rw [HMB.out, if_neg (by decide), if_pos HL.out, if_pos h2]
        clear h2
        obtain ⟨⟨l0, m0_⟩, ⟨l1, m1_⟩, ru⟩ := store2f UU.out (.int .i64 1) (.int .i64 6)
        have EF := hide ((EE.out.setCell (p := ⟨w.heap.size + 1, 0, none⟩) (Nat.le_succ _) (.int .i64 1)).setCell (p := ⟨w.heap.size + 1, 1, none⟩) (Nat.le_succ _) (.int .i64 6))
        have RU := hide ru
        clear ru
        go_wp2_with fail
        obtain ⟨o0, o1⟩ := row2 RU.out
        refine bodyPost_ret (v := .agg #[.int .i64 1, .int .i64 6]) ?_ rfl ⟨by rw [HV.out], EF.out⟩
        rw [results_cellS rfl]
        go_simp
      · have n2 : (T == 2) = false := by simp [h2]
        have HV : Hid (S = (2, 6)) := by show _ = _; rw [← HS.out]; unfold rflt; rw [HMB.out, if_neg (by decide), if_pos HL.out, if_neg h2]
        clear h2
        obtain ⟨⟨l0, m0_⟩, ⟨l1, m1_⟩, ru⟩ := store2f UU.out (.int .i64 2) (.int .i64 6)
        have EF := hide ((EE.out.setCell (p := ⟨w.heap.size + 1, 0, none⟩) (Nat.le_succ _) (.int .i64 2)).setCell (p := ⟨w.heap.size + 1, 1, none⟩) (Nat.le_succ _) (.int .i64 6))
        have RU := hide ru
        clear ru
        go_wp2_with fail
        obtain ⟨o0, o1⟩ := row2 RU.out
        refine bodyPost_ret (v := .agg #[.int .i64 2, .int .i64 6]) ?_ rfl ⟨by rw [HV.out], EF.out⟩
        rw [results_cellS rfl]
        go_simp
    | true =>
      go_wp2_with fail
      refine (rahead14 fm T fl st rs A n c h0 hfl _).mono ?_
      rintro e w2 ⟨rfl, hb⟩
      have E2 := hide (E1.out.of hb)
      have R2 := hide (keepRow R1.out hb)
      have U2 := hide (keepRow U1.out hb)
      have HA2 := hide (HA1.out.below hb)
      clear hb s0 s1 s2 s3 s4 s5
      obtain ⟨s0, s1, s2, s3, s4, s5⟩ := row6 R2.out
      obtain ⟨a, hA⟩ : ∃ a, ahdN T fl = a := ⟨_, rfl⟩
      have hal := ahd_le T fl
      rw [hA] at hal ⊢
      have HAH := hide hA
      clear hA
      by_cases hna : n < a
      · have dna : decide ((n : Int) < (a : Int)) = true := decide_eq_true (by omega)
        have dna2 : decide (n < a) = true := decide_eq_true hna
        have EE := E2
        have UU := U2
        by_cases h2 : T = 0
        · have n2 : (T == 0) = true := by simp [h2]
          have HV : Hid (S = (1, 6)) := by show _ = _; rw [← HS.out]; unfold rflt; rw [HMB.out, if_neg (by decide), if_neg (by rw [HL.out]; decide), HAH.out, if_pos hna, if_pos h2]
          clear h2 hna
          obtain ⟨⟨l0, m0_⟩, ⟨l1, m1_⟩, ru⟩ := store2f UU.out (.int .i64 1) (.int .i64 6)
          have EF := hide ((EE.out.setCell (p := ⟨w.heap.size + 1, 0, none⟩) (Nat.le_succ _) (.int .i64 1)).setCell (p := ⟨w.heap.size + 1, 1, none⟩) (Nat.le_succ _) (.int .i64 6))
          have RU := hide ru
          clear ru
          go_wp2_with fail
          obtain ⟨o0, o1⟩ := row2 RU.out
          refine bodyPost_ret (v := .agg #[.int .i64 1, .int .i64 6]) ?_ rfl ⟨by rw [HV.out], EF.out⟩
          rw [results_cellS rfl]
          go_simp
        · have n2 : (T == 0) = false := by simp [h2]
          have HV : Hid (S = (2, 6)) := by show _ = _; rw [← HS.out]; unfold rflt; rw [HMB.out, if_neg (by decide), if_neg (by rw [HL.out]; decide), HAH.out, if_pos hna, if_neg h2]
          clear h2 hna
          obtain ⟨⟨l0, m0_⟩, ⟨l1, m1_⟩, ru⟩ := store2f UU.out (.int .i64 2) (.int .i64 6)
          have EF := hide ((EE.out.setCell (p := ⟨w.heap.size + 1, 0, none⟩) (Nat.le_succ _) (.int .i64 2)).setCell (p := ⟨w.heap.size + 1, 1, none⟩) (Nat.le_succ _) (.int .i64 6))
          have RU := hide ru
          clear ru
          go_wp2_with fail
          obtain ⟨o0, o1⟩ := row2 RU.out
          refine bodyPost_ret (v := .agg #[.int .i64 2, .int .i64 6]) ?_ rfl ⟨by rw [HV.out], EF.out⟩
          rw [results_cellS rfl]
          go_simp
      · have dna : decide ((n : Int) < (a : Int)) = false := decide_eq_false (by omega)
        have dna2 : decide (n < a) = false := decide_eq_false hna
        obtain ⟨b, hb⟩ : ∃ b, hsB T fl 3 = b := ⟨_, rfl⟩
        have HB := hide hb
        have HH : Hid (∀ W : World, Calls Try.prog 103 #[.int .i64 T, .int .i64 fl, .int .i64 8] W fun e w' => e = .returned (.bool b) ∧ W = w') := fun W => by rw [← hb]; exact rhas_3 T fl h0 hfl W
        clear hb
        have EE := E2
        have UU := U2
        cases b with
        | false =>
          have HV : Hid (S = (0, 0)) := by show _ = _; rw [← HS.out]; unfold rflt; rw [HMB.out, if_neg (by decide), if_neg (by rw [HL.out]; decide), HAH.out, if_neg hna, HB.out, if_neg (by simp)]
          clear hna
          go_wp2_with fail
          go_quiet ((go_at_call 103; exact Calls.quiet_of_same ((HH.out _).mono fun _ _ hh => ⟨hh.1, hh.2.symm⟩)))
          have UD : Hid ((w2.drewN nq).heap[w.heap.size + 1]? = some (.cells #[.int .i64 0, .int .i64 0] 38 (0, 0))) := UU
          have ED : Hid (Below w.heap.size w (w2.drewN nq)) := EE.out.of (drawn_below (Drawn.of w2 nq) _)
          clear EE UU
          have UU := UD
          have EE := ED
          clear UD ED
          generalize w2.drewN nq = W3 at *
          obtain ⟨⟨l0, m0_⟩, ⟨l1, m1_⟩, ru⟩ := store2f UU.out (.int .i64 0) (.int .i64 0)
          have EF := hide ((EE.out.setCell (p := ⟨w.heap.size + 1, 0, none⟩) (Nat.le_succ _) (.int .i64 0)).setCell (p := ⟨w.heap.size + 1, 1, none⟩) (Nat.le_succ _) (.int .i64 0))
          have RU := hide ru
          clear ru
          go_wp2_with fail
          obtain ⟨o0, o1⟩ := row2 RU.out
          refine bodyPost_ret (v := .agg #[.int .i64 0, .int .i64 0]) ?_ rfl ⟨by rw [HV.out], EF.out⟩
          rw [results_cellS rfl]
          go_simp
        | true =>
          have hap : 1 ≤ a := by rw [← HAH.out]; exact ahd_pos HB.out
          obtain ⟨b0, off, rfl, hlt, hcell⟩ := HA2.out.block (by omega)
          have hc0 := hcell 0 (by omega)
          rw [Nat.add_zero] at hc0
          have hby := Hf.out 0 (by omega)
          have hn0 : 0 < n := by omega
          have hn0i : (0 : Int) < (n : Int) := by omega
          have wf0 : IntKind.i64.wrap (f 0) = f 0 := IntWalk.i64_in _ (by omega)
          have wsub : IntKind.i64.wrap ((n : Int) - (a : Int)) = (n : Int) - (a : Int) := IntWalk.i64_in _ (by omega)
          by_cases hov : ((n - a : Nat) : Int) < f 0
          · have dov : decide ((n : Int) - (a : Int) < f 0) = true := decide_eq_true (by omega)
            have HV : Hid (S = (2, 1)) := by show _ = _; rw [← HS.out]; unfold rflt; rw [HMB.out, if_neg (by decide), if_neg (by rw [HL.out]; decide), HAH.out, if_neg hna, HB.out, if_pos ⟨rfl, hov⟩]
            clear hna hov hlt hcell
            go_wp2_with fail
            go_quiet ((go_at_call 103; exact Calls.quiet_of_same ((HH.out _).mono fun _ _ hh => ⟨hh.1, hh.2.symm⟩)))
            have UD : Hid ((w2.drewN nq).heap[w.heap.size + 1]? = some (.cells #[.int .i64 0, .int .i64 0] 38 (0, 0))) := UU
            have ED : Hid (Below w.heap.size w (w2.drewN nq)) := EE.out.of (drawn_below (Drawn.of w2 nq) _)
            clear EE UU
            have UU := UD
            have EE := ED
            clear UD ED
            generalize w2.drewN nq = W3 at *
            obtain ⟨⟨l0, m0_⟩, ⟨l1, m1_⟩, ru⟩ := store2f UU.out (.int .i64 2) (.int .i64 1)
            have EF := hide ((EE.out.setCell (p := ⟨w.heap.size + 1, 0, none⟩) (Nat.le_succ _) (.int .i64 2)).setCell (p := ⟨w.heap.size + 1, 1, none⟩) (Nat.le_succ _) (.int .i64 1))
            have RU := hide ru
            clear ru
            go_wp2_with fail
            obtain ⟨o0, o1⟩ := row2 RU.out
            refine bodyPost_ret (v := .agg #[.int .i64 2, .int .i64 1]) ?_ rfl ⟨by rw [HV.out], EF.out⟩
            rw [results_cellS rfl]
            go_simp
          · have dov : decide ((n : Int) - (a : Int) < f 0) = false := decide_eq_false (by omega)
            have HV : Hid (S = (0, 0)) := by show _ = _; rw [← HS.out]; unfold rflt; rw [HMB.out, if_neg (by decide), if_neg (by rw [HL.out]; decide), HAH.out, if_neg hna, HB.out, if_neg (by omega)]
            clear hna hov hlt hcell
            go_wp2_with fail
            go_quiet ((go_at_call 103; exact Calls.quiet_of_same ((HH.out _).mono fun _ _ hh => ⟨hh.1, hh.2.symm⟩)))
            have UD : Hid ((w2.drewN nq).heap[w.heap.size + 1]? = some (.cells #[.int .i64 0, .int .i64 0] 38 (0, 0))) := UU
            have ED : Hid (Below w.heap.size w (w2.drewN nq)) := EE.out.of (drawn_below (Drawn.of w2 nq) _)
            clear EE UU
            have UU := UD
            have EE := ED
            clear UD ED
            generalize w2.drewN nq = W3 at *
            obtain ⟨⟨l0, m0_⟩, ⟨l1, m1_⟩, ru⟩ := store2f UU.out (.int .i64 0) (.int .i64 0)
            have EF := hide ((EE.out.setCell (p := ⟨w.heap.size + 1, 0, none⟩) (Nat.le_succ _) (.int .i64 0)).setCell (p := ⟨w.heap.size + 1, 1, none⟩) (Nat.le_succ _) (.int .i64 0))
            have RU := hide ru
            clear ru
            go_wp2_with fail
            obtain ⟨o0, o1⟩ := row2 RU.out
            refine bodyPost_ret (v := .agg #[.int .i64 0, .int .i64 0]) ?_ rfl ⟨by rw [HV.out], EF.out⟩
            rw [results_cellS rfl]
            go_simp
  · have HMB : Hid (misB T st = false) := by show _ = _; rw [HM.out]; simp [hz, hz2]
    go_enter Try.func107, Try.ntmps107
    go_wp2_with fail
    refine (rstreams14 T _).mono ?_
    rw [HK.out]
    rintro e w0 ⟨rfl, rfl⟩
    go_wp2_with fail
    refine (rlen14 fm T fl st rs A n c h0 hfl hn _).mono ?_
    rintro e w1 ⟨rfl, hb⟩
    have E1 := hide (E0.out.of hb)
    have R1 := hide (keepRow R0.out hb)
    have U1 := hide (keepRow U0.out hb)
    have HA1 := hide (HA.out.below hb)
    clear hb s0 s1 s2 s3 s4 s5
    obtain ⟨s0, s1, s2, s3, s4, s5⟩ := row6 R1.out
    obtain ⟨L, hL⟩ : ∃ L, lenB T fl n = L := ⟨_, rfl⟩
    rw [hL]
    have HL := hide hL
    clear hL
    cases L with
    | false =>
      have EE := E1
      have UU := U1
      by_cases h2 : T = 2
      · have n2 : (T == 2) = true := by simp [h2]
        have HV : Hid (S = (1, 6)) := by show _ = _; rw [← HS.out]; unfold rflt; rw [HMB.out, if_neg (by decide), if_pos HL.out, if_pos h2]
        clear h2
        obtain ⟨⟨l0, m0_⟩, ⟨l1, m1_⟩, ru⟩ := store2f UU.out (.int .i64 1) (.int .i64 6)
        have EF := hide ((EE.out.setCell (p := ⟨w.heap.size + 1, 0, none⟩) (Nat.le_succ _) (.int .i64 1)).setCell (p := ⟨w.heap.size + 1, 1, none⟩) (Nat.le_succ _) (.int .i64 6))
        have RU := hide ru
        clear ru
        go_wp2_with fail
        obtain ⟨o0, o1⟩ := row2 RU.out
        refine bodyPost_ret (v := .agg #[.int .i64 1, .int .i64 6]) ?_ rfl ⟨by rw [HV.out], EF.out⟩
        rw [results_cellS rfl]
        go_simp
      · have n2 : (T == 2) = false := by simp [h2]
        have HV : Hid (S = (2, 6)) := by show _ = _; rw [← HS.out]; unfold rflt; rw [HMB.out, if_neg (by decide), if_pos HL.out, if_neg h2]
        clear h2
        obtain ⟨⟨l0, m0_⟩, ⟨l1, m1_⟩, ru⟩ := store2f UU.out (.int .i64 2) (.int .i64 6)
        have EF := hide ((EE.out.setCell (p := ⟨w.heap.size + 1, 0, none⟩) (Nat.le_succ _) (.int .i64 2)).setCell (p := ⟨w.heap.size + 1, 1, none⟩) (Nat.le_succ _) (.int .i64 6))
        have RU := hide ru
        clear ru
        go_wp2_with fail
        obtain ⟨o0, o1⟩ := row2 RU.out
        refine bodyPost_ret (v := .agg #[.int .i64 2, .int .i64 6]) ?_ rfl ⟨by rw [HV.out], EF.out⟩
        rw [results_cellS rfl]
        go_simp
    | true =>
      go_wp2_with fail
      refine (rahead14 fm T fl st rs A n c h0 hfl _).mono ?_
      rintro e w2 ⟨rfl, hb⟩
      have E2 := hide (E1.out.of hb)
      have R2 := hide (keepRow R1.out hb)
      have U2 := hide (keepRow U1.out hb)
      have HA2 := hide (HA1.out.below hb)
      clear hb s0 s1 s2 s3 s4 s5
      obtain ⟨s0, s1, s2, s3, s4, s5⟩ := row6 R2.out
      obtain ⟨a, hA⟩ : ∃ a, ahdN T fl = a := ⟨_, rfl⟩
      have hal := ahd_le T fl
      rw [hA] at hal ⊢
      have HAH := hide hA
      clear hA
      by_cases hna : n < a
      · have dna : decide ((n : Int) < (a : Int)) = true := decide_eq_true (by omega)
        have dna2 : decide (n < a) = true := decide_eq_true hna
        have EE := E2
        have UU := U2
        by_cases h2 : T = 0
        · have n2 : (T == 0) = true := by simp [h2]
          have HV : Hid (S = (1, 6)) := by show _ = _; rw [← HS.out]; unfold rflt; rw [HMB.out, if_neg (by decide), if_neg (by rw [HL.out]; decide), HAH.out, if_pos hna, if_pos h2]
          clear h2 hna
          obtain ⟨⟨l0, m0_⟩, ⟨l1, m1_⟩, ru⟩ := store2f UU.out (.int .i64 1) (.int .i64 6)
          have EF := hide ((EE.out.setCell (p := ⟨w.heap.size + 1, 0, none⟩) (Nat.le_succ _) (.int .i64 1)).setCell (p := ⟨w.heap.size + 1, 1, none⟩) (Nat.le_succ _) (.int .i64 6))
          have RU := hide ru
          clear ru
          go_wp2_with fail
          obtain ⟨o0, o1⟩ := row2 RU.out
          refine bodyPost_ret (v := .agg #[.int .i64 1, .int .i64 6]) ?_ rfl ⟨by rw [HV.out], EF.out⟩
          rw [results_cellS rfl]
          go_simp
        · have n2 : (T == 0) = false := by simp [h2]
          have HV : Hid (S = (2, 6)) := by show _ = _; rw [← HS.out]; unfold rflt; rw [HMB.out, if_neg (by decide), if_neg (by rw [HL.out]; decide), HAH.out, if_pos hna, if_neg h2]
          clear h2 hna
          obtain ⟨⟨l0, m0_⟩, ⟨l1, m1_⟩, ru⟩ := store2f UU.out (.int .i64 2) (.int .i64 6)
          have EF := hide ((EE.out.setCell (p := ⟨w.heap.size + 1, 0, none⟩) (Nat.le_succ _) (.int .i64 2)).setCell (p := ⟨w.heap.size + 1, 1, none⟩) (Nat.le_succ _) (.int .i64 6))
          have RU := hide ru
          clear ru
          go_wp2_with fail
          obtain ⟨o0, o1⟩ := row2 RU.out
          refine bodyPost_ret (v := .agg #[.int .i64 2, .int .i64 6]) ?_ rfl ⟨by rw [HV.out], EF.out⟩
          rw [results_cellS rfl]
          go_simp
      · have dna : decide ((n : Int) < (a : Int)) = false := decide_eq_false (by omega)
        have dna2 : decide (n < a) = false := decide_eq_false hna
        obtain ⟨b, hb⟩ : ∃ b, hsB T fl 3 = b := ⟨_, rfl⟩
        have HB := hide hb
        have HH : Hid (∀ W : World, Calls Try.prog 103 #[.int .i64 T, .int .i64 fl, .int .i64 8] W fun e w' => e = .returned (.bool b) ∧ W = w') := fun W => by rw [← hb]; exact rhas_3 T fl h0 hfl W
        clear hb
        have EE := E2
        have UU := U2
        cases b with
        | false =>
          have HV : Hid (S = (0, 0)) := by show _ = _; rw [← HS.out]; unfold rflt; rw [HMB.out, if_neg (by decide), if_neg (by rw [HL.out]; decide), HAH.out, if_neg hna, HB.out, if_neg (by simp)]
          clear hna
          go_wp2_with fail
          go_quiet ((go_at_call 103; exact Calls.quiet_of_same ((HH.out _).mono fun _ _ hh => ⟨hh.1, hh.2.symm⟩)))
          have UD : Hid ((w2.drewN nq).heap[w.heap.size + 1]? = some (.cells #[.int .i64 0, .int .i64 0] 38 (0, 0))) := UU
          have ED : Hid (Below w.heap.size w (w2.drewN nq)) := EE.out.of (drawn_below (Drawn.of w2 nq) _)
          clear EE UU
          have UU := UD
          have EE := ED
          clear UD ED
          generalize w2.drewN nq = W3 at *
          obtain ⟨⟨l0, m0_⟩, ⟨l1, m1_⟩, ru⟩ := store2f UU.out (.int .i64 0) (.int .i64 0)
          have EF := hide ((EE.out.setCell (p := ⟨w.heap.size + 1, 0, none⟩) (Nat.le_succ _) (.int .i64 0)).setCell (p := ⟨w.heap.size + 1, 1, none⟩) (Nat.le_succ _) (.int .i64 0))
          have RU := hide ru
          clear ru
          go_wp2_with fail
          obtain ⟨o0, o1⟩ := row2 RU.out
          refine bodyPost_ret (v := .agg #[.int .i64 0, .int .i64 0]) ?_ rfl ⟨by rw [HV.out], EF.out⟩
          rw [results_cellS rfl]
          go_simp
        | true =>
          have hap : 1 ≤ a := by rw [← HAH.out]; exact ahd_pos HB.out
          obtain ⟨b0, off, rfl, hlt, hcell⟩ := HA2.out.block (by omega)
          have hc0 := hcell 0 (by omega)
          rw [Nat.add_zero] at hc0
          have hby := Hf.out 0 (by omega)
          have hn0 : 0 < n := by omega
          have hn0i : (0 : Int) < (n : Int) := by omega
          have wf0 : IntKind.i64.wrap (f 0) = f 0 := IntWalk.i64_in _ (by omega)
          have wsub : IntKind.i64.wrap ((n : Int) - (a : Int)) = (n : Int) - (a : Int) := IntWalk.i64_in _ (by omega)
          by_cases hov : ((n - a : Nat) : Int) < f 0
          · have dov : decide ((n : Int) - (a : Int) < f 0) = true := decide_eq_true (by omega)
            have HV : Hid (S = (2, 1)) := by show _ = _; rw [← HS.out]; unfold rflt; rw [HMB.out, if_neg (by decide), if_neg (by rw [HL.out]; decide), HAH.out, if_neg hna, HB.out, if_pos ⟨rfl, hov⟩]
            clear hna hov hlt hcell
            go_wp2_with fail
            go_quiet ((go_at_call 103; exact Calls.quiet_of_same ((HH.out _).mono fun _ _ hh => ⟨hh.1, hh.2.symm⟩)))
            have UD : Hid ((w2.drewN nq).heap[w.heap.size + 1]? = some (.cells #[.int .i64 0, .int .i64 0] 38 (0, 0))) := UU
            have ED : Hid (Below w.heap.size w (w2.drewN nq)) := EE.out.of (drawn_below (Drawn.of w2 nq) _)
            clear EE UU
            have UU := UD
            have EE := ED
            clear UD ED
            generalize w2.drewN nq = W3 at *
            obtain ⟨⟨l0, m0_⟩, ⟨l1, m1_⟩, ru⟩ := store2f UU.out (.int .i64 2) (.int .i64 1)
            have EF := hide ((EE.out.setCell (p := ⟨w.heap.size + 1, 0, none⟩) (Nat.le_succ _) (.int .i64 2)).setCell (p := ⟨w.heap.size + 1, 1, none⟩) (Nat.le_succ _) (.int .i64 1))
            have RU := hide ru
            clear ru
            go_wp2_with fail
            obtain ⟨o0, o1⟩ := row2 RU.out
            refine bodyPost_ret (v := .agg #[.int .i64 2, .int .i64 1]) ?_ rfl ⟨by rw [HV.out], EF.out⟩
            rw [results_cellS rfl]
            go_simp
          · have dov : decide ((n : Int) - (a : Int) < f 0) = false := decide_eq_false (by omega)
            have HV : Hid (S = (0, 0)) := by show _ = _; rw [← HS.out]; unfold rflt; rw [HMB.out, if_neg (by decide), if_neg (by rw [HL.out]; decide), HAH.out, if_neg hna, HB.out, if_neg (by omega)]
            clear hna hov hlt hcell
            go_wp2_with fail
            go_quiet ((go_at_call 103; exact Calls.quiet_of_same ((HH.out _).mono fun _ _ hh => ⟨hh.1, hh.2.symm⟩)))
            have UD : Hid ((w2.drewN nq).heap[w.heap.size + 1]? = some (.cells #[.int .i64 0, .int .i64 0] 38 (0, 0))) := UU
            have ED : Hid (Below w.heap.size w (w2.drewN nq)) := EE.out.of (drawn_below (Drawn.of w2 nq) _)
            clear EE UU
            have UU := UD
            have EE := ED
            clear UD ED
            generalize w2.drewN nq = W3 at *
            obtain ⟨⟨l0, m0_⟩, ⟨l1, m1_⟩, ru⟩ := store2f UU.out (.int .i64 0) (.int .i64 0)
            have EF := hide ((EE.out.setCell (p := ⟨w.heap.size + 1, 0, none⟩) (Nat.le_succ _) (.int .i64 0)).setCell (p := ⟨w.heap.size + 1, 1, none⟩) (Nat.le_succ _) (.int .i64 0))
            have RU := hide ru
            clear ru
            go_wp2_with fail
            obtain ⟨o0, o1⟩ := row2 RU.out
            refine bodyPost_ret (v := .agg #[.int .i64 0, .int .i64 0]) ?_ rfl ⟨by rw [HV.out], EF.out⟩
            rw [results_cellS rfl]
            go_simp
  · have HMB : Hid (misB T st = true) := by show _ = _; rw [HM.out]; simp [hz, hz2]
    have HV : Hid (S = (2, 1)) := by show _ = _; rw [← HS.out]; unfold rflt; rw [HMB.out, if_pos rfl]
    go_enter Try.func107, Try.ntmps107
    go_wp2_with fail
    refine (rstreams14 T _).mono ?_
    rw [HK.out]
    rintro e w0 ⟨rfl, rfl⟩
    go_wp2_with fail
    refine bodyPost_ret (v := .agg #[.int .i64 2, .int .i64 1]) ?_ rfl ⟨by rw [HV.out], ((Below.refl w.heap.size w).alloc (Nat.le_refl _) _).alloc (by simp) _⟩
    rw [results_cellS rfl]
    go_simp
  · have HMB : Hid (misB T st = false) := by show _ = _; rw [HM.out]; simp [hz, hz2]
    go_enter Try.func107, Try.ntmps107
    go_wp2_with fail
    refine (rstreams14 T _).mono ?_
    rw [HK.out]
    rintro e w0 ⟨rfl, rfl⟩
    go_wp2_with fail
    refine (rlen14 fm T fl st rs A n c h0 hfl hn _).mono ?_
    rintro e w1 ⟨rfl, hb⟩
    have E1 := hide (E0.out.of hb)
    have R1 := hide (keepRow R0.out hb)
    have U1 := hide (keepRow U0.out hb)
    have HA1 := hide (HA.out.below hb)
    clear hb s0 s1 s2 s3 s4 s5
    obtain ⟨s0, s1, s2, s3, s4, s5⟩ := row6 R1.out
    obtain ⟨L, hL⟩ : ∃ L, lenB T fl n = L := ⟨_, rfl⟩
    rw [hL]
    have HL := hide hL
    clear hL
    cases L with
    | false =>
      have EE := E1
      have UU := U1
      by_cases h2 : T = 2
      · have n2 : (T == 2) = true := by simp [h2]
        have HV : Hid (S = (1, 6)) := by show _ = _; rw [← HS.out]; unfold rflt; rw [HMB.out, if_neg (by decide), if_pos HL.out, if_pos h2]
        clear h2
        obtain ⟨⟨l0, m0_⟩, ⟨l1, m1_⟩, ru⟩ := store2f UU.out (.int .i64 1) (.int .i64 6)
        have EF := hide ((EE.out.setCell (p := ⟨w.heap.size + 1, 0, none⟩) (Nat.le_succ _) (.int .i64 1)).setCell (p := ⟨w.heap.size + 1, 1, none⟩) (Nat.le_succ _) (.int .i64 6))
        have RU := hide ru
        clear ru
        go_wp2_with fail
        obtain ⟨o0, o1⟩ := row2 RU.out
        refine bodyPost_ret (v := .agg #[.int .i64 1, .int .i64 6]) ?_ rfl ⟨by rw [HV.out], EF.out⟩
        rw [results_cellS rfl]
        go_simp
      · have n2 : (T == 2) = false := by simp [h2]
        have HV : Hid (S = (2, 6)) := by show _ = _; rw [← HS.out]; unfold rflt; rw [HMB.out, if_neg (by decide), if_pos HL.out, if_neg h2]
        clear h2
        obtain ⟨⟨l0, m0_⟩, ⟨l1, m1_⟩, ru⟩ := store2f UU.out (.int .i64 2) (.int .i64 6)
        have EF := hide ((EE.out.setCell (p := ⟨w.heap.size + 1, 0, none⟩) (Nat.le_succ _) (.int .i64 2)).setCell (p := ⟨w.heap.size + 1, 1, none⟩) (Nat.le_succ _) (.int .i64 6))
        have RU := hide ru
        clear ru
        go_wp2_with fail
        obtain ⟨o0, o1⟩ := row2 RU.out
        refine bodyPost_ret (v := .agg #[.int .i64 2, .int .i64 6]) ?_ rfl ⟨by rw [HV.out], EF.out⟩
        rw [results_cellS rfl]
        go_simp
    | true =>
      go_wp2_with fail
      refine (rahead14 fm T fl st rs A n c h0 hfl _).mono ?_
      rintro e w2 ⟨rfl, hb⟩
      have E2 := hide (E1.out.of hb)
      have R2 := hide (keepRow R1.out hb)
      have U2 := hide (keepRow U1.out hb)
      have HA2 := hide (HA1.out.below hb)
      clear hb s0 s1 s2 s3 s4 s5
      obtain ⟨s0, s1, s2, s3, s4, s5⟩ := row6 R2.out
      obtain ⟨a, hA⟩ : ∃ a, ahdN T fl = a := ⟨_, rfl⟩
      have hal := ahd_le T fl
      rw [hA] at hal ⊢
      have HAH := hide hA
      clear hA
      by_cases hna : n < a
      · have dna : decide ((n : Int) < (a : Int)) = true := decide_eq_true (by omega)
        have dna2 : decide (n < a) = true := decide_eq_true hna
        have EE := E2
        have UU := U2
        by_cases h2 : T = 0
        · have n2 : (T == 0) = true := by simp [h2]
          have HV : Hid (S = (1, 6)) := by show _ = _; rw [← HS.out]; unfold rflt; rw [HMB.out, if_neg (by decide), if_neg (by rw [HL.out]; decide), HAH.out, if_pos hna, if_pos h2]
          clear h2 hna
          obtain ⟨⟨l0, m0_⟩, ⟨l1, m1_⟩, ru⟩ := store2f UU.out (.int .i64 1) (.int .i64 6)
          have EF := hide ((EE.out.setCell (p := ⟨w.heap.size + 1, 0, none⟩) (Nat.le_succ _) (.int .i64 1)).setCell (p := ⟨w.heap.size + 1, 1, none⟩) (Nat.le_succ _) (.int .i64 6))
          have RU := hide ru
          clear ru
          go_wp2_with fail
          obtain ⟨o0, o1⟩ := row2 RU.out
          refine bodyPost_ret (v := .agg #[.int .i64 1, .int .i64 6]) ?_ rfl ⟨by rw [HV.out], EF.out⟩
          rw [results_cellS rfl]
          go_simp
        · have n2 : (T == 0) = false := by simp [h2]
          have HV : Hid (S = (2, 6)) := by show _ = _; rw [← HS.out]; unfold rflt; rw [HMB.out, if_neg (by decide), if_neg (by rw [HL.out]; decide), HAH.out, if_pos hna, if_neg h2]
          clear h2 hna
          obtain ⟨⟨l0, m0_⟩, ⟨l1, m1_⟩, ru⟩ := store2f UU.out (.int .i64 2) (.int .i64 6)
          have EF := hide ((EE.out.setCell (p := ⟨w.heap.size + 1, 0, none⟩) (Nat.le_succ _) (.int .i64 2)).setCell (p := ⟨w.heap.size + 1, 1, none⟩) (Nat.le_succ _) (.int .i64 6))
          have RU := hide ru
          clear ru
          go_wp2_with fail
          obtain ⟨o0, o1⟩ := row2 RU.out
          refine bodyPost_ret (v := .agg #[.int .i64 2, .int .i64 6]) ?_ rfl ⟨by rw [HV.out], EF.out⟩
          rw [results_cellS rfl]
          go_simp
      · have dna : decide ((n : Int) < (a : Int)) = false := decide_eq_false (by omega)
        have dna2 : decide (n < a) = false := decide_eq_false hna
        obtain ⟨b, hb⟩ : ∃ b, hsB T fl 3 = b := ⟨_, rfl⟩
        have HB := hide hb
        have HH : Hid (∀ W : World, Calls Try.prog 103 #[.int .i64 T, .int .i64 fl, .int .i64 8] W fun e w' => e = .returned (.bool b) ∧ W = w') := fun W => by rw [← hb]; exact rhas_3 T fl h0 hfl W
        clear hb
        have EE := E2
        have UU := U2
        cases b with
        | false =>
          have HV : Hid (S = (0, 0)) := by show _ = _; rw [← HS.out]; unfold rflt; rw [HMB.out, if_neg (by decide), if_neg (by rw [HL.out]; decide), HAH.out, if_neg hna, HB.out, if_neg (by simp)]
          clear hna
          go_wp2_with fail
          go_quiet ((go_at_call 103; exact Calls.quiet_of_same ((HH.out _).mono fun _ _ hh => ⟨hh.1, hh.2.symm⟩)))
          have UD : Hid ((w2.drewN nq).heap[w.heap.size + 1]? = some (.cells #[.int .i64 0, .int .i64 0] 38 (0, 0))) := UU
          have ED : Hid (Below w.heap.size w (w2.drewN nq)) := EE.out.of (drawn_below (Drawn.of w2 nq) _)
          clear EE UU
          have UU := UD
          have EE := ED
          clear UD ED
          generalize w2.drewN nq = W3 at *
          obtain ⟨⟨l0, m0_⟩, ⟨l1, m1_⟩, ru⟩ := store2f UU.out (.int .i64 0) (.int .i64 0)
          have EF := hide ((EE.out.setCell (p := ⟨w.heap.size + 1, 0, none⟩) (Nat.le_succ _) (.int .i64 0)).setCell (p := ⟨w.heap.size + 1, 1, none⟩) (Nat.le_succ _) (.int .i64 0))
          have RU := hide ru
          clear ru
          go_wp2_with fail
          obtain ⟨o0, o1⟩ := row2 RU.out
          refine bodyPost_ret (v := .agg #[.int .i64 0, .int .i64 0]) ?_ rfl ⟨by rw [HV.out], EF.out⟩
          rw [results_cellS rfl]
          go_simp
        | true =>
          have hap : 1 ≤ a := by rw [← HAH.out]; exact ahd_pos HB.out
          obtain ⟨b0, off, rfl, hlt, hcell⟩ := HA2.out.block (by omega)
          have hc0 := hcell 0 (by omega)
          rw [Nat.add_zero] at hc0
          have hby := Hf.out 0 (by omega)
          have hn0 : 0 < n := by omega
          have hn0i : (0 : Int) < (n : Int) := by omega
          have wf0 : IntKind.i64.wrap (f 0) = f 0 := IntWalk.i64_in _ (by omega)
          have wsub : IntKind.i64.wrap ((n : Int) - (a : Int)) = (n : Int) - (a : Int) := IntWalk.i64_in _ (by omega)
          by_cases hov : ((n - a : Nat) : Int) < f 0
          · have dov : decide ((n : Int) - (a : Int) < f 0) = true := decide_eq_true (by omega)
            have HV : Hid (S = (2, 1)) := by show _ = _; rw [← HS.out]; unfold rflt; rw [HMB.out, if_neg (by decide), if_neg (by rw [HL.out]; decide), HAH.out, if_neg hna, HB.out, if_pos ⟨rfl, hov⟩]
            clear hna hov hlt hcell
            go_wp2_with fail
            go_quiet ((go_at_call 103; exact Calls.quiet_of_same ((HH.out _).mono fun _ _ hh => ⟨hh.1, hh.2.symm⟩)))
            have UD : Hid ((w2.drewN nq).heap[w.heap.size + 1]? = some (.cells #[.int .i64 0, .int .i64 0] 38 (0, 0))) := UU
            have ED : Hid (Below w.heap.size w (w2.drewN nq)) := EE.out.of (drawn_below (Drawn.of w2 nq) _)
            clear EE UU
            have UU := UD
            have EE := ED
            clear UD ED
            generalize w2.drewN nq = W3 at *
            obtain ⟨⟨l0, m0_⟩, ⟨l1, m1_⟩, ru⟩ := store2f UU.out (.int .i64 2) (.int .i64 1)
            have EF := hide ((EE.out.setCell (p := ⟨w.heap.size + 1, 0, none⟩) (Nat.le_succ _) (.int .i64 2)).setCell (p := ⟨w.heap.size + 1, 1, none⟩) (Nat.le_succ _) (.int .i64 1))
            have RU := hide ru
            clear ru
            go_wp2_with fail
            obtain ⟨o0, o1⟩ := row2 RU.out
            refine bodyPost_ret (v := .agg #[.int .i64 2, .int .i64 1]) ?_ rfl ⟨by rw [HV.out], EF.out⟩
            rw [results_cellS rfl]
            go_simp
          · have dov : decide ((n : Int) - (a : Int) < f 0) = false := decide_eq_false (by omega)
            have HV : Hid (S = (0, 0)) := by show _ = _; rw [← HS.out]; unfold rflt; rw [HMB.out, if_neg (by decide), if_neg (by rw [HL.out]; decide), HAH.out, if_neg hna, HB.out, if_neg (by omega)]
            clear hna hov hlt hcell
            go_wp2_with fail
            go_quiet ((go_at_call 103; exact Calls.quiet_of_same ((HH.out _).mono fun _ _ hh => ⟨hh.1, hh.2.symm⟩)))
            have UD : Hid ((w2.drewN nq).heap[w.heap.size + 1]? = some (.cells #[.int .i64 0, .int .i64 0] 38 (0, 0))) := UU
            have ED : Hid (Below w.heap.size w (w2.drewN nq)) := EE.out.of (drawn_below (Drawn.of w2 nq) _)
            clear EE UU
            have UU := UD
            have EE := ED
            clear UD ED
            generalize w2.drewN nq = W3 at *
            obtain ⟨⟨l0, m0_⟩, ⟨l1, m1_⟩, ru⟩ := store2f UU.out (.int .i64 0) (.int .i64 0)
            have EF := hide ((EE.out.setCell (p := ⟨w.heap.size + 1, 0, none⟩) (Nat.le_succ _) (.int .i64 0)).setCell (p := ⟨w.heap.size + 1, 1, none⟩) (Nat.le_succ _) (.int .i64 0))
            have RU := hide ru
            clear ru
            go_wp2_with fail
            obtain ⟨o0, o1⟩ := row2 RU.out
            refine bodyPost_ret (v := .agg #[.int .i64 0, .int .i64 0]) ?_ rfl ⟨by rw [HV.out], EF.out⟩
            rw [results_cellS rfl]
            go_simp
  · have HMB : Hid (misB T st = false) := by show _ = _; rw [HM.out]; simp [hz, hz2]
    go_enter Try.func107, Try.ntmps107
    go_wp2_with fail
    refine (rstreams14 T _).mono ?_
    rw [HK.out]
    rintro e w0 ⟨rfl, rfl⟩
    go_wp2_with fail
    refine (rlen14 fm T fl st rs A n c h0 hfl hn _).mono ?_
    rintro e w1 ⟨rfl, hb⟩
    have E1 := hide (E0.out.of hb)
    have R1 := hide (keepRow R0.out hb)
    have U1 := hide (keepRow U0.out hb)
    have HA1 := hide (HA.out.below hb)
    clear hb s0 s1 s2 s3 s4 s5
    obtain ⟨s0, s1, s2, s3, s4, s5⟩ := row6 R1.out
    obtain ⟨L, hL⟩ : ∃ L, lenB T fl n = L := ⟨_, rfl⟩
    rw [hL]
    have HL := hide hL
    clear hL
    cases L with
    | false =>
      have EE := E1
      have UU := U1
      by_cases h2 : T = 2
      · have n2 : (T == 2) = true := by simp [h2]
        have HV : Hid (S = (1, 6)) := by show _ = _; rw [← HS.out]; unfold rflt; rw [HMB.out, if_neg (by decide), if_pos HL.out, if_pos h2]
        clear h2
        obtain ⟨⟨l0, m0_⟩, ⟨l1, m1_⟩, ru⟩ := store2f UU.out (.int .i64 1) (.int .i64 6)
        have EF := hide ((EE.out.setCell (p := ⟨w.heap.size + 1, 0, none⟩) (Nat.le_succ _) (.int .i64 1)).setCell (p := ⟨w.heap.size + 1, 1, none⟩) (Nat.le_succ _) (.int .i64 6))
        have RU := hide ru
        clear ru
        go_wp2_with fail
        obtain ⟨o0, o1⟩ := row2 RU.out
        refine bodyPost_ret (v := .agg #[.int .i64 1, .int .i64 6]) ?_ rfl ⟨by rw [HV.out], EF.out⟩
        rw [results_cellS rfl]
        go_simp
      · have n2 : (T == 2) = false := by simp [h2]
        have HV : Hid (S = (2, 6)) := by show _ = _; rw [← HS.out]; unfold rflt; rw [HMB.out, if_neg (by decide), if_pos HL.out, if_neg h2]
        clear h2
        obtain ⟨⟨l0, m0_⟩, ⟨l1, m1_⟩, ru⟩ := store2f UU.out (.int .i64 2) (.int .i64 6)
        have EF := hide ((EE.out.setCell (p := ⟨w.heap.size + 1, 0, none⟩) (Nat.le_succ _) (.int .i64 2)).setCell (p := ⟨w.heap.size + 1, 1, none⟩) (Nat.le_succ _) (.int .i64 6))
        have RU := hide ru
        clear ru
        go_wp2_with fail
        obtain ⟨o0, o1⟩ := row2 RU.out
        refine bodyPost_ret (v := .agg #[.int .i64 2, .int .i64 6]) ?_ rfl ⟨by rw [HV.out], EF.out⟩
        rw [results_cellS rfl]
        go_simp
    | true =>
      go_wp2_with fail
      refine (rahead14 fm T fl st rs A n c h0 hfl _).mono ?_
      rintro e w2 ⟨rfl, hb⟩
      have E2 := hide (E1.out.of hb)
      have R2 := hide (keepRow R1.out hb)
      have U2 := hide (keepRow U1.out hb)
      have HA2 := hide (HA1.out.below hb)
      clear hb s0 s1 s2 s3 s4 s5
      obtain ⟨s0, s1, s2, s3, s4, s5⟩ := row6 R2.out
      obtain ⟨a, hA⟩ : ∃ a, ahdN T fl = a := ⟨_, rfl⟩
      have hal := ahd_le T fl
      rw [hA] at hal ⊢
      have HAH := hide hA
      clear hA
      by_cases hna : n < a
      · have dna : decide ((n : Int) < (a : Int)) = true := decide_eq_true (by omega)
        have dna2 : decide (n < a) = true := decide_eq_true hna
        have EE := E2
        have UU := U2
        by_cases h2 : T = 0
        · have n2 : (T == 0) = true := by simp [h2]
          have HV : Hid (S = (1, 6)) := by show _ = _; rw [← HS.out]; unfold rflt; rw [HMB.out, if_neg (by decide), if_neg (by rw [HL.out]; decide), HAH.out, if_pos hna, if_pos h2]
          clear h2 hna
          obtain ⟨⟨l0, m0_⟩, ⟨l1, m1_⟩, ru⟩ := store2f UU.out (.int .i64 1) (.int .i64 6)
          have EF := hide ((EE.out.setCell (p := ⟨w.heap.size + 1, 0, none⟩) (Nat.le_succ _) (.int .i64 1)).setCell (p := ⟨w.heap.size + 1, 1, none⟩) (Nat.le_succ _) (.int .i64 6))
          have RU := hide ru
          clear ru
          go_wp2_with fail
          obtain ⟨o0, o1⟩ := row2 RU.out
          refine bodyPost_ret (v := .agg #[.int .i64 1, .int .i64 6]) ?_ rfl ⟨by rw [HV.out], EF.out⟩
          rw [results_cellS rfl]
          go_simp
        · have n2 : (T == 0) = false := by simp [h2]
          have HV : Hid (S = (2, 6)) := by show _ = _; rw [← HS.out]; unfold rflt; rw [HMB.out, if_neg (by decide), if_neg (by rw [HL.out]; decide), HAH.out, if_pos hna, if_neg h2]
          clear h2 hna
          obtain ⟨⟨l0, m0_⟩, ⟨l1, m1_⟩, ru⟩ := store2f UU.out (.int .i64 2) (.int .i64 6)
          have EF := hide ((EE.out.setCell (p := ⟨w.heap.size + 1, 0, none⟩) (Nat.le_succ _) (.int .i64 2)).setCell (p := ⟨w.heap.size + 1, 1, none⟩) (Nat.le_succ _) (.int .i64 6))
          have RU := hide ru
          clear ru
          go_wp2_with fail
          obtain ⟨o0, o1⟩ := row2 RU.out
          refine bodyPost_ret (v := .agg #[.int .i64 2, .int .i64 6]) ?_ rfl ⟨by rw [HV.out], EF.out⟩
          rw [results_cellS rfl]
          go_simp
      · have dna : decide ((n : Int) < (a : Int)) = false := decide_eq_false (by omega)
        have dna2 : decide (n < a) = false := decide_eq_false hna
        obtain ⟨b, hb⟩ : ∃ b, hsB T fl 3 = b := ⟨_, rfl⟩
        have HB := hide hb
        have HH : Hid (∀ W : World, Calls Try.prog 103 #[.int .i64 T, .int .i64 fl, .int .i64 8] W fun e w' => e = .returned (.bool b) ∧ W = w') := fun W => by rw [← hb]; exact rhas_3 T fl h0 hfl W
        clear hb
        have EE := E2
        have UU := U2
        cases b with
        | false =>
          have HV : Hid (S = (0, 0)) := by show _ = _; rw [← HS.out]; unfold rflt; rw [HMB.out, if_neg (by decide), if_neg (by rw [HL.out]; decide), HAH.out, if_neg hna, HB.out, if_neg (by simp)]
          clear hna
          go_wp2_with fail
          go_quiet ((go_at_call 103; exact Calls.quiet_of_same ((HH.out _).mono fun _ _ hh => ⟨hh.1, hh.2.symm⟩)))
          have UD : Hid ((w2.drewN nq).heap[w.heap.size + 1]? = some (.cells #[.int .i64 0, .int .i64 0] 38 (0, 0))) := UU
          have ED : Hid (Below w.heap.size w (w2.drewN nq)) := EE.out.of (drawn_below (Drawn.of w2 nq) _)
          clear EE UU
          have UU := UD
          have EE := ED
          clear UD ED
          generalize w2.drewN nq = W3 at *
          obtain ⟨⟨l0, m0_⟩, ⟨l1, m1_⟩, ru⟩ := store2f UU.out (.int .i64 0) (.int .i64 0)
          have EF := hide ((EE.out.setCell (p := ⟨w.heap.size + 1, 0, none⟩) (Nat.le_succ _) (.int .i64 0)).setCell (p := ⟨w.heap.size + 1, 1, none⟩) (Nat.le_succ _) (.int .i64 0))
          have RU := hide ru
          clear ru
          go_wp2_with fail
          obtain ⟨o0, o1⟩ := row2 RU.out
          refine bodyPost_ret (v := .agg #[.int .i64 0, .int .i64 0]) ?_ rfl ⟨by rw [HV.out], EF.out⟩
          rw [results_cellS rfl]
          go_simp
        | true =>
          have hap : 1 ≤ a := by rw [← HAH.out]; exact ahd_pos HB.out
          obtain ⟨b0, off, rfl, hlt, hcell⟩ := HA2.out.block (by omega)
          have hc0 := hcell 0 (by omega)
          rw [Nat.add_zero] at hc0
          have hby := Hf.out 0 (by omega)
          have hn0 : 0 < n := by omega
          have hn0i : (0 : Int) < (n : Int) := by omega
          have wf0 : IntKind.i64.wrap (f 0) = f 0 := IntWalk.i64_in _ (by omega)
          have wsub : IntKind.i64.wrap ((n : Int) - (a : Int)) = (n : Int) - (a : Int) := IntWalk.i64_in _ (by omega)
          by_cases hov : ((n - a : Nat) : Int) < f 0
          · have dov : decide ((n : Int) - (a : Int) < f 0) = true := decide_eq_true (by omega)
            have HV : Hid (S = (2, 1)) := by show _ = _; rw [← HS.out]; unfold rflt; rw [HMB.out, if_neg (by decide), if_neg (by rw [HL.out]; decide), HAH.out, if_neg hna, HB.out, if_pos ⟨rfl, hov⟩]
            clear hna hov hlt hcell
            go_wp2_with fail
            go_quiet ((go_at_call 103; exact Calls.quiet_of_same ((HH.out _).mono fun _ _ hh => ⟨hh.1, hh.2.symm⟩)))
            have UD : Hid ((w2.drewN nq).heap[w.heap.size + 1]? = some (.cells #[.int .i64 0, .int .i64 0] 38 (0, 0))) := UU
            have ED : Hid (Below w.heap.size w (w2.drewN nq)) := EE.out.of (drawn_below (Drawn.of w2 nq) _)
            clear EE UU
            have UU := UD
            have EE := ED
            clear UD ED
            generalize w2.drewN nq = W3 at *
            obtain ⟨⟨l0, m0_⟩, ⟨l1, m1_⟩, ru⟩ := store2f UU.out (.int .i64 2) (.int .i64 1)
            have EF := hide ((EE.out.setCell (p := ⟨w.heap.size + 1, 0, none⟩) (Nat.le_succ _) (.int .i64 2)).setCell (p := ⟨w.heap.size + 1, 1, none⟩) (Nat.le_succ _) (.int .i64 1))
            have RU := hide ru
            clear ru
            go_wp2_with fail
            obtain ⟨o0, o1⟩ := row2 RU.out
            refine bodyPost_ret (v := .agg #[.int .i64 2, .int .i64 1]) ?_ rfl ⟨by rw [HV.out], EF.out⟩
            rw [results_cellS rfl]
            go_simp
          · have dov : decide ((n : Int) - (a : Int) < f 0) = false := decide_eq_false (by omega)
            have HV : Hid (S = (0, 0)) := by show _ = _; rw [← HS.out]; unfold rflt; rw [HMB.out, if_neg (by decide), if_neg (by rw [HL.out]; decide), HAH.out, if_neg hna, HB.out, if_neg (by omega)]
            clear hna hov hlt hcell
            go_wp2_with fail
            go_quiet ((go_at_call 103; exact Calls.quiet_of_same ((HH.out _).mono fun _ _ hh => ⟨hh.1, hh.2.symm⟩)))
            have UD : Hid ((w2.drewN nq).heap[w.heap.size + 1]? = some (.cells #[.int .i64 0, .int .i64 0] 38 (0, 0))) := UU
            have ED : Hid (Below w.heap.size w (w2.drewN nq)) := EE.out.of (drawn_below (Drawn.of w2 nq) _)
            clear EE UU
            have UU := UD
            have EE := ED
            clear UD ED
            generalize w2.drewN nq = W3 at *
            obtain ⟨⟨l0, m0_⟩, ⟨l1, m1_⟩, ru⟩ := store2f UU.out (.int .i64 0) (.int .i64 0)
            have EF := hide ((EE.out.setCell (p := ⟨w.heap.size + 1, 0, none⟩) (Nat.le_succ _) (.int .i64 0)).setCell (p := ⟨w.heap.size + 1, 1, none⟩) (Nat.le_succ _) (.int .i64 0))
            have RU := hide ru
            clear ru
            go_wp2_with fail
            obtain ⟨o0, o1⟩ := row2 RU.out
            refine bodyPost_ret (v := .agg #[.int .i64 0, .int .i64 0]) ?_ rfl ⟨by rw [HV.out], EF.out⟩
            rw [results_cellS rfl]
            go_simp
end Go.Proofs.Ytpnjamomkpkkeaa
