/- Layer 49: the law's walk. -/
import Derived.Test.YtelcpfjifhobjaaRk2
namespace Go.Proofs.Ytelcpfjifhobjaa
set_option linter.unusedVariables false
set_option linter.unusedSimpArgs false
open Go.RowKit

set_option maxRecDepth 100000 in
set_option maxHeartbeats 6400000 in
theorem reads_walk49 (A : Option Addr) (n c : Nat) (F : Nat → Rw) (side stream : Int) (w : World) (ha : RdRw w A n c F) : Calls Try.prog 5 #[.slice A n c, .int .i64 side, .int .i64 stream] w (Yes w) := by
  have hn : n ≤ 9223372036854775807 := by have h1 := ha.1; have h2 := ha.2.1; simp only [maxLen] at h2; omega
  have Ha := hide ha
  clear ha
  by_cases h40 : 40 < n
  · have hd : decide ((40 : Int) < (n : Int)) = true := decide_eq_true (by omega)
    have hd2 : decide (40 < n) = true := decide_eq_true h40
    go_enter Try.func5, Try.ntmps5
    go_wp2_with fail
    refine (alive49 _).mono ?_
    rintro e w' ⟨rfl, hb⟩
    have HB := hide hb
    clear hb
    go_wp2_with fail
    go_ret
    exact ⟨rfl, HB.out⟩
  have hd : decide ((40 : Int) < (n : Int)) = false := decide_eq_false (by omega)
  have hd2 : decide (40 < n) = false := decide_eq_false h40
  clear h40
  go_enter Try.func5, Try.ntmps5
  go_wp2_with fail
  go_loopw [19] (fun i wr => ∃ k : Nat, k ≤ n ∧ i = .int .i64 k ∧ (∀ j, j < k → (F j).n ≤ 300) ∧ Below w.heap.size w wr) (fun i _ => n - (intOf i).toNat)
  case atStart => exact ⟨0, Nat.zero_le _, rfl, fun j h => absurd h (by omega), Below.refl _ _⟩
  case round =>
    obtain ⟨k, hk, rfl, hall, hB⟩ := hrel
    have Hall := hide hall
    have HB := hide hB
    have hsz := hB.size
    have Hr := hide (Ha.out.below hB)
    clear hall hB
    by_cases hlt : k < n
    · obtain ⟨b, off, rfl, hc⟩ := Hr.out.at_ hlt
      have hkn : (k : Int) < (n : Int) := by omega
      have w1 : IntKind.i64.wrap ((k : Int) + 1) = (k : Int) + 1 := IntWalk.i64_in _ (by omega)
      have hO := Hr.out.2.2.2.2 k hlt
      have hl63 : (F k).n ≤ 9223372036854775807 := by have h1 := hO.1.1; have h2 := hO.1.2.1; simp only [maxLen] at h2; omega
      have NXT : Hid ((F k).n ≤ 300 → ∀ j, j < k + 1 → (F j).n ≤ 300) := fun h j hj => by
        by_cases e : j = k
        · subst e; exact h
        · exact Hall.out j (by omega)
      obtain ⟨X, hX⟩ : ∃ X, F k = X := ⟨_, rfl⟩
      rw [hX] at hc hl63 NXT
      clear hX hO
      obtain ⟨fm, T, fl, st, rs, XA, xn, xc, xb⟩ := X
      obtain ⟨hc0, hc1, hc2, hc3, hc4, hc5⟩ := hc
      simp only at hc0 hc1 hc2 hc3 hc4 hc5 hl63 NXT
      have RR := hide (heap_alloc_new wr (.cells #[.int .i64 fm, .int .i64 T, .int .i64 fl, .int .i64 st, .bool rs, .slice XA xn xc] 24))
      obtain ⟨s0, s1, s2, s3, s4, s5⟩ := row6 RR.out
      have HBr := hide (HB.out.alloc hsz (.cells #[.int .i64 fm, .int .i64 T, .int .i64 fl, .int .i64 st, .bool rs, .slice XA xn xc] 24))
      by_cases h3 : 300 < xn
      · have d3 : decide ((300 : Int) < (xn : Int)) = true := decide_eq_true (by omega)
        have d3n : decide (300 < xn) = true := decide_eq_true h3
        clear h3
        go_wp2_with fail
        refine (alive49 _).mono ?_
        rintro e w' ⟨rfl, hb⟩
        have HE := hide (HBr.out.of hb)
        clear hb
        go_wp2_with fail
        go_ret
        exact ⟨rfl, HE.out⟩
      · have d3 : decide ((300 : Int) < (xn : Int)) = false := decide_eq_false (by omega)
        have d3n : decide (300 < xn) = false := decide_eq_false h3
        have N1 := hide (NXT.out (by omega))
        clear h3
        go_wp2_with fail
        exact ⟨⟨k + 1, by omega, by go_num, N1.out, HBr.out⟩, by simp [intOf]; omega⟩
    · obtain rfl : k = n := by omega
      have HSM : Hid (∀ i, i < k → (F i).n ≤ 100000) := fun i hi => by have := Hall.out i hi; omega
      clear hlt
      go_wp2_with fail
      refine (react49g A k c F side stream _ Hr.out HSM.out).mono ?_
      rintro e w2 ⟨S, C, B, rfl, hR, hb⟩
      have HR1 := hide hR
      have e1 := (Below.refl w2.heap.size w2).alloc (Nat.le_refl _) (.cells #[.int .i64 S, .int .i64 C] 30)
      have ht := hb.of e1
      have U1 := hide (heap_alloc_new w2 (.cells #[.int .i64 S, .int .i64 C] 30))
      have E1 := hide (HB.out.of ht)
      have Hr1 := hide (Hr.out.below ht)
      clear hR hb e1 ht
      go_upto_region 10 with (fail)
      generalize w2.alloc (.cells #[.int .i64 S, .int .i64 C] 30) = W3 at *
      generalize w2.heap.size = p2 at *
      go_wp2_with fail
      refine (rreact49g A k c F side stream _ Hr1.out HSM.out).mono ?_
      rintro e w4 ⟨S', C', B', rfl, hR', hb⟩
      obtain ⟨eS, eC, eB⟩ := HR1.out.same hR'
      subst eS eC eB
      have e1 := (Below.refl w4.heap.size w4).alloc (Nat.le_refl _) (.cells #[.int .i64 S, .int .i64 C] 30)
      have ht := hb.of e1
      have U2 := hide (heap_alloc_new w4 (.cells #[.int .i64 S, .int .i64 C] 30))
      have U1b := hide (keepRow U1.out ht)
      have E2 := hide (E1.out.of ht)
      clear hR' hb e1 ht U1 E1
      go_upto_region 11 with (fail)
      generalize w4.alloc (.cells #[.int .i64 S, .int .i64 C] 30) = W5 at *
      generalize w4.heap.size = p4 at *
      obtain ⟨u0, u1⟩ := row2 U1b.out
      obtain ⟨v0, v1⟩ := row2 U2.out
      go_wp2_with fail
      refine (alive49 _).mono ?_
      rintro e w' ⟨rfl, hb⟩
      have HE := hide (E2.out.of hb)
      clear hb
      go_wp2_with fail
      go_ret
      exact ⟨rfl, HE.out⟩
end Go.Proofs.Ytelcpfjifhobjaa
