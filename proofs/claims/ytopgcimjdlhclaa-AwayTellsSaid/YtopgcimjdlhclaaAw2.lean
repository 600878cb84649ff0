/- Layer 37: the reference's side; the example. -/
import Derived.Test.YtopgcimjdlhclaaAw1
namespace Go.Proofs.Ytopgcimjdlhclaa
open Go.RowKit

set_option maxHeartbeats 1600000 in
theorem may37 (A : Option Addr) (m c : Nat) (f : Nat → Int) (n : Int) (w : World) (ha : Rd .i64 w A m c f) : Calls Try.prog 28 #[.slice A m c, .int .i64 n] w fun e w' => ∃ b, e = .returned (.bool b) ∧ (b = true ↔ 0 ≤ n ∧ n ≤ 2147483647 ∧ ∀ i, i < m → n ≤ f i) ∧ Drawn w w' := by
  have Ha := hide ha
  clear ha
  by_cases h1 : n < 0
  · go_enter Try.func28, Try.ntmps28
    go_wp2_with fail
    go_ret
    exact ⟨false, rfl, by simp; omega, Drawn.refl _⟩
  have d1 : decide (n < 0) = false := by simp; omega
  by_cases h2 : 2147483647 < n
  · have d2 : decide (2147483647 < n) = true := by simpa using h2
    have H2 := hide h2
    clear h1 h2
    go_enter Try.func28, Try.ntmps28
    go_wp2_with fail
    go_ret
    exact ⟨false, rfl, by have := H2.out; simp; omega, Drawn.refl _⟩
  have d2 : decide (2147483647 < n) = false := by simp; omega
  have H1 : Hid (0 ≤ n ∧ n ≤ 2147483647) := by show _ ∧ _; omega
  clear h1 h2
  have Hm : Hid (m ≤ 9223372036854775807) := by have h1 := Ha.out.1; have h2 := Ha.out.2.1; simp only [maxLen] at h2; show _ ≤ _; omega
  go_enter Try.func28, Try.ntmps28
  go_wp2_with fail
  go_loopw [5] (fun i wr => ∃ k : Nat, k ≤ m ∧ i = .int .i64 k ∧ (∀ j, j < k → n ≤ f j) ∧ Drawn w wr) (fun i _ => m - (intOf i).toNat)
  case atStart => exact ⟨0, Nat.zero_le _, rfl, fun j hj => absurd hj (by omega), Drawn.refl _⟩
  case round =>
    obtain ⟨k, hk, rfl, hall, hd⟩ := hrel
    have Hall := hide hall
    have Hd := hide hd
    have Hr := hide (Ha.out.drawn hd)
    clear hall hd
    by_cases hlt : k < m
    · obtain ⟨b0, off, rfl, hc⟩ := Hr.out.at_ hlt
      have hkm : (k : Int) < (m : Int) := by omega
      have hm := Hm.out
      by_cases hf : f k < n
      · have hdf : decide (f k < n) = true := by simpa using hf
        have Hf := hide hf
        clear hf
        go_wp2_with fail
        go_ret
        refine ⟨false, rfl, ?_, Hd.out⟩
        simp
        intro _ _
        exact ⟨k, hlt, Hf.out⟩
      · have hdf : decide (f k < n) = false := by simpa using hf
        have Hf := hide hf
        clear hf
        go_wp2_with fail
        go_roundw
        case rel =>
          refine ⟨k + 1, by omega, by go_num, ?_, Hd.out⟩
          intro j hj
          by_cases e : j = k
          · subst e; have := Hf.out; omega
          · exact Hall.out j (by omega)
        case measure => simp [intOf]; omega
    · obtain rfl : k = m := by omega
      go_wp2_with fail
      go_ret
      exact ⟨true, rfl, by simpa using ⟨H1.out.1, H1.out.2, Hall.out⟩, Hd.out⟩
set_option maxHeartbeats 1600000 in
theorem rbeyond37 (A : Option Addr) (m c : Nat) (f : Nat → Int) (n : Int) (w : World) (ha : Rd .i64 w A m c f) : Calls Try.prog 30 #[.slice A m c, .int .i64 n] w fun e w' => ∃ b, e = .returned (.bool b) ∧ (b = true ↔ ∃ i, i < m ∧ f i < n) ∧ Drawn w w' := by
  have Ha := hide ha
  clear ha
  have Hm : Hid (m ≤ 9223372036854775807) := by have h1 := Ha.out.1; have h2 := Ha.out.2.1; simp only [maxLen] at h2; show _ ≤ _; omega
  go_enter Try.func30, Try.ntmps30
  go_wp2_with fail
  go_loopw [5] (fun i wr => ∃ k : Nat, k ≤ m ∧ i = .int .i64 k ∧ (∀ j, j < k → n ≤ f j) ∧ Drawn w wr) (fun i _ => m - (intOf i).toNat)
  case atStart => exact ⟨0, Nat.zero_le _, rfl, fun j hj => absurd hj (by omega), Drawn.refl _⟩
  case round =>
    obtain ⟨k, hk, rfl, hall, hd⟩ := hrel
    have Hall := hide hall
    have Hd := hide hd
    have Hr := hide (Ha.out.drawn hd)
    clear hall hd
    by_cases hlt : k < m
    · obtain ⟨b0, off, rfl, hc⟩ := Hr.out.at_ hlt
      have hkm : (k : Int) < (m : Int) := by omega
      have hm := Hm.out
      by_cases hf : f k < n
      · have hdf : decide (f k < n) = true := by simpa using hf
        have Hf := hide hf
        clear hf
        go_wp2_with fail
        go_ret
        exact ⟨true, rfl, by simpa using ⟨k, hlt, Hf.out⟩, Hd.out⟩
      · have hdf : decide (f k < n) = false := by simpa using hf
        have Hf := hide hf
        clear hf
        go_wp2_with fail
        go_roundw
        case rel =>
          refine ⟨k + 1, by omega, by go_num, ?_, Hd.out⟩
          intro j hj
          by_cases e : j = k
          · subst e; have := Hf.out; omega
          · exact Hall.out j (by omega)
        case measure => simp [intOf]; omega
    · obtain rfl : k = m := by omega
      go_wp2_with fail
      go_ret
      refine ⟨false, rfl, ?_, Hd.out⟩
      simp
      exact Hall.out
set_option maxHeartbeats 1600000 in
theorem alive37 (w : World) : Calls Try.prog 25 #[] w (Yes w) := by
  have a1 := fun W => tell37 false 0 5 W
  have a2 := fun W => tell37 true 5 7 W
  have b1 := fun W => beyond37 true 5 7 W
  have b2 := fun W => beyond37 true 5 5 W
  have b3 := fun W => beyond37 false 0 7 W
  rw [show tellB false 0 5 = true by decide] at a1
  rw [show tellB true 5 7 = false by decide] at a2
  rw [show byB true 5 7 = true by decide] at b1
  rw [show byB true 5 5 = false by decide] at b2
  rw [show byB false 0 7 = false by decide] at b3
  simp only [if_true, Bool.false_eq_true, if_false] at a1 a2
  go_enter Try.func25, Try.ntmps25
  go_wp2_with fail
  refine (a1 _).mono ?_
  rintro e w1 ⟨rfl, hb1⟩
  have HB1 := hide ((((Below.refl w.heap.size w).alloc (Nat.le_refl _) (.cells #[.bool false, .int .i64 0] 42)).of hb1))
  have R1 := hide (keepRow (heap_alloc_new w (.cells #[.bool false, .int .i64 0] 42)) hb1)
  clear hb1
  have hs1 := HB1.out.size
  have hl1 := rowLt R1.out
  have Q1 := hide (heap_alloc_new w1 (.cells #[.bool true, .int .i64 5] 42))
  have P1 := hide (keepRow R1.out ((Below.refl _ _).alloc (Nat.le_refl _) (.cells #[.bool true, .int .i64 5] 42)))
  have HC1 := hide (HB1.out.alloc hs1 (.cells #[.bool true, .int .i64 5] 42))
  go_wp2_with fail
  refine (a2 _).mono ?_
  rintro e w2 ⟨rfl, hb2⟩
  have HB2 := hide (HC1.out.of hb2)
  have R2 := hide (keepRow P1.out hb2)
  have Q2 := hide (keepRow Q1.out hb2)
  clear hb2
  have hs2 := HB2.out.size
  have hl2 := rowLt R2.out
  have hk2 := rowLt Q2.out
  have R3 := hide (keepRow R2.out ((Below.refl _ _).alloc (Nat.le_refl _) (.cells #[.bool false, .int .i64 0] 42)))
  have Q3 := hide (keepRow Q2.out ((Below.refl _ _).alloc (Nat.le_refl _) (.cells #[.bool false, .int .i64 0] 42)))
  have HB3 := hide (HB2.out.alloc hs2 (.cells #[.bool false, .int .i64 0] 42))
  obtain ⟨r0, r1⟩ := row2 R3.out
  obtain ⟨q0, q1⟩ := row2 Q3.out
  go_wp2_with fail
  refine (b1 _).mono ?_
  rintro e w4 ⟨rfl, hb4⟩
  have HB4 := hide (HB3.out.of hb4)
  have R4 := hide (keepRow R3.out hb4)
  have Q4 := hide (keepRow Q3.out hb4)
  clear hb4 r0 r1 q0 q1
  obtain ⟨r0, r1⟩ := row2 R4.out
  obtain ⟨q0, q1⟩ := row2 Q4.out
  go_wp2_with fail
  refine (b2 _).mono ?_
  rintro e w5 ⟨rfl, hb5⟩
  have HB5 := hide (HB4.out.of hb5)
  have R5 := hide (keepRow R4.out hb5)
  have Q5 := hide (keepRow Q4.out hb5)
  clear hb5 r0 r1 q0 q1
  obtain ⟨r0, r1⟩ := row2 R5.out
  obtain ⟨q0, q1⟩ := row2 Q5.out
  go_wp2_with fail
  refine (b3 _).mono ?_
  rintro e w6 ⟨rfl, hb6⟩
  have HB6 := hide (HB5.out.of hb6)
  have R6 := hide (keepRow R5.out hb6)
  have Q6 := hide (keepRow Q5.out hb6)
  clear hb6 r0 r1 q0 q1
  obtain ⟨r0, r1⟩ := row2 R6.out
  obtain ⟨q0, q1⟩ := row2 Q6.out
  go_wp2_with fail
  go_ret
  exact ⟨rfl, HB6.out⟩
end Go.Proofs.Ytopgcimjdlhclaa
