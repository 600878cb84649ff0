/- Layer 16: the contracts of the reference's Length and Code, and of comparing integers; the walk of the law on codes. -/
import Derived.Test.YteijpklepgenbaaCbA
namespace Go.Proofs.Yteijpklepgenbaa
open Go.RowKit

theorem cellKeepB {w w' : World} (hb : Below w.heap.size w w') {a : Addr} {v : Value} (h : w.cell? a = some v) : w'.cell? a = some v := (hb.cell (World.block_lt_of_cell? w _ h)).trans h
theorem rlen_out (s : Int) (w : World) (h : ¬ (0 ≤ s ∧ s < 257)) : Calls Try.prog 28 #[.int .i64 s] w fun e w' => e = .returned (.int .i64 0) ∧ Below w.heap.size w w' := by
  by_cases h0 : s < 0
  · have d0 : decide (s < 0) = true := by simpa using h0
    go_enter Try.func28, Try.ntmps28
    go_wp2_with fail
    go_ret
    exact ⟨rfl, Below.refl _ _⟩
  · have d0 : decide (s < 0) = false := by simpa using h0
    have d1 : decide (256 < s) = true := by simp; omega
    go_enter Try.func28, Try.ntmps28
    go_wp2_with fail
    go_ret
    exact ⟨rfl, Below.refl _ _⟩
theorem rlen_at (S : Nat) (w : World) (hS : S < 257) : Calls Try.prog 28 #[.int .i64 (S : Int)] w fun e w' => e = .returned (.int .i64 (len S : Int)) ∧ Below w.heap.size w w' := by
  have d0 : decide ((S : Int) < 0) = false := by simp
  have d1 : decide (256 < (S : Int)) = false := by simp; omega
  have hS0 : (0 : Int) ≤ (S : Int) := by omega
  have hS1 : (S : Int) ≤ 256 := by omega
  have hm : (S : Int) % 16 = ((S % 16 : Nat) : Int) := by omega
  have Hq := hide (show (S : Int) / 16 = ((S / 16 : Nat) : Int) by omega)
  obtain ⟨m, hmm⟩ : ∃ m, (if S / 16 < 16 then 16 else 1) = m := ⟨_, rfl⟩
  have hml : S % 16 < m := by rw [← hmm]; split <;> omega
  have hlen : len (16 * (S / 16) + S % 16) = len S := by rw [Nat.div_add_mod]
  have Hm := hide hmm
  have HL := hide hlen
  obtain ⟨r, hr⟩ : ∃ r, S % 16 = r := ⟨_, rfl⟩
  rw [hr] at hm hml HL
  have r0 : (0 : Int) ≤ (r : Int) := by omega
  have r1 : (r : Int) < (m : Int) := by omega
  have hq16 : S / 16 ≤ 16 := by omega
  clear hmm hlen hr
  go_enter Try.func28, Try.ntmps28
  go_wp2_with fail
  refine (row_any (S / 16) _ _ Hq.out hq16).mono ?_
  rw [Hm.out]
  rintro e w1 ⟨v1, rfl, ho1, hb1⟩
  obtain ⟨A1, c1, rfl, hr1, _⟩ := ho1.rd
  obtain ⟨b', o', rfl, hc0⟩ := hr1.at_ (i := r) hml
  have hc : w1.cell? ⟨b', o' + r, none⟩ = some (.int .i64 (len (16 * (S / 16) + r) : Int)) := hc0
  rw [HL.out] at hc
  clear hc0
  have HB1 := hide hb1
  clear ho1 hr1 hb1
  go_wp2_with fail
  go_ret
  exact ⟨rfl, HB1.out⟩
theorem rlen_any (s : Int) (w : World) : Calls Try.prog 28 #[.int .i64 s] w fun e w' => e = .returned (.int .i64 (lnI s)) ∧ Below w.heap.size w w' := by
  by_cases hs : 0 ≤ s ∧ s < 257
  · obtain ⟨S, rfl⟩ := Int.eq_ofNat_of_zero_le hs.1
    unfold lnI
    rw [if_pos hs]
    exact rlen_at S w (by omega)
  · unfold lnI
    rw [if_neg hs]
    exact rlen_out s w hs
end Go.Proofs.Yteijpklepgenbaa
