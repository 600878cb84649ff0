/- Layer 4: the laws on lines. -/
import Derived.Test.YtminoofghdpomaaDoorN7
namespace Go.Proofs.YtminoofghdpomaaDoor
set_option linter.unusedVariables false
set_option linter.unusedSimpArgs false
open Go Go.RowKit Go.PlainAid

set_option maxRecDepth 20000 in
set_option maxHeartbeats 3200000 in
theorem rsplit04 (s : ByteArray) (w : World) (hs : s.size ≤ 900) : Calls Tryd.prog 30 #[.string s] w (SwE s w) := by
  by_cases hz : s.size = 0
  · have t1 := isEmpty_yes hz
    have HQ : Hid (SwR s [] true) := .inl ⟨rfl, .inl ⟨hz, rfl⟩⟩
    clear hz
    go_enter Tryd.func30, Tryd.ntmps30
    go_wp2
    go_ret2
    exact ⟨none, 0, 0, [], true, rfl, rfl, rdV_nil _ _, HQ.out, Below.refl _ _⟩
  have t1 := isEmpty_no hz
  have hp := hide (fun W => rparts04 32 s W (by omega))
  obtain ⟨ps, hps⟩ : ∃ ps, pcB 32 s = ps := ⟨_, rfl⟩
  have HS : Hid (∀ t ok, LiR ps t ok → SwR s (if ok then ps else []) ok ∧ (ok = true → t = s)) := fun t ok h => by
    rcases h with ⟨rfl, h1, rfl⟩ | ⟨rfl, rfl, h1⟩
    · exact ⟨.inl ⟨rfl, .inr ⟨by omega, hps.symm, h1⟩⟩, fun _ => by rw [← hps, jnS_pcB]⟩
    · refine ⟨.inr ⟨rfl, rfl, by omega, ?_⟩, fun h => by cases h⟩
      rw [hps]
      exact h1
  have hb : Hid (∀ x ∈ ps, x.size ≤ 1000) := fun x hx => by
    rw [← hps] at hx
    have := pcB_size hx
    omega
  obtain ⟨m, hm⟩ : ∃ m, ps.length = m := ⟨_, rfl⟩
  have HM := hide hm
  have hmb : m ≤ 1000 := by
    rw [← hm, ← hps]
    have := pcB_len 32 s.size s (Nat.le_refl _)
    omega
  rw [hps, hm] at hp
  clear hps hm hz
  go_enter Tryd.func30, Tryd.ntmps30
  go_wp2_with fail
  refine (hp.out _).mono ?_
  rintro e w1 ⟨A, cp, rfl, hr, hb1⟩
  have HR := hide hr
  have HB1 := hide hb1
  clear hr hb1
  go_wp2_with fail
  refine (rline04 A m cp ps _ HR.out HM.out.symm hb.out hmb).mono ?_
  rintro e w2 ⟨t, ok, rfl, hq, hb2⟩
  obtain ⟨h1, h2⟩ := HS.out t ok hq
  have HQ := hide h1
  have HT := hide h2
  have HB2 := hide (HB1.out.of hb2)
  have HR2 := hide (rdV_below HR.out hb2)
  clear hq hb2 h1 h2
  cases ok with
  | false =>
    go_wp2_with fail
    go_ret2
    exact ⟨none, 0, 0, [], false, rfl, rfl, rdV_nil _ _, HQ.out, HB2.out⟩
  | true =>
    obtain rfl := HT.out rfl
    have q1 : (t.toList != t.toList) = false := by simp
    have q2 : (t.toList == t.toList) = true := beq_self_eq_true _
    go_wp2_with fail
    go_ret2
    exact ⟨A, m, cp, ps, true, rfl, HM.out.symm, HR2.out, HQ.out, HB2.out⟩
end Go.Proofs.YtminoofghdpomaaDoor
