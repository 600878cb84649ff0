/- Layer 16: the contracts of 'Find' and of its reference; the walk of the law on finding. -/
import Derived.Test.YtlpbonfapglocaaCb8
import Derived.Test.YtlpbonfapglocaaCb5
namespace Go.Proofs.Ytlpbonfapglocaa
open Go.RowKit

/-- What a search hands back. -/
def Found (c n : Int) (s : Int) (b : Bool) : Prop :=
  (b = true ∧ ∃ S : Nat, S < 257 ∧ s = S ∧ (cd (rnk S) : Int) = c ∧ (len S : Int) = n) ∨ (b = false ∧ s = 0 ∧ ∀ S : Nat, S < 257 → ¬ ((cd (rnk S) : Int) = c ∧ (len S : Int) = n))
theorem st_inj {i j : Nat} (hi : i < 257) (hj : j < 257) (h : st i = st j) : i = j := by
  rcases Nat.lt_trichotomy i j with h1 | h1 | h1
  · have := st_lt h1 hj
    have := wd_pos i
    omega
  · exact h1
  · have := st_lt h1 hi
    have := wd_pos j
    omega
theorem code_inj {S T : Nat} (hS : S < 257) (hT : T < 257) (h1 : cd (rnk S) = cd (rnk T)) (h2 : len S = len T) : S = T := by
  have a := rnk_bd S hS
  have b := rnk_bd T hT
  have h : st (rnk S) = st (rnk T) := by
    unfold st
    rw [a.2, b.2, h1, h2]
  have := st_inj a.1 b.1 h
  rw [← a.2, this, b.2]
theorem Found.same {c n s t : Int} {b d : Bool} (h : Found c n s b) (k : Found c n t d) : s = t ∧ b = d := by
  rcases h with ⟨rfl, S, hS, rfl, h1, h2⟩ | ⟨rfl, rfl, h1⟩
  · rcases k with ⟨rfl, T, hT, rfl, k1, k2⟩ | ⟨rfl, rfl, k1⟩
    · have := code_inj hS hT (by omega) (by omega)
      subst this
      exact ⟨rfl, rfl⟩
    · exact absurd ⟨h1, h2⟩ (k1 S hS)
  · rcases k with ⟨rfl, T, hT, rfl, k1, k2⟩ | ⟨rfl, rfl, k1⟩
    · exact absurd ⟨k1, k2⟩ (h1 T hT)
    · exact ⟨rfl, rfl⟩
def FoundE (c n : Int) (w : World) (e : Ending) (w' : World) : Prop := ∃ s b, e = .returned (.tuple #[.int .i64 s, .bool b]) ∧ Found c n s b ∧ Below w.heap.size w w'

/-! ### the reference's -/
set_option maxRecDepth 100000 in
set_option maxHeartbeats 3200000 in
theorem rfind_any (c n : Int) (w : World) : Calls Try.prog 30 #[.int .i64 c, .int .i64 n] w (FoundE c n w) := by
  go_enter Try.func30, Try.ntmps30
  go_wp2_with fail
  refine (lens_any _).mono ?_
  rintro e w1 ⟨v1, rfl, ho1, hb1⟩
  obtain ⟨A1, c1, rfl, hr1, _⟩ := ho1.rd
  obtain ⟨lb, lo, rfl, _⟩ := hr1.at_ (i := 0) (by omega)
  have Hr1 := hide hr1
  have HB1 := hide hb1
  clear ho1 hr1 hb1
  go_wp2_with fail
  refine (codes_any _).mono ?_
  rintro e w2 ⟨v2, rfl, ho2, hb2⟩
  obtain ⟨A2, c2, rfl, hr2, _⟩ := ho2.rd
  obtain ⟨ob, oo, rfl, _⟩ := hr2.at_ (i := 0) (by omega)
  have Hr2 := hide hr2
  have Hr1' := hide (Hr1.out.below hb2)
  have HB2 := hide (HB1.out.of hb2)
  clear ho2 hr2 hb2 Hr1 HB1
  go_wp2_with fail
  go_loop [8] (fun i => ∃ k : Nat, k ≤ 257 ∧ i = .int .i64 k ∧ ∀ S : Nat, S < k → ¬ ((cd (rnk S) : Int) = c ∧ (len S : Int) = n)) (fun i => 257 - (intOf i).toNat)
  case atStart => exact ⟨0, Nat.zero_le _, rfl, fun S h => absurd h (by omega)⟩
  case round =>
    obtain ⟨k, hk, rfl, hno⟩ := hrel
    have Hno := hide hno
    clear hno
    by_cases hlt : k < 257
    · have hd : decide ((k : Int) ≤ 256) = true := by simp; omega
      obtain ⟨b', o', e1, hcc⟩ := Hr2.out.at_ (i := k) hlt
      obtain ⟨rfl, rfl⟩ : ob = b' ∧ oo = o' := by simpa using e1
      obtain ⟨b', o', e2, hcl⟩ := Hr1'.out.at_ (i := k) hlt
      obtain ⟨rfl, rfl⟩ : lb = b' ∧ lo = o' := by simpa using e2
      have hk0 : (0 : Int) ≤ (k : Int) := by omega
      have hk1 : (k : Int) < 257 := by omega
      clear e1 e2
      by_cases h1 : (cd (rnk k) : Int) = c
      · have t1 : ((cd (rnk k) : Int) == c) = true := by simpa using h1
        by_cases h2 : (len k : Int) = n
        · have t2 : ((len k : Int) == n) = true := by simpa using h2
          have HF : Hid (Found c n (k : Int) true) := .inl ⟨rfl, k, hlt, rfl, h1, h2⟩
          clear h1 h2
          go_wp2_with fail
          go_ret2
          exact ⟨_, _, rfl, HF.out, HB2.out⟩
        · have t2 : ((len k : Int) == n) = false := by simpa using h2
          have Hno' : Hid (∀ S : Nat, S < k + 1 → ¬ ((cd (rnk S) : Int) = c ∧ (len S : Int) = n)) := fun S hS => by
            by_cases e : S = k
            · subst e
              exact fun h => h2 h.2
            · exact Hno.out S (by omega)
          clear h1 h2
          go_wp2_with fail
          go_round
          case rel => exact ⟨k + 1, by omega, by go_num, Hno'.out⟩
          case measure => simp [intOf]; omega
      · have t1 : ((cd (rnk k) : Int) == c) = false := by simpa using h1
        have Hno' : Hid (∀ S : Nat, S < k + 1 → ¬ ((cd (rnk S) : Int) = c ∧ (len S : Int) = n)) := fun S hS => by
          by_cases e : S = k
          · subst e
            exact fun h => h1 h.1
          · exact Hno.out S (by omega)
        clear h1
        go_wp2_with fail
        go_round
        case rel => exact ⟨k + 1, by omega, by go_num, Hno'.out⟩
        case measure => simp [intOf]; omega
    · obtain rfl : k = 257 := by omega
      go_wp2_with fail
      go_ret2
      exact ⟨_, _, rfl, .inr ⟨rfl, rfl, Hno.out⟩, HB2.out⟩
end Go.Proofs.Ytlpbonfapglocaa
