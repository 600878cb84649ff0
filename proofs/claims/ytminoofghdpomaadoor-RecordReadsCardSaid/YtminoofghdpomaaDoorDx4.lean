/- Layer 3: the examples; the laws on texts and reads. -/
import Derived.Test.YtminoofghdpomaaDoorDx3
import Derived.Test.YtminoofghdpomaaDoorMK
import Derived.Test.YtminoofghdpomaaDoorMN
import Derived.Test.YtminoofghdpomaaDoorKn7
namespace Go.Proofs.YtminoofghdpomaaDoor
set_option linter.unusedVariables false
set_option linter.unusedSimpArgs false
open Go.RowKit Go.PlainAid

theorem intS_inj3 {u t : Int} (h0 : -9223372036854775808 ≤ u) (h1 : u ≤ 9223372036854775807) (k0 : -9223372036854775808 ≤ t) (k1 : t ≤ 9223372036854775807) (e : intS u = intS t) : u = t := by
  by_cases h : bt (intS u) 0 = 45
  · have a := (neg_read h h0 rfl).2
    have b := (neg_read h k0 e).2
    omega
  · have a := (pos_read h h1 rfl).2
    have b := (pos_read h k1 e).2
    omega
theorem intS_ne0 {u : Int} (h0 : -9223372036854775808 ≤ u) (h1 : u ≤ 9223372036854775807) : (⟨#[]⟩ : ByteArray) ≠ intS u := fun e => by
  have := (intS_size h0 h1).1
  rw [← e] at this
  exact absurd this (by decide)
theorem ex_list {k : Nat} {f : Nat → Int} {ok : Bool} (h : RlR ⟨#[49, 44, 44, 50]⟩ k f ok) : ok = false ∧ k = 0 := by
  have hp : pcB 44 ⟨#[49, 44, 44, 50]⟩ = [⟨#[49]⟩, ⟨#[]⟩, ⟨#[50]⟩] := rfl
  rcases h with ⟨_, hb, ⟨h, _⟩ | ⟨_, h⟩⟩ | ⟨rfl, rfl, _⟩
  · exact absurd h (by decide)
  · rw [hp] at h
    have hk : k = 3 := by
      have := congrArg List.length h
      rw [itL_len] at this
      exact this.symm
    subst hk
    have h2 := itL_at f (k := 3) (j := 1) (by decide)
    rw [← h] at h2
    have := hb 1 (by decide)
    exact absurd (Option.some.inj h2) (intS_ne0 this.1 this.2)
  · exact ⟨rfl, rfl⟩
def exF : Nat → Int := fun i => if i = 0 then 1 else -2
theorem ex_rd (w : World) : Rd .i64 (w.alloc (.cells #[.int .i64 1, .int .i64 (-2)] 3)) (some ⟨w.heap.size, 0, none⟩) 2 2 exF :=
  Own.rdS (Own.lit .i64 3 0 w exF #[.int .i64 1, .int .i64 (-2)] 2 (Nat.zero_le _) (by simp [maxLen]) rfl)
theorem ex_join : jnS ⟨#[44]⟩ (itL exF 2) = ⟨#[49, 44, 45, 50]⟩ := by
  have : itL exF 2 = [intS 1, intS (-2)] := rfl
  rw [this, show [intS 1, intS (-2)] = [intS 1] ++ [intS (-2)] from rfl, jnS_snoc _ (by simp), jnS_one]
  rw [show intS 1 = ⟨#[49]⟩ from by show decS 1 = _; unfold decS; rw [decL_small (by decide)]; rfl, show intS (-2) = ⟨#[45, 50]⟩ from by show negS 2 = _; unfold negS; rw [decL_small (by decide)]; rfl]
  rfl
theorem ex_40 : intS (-40) = ⟨#[45, 52, 48]⟩ := by
  show negS 40 = _
  unfold negS
  rw [decL_more (by decide), decL_small (by decide)]
  rfl
theorem ReadR.same {s : ByteArray} {x y : Int} {a b : Bool} (h : ReadR s x a) (k : ReadR s y b) : x = y ∧ a = b := by
  rcases h with ⟨rfl, h0, h1, h2⟩ | ⟨rfl, rfl, h2⟩ <;> rcases k with ⟨rfl, k0, k1, k2⟩ | ⟨rfl, rfl, k2⟩
  · exact ⟨intS_inj3 h0 h1 k0 k1 (h2.symm.trans k2), rfl⟩
  · exact absurd h2 (k2 x h0 h1)
  · exact absurd k2 (h2 y k0 k1)
  · exact ⟨rfl, rfl⟩
end Go.Proofs.YtminoofghdpomaaDoor
