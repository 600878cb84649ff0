/- Layer 15: the body of a frame, by the document. -/
import Derived.Test.YtpnjamomkpkkeaaEm8
import Derived.Test.YtpnjamomkpkkeaaFs2
import Derived.Test.YtpnjamomkpkkeaaFs4
import Derived.Test.YtpnjamomkpkkeaaSetW
import Derived.Deep.RegionHeld3
namespace Go.Proofs.Ytpnjamomkpkkeaa
set_option linter.unusedVariables false
set_option linter.unusedSimpArgs false
open Go.RowKit

set_option maxHeartbeats 1600000 in
theorem rhasA_3 (t fl : Int) (hf : fl ≤ 9223372036854775807) (w : World) : Calls Try.prog 103 #[.int .i64 t, .int .i64 fl, .int .i64 8] w fun e w' => e = .returned (.bool (hsB t fl 3)) ∧ w = w' := by
  obtain ⟨u, hu⟩ : ∃ u, (usedN t).testBit 3 = u := ⟨_, rfl⟩
  have H2 : Hid (∀ W : World, Calls Try.prog 141 #[.int .i64 t, .int .i64 8] W fun e w' => e = .returned (.bool u) ∧ W = w') := fun W => by rw [← hu]; exact ruses_8 t W
  by_cases h0 : 0 ≤ fl
  · obtain ⟨b, hb⟩ : ∃ b, fl.toNat.testBit 3 = b := ⟨_, rfl⟩
    have HB : Hid (hsB t fl 3 = (u && b)) := by
      show _ = _
      unfold hsB
      rw [hu, hb, decide_eq_true h0, Bool.true_and]
    have d1 : decide ((0 : Int) ≤ fl) = true := decide_eq_true h0
    obtain ⟨qz, hq⟩ : ∃ qz, Int.tdiv fl 8 = qz := ⟨_, rfl⟩
    obtain ⟨dz, hd⟩ : ∃ dz, Int.tmod qz 2 = dz := ⟨_, rfl⟩
    have hqv : qz = fl / 8 := by rw [← hq, Int.tdiv_eq_ediv_of_nonneg h0]
    have hdv : dz = qz % 2 := by rw [← hd, Int.tmod_eq_emod_of_nonneg (by omega)]
    have hbit : (dz == 1) = b := by
      rw [← hb, Nat.testBit_eq_decide_div_mod_eq]
      have e : dz = ((fl.toNat / 2 ^ 3 % 2 : Nat) : Int) := by
        have e2 : (2 : Nat) ^ 3 = 8 := by decide
        rw [e2]
        omega
      rw [e]
      generalize fl.toNat / 2 ^ 3 = M
      rcases Nat.mod_two_eq_zero_or_one M with h | h <;> rw [h] <;> rfl
    have w1 : IntKind.i64.wrap qz = qz := IntWalk.i64_in _ (by omega)
    have w2 : IntKind.i64.wrap dz = dz := IntWalk.i64_in _ (by omega)
    clear hu hb hqv hdv
    go_enter Try.func103, Try.ntmps103
    cases u with
    | false =>
      go_wp2_with (go_at_call 141; refine (H2.out _).mono ?_; rintro e w' ⟨rfl, rfl⟩)
      go_ret
      exact ⟨by rw [HB.out]; rfl, rfl⟩
    | true =>
      go_wp2_with (go_at_call 141; refine (H2.out _).mono ?_; rintro e w' ⟨rfl, rfl⟩)
      go_ret
      exact ⟨by rw [HB.out]; rfl, rfl⟩
  · have HB : Hid (hsB t fl 3 = false) := by
      show _ = _
      unfold hsB
      rw [decide_eq_false h0, Bool.false_and]
    have d1 : decide ((0 : Int) ≤ fl) = false := decide_eq_false h0
    clear h0 hu
    go_enter Try.func103, Try.ntmps103
    cases u with
    | false =>
      go_wp2_with (go_at_call 141; refine (H2.out _).mono ?_; rintro e w' ⟨rfl, rfl⟩)
      go_ret
      exact ⟨by rw [HB.out]; rfl, rfl⟩
    | true =>
      go_wp2_with (go_at_call 141; refine (H2.out _).mono ?_; rintro e w' ⟨rfl, rfl⟩)
      go_ret
      exact ⟨by rw [HB.out]; rfl, rfl⟩
set_option maxHeartbeats 1600000 in
theorem rhasA_5 (t fl : Int) (hf : fl ≤ 9223372036854775807) (w : World) : Calls Try.prog 103 #[.int .i64 t, .int .i64 fl, .int .i64 32] w fun e w' => e = .returned (.bool (hsB t fl 5)) ∧ w = w' := by
  obtain ⟨u, hu⟩ : ∃ u, (usedN t).testBit 5 = u := ⟨_, rfl⟩
  have H2 : Hid (∀ W : World, Calls Try.prog 141 #[.int .i64 t, .int .i64 32] W fun e w' => e = .returned (.bool u) ∧ W = w') := fun W => by rw [← hu]; exact ruses_32 t W
  by_cases h0 : 0 ≤ fl
  · obtain ⟨b, hb⟩ : ∃ b, fl.toNat.testBit 5 = b := ⟨_, rfl⟩
    have HB : Hid (hsB t fl 5 = (u && b)) := by
      show _ = _
      unfold hsB
      rw [hu, hb, decide_eq_true h0, Bool.true_and]
    have d1 : decide ((0 : Int) ≤ fl) = true := decide_eq_true h0
    obtain ⟨qz, hq⟩ : ∃ qz, Int.tdiv fl 32 = qz := ⟨_, rfl⟩
    obtain ⟨dz, hd⟩ : ∃ dz, Int.tmod qz 2 = dz := ⟨_, rfl⟩
    have hqv : qz = fl / 32 := by rw [← hq, Int.tdiv_eq_ediv_of_nonneg h0]
    have hdv : dz = qz % 2 := by rw [← hd, Int.tmod_eq_emod_of_nonneg (by omega)]
    have hbit : (dz == 1) = b := by
      rw [← hb, Nat.testBit_eq_decide_div_mod_eq]
      have e : dz = ((fl.toNat / 2 ^ 5 % 2 : Nat) : Int) := by
        have e2 : (2 : Nat) ^ 5 = 32 := by decide
        rw [e2]
        omega
      rw [e]
      generalize fl.toNat / 2 ^ 5 = M
      rcases Nat.mod_two_eq_zero_or_one M with h | h <;> rw [h] <;> rfl
    have w1 : IntKind.i64.wrap qz = qz := IntWalk.i64_in _ (by omega)
    have w2 : IntKind.i64.wrap dz = dz := IntWalk.i64_in _ (by omega)
    clear hu hb hqv hdv
    go_enter Try.func103, Try.ntmps103
    cases u with
    | false =>
      go_wp2_with (go_at_call 141; refine (H2.out _).mono ?_; rintro e w' ⟨rfl, rfl⟩)
      go_ret
      exact ⟨by rw [HB.out]; rfl, rfl⟩
    | true =>
      go_wp2_with (go_at_call 141; refine (H2.out _).mono ?_; rintro e w' ⟨rfl, rfl⟩)
      go_ret
      exact ⟨by rw [HB.out]; rfl, rfl⟩
  · have HB : Hid (hsB t fl 5 = false) := by
      show _ = _
      unfold hsB
      rw [decide_eq_false h0, Bool.false_and]
    have d1 : decide ((0 : Int) ≤ fl) = false := decide_eq_false h0
    clear h0 hu
    go_enter Try.func103, Try.ntmps103
    cases u with
    | false =>
      go_wp2_with (go_at_call 141; refine (H2.out _).mono ?_; rintro e w' ⟨rfl, rfl⟩)
      go_ret
      exact ⟨by rw [HB.out]; rfl, rfl⟩
    | true =>
      go_wp2_with (go_at_call 141; refine (H2.out _).mono ?_; rintro e w' ⟨rfl, rfl⟩)
      go_ret
      exact ⟨by rw [HB.out]; rfl, rfl⟩
def Rb5 (X : Fm5) (w : World) (e : Ending) (w' : World) : Prop :=
  Below w.heap.size w w' ∧ ((X.ROk ∧ ∃ A c, e = .returned (.tuple #[.slice A X.emL.length c, .bool true]) ∧ Rd .u8 w' A X.emL.length c (lF X.emL)) ∨ (¬ X.ROk ∧ e = .returned (.tuple #[.slice none 0 0, .bool false])))
theorem rd_one5 (w : World) (x : Int) (h : 0 ≤ x ∧ x ≤ 255) : Rd .u8 (w.alloc (.cells #[.int .u8 x] 5)) (some ⟨w.heap.size, 0, none⟩) 1 1 (lF (numL x 1)) :=
  rd_congr5 (Rd.one .u8 5 w x) rfl fun i hi => by
    obtain rfl : i = 0 := by omega
    have e : byteAt x 1 0 = x := by unfold byteAt; simp; omega
    simp [lF, numL, List.range_succ, oneF, e]
/-- Bytes of one's own at a list, beside a frame. -/
structure St5 (w : World) (U : World) (v : Value) (L : List Int) (F : Array Value) : Prop where
  ow : Own .u8 5 (w.heap.size + 1) U v L.length (lF L)
  rf : U.heap[w.heap.size]? = some (.cells F 25 (0, 0))
  be : Below w.heap.size w U
theorem St5.below {w U U' : World} {v : Value} {L : List Int} {F : Array Value} (h : St5 w U v L F) (hb : Below U.heap.size U U') : St5 w U' v L F :=
  ⟨h.ow.below hb, keepRow h.rf hb, h.be.of hb⟩
theorem St5.drew {w U : World} {v : Value} {L : List Int} {F : Array Value} (h : St5 w U v L F) : St5 w U.drew v L F := ⟨h.ow, h.rf, h.be.drew⟩
theorem St5.rd {w U : World} {A : Option Addr} {n c : Nat} {L : List Int} {F : Array Value} (h : St5 w U (.slice A n c) L F) : n = L.length ∧ Rd .u8 U A L.length c (lF L) := by
  obtain ⟨A', c', e, hr, _⟩ := h.ow.rd
  injection e with e1 e2 e3
  subst e1 e3
  exact ⟨e2, hr⟩
theorem St5.undrew {w U : World} {v : Value} {L : List Int} {F : Array Value} (h : St5 w U.drew v L F) (hb : Below w.heap.size w U) : St5 w U v L F := ⟨h.ow, h.rf, hb⟩
theorem St5.app {w U U' : World} {v v' : Value} {L M : List Int} {F : Array Value} {f g : Nat → Int} {n m : Nat} (h : St5 w U v L F) (ho : Own .u8 5 (w.heap.size + 1) U' v' (n + m) (catF n f g)) (hg : U.grownBy U' v.ownBlock) (hn : n = L.length) (hm : m = M.length) (hf : f = lF L) (hq : ∀ i, i < m → g i = lF M i) : St5 w U' v' (L ++ M) F := by
  subst hn hm hf
  have hne : v.ownBlock ≠ some w.heap.size := fun e => by have := (World.ownsRow.lt h.ow _ e).1; omega
  refine ⟨?_, keepGrown h.rf hg hne, h.be.grown hg (by have := h.be.size; omega) fun k e => by have := (World.ownsRow.lt h.ow k e).1; omega⟩
  rw [List.length_append]
  refine Own.congr ho fun i hi => ?_
  rw [lF_app hi]
  unfold catF
  by_cases hl : i < L.length
  · rw [if_pos hl, if_pos hl]
  · rw [if_neg hl, if_neg hl, hq _ (by omega)]
theorem rd_grown5 {w w' : World} {A : Option Addr} {n c : Nat} {f : Nat → Int} {row : Option Nat} (h : Rd .u8 w A n c f) (hg : w.grownBy w' row) (hne : ∀ k, row = some k → ∀ a, A = some a → k ≠ a.block) : Rd .u8 w' A n c f :=
  ⟨h.1, h.2.1, h.2.2.1, fun hn => by
    obtain ⟨b, off, hA, hc⟩ := h.2.2.2 hn
    refine ⟨b, off, hA, fun i hi => ?_⟩
    exact World.grownBy.cell hg (hc i hi) (fun e => hne b e.symm _ hA rfl)⟩
theorem ne_own5 {e : TypeId} {B : Nat} {U U' : World} {v : Value} {n m c : Nat} {f g : Nat → Int} {A : Option Addr} (h : Own .u8 e B U v n f) (ho : Own .u8 e U.heap.size U' (.slice A m c) m g) : ∀ k, v.ownBlock = some k → ∀ a, A = some a → k ≠ a.block := fun k hk a ha he => by
  subst ha
  have h1 := (World.ownsRow.lt h k hk).2
  have h2 := (World.ownsRow.lt ho a.block rfl).1
  omega
theorem wrd5_f (n : Int) : wrd5 n false = n := rfl
end Go.Proofs.Ytpnjamomkpkkeaa
