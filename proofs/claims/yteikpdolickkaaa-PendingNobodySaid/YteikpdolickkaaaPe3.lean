/- Layer 32: Ack, Narrow, Push. -/
import Derived.Test.YteikpdolickkaaaPe2
namespace Go.Proofs.Yteikpdolickkaaa
open Go.RowKit Go.Deep

theorem QOk.row {B : Nat} {w : World} {p : Nat} {g : Option Nat} {a l n : Nat} {V : Nat → Nat → Int} (h : QOk B w p g a l n V) : ∃ v, w.heap[p]? = some (.cells #[.int .i64 (a : Int), .int .i64 (l : Int), v] 111 (0, 0)) := ⟨h.ex.choose, h.ex.choose_spec.1⟩
theorem QOk.setA {B : Nat} {w : World} {p : Nat} {g : Option Nat} {a l n : Nat} {V : Nat → Nat → Int} (h : QOk B w p g a l n V) (x : Nat) : QOk B (w.setCell ⟨p, 0, none⟩ (.int .i64 (x : Int))) p g x l n V := by
  obtain ⟨⟨v, h1, h2, h3⟩, h4, h5, h6⟩ := h
  refine ⟨⟨v, ?_, h2, h3.imp (fun h => h.setCell (h2 ▸ h6) 0 _) id⟩, h4, h5, h6⟩
  have := setRow w p 0 (.int .i64 (x : Int)) h1
  simpa using this
set_option maxRecDepth 20000 in
set_option maxHeartbeats 800000 in
theorem ack32 {B : Nat} {w : World} {p : Nat} {g : Option Nat} {a l n : Nat} {V : Nat → Nat → Int} (h : QOk B w p g a l n V) (hB : B ≤ w.heap.size) (hl : l + n ≤ 900) (ha : a ≤ l + n - 1) :
    Calls Try.prog 51 #[.pointer (some ⟨p, 0, none⟩)] w fun e w' => FrO B (fun i => i = p) w w' ∧ ((a = l + n - 1 ∧ e = .returned (.bool false) ∧ QOk B w' p g a l n V) ∨ (a < l + n - 1 ∧ e = .returned (.bool true) ∧ QOk B w' p g (a + 1) (l + (a + 1 - l)) (n - (a + 1 - l)) (fun i => V ((a + 1 - l) + i)))) := by
  have H := hide h.drew
  have HB : Hid (B ≤ w.drew.heap.size) := hB
  have hpos := h.pos
  obtain ⟨v, h1⟩ := h.row
  obtain ⟨c0, c1, c2⟩ := rowQ h1
  have Hr := hide h1
  obtain ⟨N, hN⟩ : ∃ N, N = l + n - 1 := ⟨_, rfl⟩
  have HN := hide hN
  rw [← hN]
  rw [← hN] at ha
  clear h1 h hN
  by_cases hq : a = N
  · have hd : (((a : Nat) : Int) == ((N : Nat) : Int)) = true := by rw [hq]; exact beq_self_eq_true _
    have Hq := hide hq
    clear hq
    go_enter Try.func51, Try.ntmps51
    go_wp2_with fail
    go_region_held3 (fun W => W.cell? ⟨p, 0, none⟩ = some (.int .i64 (a : Int))) ((first | exact c0 | exact d0 | (go_keep; done)))
      ((first | (go_at_call 58; (with_reducible refine (sent32 H.out HB.out (by omega)).mono ?_); rintro e w1 ⟨rfl, hb1⟩; rw [← HN.out]; obtain ⟨d0, d1, d2⟩ := rowQ (keepRow (w := w.drew) Hr.out hb1))))
    all_goals
      go_wp2_with fail
      go_ret
      exact ⟨FrO.of ⟨hb1.os, hb1.tape, hb1.output, hb1.size, hb1.block⟩ HB.out, .inl ⟨Hq.out, rfl, H.out.below hb1⟩⟩
  · have hd : (((a : Nat) : Int) == ((N : Nat) : Int)) = false := by
      simp only [beq_eq_false_iff_ne]
      omega
    have Hq : Hid (a < N) := by show _ < _; omega
    clear hq
    have hw : IntKind.i64.wrap ((a : Int) + 1) = ((a + 1 : Nat) : Int) := by
      have h1 := HN.out
      have h2 := Hq.out
      rw [IntWalk.i64_in _ (by omega)]; omega
    go_enter Try.func51, Try.ntmps51
    go_wp2_with fail
    go_region_held3 (fun W => W.cell? ⟨p, 0, none⟩ = some (.int .i64 (a : Int))) ((first | exact c0 | exact d0 | (go_keep; done)))
      ((first | (go_at_call 58; (with_reducible refine (sent32 H.out HB.out (by omega)).mono ?_); rintro e w1 ⟨rfl, hb1⟩; rw [← HN.out]; obtain ⟨d0, d1, d2⟩ := rowQ (keepRow (w := w.drew) Hr.out hb1))))
    all_goals
      have f0 := frozenRow (keepRow (w := w.drew) Hr.out hb1) 0
      have Q1 := hide ((H.out.below hb1).setA (a + 1))
      have F1 : Hid (FrO B (fun i => i = p) w (w1.setCell ⟨p, 0, none⟩ (.int .i64 ((a + 1 : Nat) : Int)))) := (FrO.of (w := w) (S := fun i => i = p) ⟨hb1.os, hb1.tape, hb1.output, hb1.size, hb1.block⟩ HB.out).step (FrO.set (S := fun i => i = p) _ p 0 _ H.out.hp rfl) fun _ h => .inl h
      obtain ⟨u, k1⟩ := Q1.out.row
      obtain ⟨e0, e1, e2⟩ := rowQ k1
      clear k1
      go_wp2_with fail
      have hN2 := HN.out
      have hq2 := Hq.out
      refine (rise32 Q1.out (a + 1) (by omega) (by omega) (by omega)).mono ?_
      rintro e w2 ⟨rfl, hq, hf⟩
      go_wp2_with fail
      go_ret
      exact ⟨F1.out.step hf fun _ h => .inl h, .inr ⟨Hq.out, rfl, hq⟩⟩
/-- A slice of bools. -/
def RdB (w : World) (A : Option Addr) (n c : Nat) (f : Nat → Bool) : Prop :=
  n ≤ c ∧ c ≤ maxLen ∧ (A = none → c = 0) ∧ (0 < n → ∃ b off, A = some ⟨b, off, none⟩ ∧ ∀ i, i < n → w.cell? ⟨b, off + i, none⟩ = some (.bool (f i)))
theorem RdB.below {w w' : World} {A : Option Addr} {n c : Nat} {f : Nat → Bool} (r : RdB w A n c f) (hb : Below w.heap.size w w') : RdB w' A n c f :=
  ⟨r.1, r.2.1, r.2.2.1, fun hn => by
    obtain ⟨b, off, hA, hc⟩ := r.2.2.2 hn
    exact ⟨b, off, hA, fun i hi => by rw [hb.cell (World.block_lt_of_cell? w _ (hc i hi))]; exact hc i hi⟩⟩
set_option maxRecDepth 20000 in
theorem index32 {w : World} {A : Option Addr} {n c : Nat} {f : Nat → Bool} (ha : RdB w A n c f) (hn : n ≤ 1000) :
    Calls Try.prog 118 #[.slice A n c, .bool true] w fun e w' => ((∃ i, i < n ∧ f i = true ∧ (∀ j, j < i → f j = false) ∧ e = .returned (.int .i64 (i : Int))) ∨ ((∀ j, j < n → f j = false) ∧ e = .returned (.int .i64 (-1)))) ∧ w = w' := by
  have Ha := hide ha
  clear ha
  go_enter Try.func118, Try.ntmps118
  go_wp2
  go_loopw [8] (fun i wr => ∃ k : Nat, k ≤ n ∧ i = .int .i64 k ∧ (∀ j, j < k → f j = false) ∧ wr = w) (fun i _ => n - (intOf i).toNat)
  case atStart => exact ⟨0, Nat.zero_le _, rfl, fun j hj => absurd hj (by omega), rfl⟩
  case round =>
    obtain ⟨k, hk, rfl, hno, rfl⟩ := hrel
    have Hno := hide hno
    clear hno
    by_cases hlt : k < n
    · have hlt' : (k : Int) < (n : Int) := by omega
      obtain ⟨b, off, rfl, hc⟩ := Ha.out.2.2.2 (by omega)
      have hk1 := hc k hlt
      clear hc
      cases hf : f k with
      | true =>
        have Hf := hide hf
        rw [hf] at hk1
        clear hf
        go_wp2
        go_ret
        exact ⟨.inl (by first | exact ⟨k, hlt, Hf.out, Hno.out, rfl⟩ | exact ⟨k, ⟨hlt, Hf.out, Hno.out⟩, rfl⟩), rfl⟩
      | false =>
        have Hf := hide hf
        rw [hf] at hk1
        clear hf
        go_wp2
        go_roundw
        case rel => exact ⟨k + 1, by omega, by go_num, (fun j hj => (by
          by_cases hjk : j = k
          · subst hjk; exact Hf.out
          · exact Hno.out j (by omega))), trivial⟩
        case measure => simp [intOf]; omega
    · obtain rfl : n = k := by omega
      go_wp2
      go_ret
      exact ⟨.inr ⟨Hno.out, rfl⟩, rfl⟩
set_option maxRecDepth 20000 in
set_option maxHeartbeats 800000 in
theorem narrow32 {B : Nat} {w : World} {p : Nat} {g : Option Nat} {a l n : Nat} {V : Nat → Nat → Int} (h : QOk B w p g a l n V) (hB : B ≤ w.heap.size) (hl : l + n ≤ 900) {A : Option Addr} {m c : Nat} {f : Nat → Bool} (ha : RdB w A m c f) (hm : m ≤ 1000) :
    Calls Try.prog 53 #[.pointer (some ⟨p, 0, none⟩), .slice A m c] w fun e w' => FrO B (fun i => i = p) w w' ∧ (((∀ i, i < m → i < n → f i = false) ∧ e = .returned (.bool false) ∧ QOk B w' p g a l n V) ∨ ∃ i, i < m ∧ i < n ∧ f i = true ∧ (∀ j, j < i → f j = false) ∧ e = .returned (.bool true) ∧ QOk B w' p g a (l + i) (n - i) (fun j => V (i + j))) := by
  have H := hide h
  have HB : Hid (B ≤ w.heap.size) := hB
  have hpos := h.pos
  have Ha := hide ha
  clear h ha
  go_enter Try.func53, Try.ntmps53
  go_wp2_with fail
  refine (index32 Ha.out hm).mono ?_
  rintro e w0 ⟨⟨i, him, hfi, hfst, rfl⟩ | ⟨hno, rfl⟩, rfl⟩
  · have Hf := hide hfi
    have Hfst := hide hfst
    clear hfi hfst
    have hd0 : decide ((i : Int) < 0) = false := decide_eq_false (by omega)
    by_cases hin : n ≤ i
    · have hd : decide ((n : Int) ≤ (i : Int)) = true := decide_eq_true (by omega)
      have hd' : decide (n ≤ i) = true := decide_eq_true (by omega)
      go_wp2_with fail
      refine (poss32 H.out HB.out).mono ?_
      rintro e w1 ⟨b, off, cp, rfl, _, _, hb1⟩
      go_wp2_with fail
      go_ret
      exact ⟨FrO.of hb1 HB.out, .inl ⟨fun j hj hjn => Hfst.out j (by omega), rfl, H.out.below hb1⟩⟩
    · have hd : decide ((n : Int) ≤ (i : Int)) = false := decide_eq_false (by omega)
      have hd' : decide (n ≤ i) = false := decide_eq_false (by omega)
      go_wp2_with fail
      refine (poss32 H.out HB.out).mono ?_
      rintro e w1 ⟨b, off, cp, rfl, _, _, hb1⟩
      have Q1 := hide (H.out.below hb1)
      have F1 := hide (FrO.of (S := fun i => i = p) hb1 HB.out)
      clear hb1
      obtain ⟨u, k1⟩ := Q1.out.row
      obtain ⟨e0, e1, e2⟩ := rowQ k1
      clear k1
      have hw : IntKind.i64.wrap ((l : Int) + (i : Int)) = ((l + i : Nat) : Int) := by rw [IntWalk.i64_in _ (by omega)]; omega
      go_wp2_with fail
      refine (rise32 Q1.out (l + i) (by omega) (by omega) (by omega)).mono ?_
      rintro e w2 ⟨rfl, hq, hf⟩
      rw [show l + i - l = i by omega] at hq
      go_wp2_with fail
      go_ret
      exact ⟨F1.out.step hf fun _ h => .inl h, .inr ⟨i, him, by omega, Hf.out, Hfst.out, rfl, hq⟩⟩
  · go_wp2_with fail
    go_ret
    exact ⟨FrO.of (Below.refl _ _) HB.out, .inl ⟨fun j hj _ => hno j hj, rfl, H.out⟩⟩
end Go.Proofs.Yteikpdolickkaaa
