/- Layer 14: a priority, what is left without the padding. -/
import Derived.Test.YtelcpfjifhobjaaFr2
namespace Go.Proofs.Ytelcpfjifhobjaa
set_option linter.unusedVariables false
set_option linter.unusedSimpArgs false
open Go.RowKit

theorem row13 {w : World} {b : Nat} {T : TypeId} {v0 v1 v2 v3 v4 v5 v6 v7 v8 v9 v10 v11 v12 : Value} (h : w.heap[b]? = some (.cells #[v0, v1, v2, v3, v4, v5, v6, v7, v8, v9, v10, v11, v12] T (0, 0))) : w.cell? ⟨b, 0, none⟩ = some v0 ∧ w.cell? ⟨b, 1, none⟩ = some v1 ∧ w.cell? ⟨b, 2, none⟩ = some v2 ∧ w.cell? ⟨b, 3, none⟩ = some v3 ∧ w.cell? ⟨b, 4, none⟩ = some v4 ∧ w.cell? ⟨b, 5, none⟩ = some v5 ∧ w.cell? ⟨b, 6, none⟩ = some v6 ∧ w.cell? ⟨b, 7, none⟩ = some v7 ∧ w.cell? ⟨b, 8, none⟩ = some v8 ∧ w.cell? ⟨b, 9, none⟩ = some v9 ∧ w.cell? ⟨b, 10, none⟩ = some v10 ∧ w.cell? ⟨b, 11, none⟩ = some v11 ∧ w.cell? ⟨b, 12, none⟩ = some v12 := by
  refine ⟨?_, ?_, ?_, ?_, ?_, ?_, ?_, ?_, ?_, ?_, ?_, ?_, ?_⟩ <;> simp [World.cell?, h]
theorem Rdr.other {w : World} {q p c n t r j : Nat} {A : Option Addr} {f : Nat → Int} {ms ov : Bool} (h : Rdr w q p A c n f t ms ov) (u : Value) (hp : p ≠ r) (hq : q ≠ r) (hA : ∀ a, A = some a → a.block ≠ r) : Rdr (w.setCell ⟨r, j, none⟩ u) q p A c n f t ms ov :=
  ⟨h.1.other (grown_set w r j u) hp hA, keepOne h.2.1 (grown_set w r j u) hq, h.2.2⟩
set_option maxRecDepth 20000 in
set_option maxHeartbeats 1600000 in
theorem prio14 (q p r c n t : Nat) (A : Option Addr) (f : Nat → Int) (ms ov : Bool) (hf : Byt n f) (B : Nat) (hB : B ≤ q) (hBp : B ≤ p) (hBr : B ≤ r) (hpr : p ≠ r) (hqr : q ≠ r) (hA : ∀ a, A = some a → a.block ≠ r) (v0 v1 v2 v3 v4 v5 v6 v7 v8 v9 v10 v11 v12 : Value) (w : World) (h : Rdr w q p A c n f t ms ov) (hr : w.heap[r]? = some (.cells #[v0, v1, v2, v3, v4, v5, v6, v7, v8, v9, v10, v11, v12] 28 (0, 0))) :
    Calls Try.prog 94 #[.pointer (some ⟨q, 0, none⟩), .pointer (some ⟨r, 0, none⟩)] w fun x w' => x = .returned (.tuple #[]) ∧ Rdr w' q p A c n f (nbT n (nbT n t 4) 1) (ms || nbM n t 4 || nbM n (nbT n t 4) 1) ov ∧
      w'.heap[r]? = some (.cells #[v0, v1, v2, v3, v4, v5, .int .i64 (nbV f n (nbT n t 4) 1), .int .i64 (lowN (nbV f n t 4)), .bool (lowB (nbV f n t 4)), v9, v10, v11, v12] 28 (0, 0)) ∧ FrS B (PQR p q r) w w' := by
  have H := hide h
  have R0 := hide hr
  have Hf := hide hf
  have HA := hide hA
  clear h hr hf hA
  obtain ⟨X, hX⟩ : ∃ X, lowN (nbV f n t 4) = X := ⟨_, rfl⟩
  obtain ⟨Y, hY⟩ : ∃ Y, lowB (nbV f n t 4) = Y := ⟨_, rfl⟩
  obtain ⟨Z, hZ⟩ : ∃ Z, nbV f n (nbT n t 4) 1 = Z := ⟨_, rfl⟩
  rw [hX, hY, hZ]
  have HX := hide hX
  have HY := hide hY
  have HZ := hide hZ
  clear hX hY hZ
  go_enter Try.func94, Try.ntmps94
  go_wp2_with fail
  refine (low14 q p c n t A f ms ov Hf.out B hB hBp _ H.out).mono ?_
  rw [HX.out, HY.out]
  rintro e w1 ⟨rfl, hc1, hg1⟩
  have H1 := hide hc1
  have F1 := hide (hg1.pqr r)
  have R1 := hide (hg1.row R0.out (fun s => s.elim (fun e => hpr e.symm) (fun e => hqr e.symm)))
  clear hc1 hg1 H R0
  have z7 := frozenRow R1.out 7
  have s7 := setRow w1 r 7 (.int .i64 X) R1.out
  simp only [List.setIfInBounds_toArray, List.set_cons_zero, List.set_cons_succ] at s7
  have z8 := frozenRow s7 8
  have s8 := setRow _ r 8 (.bool Y) s7
  simp only [List.setIfInBounds_toArray, List.set_cons_zero, List.set_cons_succ] at s8
  have R2 := hide s8
  have H2 := hide ((H1.out.other (j := 7) (.int .i64 X) hpr hqr HA.out).other (j := 8) (.bool Y) hpr hqr HA.out)
  have F2 := hide (F1.out.trans ((FrS.set (j := 7) (u := .int .i64 X) hBr (rowLt R1.out) (.inr (.inr rfl))).trans (FrS.set (j := 8) (u := .bool Y) hBr (rowLt s7) (.inr (.inr rfl)))))
  obtain ⟨c0, c1, c2, c3, c4, c5, c6, c7, c8, c9, c10, c11, c12⟩ := row13 R1.out
  obtain ⟨d0, d1, d2, d3, d4, d5, d6, d7, d8, d9, d10, d11, d12⟩ := row13 s7
  clear s7 s8
  go_wp2_with fail
  clear z7 z8 c0 c1 c2 c3 c4 c5 c6 c7 c8 c9 c10 c11 c12 d0 d1 d2 d3 d4 d5 d6 d7 d8 d9 d10 d11 d12 H1 F1 R1
  generalize (w1.setCell ⟨r, 7, none⟩ (.int .i64 X)).setCell ⟨r, 8, none⟩ (.bool Y) = w2 at *
  refine (number14 q p c n (nbT n t 4) 1 A f (ms || nbM n t 4) ov 1 rfl (by omega) (by omega) Hf.out B hB hBp _ H2.out).mono ?_
  rw [HZ.out]
  rintro e w3 ⟨rfl, hc3, hg3⟩
  have H3 := hide hc3
  have F3 := hide (F2.out.trans (hg3.pqr r))
  have R3 := hide (hg3.row R2.out (fun s => s.elim (fun e => hpr e.symm) (fun e => hqr e.symm)))
  clear hc3 hg3 H2 R2
  have z6 := frozenRow R3.out 6
  have s6 := setRow w3 r 6 (.int .i64 Z) R3.out
  simp only [List.setIfInBounds_toArray, List.set_cons_zero, List.set_cons_succ] at s6
  have R4 := hide s6
  have H4 := hide (H3.out.other (j := 6) (.int .i64 Z) hpr hqr HA.out)
  have F4 := hide (F3.out.trans (FrS.set (j := 6) (u := .int .i64 Z) hBr (rowLt R3.out) (.inr (.inr rfl))))
  obtain ⟨c0, c1, c2, c3, c4, c5, c6, c7, c8, c9, c10, c11, c12⟩ := row13 R3.out
  clear s6
  go_wp2_with fail
  go_end0
  exact ⟨rfl, H4.out, R4.out, F4.out⟩
/-- How many bytes are left without the padding. -/
def upN (n t : Nat) (pad : Int) : Nat := if pad ≤ ((n - t : Nat) : Int) then n - t - pad.toNat else 0
set_option maxRecDepth 20000 in
set_option maxHeartbeats 1600000 in
theorem unpadded14 (q p c n t : Nat) (A : Option Addr) (f : Nat → Int) (ms ov : Bool) (pad : Int) (h0 : 0 ≤ pad) (B : Nat) (hB : B ≤ q) (hBp : B ≤ p) (w : World) (h : Rdr w q p A c n f t ms ov) :
    Calls Try.prog 97 #[.pointer (some ⟨q, 0, none⟩), .int .i64 pad] w fun x w' => (∃ A2 c2, x = .returned (.slice A2 (upN n t pad) c2) ∧ Rd .u8 w' A2 (upN n t pad) c2 (fun i => f (t + i)) ∧ ∀ a, A2 = some a → w.heap.size ≤ a.block) ∧
      w'.heap[q]? = some (.cells #[.pointer (some ⟨p, 0, none⟩), .bool ms, .bool (ov || decide (((n - t : Nat) : Int) < pad))] 127 (0, 0)) ∧ FrS B (PQ p q) w w' := by
  have htn : t ≤ n := h.1.2.2.2.1
  have hn : n ≤ 100000000 := h.1.2.2.2.2
  obtain ⟨r0, r1, r2⟩ := row3r h.2.1
  have H := hide h
  obtain ⟨m, hm⟩ : ∃ m, m = n - t := ⟨_, rfl⟩
  have Hm := hide hm
  rw [← hm]
  obtain ⟨pp, rfl⟩ := Int.eq_ofNat_of_zero_le h0
  have hpq := h.2.2.1
  clear h
  by_cases hl : m < pp
  · have hu : upN n t (pp : Int) = 0 := by unfold upN; rw [if_neg (by omega)]
    have hd : decide ((m : Int) < (pp : Int)) = true := decide_eq_true (by omega)
    have hdN : decide (m < pp) = true := decide_eq_true hl
    rw [hu, hd]
    clear hu
    go_enter Try.func97, Try.ntmps97
    go_wp2_with fail
    refine (left_any p n t f _ H.out.1.cur).mono ?_
    rw [← Hm.out]
    rintro e w1 ⟨rfl, hd1⟩
    have H1 := hide (H.out.drawn hd1)
    have F1 := hide (FrS.ofDrawn B (PQ p q) hd1)
    clear hd1 r0 r1 r2
    obtain ⟨r0, r1, r2⟩ := row3r H1.out.2.1
    have z2 := frozenRow H1.out.2.1 2
    go_wp2_with fail
    go_ret
    refine ⟨⟨none, 0, rfl, Rd.nil _ _ _, fun a e => by cases e⟩, ?_, F1.out.trans (FrS.set hB H1.out.ltq (.inr rfl))⟩
    have := (H1.out.full true).2.1
    simpa using this
  · have hu : upN n t (pp : Int) = m - pp := by unfold upN; rw [if_pos (by omega), Int.toNat_natCast]; omega
    have hd : decide ((m : Int) < (pp : Int)) = false := decide_eq_false (by omega)
    have hdN : decide (m < pp) = false := decide_eq_false hl
    obtain ⟨k, hk⟩ : ∃ k, k = m - pp := ⟨_, rfl⟩
    have hw : IntKind.i64.wrap ((m : Int) - (pp : Int)) = (k : Int) := by rw [IntWalk.i64_in _ (by omega)]; omega
    have htk : t + k ≤ n := by omega
    rw [hu, hd, ← hk, Bool.or_false]
    clear hu hk hm
    go_enter Try.func97, Try.ntmps97
    go_wp2_with fail
    refine (left_any p n t f _ H.out.1.cur).mono ?_
    rw [← Hm.out]
    rintro e w1 ⟨rfl, hd1⟩
    have H1 := hide (H.out.drawn hd1)
    have F1 := hide (FrS.ofDrawn B (PQ p q) hd1)
    clear hd1 r0 r1 r2
    obtain ⟨r0, r1, r2⟩ := row3r H1.out.2.1
    have Hc : Hid (Cur w1.drew p n f t) := H1.out.1.cur
    have Hl : Hid (∀ W, Cur W p n f t → Calls Try.prog 124 #[.pointer (some ⟨p, 0, none⟩)] W fun e w' => e = .returned (.int .i64 (m : Int)) ∧ Drawn W w') := fun W hW => by
      have := left_any p n t f W hW
      rw [← Hm.out] at this
      exact this
    go_wp2_with fail
    go_region_held3 (fun W : World => W.cell? ⟨q, 0, none⟩ = some (.pointer (some ⟨p, 0, none⟩)))
      ((first | exact ((drawn_below hd5 _).cell (World.block_lt_of_cell? _ _ (by assumption))).trans (by assumption) | exact hg6.cell (by assumption) (fun e => hpq (Option.some.inj e).symm) | exact hg6.cell (by assumption) (fun e => hpq (Option.some.inj e)) | (go_keep; done)))
      ((first
        | (go_at_call 124; (with_reducible refine (Hl.out _ Hc.out).mono ?_); rintro e w5 ⟨rfl, hd5⟩)
        | (go_at_call 125; (with_reducible refine (bytes_ok p n t k f _ (Hc.out.drawn hd5) htk).mono ?_); rintro e w6 ⟨A6, c6, rfl, hr6, hf6, hc6, hg6, ho6, hl6⟩)))
    all_goals
      have Hr6 := hide hr6
      have Hf6 := hide hf6
      have F5 : Hid (FrS B (PQ p q) w w5) := F1.out.trans (FrS.ofDrawn B (PQ p q) (Drawn.trans (Drawn.of w1 1) hd5))
      have H5 : Hid (Rdr w5 q p A c n f t ms ov) := H1.out.drawn (Drawn.trans (Drawn.of w1 1) hd5)
      have F6 := hide (F5.out.trans (FrS.ofGrown (S := PQ p q) hg6 hBp H5.out.ltp (.inl rfl)))
      have R6 := hide (keepOne H5.out.2.1 hg6 (fun e => hpq e.symm))
      clear hr6 hf6 hc6 hg6 ho6 hl6 hd5
      go_wp2_with fail
      go_ret
      have hs5 := F5.out.bel.size
      exact ⟨⟨A6, c6, rfl, Hr6.out, fun a e => by have := (Hf6.out a e).1; omega⟩, R6.out, F6.out⟩
end Go.Proofs.Ytelcpfjifhobjaa
