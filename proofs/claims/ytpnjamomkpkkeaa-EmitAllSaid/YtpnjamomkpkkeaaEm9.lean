/- Layer 15: the body of a frame, by the document. -/
import Derived.Test.YtpnjamomkpkkeaaEm8
import Derived.Test.YtpnjamomkpkkeaaFs2
import Derived.Test.YtpnjamomkpkkeaaFs4
import Derived.Test.YtpnjamomkpkkeaaSetW
import Derived.Deep.RegionHeld3
namespace Go.Proofs.Ytpnjamomkpkkeaa
set_option linter.unusedVariables false
set_option linter.unusedSimpArgs false
open Go.RowKit

set_option maxHeartbeats 1600000 in
theorem rhasA_3 (t fl : Int) (hf : fl ≤ 9223372036854775807) (w : World) : Calls Try.prog 103 #[.int .i64 t, .int .i64 fl, .int .i64 8] w fun e w' => e = .returned (.bool (hsB t fl 3)) ∧ w = w' := by
  obtain ⟨u, hu⟩ : ∃ u, (usedN t).testBit 3 = u := ⟨_, rfl⟩
  have H2 : Hid (∀ W : World, Calls Try.prog 141 #[.int .i64 t, .int .i64 8] W fun e w' => e = .returned (.bool u) ∧ W = w') := fun W => by rw [← hu]; exact ruses_8 t W
  by_cases h0 : 0 ≤ fl
  · obtain ⟨b, hb⟩ : ∃ b, fl.toNat.testBit 3 = b := ⟨_, rfl⟩
    have HB : Hid (hsB t fl 3 = (u && b)) := by
      show _ = _
      unfold hsB
      rw [hu, hb, decide_eq_true h0, Bool.true_and]
    have d1 : decide ((0 : Int) ≤ fl) = true := decide_eq_true h0
    obtain ⟨qz, hq⟩ : ∃ qz, Int.tdiv fl 8 = qz := ⟨_, rfl⟩
    obtain ⟨dz, hd⟩ : ∃ dz, Int.tmod qz 2 = dz := ⟨_, rfl⟩
    have hqv : qz = fl / 8 := by rw [← hq, Int.tdiv_eq_ediv_of_nonneg h0]
    have hdv : dz = qz % 2 := by rw [← hd, Int.tmod_eq_emod_of_nonneg (by omega)]
    have hbit : (dz == 1) = b := by
      rw [← hb, Nat.testBit_eq_decide_div_mod_eq]
      have e : dz = ((fl.toNat / 2 ^ 3 % 2 : Nat) : Int) := by
        have e2 : (2 : Nat) ^ 3 = 8 := by decide
        rw [e2]
        omega
      rw [e]
      generalize fl.toNat / 2 ^ 3 = M
      rcases Nat.mod_two_eq_zero_or_one M with h | h <;> rw [h] <;> rfl
    have w1 : IntKind.i64.wrap qz = qz := IntWalk.i64_in _ (by omega)
    have w2 : IntKind.i64.wrap dz = dz := IntWalk.i64_in _ (by omega)
    clear hu hb hqv hdv
    go_enter Try.func103, Try.ntmps103
    cases u with
    | false =>
      go_wp2_with (go_at_call 141; refine (H2.out _).mono ?_; rintro e w' ⟨rfl, rfl⟩)
      go_ret
      exact ⟨by rw [HB.out]; rfl, rfl⟩
    | true =>
      go_wp2_with (go_at_call 141; refine (H2.out _).mono ?_; rintro e w' ⟨rfl, rfl⟩)
      go_ret
      exact ⟨by rw [HB.out]; rfl, rfl⟩
  · have HB : Hid (hsB t fl 3 = false) := by
      show _ = _
      unfold hsB
      rw [decide_eq_false h0, Bool.false_and]
    have d1 : decide ((0 : Int) ≤ fl) = false := decide_eq_false h0
    clear h0 hu
    go_enter Try.func103, Try.ntmps103
    cases u with
    | false =>
      go_wp2_with (go_at_call 141; refine (H2.out _).mono ?_; rintro e w' ⟨rfl, rfl⟩)
      go_ret
      exact ⟨by rw [HB.out]; rfl, rfl⟩
    | true =>
      go_wp2_with (go_at_call 141; refine (H2.out _).mono ?_; rintro e w' ⟨rfl, rfl⟩)
      go_ret
      exact ⟨by rw [HB.out]; rfl, rfl⟩
set_option maxHeartbeats 1600000 in
theorem rhasA_5 (t fl : Int) (hf : fl ≤ 9223372036854775807) (w : World) : Calls Try.prog 103 #[.int .i64 t, .int .i64 fl, .int .i64 32] w fun e w' => e = .returned (.bool (hsB t fl 5)) ∧ w = w' := by
  obtain ⟨u, hu⟩ : ∃ u, (usedN t).testBit 5 = u := ⟨_, rfl⟩
  have H2 : Hid (∀ W : World, Calls Try.prog 141 #[.int .i64 t, .int .i64 32] W fun e w' => e = .returned (.bool u) ∧ W = w') := fun W => by rw [← hu]; exact ruses_32 t W
  by_cases h0 : 0 ≤ fl
  · obtain ⟨b, hb⟩ : ∃ b, fl.toNat.testBit 5 = b := ⟨_, rfl⟩
    have HB : Hid (hsB t fl 5 = (u && b)) := by
      show _ = _
      unfold hsB
      rw [hu, hb, decide_eq_true h0, Bool.true_and]
    have d1 : decide ((0 : Int) ≤ fl) = true := decide_eq_true h0
    obtain ⟨qz, hq⟩ : ∃ qz, Int.tdiv fl 32 = qz := ⟨_, rfl⟩
    obtain ⟨dz, hd⟩ : ∃ dz, Int.tmod qz 2 = dz := ⟨_, rfl⟩
    have hqv : qz = fl / 32 := by rw [← hq, Int.tdiv_eq_ediv_of_nonneg h0]
    have hdv : dz = qz % 2 := by rw [← hd, Int.tmod_eq_emod_of_nonneg (by omega)]
    have hbit : (dz == 1) = b := by
      rw [← hb, Nat.testBit_eq_decide_div_mod_eq]
      have e : dz = ((fl.toNat / 2 ^ 5 % 2 : Nat) : Int) := by
        have e2 : (2 : Nat) ^ 5 = 32 := by decide
        rw [e2]
        omega
      rw [e]
      generalize fl.toNat / 2 ^ 5 = M
      rcases Nat.mod_two_eq_zero_or_one M with h | h <;> rw [h] <;> rfl
    have w1 : IntKind.i64.wrap qz = qz := IntWalk.i64_in _ (by omega)
    have w2 : IntKind.i64.wrap dz = dz := IntWalk.i64_in _ (by omega)
    clear hu hb hqv hdv
    go_enter Try.func103, Try.ntmps103
    cases u with
    | false =>
      go_wp2_with (go_at_call 141; refine (H2.out _).mono ?_; rintro e w' ⟨rfl, rfl⟩)
      go_ret
      exact ⟨by rw [HB.out]; rfl, rfl⟩
    | true =>
      go_wp2_with (go_at_call 141; refine (H2.out _).mono ?_; rintro e w' ⟨rfl, rfl⟩)
      go_ret
      exact ⟨by rw [HB.out]; rfl, rfl⟩
  · have HB : Hid (hsB t fl 5 = false) := by
      show _ = _
      unfold hsB
      rw [decide_eq_false h0, Bool.false_and]
    have d1 : decide ((0 : Int) ≤ fl) = false := decide_eq_false h0
    clear h0 hu
    go_enter Try.func103, Try.ntmps103
    cases u with
    | false =>
      go_wp2_with (go_at_call 141; refine (H2.out _).mono ?_; rintro e w' ⟨rfl, rfl⟩)
      go_ret
      exact ⟨by rw [HB.out]; rfl, rfl⟩
    | true =>
      go_wp2_with (go_at_call 141; refine (H2.out _).mono ?_; rintro e w' ⟨rfl, rfl⟩)
      go_ret
      exact ⟨by rw [HB.out]; rfl, rfl⟩
set_option maxRecDepth 20000 in
set_option maxHeartbeats 800000 in
theorem word15 (n : Int) (b : Bool) (w : World) : Calls Try.prog 104 #[.int .i64 n, .bool b] w fun e w' =>
    ((0 ≤ n ∧ n ≤ 2147483647) ∧ ∃ A c, e = .returned (.tuple #[.slice A 4 c, .bool true]) ∧ Rd .u8 w' A 4 c (lF (numL (wrd5 n b) 4)) ∧ Below w.heap.size w w') ∨ (¬ (0 ≤ n ∧ n ≤ 2147483647) ∧ e = .returned (.tuple #[.slice none 0 0, .bool false]) ∧ Below w.heap.size w w') := by
  by_cases h0 : n < 0
  · have d0 : decide (n < 0) = true := decide_eq_true h0
    go_enter Try.func104, Try.ntmps104
    go_wp2_with fail
    go_ret2
    exact .inr ⟨by omega, rfl, Below.refl _ _⟩
  have d0 : decide (n < 0) = false := decide_eq_false h0
  by_cases h1 : 2147483647 < n
  · have d1 : decide ((2147483647 : Int) < n) = true := decide_eq_true h1
    clear h0
    go_enter Try.func104, Try.ntmps104
    go_wp2_with fail
    go_ret2
    exact .inr ⟨by omega, rfl, Below.refl _ _⟩
  have d1 : decide ((2147483647 : Int) < n) = false := decide_eq_false h1
  have hn : Hid (0 ≤ n ∧ n ≤ 2147483647) := ⟨by omega, by omega⟩
  have hr := wrd_rng (b := b) hn.out
  have hw : IntKind.i64.wrap (n + 2147483648) = n + 2147483648 := IntWalk.i64_in _ (by omega)
  obtain ⟨x, hx⟩ : ∃ x, x = wrd5 n b := ⟨_, rfl⟩
  rw [← hx] at hr ⊢
  have C := hide (rputL none 0 0 4 4 4 x rfl rfl (fun _ => 0) w (Rd.nil _ _ _) (by decide) (by decide) (by decide) hr.1 hr.2)
  clear hr h0 h1
  cases b
  all_goals
    simp only [wrd5, Bool.false_eq_true, if_false, if_true] at hx
    have HX := hide hx
    go_enter Try.func104, Try.ntmps104
    subst hx
    go_wp2_with fail
    refine C.out.mono ?_
    rintro e w1 ⟨A1, c1, rfl, ho, hb1⟩
    have R1 := hide (Gave0.lst ho)
    have B1 := hide hb1
    clear ho hb1
    go_wp2_with fail
    go_ret2
    exact .inl ⟨hn.out, A1, c1, rfl, R1.out, B1.out⟩
def Rb5 (X : Fm5) (w : World) (e : Ending) (w' : World) : Prop :=
  Below w.heap.size w w' ∧ ((X.ROk ∧ ∃ A c, e = .returned (.tuple #[.slice A X.emL.length c, .bool true]) ∧ Rd .u8 w' A X.emL.length c (lF X.emL)) ∨ (¬ X.ROk ∧ e = .returned (.tuple #[.slice none 0 0, .bool false])))
theorem rd_one5 (w : World) (x : Int) (h : 0 ≤ x ∧ x ≤ 255) : Rd .u8 (w.alloc (.cells #[.int .u8 x] 5)) (some ⟨w.heap.size, 0, none⟩) 1 1 (lF (numL x 1)) :=
  rd_congr5 (Rd.one .u8 5 w x) rfl fun i hi => by
    obtain rfl : i = 0 := by omega
    have e : byteAt x 1 0 = x := by unfold byteAt; simp; omega
    simp [lF, numL, List.range_succ, oneF, e]
/-- Bytes of one's own at a list, beside a frame. -/
structure St5 (w : World) (U : World) (v : Value) (L : List Int) (F : Array Value) : Prop where
  ow : Own .u8 5 (w.heap.size + 1) U v L.length (lF L)
  rf : U.heap[w.heap.size]? = some (.cells F 25 (0, 0))
  be : Below w.heap.size w U
theorem St5.below {w U U' : World} {v : Value} {L : List Int} {F : Array Value} (h : St5 w U v L F) (hb : Below U.heap.size U U') : St5 w U' v L F :=
  ⟨h.ow.below hb, keepRow h.rf hb, h.be.of hb⟩
theorem St5.drew {w U : World} {v : Value} {L : List Int} {F : Array Value} (h : St5 w U v L F) : St5 w U.drew v L F := ⟨h.ow, h.rf, h.be.drew⟩
theorem St5.rd {w U : World} {A : Option Addr} {n c : Nat} {L : List Int} {F : Array Value} (h : St5 w U (.slice A n c) L F) : n = L.length ∧ Rd .u8 U A L.length c (lF L) := by
  obtain ⟨A', c', e, hr, _⟩ := h.ow.rd
  injection e with e1 e2 e3
  subst e1 e3
  exact ⟨e2, hr⟩
theorem St5.undrew {w U : World} {v : Value} {L : List Int} {F : Array Value} (h : St5 w U.drew v L F) (hb : Below w.heap.size w U) : St5 w U v L F := ⟨h.ow, h.rf, hb⟩
theorem St5.app {w U U' : World} {v v' : Value} {L M : List Int} {F : Array Value} {f g : Nat → Int} {n m : Nat} (h : St5 w U v L F) (ho : Own .u8 5 (w.heap.size + 1) U' v' (n + m) (catF n f g)) (hg : U.grownBy U' v.ownBlock) (hn : n = L.length) (hm : m = M.length) (hf : f = lF L) (hq : ∀ i, i < m → g i = lF M i) : St5 w U' v' (L ++ M) F := by
  subst hn hm hf
  have hne : v.ownBlock ≠ some w.heap.size := fun e => by have := (World.ownsRow.lt h.ow _ e).1; omega
  refine ⟨?_, keepGrown h.rf hg hne, h.be.grown hg (by have := h.be.size; omega) fun k e => by have := (World.ownsRow.lt h.ow k e).1; omega⟩
  rw [List.length_append]
  refine Own.congr ho fun i hi => ?_
  rw [lF_app hi]
  unfold catF
  by_cases hl : i < L.length
  · rw [if_pos hl, if_pos hl]
  · rw [if_neg hl, if_neg hl, hq _ (by omega)]
theorem rd_grown5 {w w' : World} {A : Option Addr} {n c : Nat} {f : Nat → Int} {row : Option Nat} (h : Rd .u8 w A n c f) (hg : w.grownBy w' row) (hne : ∀ k, row = some k → ∀ a, A = some a → k ≠ a.block) : Rd .u8 w' A n c f :=
  ⟨h.1, h.2.1, h.2.2.1, fun hn => by
    obtain ⟨b, off, hA, hc⟩ := h.2.2.2 hn
    refine ⟨b, off, hA, fun i hi => ?_⟩
    exact World.grownBy.cell hg (hc i hi) (fun e => hne b e.symm _ hA rfl)⟩
theorem ne_own5 {e : TypeId} {B : Nat} {U U' : World} {v : Value} {n m c : Nat} {f g : Nat → Int} {A : Option Addr} (h : Own .u8 e B U v n f) (ho : Own .u8 e U.heap.size U' (.slice A m c) m g) : ∀ k, v.ownBlock = some k → ∀ a, A = some a → k ≠ a.block := fun k hk a ha he => by
  subst ha
  have h1 := (World.ownsRow.lt h k hk).2
  have h2 := (World.ownsRow.lt ho a.block rfl).1
  omega
theorem wordG (n : Int) (b : Bool) (w : World) : Calls Try.prog 104 #[.int .i64 n, .bool b] w fun e w' => ∃ A m c ok, e = .returned (.tuple #[.slice A m c, .bool ok]) ∧ Below w.heap.size w w' :=
  (word15 n b w).mono fun e w' h => by
    rcases h with ⟨_, A, c, rfl, _, hb⟩ | ⟨_, rfl, hb⟩
    · exact ⟨A, 4, c, true, rfl, hb⟩
    · exact ⟨none, 0, 0, false, rfl, hb⟩
theorem wrd5_f (n : Int) : wrd5 n false = n := rfl
set_option maxRecDepth 20000 in
set_option maxHeartbeats 6400000 in
theorem rb_f_no (T fl st pad : Int) (A2 : Option Addr) (nd c2 : Nat) (d : Nat → Int) (A3 : Option Addr) (ns c3 : Nat) (s g : Nat → Int) (wt pa : Int) (al : Bool) (pm la co sp : Int) (hfl : fl ≤ 9223372036854775807) (hnd : nd ≤ 100000) (hns : ns ≤ 1000) (e3 : hsB T fl 3 = false) (hT : (T == 2) = false) (e5 : hsB T fl 5 = false) (w : World) (hd : Rd .u8 w A2 nd c2 d) (hs2 : Rd2 w A3 ns c3 s g) :
    Calls Try.prog 61 #[.agg #[.int .i64 T, .int .i64 fl, .int .i64 st, .int .i64 pad, .slice A2 nd c2, .slice A3 ns c3, .int .i64 wt, .int .i64 pa, .bool al, .int .i64 pm, .int .i64 la, .int .i64 co, .int .i64 sp]] w (Rb5 (⟨T, fl, st, pad, nd, d, ns, s, g, wt, pa, al, pm, la, co, sp⟩ : Fm5) w) := by
  obtain ⟨i0, hi, hz0, hz1, hz2⟩ := info_parts u8_info
  have hP3 : Hid ((⟨T, fl, st, pad, nd, d, ns, s, g, wt, pa, al, pm, la, co, sp⟩ : Fm5).P3 = false) := e3
  have hP5 : Hid (¬ (⟨T, fl, st, pad, nd, d, ns, s, g, wt, pa, al, pm, la, co, sp⟩ : Fm5).P5) := by
    show ¬ (T = 2 ∨ hsB T fl 5 = true)
    rw [e5]; simp at hT; simp [hT]
  have S0 : Hid (St5 w (w.alloc (.cells #[.int .i64 T, .int .i64 fl, .int .i64 st, .int .i64 pad, .slice A2 nd c2, .slice A3 ns c3, .int .i64 wt, .int .i64 pa, .bool al, .int .i64 pm, .int .i64 la, .int .i64 co, .int .i64 sp] 25)) (.slice none 0 0) [] #[.int .i64 T, .int .i64 fl, .int .i64 st, .int .i64 pad, .slice A2 nd c2, .slice A3 ns c3, .int .i64 wt, .int .i64 pa, .bool al, .int .i64 pm, .int .i64 la, .int .i64 co, .int .i64 sp]) := ⟨Own.nil _ _ _ _ _, heap_alloc_new _ _, (Below.refl _ _).alloc (Nat.le_refl _) _⟩
  have HD := hide hd
  have HS2 := hide hs2
  clear hd hs2
  go_enter Try.func61, Try.ntmps61
  go_upto_region 2 with (fail)
  generalize hW : w.alloc (.cells #[.int .i64 T, .int .i64 fl, .int .i64 st, .int .i64 pad, .slice A2 nd c2, .slice A3 ns c3, .int .i64 wt, .int .i64 pa, .bool al, .int .i64 pm, .int .i64 la, .int .i64 co, .int .i64 sp] 25) = U0 at *
  clear hW
  obtain ⟨x_0, x_1, x_2, x_3, x_4, x_5, x_6, x_7, x_8, x_9, x_10, x_11, x_12⟩ := row13 S0.out.rf
  go_wp2_with fail
  refine (rhasA_3 T fl hfl _).mono ?_
  rintro e u0 ⟨rfl, rfl⟩
  rw [e3]
  go_wp2_with fail
  refine (rhasA_5 T fl hfl _).mono ?_
  rintro e u0 ⟨rfl, rfl⟩
  rw [e5]
  go_wp2_with fail
  obtain ⟨a_0, a_1, a_2, a_3, a_4, a_5, a_6, a_7, a_8, a_9, a_10, a_11, a_12⟩ := row13 S0.out.rf
  have hl0 : ([] : List Int).length ≤ 6 := by simp [numL_len]
  obtain ⟨L0, hL0⟩ : ∃ L0, L0 = ([] : List Int) := ⟨_, rfl⟩
  have SG_ := S0.out
  rw [← hL0] at SG_ hl0
  have SG := hide SG_
  have HL0 := hide hL0
  clear hL0 SG_
  by_cases hco : 0 ≤ co ∧ co ≤ 4294967295
  rotate_left
  · refine (rputR none 0 0 4 co 4 rfl _ (by decide) (by decide) (by rw [show pw ((4 : Nat) : Int) = 4294967296 by decide]; omega)).mono ?_
    rintro e ux ⟨rfl, rfl⟩
    go_wp2_with fail
    refine (wordG la false _).mono ?_
    rintro e m0_la ⟨X0_la, n0_la, k0_la, o0_la, rfl, hbq⟩
    have T0_la := hide (SG.out.below hbq)
    clear hbq
    obtain ⟨w0la_0, w0la_1, w0la_2, w0la_3, w0la_4, w0la_5, w0la_6, w0la_7, w0la_8, w0la_9, w0la_10, w0la_11, w0la_12⟩ := row13 T0_la.out.rf
    go_wp2_with fail
    refine (wordG sp false _).mono ?_
    rintro e m0_sp ⟨X0_sp, n0_sp, k0_sp, o0_sp, rfl, hbq⟩
    have T0_sp := hide (T0_la.out.below hbq)
    clear hbq
    obtain ⟨w0sp_0, w0sp_1, w0sp_2, w0sp_3, w0sp_4, w0sp_5, w0sp_6, w0sp_7, w0sp_8, w0sp_9, w0sp_10, w0sp_11, w0sp_12⟩ := row13 T0_sp.out.rf
    go_wp2_with fail
    refine (wordG pm false _).mono ?_
    rintro e m0_pm ⟨X0_pm, n0_pm, k0_pm, o0_pm, rfl, hbq⟩
    have T0_pm := hide (T0_sp.out.below hbq)
    clear hbq
    obtain ⟨w0pm_0, w0pm_1, w0pm_2, w0pm_3, w0pm_4, w0pm_5, w0pm_6, w0pm_7, w0pm_8, w0pm_9, w0pm_10, w0pm_11, w0pm_12⟩ := row13 T0_pm.out.rf
    go_wp2_with fail
    go_ret2
    exact ⟨T0_pm.out.be, .inr ⟨fun h => hco h.2.2.1.1, rfl⟩⟩
  have C := hide (fun W => rputL none 0 0 4 4 4 co rfl rfl (fun _ => 0) W (Rd.nil _ _ _) (by decide) (by decide) (by decide) hco.1 (show co < pw 4 by rw [show pw 4 = 4294967296 by decide]; omega))
  have HCO := hide hco
  clear hco
  refine (C.out _).mono ?_
  rintro e ux ⟨Ac, cc, rfl, hoc, hbq⟩
  have Rco := hide (Gave0.lst hoc)
  have HNE := hide (ne_own5 SG.out.ow hoc)
  have Sco := hide (SG.out.below hbq)
  clear hbq hoc C
  obtain ⟨b_0, b_1, b_2, b_3, b_4, b_5, b_6, b_7, b_8, b_9, b_10, b_11, b_12⟩ := row13 Sco.out.rf
  go_wp2_with fail
  refine (word15 la false _).mono ?_
  rintro e ula (⟨hla, Ala, cla, rfl, hr, hbq⟩ | ⟨hla, rfl, hbq⟩)
  rotate_left
  · skip
    have Tn := hide (Sco.out.below hbq)
    have HN := hide hla
    clear hbq hla
    obtain ⟨g0_0, g0_1, g0_2, g0_3, g0_4, g0_5, g0_6, g0_7, g0_8, g0_9, g0_10, g0_11, g0_12⟩ := row13 Tn.out.rf
    go_wp2_with fail
    refine (wordG sp false _).mono ?_
    rintro e m1_sp ⟨X1_sp, n1_sp, k1_sp, o1_sp, rfl, hbq⟩
    have T1_sp := hide (Tn.out.below hbq)
    clear hbq
    obtain ⟨w1sp_0, w1sp_1, w1sp_2, w1sp_3, w1sp_4, w1sp_5, w1sp_6, w1sp_7, w1sp_8, w1sp_9, w1sp_10, w1sp_11, w1sp_12⟩ := row13 T1_sp.out.rf
    go_wp2_with fail
    refine (wordG pm false _).mono ?_
    rintro e m1_pm ⟨X1_pm, n1_pm, k1_pm, o1_pm, rfl, hbq⟩
    have T1_pm := hide (T1_sp.out.below hbq)
    clear hbq
    obtain ⟨w1pm_0, w1pm_1, w1pm_2, w1pm_3, w1pm_4, w1pm_5, w1pm_6, w1pm_7, w1pm_8, w1pm_9, w1pm_10, w1pm_11, w1pm_12⟩ := row13 T1_pm.out.rf
    go_wp2_with fail
    go_ret2
    exact ⟨T1_pm.out.be, .inr ⟨fun h => HN.out h.2.2.1.2.1, rfl⟩⟩
  have Sla := hide (Sco.out.below hbq)
  have Rla := hide hr
  have Hla := hide hla
  have Rcola := hide (Rco.out.below hbq)
  clear hbq hr hla
  obtain ⟨hla_0, hla_1, hla_2, hla_3, hla_4, hla_5, hla_6, hla_7, hla_8, hla_9, hla_10, hla_11, hla_12⟩ := row13 Sla.out.rf
  go_wp2_with fail
  refine (word15 sp false _).mono ?_
  rintro e usp (⟨hsp, Asp, csp, rfl, hr, hbq⟩ | ⟨hsp, rfl, hbq⟩)
  rotate_left
  · skip
    have Tn := hide (Sla.out.below hbq)
    have HN := hide hsp
    clear hbq hsp
    obtain ⟨g1_0, g1_1, g1_2, g1_3, g1_4, g1_5, g1_6, g1_7, g1_8, g1_9, g1_10, g1_11, g1_12⟩ := row13 Tn.out.rf
    go_wp2_with fail
    refine (wordG pm false _).mono ?_
    rintro e m2_pm ⟨X2_pm, n2_pm, k2_pm, o2_pm, rfl, hbq⟩
    have T2_pm := hide (Tn.out.below hbq)
    clear hbq
    obtain ⟨w2pm_0, w2pm_1, w2pm_2, w2pm_3, w2pm_4, w2pm_5, w2pm_6, w2pm_7, w2pm_8, w2pm_9, w2pm_10, w2pm_11, w2pm_12⟩ := row13 T2_pm.out.rf
    go_wp2_with fail
    go_ret2
    exact ⟨T2_pm.out.be, .inr ⟨fun h => HN.out h.2.2.1.2.2.1, rfl⟩⟩
  have Ssp := hide (Sla.out.below hbq)
  have Rsp := hide hr
  have Hsp := hide hsp
  have Rcolasp := hide (Rcola.out.below hbq)
  have Rlasp := hide (Rla.out.below hbq)
  clear hbq hr hsp
  obtain ⟨hsp_0, hsp_1, hsp_2, hsp_3, hsp_4, hsp_5, hsp_6, hsp_7, hsp_8, hsp_9, hsp_10, hsp_11, hsp_12⟩ := row13 Ssp.out.rf
  go_wp2_with fail
  refine (word15 pm false _).mono ?_
  rintro e upm (⟨hpm, Apm, cpm, rfl, hr, hbq⟩ | ⟨hpm, rfl, hbq⟩)
  rotate_left
  · skip
    have Tn := hide (Ssp.out.below hbq)
    have HN := hide hpm
    clear hbq hpm
    obtain ⟨g2_0, g2_1, g2_2, g2_3, g2_4, g2_5, g2_6, g2_7, g2_8, g2_9, g2_10, g2_11, g2_12⟩ := row13 Tn.out.rf
    go_wp2_with fail
    go_ret2
    exact ⟨Tn.out.be, .inr ⟨fun h => HN.out h.2.2.1.2.2.2, rfl⟩⟩
  have Spm := hide (Ssp.out.below hbq)
  have Rpm := hide hr
  have Hpm := hide hpm
  have Rcolasppm := hide (Rcolasp.out.below hbq)
  have Rlasppm := hide (Rlasp.out.below hbq)
  have Rsppm := hide (Rsp.out.below hbq)
  clear hbq hr hpm
  obtain ⟨hpm_0, hpm_1, hpm_2, hpm_3, hpm_4, hpm_5, hpm_6, hpm_7, hpm_8, hpm_9, hpm_10, hpm_11, hpm_12⟩ := row13 Spm.out.rf
  by_cases t3 : T = 3
  · subst t3
    go_upto_region 31 with (first | (at_builtin; refine wp_app rfl (.tmp 116) (.tmp 117) _ rfl i0 0 1 Try.underlying22 hi hz0 hz1 hz2 (w.heap.size + 1) _ _ _ rfl Spm.out.ow Ac 4 cc (lF (numL co 4)) rfl Rcolasppm.out (by simp only [maxLen]; first | (simp [numL_len]; done) | (simp [numL_len]; omega) | omega) (by first | (simp [numL_len]; done) | (simp [numL_len]; omega) | omega) (by have := Spm.out.be.size; have hz := rowLt Spm.out.rf; omega) ?_; intro v1 u1 ho1 hg1; have S1 := hide (Spm.out.app ho1 hg1 rfl rfl rfl (fun _ _ => rfl)); obtain ⟨A1_, c1_, rfl, _, _⟩ := ho1.rd; clear ho1 hg1))
    obtain ⟨p_0, p_1, p_2, p_3, p_4, p_5, p_6, p_7, p_8, p_9, p_10, p_11, p_12⟩ := row13 S1.out.rf
    have hpl : (L0 ++ (numL co 4)).length ≤ 6006 := by first | (simp [numL_len]; done) | (simp [numL_len]; omega) | omega
    obtain ⟨L, hL⟩ : ∃ L, L = (L0 ++ (numL co 4)) := ⟨_, rfl⟩
    have SL_ := S1.out
    rw [← hL] at SL_ hpl
    have SL := hide SL_
    have HL := hide hL
    clear hL SL_
    have hsz := rowLt SL.out.rf
    go_upto_region 32 with (first | (at_builtin; refine wp_app rfl (.tmp 149) (.tmp 151) _ rfl i0 0 1 Try.underlying22 hi hz0 hz1 hz2 (w.heap.size + 1) _ _ _ rfl SL.out.ow A2 nd c2 (lF ((List.range nd).map d)) rfl (rd_list (HD.out.below SL.out.be)) (by simp only [maxLen]; omega) (by omega) (by have := SL.out.be.size; have := rowLt SL.out.rf; omega) ?_; intro v2 u2 ho2 hg2; have S2 := hide (SL.out.app ho2 hg2 rfl (by simp) rfl (fun _ _ => rfl)); obtain ⟨A2_, c2_, rfl, _, _⟩ := ho2.rd; clear ho2 hg2))
    obtain ⟨r_0, r_1, r_2, r_3, r_4, r_5, r_6, r_7, r_8, r_9, r_10, r_11, r_12⟩ := row13 S2.out.rf
    go_wp2_with fail
    refine (rhasA_3 3 fl hfl _).mono ?_
    rintro e uu ⟨rfl, rfl⟩
    rw [e3]
    go_wp2_with fail
    go_ret2
    have hem : (⟨3, fl, st, pad, nd, d, ns, s, g, wt, pa, al, pm, la, co, sp⟩ : Fm5).emL = L ++ (List.range nd).map d := by
      rw [HL.out, HL0.out]
      simp [Fm5.emL, Fm5.padL, Fm5.prL, Fm5.tyL, Fm5.dL, Fm5.zL, Fm5.setL, hP3.out, hP5.out, wrd5_f, hT]
    have hfin := S2.out.rd
    refine ⟨S2.out.be, .inl ⟨⟨fun h => absurd h (by show ¬ (_ = true); rw [show Fm5.P3 _ = false from hP3.out]; decide), fun h => absurd h hP5.out, ⟨HCO.out, Hla.out, Hsp.out, Hpm.out⟩, fun (h : (3 : Int) = 4) => absurd h (by decide)⟩, A2_, c2_, ?_, by rw [hem]; exact hfin.2⟩⟩
    have hn2 : L.length + nd = (L ++ (List.range nd).map d).length := by simp
    rw [hem, ← hn2]
    rfl
  have n3 : (T == 3) = false := by simpa using t3
  by_cases t4 : T = 4
  · subst t4
    go_wp2_with fail
    refine (rsput_any A3 ns c3 s g _ (HS2.out.below Spm.out.be) (by omega)).mono ?_
    rintro e Us (⟨hyes, As, cs, rfl, hrs, hbs⟩ | ⟨hno, rfl, hbs⟩)
    rotate_left
    · have Tn := hide (Spm.out.below hbs)
      have HN := hide hno
      clear hbs hno
      go_wp2_with fail
      go_ret2
      exact ⟨Tn.out.be, .inr ⟨fun h => HN.out (h.2.2.2 rfl), rfl⟩⟩
    have HY := hide hyes
    have Ss := hide (Spm.out.below hbs)
    have Rs := hide (sb_list hrs)
    clear hyes hrs hbs
    obtain ⟨j_0, j_1, j_2, j_3, j_4, j_5, j_6, j_7, j_8, j_9, j_10, j_11, j_12⟩ := row13 Ss.out.rf
    go_upto_region 31 with (first | (at_builtin; refine wp_app rfl (.tmp 129) (.tmp 130) _ rfl i0 0 1 Try.underlying22 hi hz0 hz1 hz2 (w.heap.size + 1) _ _ _ rfl Ss.out.ow As (ns * 6) cs (lF ((List.range (ns * 6)).map (sB s g))) rfl Rs.out (by simp only [maxLen]; first | (simp [numL_len]; done) | (simp [numL_len]; omega) | omega) (by first | (simp [numL_len]; done) | (simp [numL_len]; omega) | omega) (by have := Ss.out.be.size; have hz := rowLt Ss.out.rf; omega) ?_; intro v3 u3 ho3 hg3; have S3 := hide (Ss.out.app ho3 hg3 rfl (by simp) rfl (fun _ _ => rfl)); obtain ⟨A3_, c3_, rfl, _, _⟩ := ho3.rd; clear ho3 hg3))
    obtain ⟨p_0, p_1, p_2, p_3, p_4, p_5, p_6, p_7, p_8, p_9, p_10, p_11, p_12⟩ := row13 S3.out.rf
    have hpl : (L0 ++ (List.range (ns * 6)).map (sB s g)).length ≤ 6006 := by first | (simp [numL_len]; done) | (simp [numL_len]; omega) | omega
    obtain ⟨L, hL⟩ : ∃ L, L = (L0 ++ (List.range (ns * 6)).map (sB s g)) := ⟨_, rfl⟩
    have SL_ := S3.out
    rw [← hL] at SL_ hpl
    have SL := hide SL_
    have HL := hide hL
    clear hL SL_
    have hsz := rowLt SL.out.rf
    go_upto_region 32 with (first | (at_builtin; refine wp_app rfl (.tmp 149) (.tmp 151) _ rfl i0 0 1 Try.underlying22 hi hz0 hz1 hz2 (w.heap.size + 1) _ _ _ rfl SL.out.ow A2 nd c2 (lF ((List.range nd).map d)) rfl (rd_list (HD.out.below SL.out.be)) (by simp only [maxLen]; omega) (by omega) (by have := SL.out.be.size; have := rowLt SL.out.rf; omega) ?_; intro v4 u4 ho4 hg4; have S4 := hide (SL.out.app ho4 hg4 rfl (by simp) rfl (fun _ _ => rfl)); obtain ⟨A4_, c4_, rfl, _, _⟩ := ho4.rd; clear ho4 hg4))
    obtain ⟨r_0, r_1, r_2, r_3, r_4, r_5, r_6, r_7, r_8, r_9, r_10, r_11, r_12⟩ := row13 S4.out.rf
    go_wp2_with fail
    refine (rhasA_3 4 fl hfl _).mono ?_
    rintro e uu ⟨rfl, rfl⟩
    rw [e3]
    go_wp2_with fail
    go_ret2
    have hem : (⟨4, fl, st, pad, nd, d, ns, s, g, wt, pa, al, pm, la, co, sp⟩ : Fm5).emL = L ++ (List.range nd).map d := by
      rw [HL.out, HL0.out]
      simp [Fm5.emL, Fm5.padL, Fm5.prL, Fm5.tyL, Fm5.dL, Fm5.zL, Fm5.setL, hP3.out, hP5.out, wrd5_f, hT]
    have hfin := S4.out.rd
    refine ⟨S4.out.be, .inl ⟨⟨fun h => absurd h (by show ¬ (_ = true); rw [show Fm5.P3 _ = false from hP3.out]; decide), fun h => absurd h hP5.out, ⟨HCO.out, Hla.out, Hsp.out, Hpm.out⟩, fun _ => HY.out⟩, A4_, c4_, ?_, by rw [hem]; exact hfin.2⟩⟩
    have hn2 : L.length + nd = (L ++ (List.range nd).map d).length := by simp
    rw [hem, ← hn2]
    rfl
  have n4 : (T == 4) = false := by simpa using t4
  by_cases t5 : T = 5
  · subst t5
    go_upto_region 31 with (first | (at_builtin; refine wp_app rfl (.tmp 134) (.tmp 135) _ rfl i0 0 1 Try.underlying22 hi hz0 hz1 hz2 (w.heap.size + 1) _ _ _ rfl Spm.out.ow Apm 4 cpm (lF (numL (wrd5 pm false) 4)) rfl Rpm.out (by simp only [maxLen]; first | (simp [numL_len]; done) | (simp [numL_len]; omega) | omega) (by first | (simp [numL_len]; done) | (simp [numL_len]; omega) | omega) (by have := Spm.out.be.size; have hz := rowLt Spm.out.rf; omega) ?_; intro v5 u5 ho5 hg5; have S5 := hide (Spm.out.app ho5 hg5 rfl rfl rfl (fun _ _ => rfl)); obtain ⟨A5_, c5_, rfl, _, _⟩ := ho5.rd; clear ho5 hg5))
    obtain ⟨p_0, p_1, p_2, p_3, p_4, p_5, p_6, p_7, p_8, p_9, p_10, p_11, p_12⟩ := row13 S5.out.rf
    have hpl : (L0 ++ (numL (wrd5 pm false) 4)).length ≤ 6006 := by first | (simp [numL_len]; done) | (simp [numL_len]; omega) | omega
    obtain ⟨L, hL⟩ : ∃ L, L = (L0 ++ (numL (wrd5 pm false) 4)) := ⟨_, rfl⟩
    have SL_ := S5.out
    rw [← hL] at SL_ hpl
    have SL := hide SL_
    have HL := hide hL
    clear hL SL_
    have hsz := rowLt SL.out.rf
    go_upto_region 32 with (first | (at_builtin; refine wp_app rfl (.tmp 149) (.tmp 151) _ rfl i0 0 1 Try.underlying22 hi hz0 hz1 hz2 (w.heap.size + 1) _ _ _ rfl SL.out.ow A2 nd c2 (lF ((List.range nd).map d)) rfl (rd_list (HD.out.below SL.out.be)) (by simp only [maxLen]; omega) (by omega) (by have := SL.out.be.size; have := rowLt SL.out.rf; omega) ?_; intro v6 u6 ho6 hg6; have S6 := hide (SL.out.app ho6 hg6 rfl (by simp) rfl (fun _ _ => rfl)); obtain ⟨A6_, c6_, rfl, _, _⟩ := ho6.rd; clear ho6 hg6))
    obtain ⟨r_0, r_1, r_2, r_3, r_4, r_5, r_6, r_7, r_8, r_9, r_10, r_11, r_12⟩ := row13 S6.out.rf
    go_wp2_with fail
    refine (rhasA_3 5 fl hfl _).mono ?_
    rintro e uu ⟨rfl, rfl⟩
    rw [e3]
    go_wp2_with fail
    go_ret2
    have hem : (⟨5, fl, st, pad, nd, d, ns, s, g, wt, pa, al, pm, la, co, sp⟩ : Fm5).emL = L ++ (List.range nd).map d := by
      rw [HL.out, HL0.out]
      simp [Fm5.emL, Fm5.padL, Fm5.prL, Fm5.tyL, Fm5.dL, Fm5.zL, Fm5.setL, hP3.out, hP5.out, wrd5_f, hT]
    have hfin := S6.out.rd
    refine ⟨S6.out.be, .inl ⟨⟨fun h => absurd h (by show ¬ (_ = true); rw [show Fm5.P3 _ = false from hP3.out]; decide), fun h => absurd h hP5.out, ⟨HCO.out, Hla.out, Hsp.out, Hpm.out⟩, fun (h : (5 : Int) = 4) => absurd h (by decide)⟩, A6_, c6_, ?_, by rw [hem]; exact hfin.2⟩⟩
    have hn2 : L.length + nd = (L ++ (List.range nd).map d).length := by simp
    rw [hem, ← hn2]
    rfl
  have n5 : (T == 5) = false := by simpa using t5
  by_cases t7 : T = 7
  · subst t7
    go_upto_region 31 with (first | (at_builtin; refine wp_app rfl (.tmp 141) (.tmp 142) _ rfl i0 0 1 Try.underlying22 hi hz0 hz1 hz2 (w.heap.size + 1) _ _ _ rfl Sb.out.ow Ac 4 cc (lF (numL co 4)) rfl RX.out (by simp only [maxLen]; first | (simp [numL_len]; done) | (simp [numL_len]; omega) | omega) (by first | (simp [numL_len]; done) | (simp [numL_len]; omega) | omega) (by have := Sb.out.be.size; have hz := rowLt Sb.out.rf; omega) ?_; intro v8 u8 ho8 hg8; have S8 := hide (Sb.out.app ho8 hg8 rfl rfl rfl (fun _ _ => rfl)); obtain ⟨A8_, c8_, rfl, _, _⟩ := ho8.rd; clear ho8 hg8) | (at_builtin; refine wp_app rfl (.tmp 139) (.tmp 140) _ rfl i0 0 1 Try.underlying22 hi hz0 hz1 hz2 (w.heap.size + 1) _ _ _ rfl Spm.out.ow Ala 4 cla (lF (numL (wrd5 la false) 4)) rfl Rlasppm.out (by simp only [maxLen]; first | (simp [numL_len]; done) | (simp [numL_len]; omega) | omega) (by first | (simp [numL_len]; done) | (simp [numL_len]; omega) | omega) (by have := Spm.out.be.size; have hz := rowLt Spm.out.rf; omega) ?_; intro v7 u7 ho7 hg7; have S7 := hide (Spm.out.app ho7 hg7 rfl rfl rfl (fun _ _ => rfl)); obtain ⟨A7_, c7_, rfl, _, _⟩ := ho7.rd; have RX := hide (rd_grown5 Rcolasppm.out hg7 HNE.out); obtain ⟨L1, hL1⟩ : ∃ L1, L1 = (L0 ++ (numL (wrd5 la false) 4)) := ⟨_, rfl⟩; have Sb_ := S7.out; rw [← hL1] at Sb_; have Sb := hide Sb_; have hl1 : L1.length ≤ 10 := (by rw [hL1]; have := hl0; simp [numL_len]; omega); have HL1 := hide hL1; clear hL1 Sb_ ho7 hg7))
    obtain ⟨p_0, p_1, p_2, p_3, p_4, p_5, p_6, p_7, p_8, p_9, p_10, p_11, p_12⟩ := row13 S8.out.rf
    have hpl : (L1 ++ (numL co 4)).length ≤ 6006 := by first | (simp [numL_len]; done) | (simp [numL_len]; omega) | omega
    obtain ⟨L, hL⟩ : ∃ L, L = (L1 ++ (numL co 4)) := ⟨_, rfl⟩
    have SL_ := S8.out
    rw [← hL] at SL_ hpl
    have SL := hide SL_
    have HL := hide hL
    clear hL SL_
    have hsz := rowLt SL.out.rf
    go_upto_region 32 with (first | (at_builtin; refine wp_app rfl (.tmp 149) (.tmp 151) _ rfl i0 0 1 Try.underlying22 hi hz0 hz1 hz2 (w.heap.size + 1) _ _ _ rfl SL.out.ow A2 nd c2 (lF ((List.range nd).map d)) rfl (rd_list (HD.out.below SL.out.be)) (by simp only [maxLen]; omega) (by omega) (by have := SL.out.be.size; have := rowLt SL.out.rf; omega) ?_; intro v9 u9 ho9 hg9; have S9 := hide (SL.out.app ho9 hg9 rfl (by simp) rfl (fun _ _ => rfl)); obtain ⟨A9_, c9_, rfl, _, _⟩ := ho9.rd; clear ho9 hg9))
    obtain ⟨r_0, r_1, r_2, r_3, r_4, r_5, r_6, r_7, r_8, r_9, r_10, r_11, r_12⟩ := row13 S9.out.rf
    go_wp2_with fail
    refine (rhasA_3 7 fl hfl _).mono ?_
    rintro e uu ⟨rfl, rfl⟩
    rw [e3]
    go_wp2_with fail
    go_ret2
    have hem : (⟨7, fl, st, pad, nd, d, ns, s, g, wt, pa, al, pm, la, co, sp⟩ : Fm5).emL = L ++ (List.range nd).map d := by
      rw [HL.out, HL1.out, HL0.out]
      simp [Fm5.emL, Fm5.padL, Fm5.prL, Fm5.tyL, Fm5.dL, Fm5.zL, Fm5.setL, hP3.out, hP5.out, wrd5_f, hT]
    have hfin := S9.out.rd
    refine ⟨S9.out.be, .inl ⟨⟨fun h => absurd h (by show ¬ (_ = true); rw [show Fm5.P3 _ = false from hP3.out]; decide), fun h => absurd h hP5.out, ⟨HCO.out, Hla.out, Hsp.out, Hpm.out⟩, fun (h : (7 : Int) = 4) => absurd h (by decide)⟩, A9_, c9_, ?_, by rw [hem]; exact hfin.2⟩⟩
    have hn2 : L.length + nd = (L ++ (List.range nd).map d).length := by simp
    rw [hem, ← hn2]
    rfl
  have n7 : (T == 7) = false := by simpa using t7
  by_cases t8 : T = 8
  · subst t8
    go_upto_region 31 with (first | (at_builtin; refine wp_app rfl (.tmp 146) (.tmp 147) _ rfl i0 0 1 Try.underlying22 hi hz0 hz1 hz2 (w.heap.size + 1) _ _ _ rfl Spm.out.ow Asp 4 csp (lF (numL (wrd5 sp false) 4)) rfl Rsppm.out (by simp only [maxLen]; first | (simp [numL_len]; done) | (simp [numL_len]; omega) | omega) (by first | (simp [numL_len]; done) | (simp [numL_len]; omega) | omega) (by have := Spm.out.be.size; have hz := rowLt Spm.out.rf; omega) ?_; intro v10 u10 ho10 hg10; have S10 := hide (Spm.out.app ho10 hg10 rfl rfl rfl (fun _ _ => rfl)); obtain ⟨A10_, c10_, rfl, _, _⟩ := ho10.rd; clear ho10 hg10))
    obtain ⟨p_0, p_1, p_2, p_3, p_4, p_5, p_6, p_7, p_8, p_9, p_10, p_11, p_12⟩ := row13 S10.out.rf
    have hpl : (L0 ++ (numL (wrd5 sp false) 4)).length ≤ 6006 := by first | (simp [numL_len]; done) | (simp [numL_len]; omega) | omega
    obtain ⟨L, hL⟩ : ∃ L, L = (L0 ++ (numL (wrd5 sp false) 4)) := ⟨_, rfl⟩
    have SL_ := S10.out
    rw [← hL] at SL_ hpl
    have SL := hide SL_
    have HL := hide hL
    clear hL SL_
    have hsz := rowLt SL.out.rf
    go_upto_region 32 with (first | (at_builtin; refine wp_app rfl (.tmp 149) (.tmp 151) _ rfl i0 0 1 Try.underlying22 hi hz0 hz1 hz2 (w.heap.size + 1) _ _ _ rfl SL.out.ow A2 nd c2 (lF ((List.range nd).map d)) rfl (rd_list (HD.out.below SL.out.be)) (by simp only [maxLen]; omega) (by omega) (by have := SL.out.be.size; have := rowLt SL.out.rf; omega) ?_; intro v11 u11 ho11 hg11; have S11 := hide (SL.out.app ho11 hg11 rfl (by simp) rfl (fun _ _ => rfl)); obtain ⟨A11_, c11_, rfl, _, _⟩ := ho11.rd; clear ho11 hg11))
    obtain ⟨r_0, r_1, r_2, r_3, r_4, r_5, r_6, r_7, r_8, r_9, r_10, r_11, r_12⟩ := row13 S11.out.rf
    go_wp2_with fail
    refine (rhasA_3 8 fl hfl _).mono ?_
    rintro e uu ⟨rfl, rfl⟩
    rw [e3]
    go_wp2_with fail
    go_ret2
    have hem : (⟨8, fl, st, pad, nd, d, ns, s, g, wt, pa, al, pm, la, co, sp⟩ : Fm5).emL = L ++ (List.range nd).map d := by
      rw [HL.out, HL0.out]
      simp [Fm5.emL, Fm5.padL, Fm5.prL, Fm5.tyL, Fm5.dL, Fm5.zL, Fm5.setL, hP3.out, hP5.out, wrd5_f, hT]
    have hfin := S11.out.rd
    refine ⟨S11.out.be, .inl ⟨⟨fun h => absurd h (by show ¬ (_ = true); rw [show Fm5.P3 _ = false from hP3.out]; decide), fun h => absurd h hP5.out, ⟨HCO.out, Hla.out, Hsp.out, Hpm.out⟩, fun (h : (8 : Int) = 4) => absurd h (by decide)⟩, A11_, c11_, ?_, by rw [hem]; exact hfin.2⟩⟩
    have hn2 : L.length + nd = (L ++ (List.range nd).map d).length := by simp
    rw [hem, ← hn2]
    rfl
  have n8 : (T == 8) = false := by simpa using t8
  go_upto_region 31 with (fail)
  obtain ⟨p_0, p_1, p_2, p_3, p_4, p_5, p_6, p_7, p_8, p_9, p_10, p_11, p_12⟩ := row13 Spm.out.rf
  have hpl : L0.length ≤ 6006 := by first | (simp [numL_len]; done) | (simp [numL_len]; omega) | omega
  obtain ⟨L, hL⟩ : ∃ L, L = L0 := ⟨_, rfl⟩
  have SL_ := Spm.out
  rw [← hL] at SL_ hpl
  have SL := hide SL_
  have HL := hide hL
  clear hL SL_
  have hsz := rowLt SL.out.rf
  go_upto_region 32 with (first | (at_builtin; refine wp_app rfl (.tmp 149) (.tmp 151) _ rfl i0 0 1 Try.underlying22 hi hz0 hz1 hz2 (w.heap.size + 1) _ _ _ rfl SL.out.ow A2 nd c2 (lF ((List.range nd).map d)) rfl (rd_list (HD.out.below SL.out.be)) (by simp only [maxLen]; omega) (by omega) (by have := SL.out.be.size; have := rowLt SL.out.rf; omega) ?_; intro v12 u12 ho12 hg12; have S12 := hide (SL.out.app ho12 hg12 rfl (by simp) rfl (fun _ _ => rfl)); obtain ⟨A12_, c12_, rfl, _, _⟩ := ho12.rd; clear ho12 hg12))
  obtain ⟨r_0, r_1, r_2, r_3, r_4, r_5, r_6, r_7, r_8, r_9, r_10, r_11, r_12⟩ := row13 S12.out.rf
  go_wp2_with fail
  refine (rhasA_3 T fl hfl _).mono ?_
  rintro e uu ⟨rfl, rfl⟩
  rw [e3]
  go_wp2_with fail
  go_ret2
  have hem : (⟨T, fl, st, pad, nd, d, ns, s, g, wt, pa, al, pm, la, co, sp⟩ : Fm5).emL = L ++ (List.range nd).map d := by
    rw [HL.out, HL0.out]
    simp [Fm5.emL, Fm5.padL, Fm5.prL, Fm5.tyL, Fm5.dL, Fm5.zL, Fm5.setL, hP3.out, hP5.out, wrd5_f, t3, t4, t5, t7, t8]
  have hfin := S12.out.rd
  refine ⟨S12.out.be, .inl ⟨⟨fun h => absurd h (by show ¬ (_ = true); rw [show Fm5.P3 _ = false from hP3.out]; decide), fun h => absurd h hP5.out, ⟨HCO.out, Hla.out, Hsp.out, Hpm.out⟩, fun h => absurd h t4⟩, A12_, c12_, ?_, by rw [hem]; exact hfin.2⟩⟩
  have hn2 : L.length + nd = (L ++ (List.range nd).map d).length := by simp
  rw [hem, ← hn2]
  rfl
set_option maxRecDepth 20000 in
set_option maxHeartbeats 6400000 in
theorem rb_t_no (T fl st pad : Int) (A2 : Option Addr) (nd c2 : Nat) (d : Nat → Int) (A3 : Option Addr) (ns c3 : Nat) (s g : Nat → Int) (wt pa : Int) (al : Bool) (pm la co sp : Int) (hfl : fl ≤ 9223372036854775807) (hnd : nd ≤ 100000) (hns : ns ≤ 1000) (e3 : hsB T fl 3 = true) (hT : (T == 2) = false) (e5 : hsB T fl 5 = false) (w : World) (hd : Rd .u8 w A2 nd c2 d) (hs2 : Rd2 w A3 ns c3 s g) :
    Calls Try.prog 61 #[.agg #[.int .i64 T, .int .i64 fl, .int .i64 st, .int .i64 pad, .slice A2 nd c2, .slice A3 ns c3, .int .i64 wt, .int .i64 pa, .bool al, .int .i64 pm, .int .i64 la, .int .i64 co, .int .i64 sp]] w (Rb5 (⟨T, fl, st, pad, nd, d, ns, s, g, wt, pa, al, pm, la, co, sp⟩ : Fm5) w) := by
  obtain ⟨i0, hi, hz0, hz1, hz2⟩ := info_parts u8_info
  have hP3 : Hid ((⟨T, fl, st, pad, nd, d, ns, s, g, wt, pa, al, pm, la, co, sp⟩ : Fm5).P3 = true) := e3
  have hP5 : Hid (¬ (⟨T, fl, st, pad, nd, d, ns, s, g, wt, pa, al, pm, la, co, sp⟩ : Fm5).P5) := by
    show ¬ (T = 2 ∨ hsB T fl 5 = true)
    rw [e5]; simp at hT; simp [hT]
  have S0 : Hid (St5 w (w.alloc (.cells #[.int .i64 T, .int .i64 fl, .int .i64 st, .int .i64 pad, .slice A2 nd c2, .slice A3 ns c3, .int .i64 wt, .int .i64 pa, .bool al, .int .i64 pm, .int .i64 la, .int .i64 co, .int .i64 sp] 25)) (.slice none 0 0) [] #[.int .i64 T, .int .i64 fl, .int .i64 st, .int .i64 pad, .slice A2 nd c2, .slice A3 ns c3, .int .i64 wt, .int .i64 pa, .bool al, .int .i64 pm, .int .i64 la, .int .i64 co, .int .i64 sp]) := ⟨Own.nil _ _ _ _ _, heap_alloc_new _ _, (Below.refl _ _).alloc (Nat.le_refl _) _⟩
  have HD := hide hd
  have HS2 := hide hs2
  clear hd hs2
  go_enter Try.func61, Try.ntmps61
  go_upto_region 2 with (fail)
  generalize hW : w.alloc (.cells #[.int .i64 T, .int .i64 fl, .int .i64 st, .int .i64 pad, .slice A2 nd c2, .slice A3 ns c3, .int .i64 wt, .int .i64 pa, .bool al, .int .i64 pm, .int .i64 la, .int .i64 co, .int .i64 sp] 25) = U0 at *
  clear hW
  obtain ⟨x_0, x_1, x_2, x_3, x_4, x_5, x_6, x_7, x_8, x_9, x_10, x_11, x_12⟩ := row13 S0.out.rf
  go_wp2_with fail
  refine (rhasA_3 T fl hfl _).mono ?_
  rintro e u0 ⟨rfl, rfl⟩
  rw [e3]
  by_cases p0 : pad < 0
  · have q0 : decide (pad < 0) = true := decide_eq_true p0
    go_wp2_with fail
    go_ret2
    exact ⟨S0.out.be, .inr ⟨fun h => by have h1 := (h.1 hP3.out).1; have h2 : 0 ≤ pad := h1; omega, rfl⟩⟩
  have q0 : decide (pad < 0) = false := decide_eq_false p0
  by_cases p1 : 255 < pad
  · have q1 : decide ((255 : Int) < pad) = true := decide_eq_true p1
    go_wp2_with fail
    go_ret2
    exact ⟨S0.out.be, .inr ⟨fun h => by have h1 := (h.1 hP3.out).2; have h2 : pad ≤ 255 := h1; omega, rfl⟩⟩
  have q1 : decide ((255 : Int) < pad) = false := decide_eq_false p1
  have qw : IntKind.u8.wrap pad = pad := by rw [IntKind.wrap_u8]; omega
  have HP : Hid (0 ≤ pad ∧ pad ≤ 255) := ⟨by omega, by omega⟩
  clear p0 p1
  go_upto_region 6 with (first | (at_builtin; refine wp_app rfl (.tmp 30) (.tmp 34) _ rfl i0 0 1 Try.underlying22 hi hz0 hz1 hz2 (w.heap.size + 1) _ _ _ rfl (S0.out.below ((Below.refl U0.heap.size U0).alloc (Nat.le_refl _) (.cells #[.int .u8 pad] 5))).ow (some ⟨U0.heap.size, 0, none⟩) 1 1 (lF (numL pad 1)) rfl (rd_one5 U0 pad HP.out) (by simp only [maxLen]; simp) (by simp) (by have := (S0.out.below ((Below.refl U0.heap.size U0).alloc (Nat.le_refl _) (.cells #[.int .u8 pad] 5))).be.size; simp at this ⊢; have := S0.out.be.size; have := rowLt S0.out.rf; omega) ?_; intro v13 u13 ho13 hg13; have S13 := hide ((S0.out.below ((Below.refl U0.heap.size U0).alloc (Nat.le_refl _) (.cells #[.int .u8 pad] 5))).app ho13 hg13 rfl rfl rfl (fun _ _ => rfl)); obtain ⟨A13_, c13_, rfl, _, _⟩ := ho13.rd; clear ho13 hg13))
  clear q0 q1 qw
  obtain ⟨y_0, y_1, y_2, y_3, y_4, y_5, y_6, y_7, y_8, y_9, y_10, y_11, y_12⟩ := row13 S13.out.rf
  go_wp2_with fail
  refine (rhasA_5 T fl hfl _).mono ?_
  rintro e u0 ⟨rfl, rfl⟩
  rw [e5]
  go_wp2_with fail
  obtain ⟨a_0, a_1, a_2, a_3, a_4, a_5, a_6, a_7, a_8, a_9, a_10, a_11, a_12⟩ := row13 S13.out.rf
  have hl0 : (([] : List Int) ++ numL pad 1).length ≤ 6 := by simp [numL_len]
  obtain ⟨L0, hL0⟩ : ∃ L0, L0 = (([] : List Int) ++ numL pad 1) := ⟨_, rfl⟩
  have SG_ := S13.out
  rw [← hL0] at SG_ hl0
  have SG := hide SG_
  have HL0 := hide hL0
  clear hL0 SG_
  by_cases hco : 0 ≤ co ∧ co ≤ 4294967295
  rotate_left
  · refine (rputR none 0 0 4 co 4 rfl _ (by decide) (by decide) (by rw [show pw ((4 : Nat) : Int) = 4294967296 by decide]; omega)).mono ?_
    rintro e ux ⟨rfl, rfl⟩
    go_wp2_with fail
    refine (wordG la false _).mono ?_
    rintro e m0_la ⟨X0_la, n0_la, k0_la, o0_la, rfl, hbq⟩
    have T0_la := hide (SG.out.below hbq)
    clear hbq
    obtain ⟨w0la_0, w0la_1, w0la_2, w0la_3, w0la_4, w0la_5, w0la_6, w0la_7, w0la_8, w0la_9, w0la_10, w0la_11, w0la_12⟩ := row13 T0_la.out.rf
    go_wp2_with fail
    refine (wordG sp false _).mono ?_
    rintro e m0_sp ⟨X0_sp, n0_sp, k0_sp, o0_sp, rfl, hbq⟩
    have T0_sp := hide (T0_la.out.below hbq)
    clear hbq
    obtain ⟨w0sp_0, w0sp_1, w0sp_2, w0sp_3, w0sp_4, w0sp_5, w0sp_6, w0sp_7, w0sp_8, w0sp_9, w0sp_10, w0sp_11, w0sp_12⟩ := row13 T0_sp.out.rf
    go_wp2_with fail
    refine (wordG pm false _).mono ?_
    rintro e m0_pm ⟨X0_pm, n0_pm, k0_pm, o0_pm, rfl, hbq⟩
    have T0_pm := hide (T0_sp.out.below hbq)
    clear hbq
    obtain ⟨w0pm_0, w0pm_1, w0pm_2, w0pm_3, w0pm_4, w0pm_5, w0pm_6, w0pm_7, w0pm_8, w0pm_9, w0pm_10, w0pm_11, w0pm_12⟩ := row13 T0_pm.out.rf
    go_wp2_with fail
    go_ret2
    exact ⟨T0_pm.out.be, .inr ⟨fun h => hco h.2.2.1.1, rfl⟩⟩
  have C := hide (fun W => rputL none 0 0 4 4 4 co rfl rfl (fun _ => 0) W (Rd.nil _ _ _) (by decide) (by decide) (by decide) hco.1 (show co < pw 4 by rw [show pw 4 = 4294967296 by decide]; omega))
  have HCO := hide hco
  clear hco
  refine (C.out _).mono ?_
  rintro e ux ⟨Ac, cc, rfl, hoc, hbq⟩
  have Rco := hide (Gave0.lst hoc)
  have HNE := hide (ne_own5 SG.out.ow hoc)
  have Sco := hide (SG.out.below hbq)
  clear hbq hoc C
  obtain ⟨b_0, b_1, b_2, b_3, b_4, b_5, b_6, b_7, b_8, b_9, b_10, b_11, b_12⟩ := row13 Sco.out.rf
  go_wp2_with fail
  refine (word15 la false _).mono ?_
  rintro e ula (⟨hla, Ala, cla, rfl, hr, hbq⟩ | ⟨hla, rfl, hbq⟩)
  rotate_left
  · skip
    have Tn := hide (Sco.out.below hbq)
    have HN := hide hla
    clear hbq hla
    obtain ⟨g0_0, g0_1, g0_2, g0_3, g0_4, g0_5, g0_6, g0_7, g0_8, g0_9, g0_10, g0_11, g0_12⟩ := row13 Tn.out.rf
    go_wp2_with fail
    refine (wordG sp false _).mono ?_
    rintro e m1_sp ⟨X1_sp, n1_sp, k1_sp, o1_sp, rfl, hbq⟩
    have T1_sp := hide (Tn.out.below hbq)
    clear hbq
    obtain ⟨w1sp_0, w1sp_1, w1sp_2, w1sp_3, w1sp_4, w1sp_5, w1sp_6, w1sp_7, w1sp_8, w1sp_9, w1sp_10, w1sp_11, w1sp_12⟩ := row13 T1_sp.out.rf
    go_wp2_with fail
    refine (wordG pm false _).mono ?_
    rintro e m1_pm ⟨X1_pm, n1_pm, k1_pm, o1_pm, rfl, hbq⟩
    have T1_pm := hide (T1_sp.out.below hbq)
    clear hbq
    obtain ⟨w1pm_0, w1pm_1, w1pm_2, w1pm_3, w1pm_4, w1pm_5, w1pm_6, w1pm_7, w1pm_8, w1pm_9, w1pm_10, w1pm_11, w1pm_12⟩ := row13 T1_pm.out.rf
    go_wp2_with fail
    go_ret2
    exact ⟨T1_pm.out.be, .inr ⟨fun h => HN.out h.2.2.1.2.1, rfl⟩⟩
  have Sla := hide (Sco.out.below hbq)
  have Rla := hide hr
  have Hla := hide hla
  have Rcola := hide (Rco.out.below hbq)
  clear hbq hr hla
  obtain ⟨hla_0, hla_1, hla_2, hla_3, hla_4, hla_5, hla_6, hla_7, hla_8, hla_9, hla_10, hla_11, hla_12⟩ := row13 Sla.out.rf
  go_wp2_with fail
  refine (word15 sp false _).mono ?_
  rintro e usp (⟨hsp, Asp, csp, rfl, hr, hbq⟩ | ⟨hsp, rfl, hbq⟩)
  rotate_left
  · skip
    have Tn := hide (Sla.out.below hbq)
    have HN := hide hsp
    clear hbq hsp
    obtain ⟨g1_0, g1_1, g1_2, g1_3, g1_4, g1_5, g1_6, g1_7, g1_8, g1_9, g1_10, g1_11, g1_12⟩ := row13 Tn.out.rf
    go_wp2_with fail
    refine (wordG pm false _).mono ?_
    rintro e m2_pm ⟨X2_pm, n2_pm, k2_pm, o2_pm, rfl, hbq⟩
    have T2_pm := hide (Tn.out.below hbq)
    clear hbq
    obtain ⟨w2pm_0, w2pm_1, w2pm_2, w2pm_3, w2pm_4, w2pm_5, w2pm_6, w2pm_7, w2pm_8, w2pm_9, w2pm_10, w2pm_11, w2pm_12⟩ := row13 T2_pm.out.rf
    go_wp2_with fail
    go_ret2
    exact ⟨T2_pm.out.be, .inr ⟨fun h => HN.out h.2.2.1.2.2.1, rfl⟩⟩
  have Ssp := hide (Sla.out.below hbq)
  have Rsp := hide hr
  have Hsp := hide hsp
  have Rcolasp := hide (Rcola.out.below hbq)
  have Rlasp := hide (Rla.out.below hbq)
  clear hbq hr hsp
  obtain ⟨hsp_0, hsp_1, hsp_2, hsp_3, hsp_4, hsp_5, hsp_6, hsp_7, hsp_8, hsp_9, hsp_10, hsp_11, hsp_12⟩ := row13 Ssp.out.rf
  go_wp2_with fail
  refine (word15 pm false _).mono ?_
  rintro e upm (⟨hpm, Apm, cpm, rfl, hr, hbq⟩ | ⟨hpm, rfl, hbq⟩)
  rotate_left
  · skip
    have Tn := hide (Ssp.out.below hbq)
    have HN := hide hpm
    clear hbq hpm
    obtain ⟨g2_0, g2_1, g2_2, g2_3, g2_4, g2_5, g2_6, g2_7, g2_8, g2_9, g2_10, g2_11, g2_12⟩ := row13 Tn.out.rf
    go_wp2_with fail
    go_ret2
    exact ⟨Tn.out.be, .inr ⟨fun h => HN.out h.2.2.1.2.2.2, rfl⟩⟩
  have Spm := hide (Ssp.out.below hbq)
  have Rpm := hide hr
  have Hpm := hide hpm
  have Rcolasppm := hide (Rcolasp.out.below hbq)
  have Rlasppm := hide (Rlasp.out.below hbq)
  have Rsppm := hide (Rsp.out.below hbq)
  clear hbq hr hpm
  obtain ⟨hpm_0, hpm_1, hpm_2, hpm_3, hpm_4, hpm_5, hpm_6, hpm_7, hpm_8, hpm_9, hpm_10, hpm_11, hpm_12⟩ := row13 Spm.out.rf
  by_cases t3 : T = 3
  · subst t3
    go_upto_region 31 with (first | (at_builtin; refine wp_app rfl (.tmp 116) (.tmp 117) _ rfl i0 0 1 Try.underlying22 hi hz0 hz1 hz2 (w.heap.size + 1) _ _ _ rfl Spm.out.ow Ac 4 cc (lF (numL co 4)) rfl Rcolasppm.out (by simp only [maxLen]; first | (simp [numL_len]; done) | (simp [numL_len]; omega) | omega) (by first | (simp [numL_len]; done) | (simp [numL_len]; omega) | omega) (by have := Spm.out.be.size; have hz := rowLt Spm.out.rf; omega) ?_; intro v14 u14 ho14 hg14; have S14 := hide (Spm.out.app ho14 hg14 rfl rfl rfl (fun _ _ => rfl)); obtain ⟨A14_, c14_, rfl, _, _⟩ := ho14.rd; clear ho14 hg14))
    obtain ⟨p_0, p_1, p_2, p_3, p_4, p_5, p_6, p_7, p_8, p_9, p_10, p_11, p_12⟩ := row13 S14.out.rf
    have hpl : (L0 ++ (numL co 4)).length ≤ 6006 := by first | (simp [numL_len]; done) | (simp [numL_len]; omega) | omega
    obtain ⟨L, hL⟩ : ∃ L, L = (L0 ++ (numL co 4)) := ⟨_, rfl⟩
    have SL_ := S14.out
    rw [← hL] at SL_ hpl
    have SL := hide SL_
    have HL := hide hL
    clear hL SL_
    have hsz := rowLt SL.out.rf
    go_upto_region 32 with (first | (at_builtin; refine wp_app rfl (.tmp 149) (.tmp 151) _ rfl i0 0 1 Try.underlying22 hi hz0 hz1 hz2 (w.heap.size + 1) _ _ _ rfl SL.out.ow A2 nd c2 (lF ((List.range nd).map d)) rfl (rd_list (HD.out.below SL.out.be)) (by simp only [maxLen]; omega) (by omega) (by have := SL.out.be.size; have := rowLt SL.out.rf; omega) ?_; intro v15 u15 ho15 hg15; have S15 := hide (SL.out.app ho15 hg15 rfl (by simp) rfl (fun _ _ => rfl)); obtain ⟨A15_, c15_, rfl, _, _⟩ := ho15.rd; clear ho15 hg15))
    obtain ⟨r_0, r_1, r_2, r_3, r_4, r_5, r_6, r_7, r_8, r_9, r_10, r_11, r_12⟩ := row13 S15.out.rf
    go_wp2_with fail
    refine (rhasA_3 3 fl hfl _).mono ?_
    rintro e uu ⟨rfl, rfl⟩
    rw [e3]
    obtain ⟨N, rfl⟩ : ∃ N : Nat, pad = (N : Int) := ⟨pad.toNat, by have h := HP.out; omega⟩
    have hN : N ≤ 255 := by have h := HP.out; omega
    go_wp2_with (first | (at_builtin; refine wp_appZ rfl (.tmp 158) (.tmp 160) _ _ 9 rfl i0 Try.underlying22 Try.underlying3 Try.underlying9 hi hz0 hz1 hz2 (w.heap.size + 1) _ _ _ rfl S15.out.ow N rfl (by rw [List.length_append, List.length_map, List.length_range]; omega) (by have := rowLt S15.out.rf; omega) ?_; intro v16 u16 ho16 hg16; have S16 := hide (S15.out.app (M := List.replicate N 0) ho16 hg16 rfl (by simp) rfl (fun i hi => (rep_F N i hi).symm)); obtain ⟨A16_, c16_, rfl, _, _⟩ := ho16.rd; clear ho16 hg16))
    go_ret2
    have hem : (⟨3, fl, st, (N : Int), nd, d, ns, s, g, wt, pa, al, pm, la, co, sp⟩ : Fm5).emL = L ++ (List.range nd).map d ++ List.replicate N 0 := by
      rw [HL.out, HL0.out]
      simp [Fm5.emL, Fm5.padL, Fm5.prL, Fm5.tyL, Fm5.dL, Fm5.zL, Fm5.setL, hP3.out, hP5.out, wrd5_f, hT]
    have hfin := S16.out.rd
    refine ⟨S16.out.be, .inl ⟨⟨fun _ => HP.out, fun h => absurd h hP5.out, ⟨HCO.out, Hla.out, Hsp.out, Hpm.out⟩, fun (h : (3 : Int) = 4) => absurd h (by decide)⟩, A16_, c16_, ?_, by rw [hem]; exact hfin.2⟩⟩
    have hn2 : L.length + nd + N = (L ++ (List.range nd).map d ++ List.replicate N 0).length := by simp; omega
    rw [hem, ← hn2]
    rfl
  have n3 : (T == 3) = false := by simpa using t3
  by_cases t4 : T = 4
  · subst t4
    go_wp2_with fail
    refine (rsput_any A3 ns c3 s g _ (HS2.out.below Spm.out.be) (by omega)).mono ?_
    rintro e Us (⟨hyes, As, cs, rfl, hrs, hbs⟩ | ⟨hno, rfl, hbs⟩)
    rotate_left
    · have Tn := hide (Spm.out.below hbs)
      have HN := hide hno
      clear hbs hno
      go_wp2_with fail
      go_ret2
      exact ⟨Tn.out.be, .inr ⟨fun h => HN.out (h.2.2.2 rfl), rfl⟩⟩
    have HY := hide hyes
    have Ss := hide (Spm.out.below hbs)
    have Rs := hide (sb_list hrs)
    clear hyes hrs hbs
    obtain ⟨j_0, j_1, j_2, j_3, j_4, j_5, j_6, j_7, j_8, j_9, j_10, j_11, j_12⟩ := row13 Ss.out.rf
    go_upto_region 31 with (first | (at_builtin; refine wp_app rfl (.tmp 129) (.tmp 130) _ rfl i0 0 1 Try.underlying22 hi hz0 hz1 hz2 (w.heap.size + 1) _ _ _ rfl Ss.out.ow As (ns * 6) cs (lF ((List.range (ns * 6)).map (sB s g))) rfl Rs.out (by simp only [maxLen]; first | (simp [numL_len]; done) | (simp [numL_len]; omega) | omega) (by first | (simp [numL_len]; done) | (simp [numL_len]; omega) | omega) (by have := Ss.out.be.size; have hz := rowLt Ss.out.rf; omega) ?_; intro v17 u17 ho17 hg17; have S17 := hide (Ss.out.app ho17 hg17 rfl (by simp) rfl (fun _ _ => rfl)); obtain ⟨A17_, c17_, rfl, _, _⟩ := ho17.rd; clear ho17 hg17))
    obtain ⟨p_0, p_1, p_2, p_3, p_4, p_5, p_6, p_7, p_8, p_9, p_10, p_11, p_12⟩ := row13 S17.out.rf
    have hpl : (L0 ++ (List.range (ns * 6)).map (sB s g)).length ≤ 6006 := by first | (simp [numL_len]; done) | (simp [numL_len]; omega) | omega
    obtain ⟨L, hL⟩ : ∃ L, L = (L0 ++ (List.range (ns * 6)).map (sB s g)) := ⟨_, rfl⟩
    have SL_ := S17.out
    rw [← hL] at SL_ hpl
    have SL := hide SL_
    have HL := hide hL
    clear hL SL_
    have hsz := rowLt SL.out.rf
    go_upto_region 32 with (first | (at_builtin; refine wp_app rfl (.tmp 149) (.tmp 151) _ rfl i0 0 1 Try.underlying22 hi hz0 hz1 hz2 (w.heap.size + 1) _ _ _ rfl SL.out.ow A2 nd c2 (lF ((List.range nd).map d)) rfl (rd_list (HD.out.below SL.out.be)) (by simp only [maxLen]; omega) (by omega) (by have := SL.out.be.size; have := rowLt SL.out.rf; omega) ?_; intro v18 u18 ho18 hg18; have S18 := hide (SL.out.app ho18 hg18 rfl (by simp) rfl (fun _ _ => rfl)); obtain ⟨A18_, c18_, rfl, _, _⟩ := ho18.rd; clear ho18 hg18))
    obtain ⟨r_0, r_1, r_2, r_3, r_4, r_5, r_6, r_7, r_8, r_9, r_10, r_11, r_12⟩ := row13 S18.out.rf
    go_wp2_with fail
    refine (rhasA_3 4 fl hfl _).mono ?_
    rintro e uu ⟨rfl, rfl⟩
    rw [e3]
    obtain ⟨N, rfl⟩ : ∃ N : Nat, pad = (N : Int) := ⟨pad.toNat, by have h := HP.out; omega⟩
    have hN : N ≤ 255 := by have h := HP.out; omega
    go_wp2_with (first | (at_builtin; refine wp_appZ rfl (.tmp 158) (.tmp 160) _ _ 9 rfl i0 Try.underlying22 Try.underlying3 Try.underlying9 hi hz0 hz1 hz2 (w.heap.size + 1) _ _ _ rfl S18.out.ow N rfl (by rw [List.length_append, List.length_map, List.length_range]; omega) (by have := rowLt S18.out.rf; omega) ?_; intro v19 u19 ho19 hg19; have S19 := hide (S18.out.app (M := List.replicate N 0) ho19 hg19 rfl (by simp) rfl (fun i hi => (rep_F N i hi).symm)); obtain ⟨A19_, c19_, rfl, _, _⟩ := ho19.rd; clear ho19 hg19))
    go_ret2
    have hem : (⟨4, fl, st, (N : Int), nd, d, ns, s, g, wt, pa, al, pm, la, co, sp⟩ : Fm5).emL = L ++ (List.range nd).map d ++ List.replicate N 0 := by
      rw [HL.out, HL0.out]
      simp [Fm5.emL, Fm5.padL, Fm5.prL, Fm5.tyL, Fm5.dL, Fm5.zL, Fm5.setL, hP3.out, hP5.out, wrd5_f, hT]
    have hfin := S19.out.rd
    refine ⟨S19.out.be, .inl ⟨⟨fun _ => HP.out, fun h => absurd h hP5.out, ⟨HCO.out, Hla.out, Hsp.out, Hpm.out⟩, fun _ => HY.out⟩, A19_, c19_, ?_, by rw [hem]; exact hfin.2⟩⟩
    have hn2 : L.length + nd + N = (L ++ (List.range nd).map d ++ List.replicate N 0).length := by simp; omega
    rw [hem, ← hn2]
    rfl
  have n4 : (T == 4) = false := by simpa using t4
  by_cases t5 : T = 5
  · subst t5
    go_upto_region 31 with (first | (at_builtin; refine wp_app rfl (.tmp 134) (.tmp 135) _ rfl i0 0 1 Try.underlying22 hi hz0 hz1 hz2 (w.heap.size + 1) _ _ _ rfl Spm.out.ow Apm 4 cpm (lF (numL (wrd5 pm false) 4)) rfl Rpm.out (by simp only [maxLen]; first | (simp [numL_len]; done) | (simp [numL_len]; omega) | omega) (by first | (simp [numL_len]; done) | (simp [numL_len]; omega) | omega) (by have := Spm.out.be.size; have hz := rowLt Spm.out.rf; omega) ?_; intro v20 u20 ho20 hg20; have S20 := hide (Spm.out.app ho20 hg20 rfl rfl rfl (fun _ _ => rfl)); obtain ⟨A20_, c20_, rfl, _, _⟩ := ho20.rd; clear ho20 hg20))
    obtain ⟨p_0, p_1, p_2, p_3, p_4, p_5, p_6, p_7, p_8, p_9, p_10, p_11, p_12⟩ := row13 S20.out.rf
    have hpl : (L0 ++ (numL (wrd5 pm false) 4)).length ≤ 6006 := by first | (simp [numL_len]; done) | (simp [numL_len]; omega) | omega
    obtain ⟨L, hL⟩ : ∃ L, L = (L0 ++ (numL (wrd5 pm false) 4)) := ⟨_, rfl⟩
    have SL_ := S20.out
    rw [← hL] at SL_ hpl
    have SL := hide SL_
    have HL := hide hL
    clear hL SL_
    have hsz := rowLt SL.out.rf
    go_upto_region 32 with (first | (at_builtin; refine wp_app rfl (.tmp 149) (.tmp 151) _ rfl i0 0 1 Try.underlying22 hi hz0 hz1 hz2 (w.heap.size + 1) _ _ _ rfl SL.out.ow A2 nd c2 (lF ((List.range nd).map d)) rfl (rd_list (HD.out.below SL.out.be)) (by simp only [maxLen]; omega) (by omega) (by have := SL.out.be.size; have := rowLt SL.out.rf; omega) ?_; intro v21 u21 ho21 hg21; have S21 := hide (SL.out.app ho21 hg21 rfl (by simp) rfl (fun _ _ => rfl)); obtain ⟨A21_, c21_, rfl, _, _⟩ := ho21.rd; clear ho21 hg21))
    obtain ⟨r_0, r_1, r_2, r_3, r_4, r_5, r_6, r_7, r_8, r_9, r_10, r_11, r_12⟩ := row13 S21.out.rf
    go_wp2_with fail
    refine (rhasA_3 5 fl hfl _).mono ?_
    rintro e uu ⟨rfl, rfl⟩
    rw [e3]
    obtain ⟨N, rfl⟩ : ∃ N : Nat, pad = (N : Int) := ⟨pad.toNat, by have h := HP.out; omega⟩
    have hN : N ≤ 255 := by have h := HP.out; omega
    go_wp2_with (first | (at_builtin; refine wp_appZ rfl (.tmp 158) (.tmp 160) _ _ 9 rfl i0 Try.underlying22 Try.underlying3 Try.underlying9 hi hz0 hz1 hz2 (w.heap.size + 1) _ _ _ rfl S21.out.ow N rfl (by rw [List.length_append, List.length_map, List.length_range]; omega) (by have := rowLt S21.out.rf; omega) ?_; intro v22 u22 ho22 hg22; have S22 := hide (S21.out.app (M := List.replicate N 0) ho22 hg22 rfl (by simp) rfl (fun i hi => (rep_F N i hi).symm)); obtain ⟨A22_, c22_, rfl, _, _⟩ := ho22.rd; clear ho22 hg22))
    go_ret2
    have hem : (⟨5, fl, st, (N : Int), nd, d, ns, s, g, wt, pa, al, pm, la, co, sp⟩ : Fm5).emL = L ++ (List.range nd).map d ++ List.replicate N 0 := by
      rw [HL.out, HL0.out]
      simp [Fm5.emL, Fm5.padL, Fm5.prL, Fm5.tyL, Fm5.dL, Fm5.zL, Fm5.setL, hP3.out, hP5.out, wrd5_f, hT]
    have hfin := S22.out.rd
    refine ⟨S22.out.be, .inl ⟨⟨fun _ => HP.out, fun h => absurd h hP5.out, ⟨HCO.out, Hla.out, Hsp.out, Hpm.out⟩, fun (h : (5 : Int) = 4) => absurd h (by decide)⟩, A22_, c22_, ?_, by rw [hem]; exact hfin.2⟩⟩
    have hn2 : L.length + nd + N = (L ++ (List.range nd).map d ++ List.replicate N 0).length := by simp; omega
    rw [hem, ← hn2]
    rfl
  have n5 : (T == 5) = false := by simpa using t5
  by_cases t7 : T = 7
  · subst t7
    go_upto_region 31 with (first | (at_builtin; refine wp_app rfl (.tmp 141) (.tmp 142) _ rfl i0 0 1 Try.underlying22 hi hz0 hz1 hz2 (w.heap.size + 1) _ _ _ rfl Sb.out.ow Ac 4 cc (lF (numL co 4)) rfl RX.out (by simp only [maxLen]; first | (simp [numL_len]; done) | (simp [numL_len]; omega) | omega) (by first | (simp [numL_len]; done) | (simp [numL_len]; omega) | omega) (by have := Sb.out.be.size; have hz := rowLt Sb.out.rf; omega) ?_; intro v24 u24 ho24 hg24; have S24 := hide (Sb.out.app ho24 hg24 rfl rfl rfl (fun _ _ => rfl)); obtain ⟨A24_, c24_, rfl, _, _⟩ := ho24.rd; clear ho24 hg24) | (at_builtin; refine wp_app rfl (.tmp 139) (.tmp 140) _ rfl i0 0 1 Try.underlying22 hi hz0 hz1 hz2 (w.heap.size + 1) _ _ _ rfl Spm.out.ow Ala 4 cla (lF (numL (wrd5 la false) 4)) rfl Rlasppm.out (by simp only [maxLen]; first | (simp [numL_len]; done) | (simp [numL_len]; omega) | omega) (by first | (simp [numL_len]; done) | (simp [numL_len]; omega) | omega) (by have := Spm.out.be.size; have hz := rowLt Spm.out.rf; omega) ?_; intro v23 u23 ho23 hg23; have S23 := hide (Spm.out.app ho23 hg23 rfl rfl rfl (fun _ _ => rfl)); obtain ⟨A23_, c23_, rfl, _, _⟩ := ho23.rd; have RX := hide (rd_grown5 Rcolasppm.out hg23 HNE.out); obtain ⟨L1, hL1⟩ : ∃ L1, L1 = (L0 ++ (numL (wrd5 la false) 4)) := ⟨_, rfl⟩; have Sb_ := S23.out; rw [← hL1] at Sb_; have Sb := hide Sb_; have hl1 : L1.length ≤ 10 := (by rw [hL1]; have := hl0; simp [numL_len]; omega); have HL1 := hide hL1; clear hL1 Sb_ ho23 hg23))
    obtain ⟨p_0, p_1, p_2, p_3, p_4, p_5, p_6, p_7, p_8, p_9, p_10, p_11, p_12⟩ := row13 S24.out.rf
    have hpl : (L1 ++ (numL co 4)).length ≤ 6006 := by first | (simp [numL_len]; done) | (simp [numL_len]; omega) | omega
    obtain ⟨L, hL⟩ : ∃ L, L = (L1 ++ (numL co 4)) := ⟨_, rfl⟩
    have SL_ := S24.out
    rw [← hL] at SL_ hpl
    have SL := hide SL_
    have HL := hide hL
    clear hL SL_
    have hsz := rowLt SL.out.rf
    go_upto_region 32 with (first | (at_builtin; refine wp_app rfl (.tmp 149) (.tmp 151) _ rfl i0 0 1 Try.underlying22 hi hz0 hz1 hz2 (w.heap.size + 1) _ _ _ rfl SL.out.ow A2 nd c2 (lF ((List.range nd).map d)) rfl (rd_list (HD.out.below SL.out.be)) (by simp only [maxLen]; omega) (by omega) (by have := SL.out.be.size; have := rowLt SL.out.rf; omega) ?_; intro v25 u25 ho25 hg25; have S25 := hide (SL.out.app ho25 hg25 rfl (by simp) rfl (fun _ _ => rfl)); obtain ⟨A25_, c25_, rfl, _, _⟩ := ho25.rd; clear ho25 hg25))
    obtain ⟨r_0, r_1, r_2, r_3, r_4, r_5, r_6, r_7, r_8, r_9, r_10, r_11, r_12⟩ := row13 S25.out.rf
    go_wp2_with fail
    refine (rhasA_3 7 fl hfl _).mono ?_
    rintro e uu ⟨rfl, rfl⟩
    rw [e3]
    obtain ⟨N, rfl⟩ : ∃ N : Nat, pad = (N : Int) := ⟨pad.toNat, by have h := HP.out; omega⟩
    have hN : N ≤ 255 := by have h := HP.out; omega
    go_wp2_with (first | (at_builtin; refine wp_appZ rfl (.tmp 158) (.tmp 160) _ _ 9 rfl i0 Try.underlying22 Try.underlying3 Try.underlying9 hi hz0 hz1 hz2 (w.heap.size + 1) _ _ _ rfl S25.out.ow N rfl (by rw [List.length_append, List.length_map, List.length_range]; omega) (by have := rowLt S25.out.rf; omega) ?_; intro v26 u26 ho26 hg26; have S26 := hide (S25.out.app (M := List.replicate N 0) ho26 hg26 rfl (by simp) rfl (fun i hi => (rep_F N i hi).symm)); obtain ⟨A26_, c26_, rfl, _, _⟩ := ho26.rd; clear ho26 hg26))
    go_ret2
    have hem : (⟨7, fl, st, (N : Int), nd, d, ns, s, g, wt, pa, al, pm, la, co, sp⟩ : Fm5).emL = L ++ (List.range nd).map d ++ List.replicate N 0 := by
      rw [HL.out, HL1.out, HL0.out]
      simp [Fm5.emL, Fm5.padL, Fm5.prL, Fm5.tyL, Fm5.dL, Fm5.zL, Fm5.setL, hP3.out, hP5.out, wrd5_f, hT]
    have hfin := S26.out.rd
    refine ⟨S26.out.be, .inl ⟨⟨fun _ => HP.out, fun h => absurd h hP5.out, ⟨HCO.out, Hla.out, Hsp.out, Hpm.out⟩, fun (h : (7 : Int) = 4) => absurd h (by decide)⟩, A26_, c26_, ?_, by rw [hem]; exact hfin.2⟩⟩
    have hn2 : L.length + nd + N = (L ++ (List.range nd).map d ++ List.replicate N 0).length := by simp; omega
    rw [hem, ← hn2]
    rfl
  have n7 : (T == 7) = false := by simpa using t7
  by_cases t8 : T = 8
  · subst t8
    go_upto_region 31 with (first | (at_builtin; refine wp_app rfl (.tmp 146) (.tmp 147) _ rfl i0 0 1 Try.underlying22 hi hz0 hz1 hz2 (w.heap.size + 1) _ _ _ rfl Spm.out.ow Asp 4 csp (lF (numL (wrd5 sp false) 4)) rfl Rsppm.out (by simp only [maxLen]; first | (simp [numL_len]; done) | (simp [numL_len]; omega) | omega) (by first | (simp [numL_len]; done) | (simp [numL_len]; omega) | omega) (by have := Spm.out.be.size; have hz := rowLt Spm.out.rf; omega) ?_; intro v27 u27 ho27 hg27; have S27 := hide (Spm.out.app ho27 hg27 rfl rfl rfl (fun _ _ => rfl)); obtain ⟨A27_, c27_, rfl, _, _⟩ := ho27.rd; clear ho27 hg27))
    obtain ⟨p_0, p_1, p_2, p_3, p_4, p_5, p_6, p_7, p_8, p_9, p_10, p_11, p_12⟩ := row13 S27.out.rf
    have hpl : (L0 ++ (numL (wrd5 sp false) 4)).length ≤ 6006 := by first | (simp [numL_len]; done) | (simp [numL_len]; omega) | omega
    obtain ⟨L, hL⟩ : ∃ L, L = (L0 ++ (numL (wrd5 sp false) 4)) := ⟨_, rfl⟩
    have SL_ := S27.out
    rw [← hL] at SL_ hpl
    have SL := hide SL_
    have HL := hide hL
    clear hL SL_
    have hsz := rowLt SL.out.rf
    go_upto_region 32 with (first | (at_builtin; refine wp_app rfl (.tmp 149) (.tmp 151) _ rfl i0 0 1 Try.underlying22 hi hz0 hz1 hz2 (w.heap.size + 1) _ _ _ rfl SL.out.ow A2 nd c2 (lF ((List.range nd).map d)) rfl (rd_list (HD.out.below SL.out.be)) (by simp only [maxLen]; omega) (by omega) (by have := SL.out.be.size; have := rowLt SL.out.rf; omega) ?_; intro v28 u28 ho28 hg28; have S28 := hide (SL.out.app ho28 hg28 rfl (by simp) rfl (fun _ _ => rfl)); obtain ⟨A28_, c28_, rfl, _, _⟩ := ho28.rd; clear ho28 hg28))
    obtain ⟨r_0, r_1, r_2, r_3, r_4, r_5, r_6, r_7, r_8, r_9, r_10, r_11, r_12⟩ := row13 S28.out.rf
    go_wp2_with fail
    refine (rhasA_3 8 fl hfl _).mono ?_
    rintro e uu ⟨rfl, rfl⟩
    rw [e3]
    obtain ⟨N, rfl⟩ : ∃ N : Nat, pad = (N : Int) := ⟨pad.toNat, by have h := HP.out; omega⟩
    have hN : N ≤ 255 := by have h := HP.out; omega
    go_wp2_with (first | (at_builtin; refine wp_appZ rfl (.tmp 158) (.tmp 160) _ _ 9 rfl i0 Try.underlying22 Try.underlying3 Try.underlying9 hi hz0 hz1 hz2 (w.heap.size + 1) _ _ _ rfl S28.out.ow N rfl (by rw [List.length_append, List.length_map, List.length_range]; omega) (by have := rowLt S28.out.rf; omega) ?_; intro v29 u29 ho29 hg29; have S29 := hide (S28.out.app (M := List.replicate N 0) ho29 hg29 rfl (by simp) rfl (fun i hi => (rep_F N i hi).symm)); obtain ⟨A29_, c29_, rfl, _, _⟩ := ho29.rd; clear ho29 hg29))
    go_ret2
    have hem : (⟨8, fl, st, (N : Int), nd, d, ns, s, g, wt, pa, al, pm, la, co, sp⟩ : Fm5).emL = L ++ (List.range nd).map d ++ List.replicate N 0 := by
      rw [HL.out, HL0.out]
      simp [Fm5.emL, Fm5.padL, Fm5.prL, Fm5.tyL, Fm5.dL, Fm5.zL, Fm5.setL, hP3.out, hP5.out, wrd5_f, hT]
    have hfin := S29.out.rd
    refine ⟨S29.out.be, .inl ⟨⟨fun _ => HP.out, fun h => absurd h hP5.out, ⟨HCO.out, Hla.out, Hsp.out, Hpm.out⟩, fun (h : (8 : Int) = 4) => absurd h (by decide)⟩, A29_, c29_, ?_, by rw [hem]; exact hfin.2⟩⟩
    have hn2 : L.length + nd + N = (L ++ (List.range nd).map d ++ List.replicate N 0).length := by simp; omega
    rw [hem, ← hn2]
    rfl
  have n8 : (T == 8) = false := by simpa using t8
  go_upto_region 31 with (fail)
  obtain ⟨p_0, p_1, p_2, p_3, p_4, p_5, p_6, p_7, p_8, p_9, p_10, p_11, p_12⟩ := row13 Spm.out.rf
  have hpl : L0.length ≤ 6006 := by first | (simp [numL_len]; done) | (simp [numL_len]; omega) | omega
  obtain ⟨L, hL⟩ : ∃ L, L = L0 := ⟨_, rfl⟩
  have SL_ := Spm.out
  rw [← hL] at SL_ hpl
  have SL := hide SL_
  have HL := hide hL
  clear hL SL_
  have hsz := rowLt SL.out.rf
  go_upto_region 32 with (first | (at_builtin; refine wp_app rfl (.tmp 149) (.tmp 151) _ rfl i0 0 1 Try.underlying22 hi hz0 hz1 hz2 (w.heap.size + 1) _ _ _ rfl SL.out.ow A2 nd c2 (lF ((List.range nd).map d)) rfl (rd_list (HD.out.below SL.out.be)) (by simp only [maxLen]; omega) (by omega) (by have := SL.out.be.size; have := rowLt SL.out.rf; omega) ?_; intro v30 u30 ho30 hg30; have S30 := hide (SL.out.app ho30 hg30 rfl (by simp) rfl (fun _ _ => rfl)); obtain ⟨A30_, c30_, rfl, _, _⟩ := ho30.rd; clear ho30 hg30))
  obtain ⟨r_0, r_1, r_2, r_3, r_4, r_5, r_6, r_7, r_8, r_9, r_10, r_11, r_12⟩ := row13 S30.out.rf
  go_wp2_with fail
  refine (rhasA_3 T fl hfl _).mono ?_
  rintro e uu ⟨rfl, rfl⟩
  rw [e3]
  obtain ⟨N, rfl⟩ : ∃ N : Nat, pad = (N : Int) := ⟨pad.toNat, by have h := HP.out; omega⟩
  have hN : N ≤ 255 := by have h := HP.out; omega
  go_wp2_with (first | (at_builtin; refine wp_appZ rfl (.tmp 158) (.tmp 160) _ _ 9 rfl i0 Try.underlying22 Try.underlying3 Try.underlying9 hi hz0 hz1 hz2 (w.heap.size + 1) _ _ _ rfl S30.out.ow N rfl (by rw [List.length_append, List.length_map, List.length_range]; omega) (by have := rowLt S30.out.rf; omega) ?_; intro v31 u31 ho31 hg31; have S31 := hide (S30.out.app (M := List.replicate N 0) ho31 hg31 rfl (by simp) rfl (fun i hi => (rep_F N i hi).symm)); obtain ⟨A31_, c31_, rfl, _, _⟩ := ho31.rd; clear ho31 hg31))
  go_ret2
  have hem : (⟨T, fl, st, (N : Int), nd, d, ns, s, g, wt, pa, al, pm, la, co, sp⟩ : Fm5).emL = L ++ (List.range nd).map d ++ List.replicate N 0 := by
    rw [HL.out, HL0.out]
    simp [Fm5.emL, Fm5.padL, Fm5.prL, Fm5.tyL, Fm5.dL, Fm5.zL, Fm5.setL, hP3.out, hP5.out, wrd5_f, t3, t4, t5, t7, t8]
  have hfin := S31.out.rd
  refine ⟨S31.out.be, .inl ⟨⟨fun _ => HP.out, fun h => absurd h hP5.out, ⟨HCO.out, Hla.out, Hsp.out, Hpm.out⟩, fun h => absurd h t4⟩, A31_, c31_, ?_, by rw [hem]; exact hfin.2⟩⟩
  have hn2 : L.length + nd + N = (L ++ (List.range nd).map d ++ List.replicate N 0).length := by simp; omega
  rw [hem, ← hn2]
  rfl
end Go.Proofs.Ytpnjamomkpkkeaa
