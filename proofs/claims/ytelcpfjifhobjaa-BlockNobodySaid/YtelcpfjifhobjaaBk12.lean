/- Layer 30: one that is not there: the law's walk. -/
import Derived.Test.YtelcpfjifhobjaaBk11
import Derived.Test.YtelcpfjifhobjaaFrf
namespace Go.Proofs.Ytelcpfjifhobjaa
set_option linter.unusedVariables false
set_option linter.unusedSimpArgs false
open Go.RowKit

theorem smB_selfY (T fl st pd : Int) (n : Nat) (f : Nat → Int) (n2 : Nat) (s1 t1 : Nat → Int) (wt pa pm la co sp : Int) (al : Bool) : smB T fl st pd T fl st pd n n f f n2 n2 s1 t1 s1 t1 wt pa pm la co sp wt pa pm la co sp al al = true := by
  have h1 : sameB n n f f = true := sameB_yes rfl fun _ _ => rfl
  have h2 : same2B n2 n2 s1 t1 s1 t1 = true := decide_eq_true ⟨rfl, fun _ _ => ⟨rfl, rfl⟩⟩
  unfold smB
  rw [h1, h2]
  simp
def FWN (T fl st pd : Int) (A6 : Option Addr) (c6 : Nat) (A2 : Option Addr) (n2 c2 : Nat) (wt pa : Int) (al : Bool) (pm la co sp : Int) : Value := .agg #[.int .i64 T, .int .i64 fl, .int .i64 st, .int .i64 pd, .slice A6 0 c6, .slice A2 n2 c2, .int .i64 wt, .int .i64 pa, .bool al, .int .i64 pm, .int .i64 la, .int .i64 co, .int .i64 sp]
theorem nb_cases30 (T fl st pd : Int) (A : Option Addr) (n c : Nat) (f : Nat → Int) (A2 : Option Addr) (n2 c2 : Nat) (s t : Nat → Int) (wt pa : Int) (al : Bool) (pm la co sp : Int) (p B : Nat) (hn : n ≤ 100000) (hn2 : n2 ≤ 100000) (hfl : fl ≤ 9223372036854775807) (hAp : ∀ b off, 0 < n → A = some ⟨b, off, none⟩ → b ≠ p) (hSp : ∀ b off, 0 < n2 → A2 = some ⟨b, off, none⟩ → b ≠ p) :
    (∃ en : Int, (∀ W : World, AsOk B W p (Q1 p) 0 {} → B ≤ W.heap.size → Rd .u8 W A n c f → Rd2 W A2 n2 c2 s t → Calls Try.prog 25 #[.pointer (some ⟨p, 0, none⟩), .agg #[.int .i64 T, .int .i64 fl, .int .i64 st, .int .i64 pd, .slice A n c, .slice A2 n2 c2, .int .i64 wt, .int .i64 pa, .bool al, .int .i64 pm, .int .i64 la, .int .i64 co, .int .i64 sp]] W fun e w' => e = .returned (.tuple #[.agg z13, .bool false, .int .i64 en]) ∧ FrS B (Q1 p) W w') ∧
      (∀ W : World, Rd .u8 W A n c f → Calls Try.prog 26 #[.slice none 0 0, .agg #[.int .i64 T, .int .i64 fl, .int .i64 st, .int .i64 pd, .slice A n c, .slice A2 n2 c2, .int .i64 wt, .int .i64 pa, .bool al, .int .i64 pm, .int .i64 la, .int .i64 co, .int .i64 sp], .int .i64 0] W fun e w' => ∃ v, e = .returned (.tuple #[v, .agg z13, .bool false, .int .i64 en]) ∧ Below W.heap.size W w')) ∨
    ((∀ W : World, AsOk B W p (Q1 p) 0 {} → B ≤ W.heap.size → Rd .u8 W A n c f → Rd2 W A2 n2 c2 s t → Calls Try.prog 25 #[.pointer (some ⟨p, 0, none⟩), .agg #[.int .i64 T, .int .i64 fl, .int .i64 st, .int .i64 pd, .slice A n c, .slice A2 n2 c2, .int .i64 wt, .int .i64 pa, .bool al, .int .i64 pm, .int .i64 la, .int .i64 co, .int .i64 sp]] W fun e w' => ∃ A4 c4 A5 c5, e = .returned (.tuple #[FWN T fl st pd A4 c4 A5 n2 c5 wt pa al pm la co sp, .bool true, .int .i64 0]) ∧ (c4 ≤ maxLen ∧ (A4 = none → c4 = 0)) ∧ Rd2 w' A5 n2 c5 s t ∧ FrS B (Q1 p) W w') ∧
      (∀ W : World, Rd .u8 W A n c f → Calls Try.prog 26 #[.slice none 0 0, .agg #[.int .i64 T, .int .i64 fl, .int .i64 st, .int .i64 pd, .slice A n c, .slice A2 n2 c2, .int .i64 wt, .int .i64 pa, .bool al, .int .i64 pm, .int .i64 la, .int .i64 co, .int .i64 sp], .int .i64 0] W fun e w' => ∃ v A6 c6, e = .returned (.tuple #[v, FWN T fl st pd A6 c6 A2 n2 c2 wt pa al pm la co sp, .bool true, .int .i64 0]) ∧ (c6 ≤ maxLen ∧ (A6 = none → c6 = 0)) ∧ Below W.heap.size W w')) := by
  have htk : takesB {} T st = (T != 9) := by unfold takesB; simp
  by_cases h9 : T = 9
  · refine .inl ⟨4, fun W hk hw hd hs => ?_, fun W hd => ?_⟩
    · exact (addNo30 T fl st pd A n c f A2 n2 c2 s t wt pa al pm la co sp B p (Q1 p) 0 {} W hk hw (by rw [htk]; simp [h9])).mono fun e w' ⟨h1, _, h3⟩ => ⟨h1, h3⟩
    · exact (raddNo30 T fl st pd A n c f A2 n2 c2 s t wt pa al pm la co sp W h9).mono fun e w' ⟨h1, h2⟩ => ⟨_, h1, h2⟩
  have htk2 : takesB {} T st = true := by rw [htk]; simp [h9]
  cases hP : partB T with
  | false =>
    refine .inl ⟨0, fun W hk hw hd hs => ?_, fun W hd => ?_⟩
    · exact (addSkip30 T fl st pd A n c f A2 n2 c2 s t wt pa al pm la co sp B p (Q1 p) 0 {} W hk hw htk2 hP).mono fun e w' ⟨h1, _, h3⟩ => ⟨h1, h3⟩
    · exact (raddSkip30 T fl st pd A n c f A2 n2 c2 s t wt pa al pm la co sp W h9 hP).mono fun e w' ⟨h1, h2⟩ => ⟨_, h1, h2⟩
  | true =>
  by_cases hn0 : 0 < n
  · refine .inl ⟨9, fun W hk hw hd hs => ?_, fun W hd => ?_⟩
    · exact (addLong30 T fl st pd A n c f A2 n2 c2 s t wt pa al pm la co sp B p (Q1 p) 0 {} W hk hw htk2 hP (by decide) (by decide) hn (by show (0 : Int) - ((0 : Nat) : Int) < _; omega)).mono fun e w' ⟨h1, _, h3⟩ => ⟨h1, h3⟩
    · refine (raddPart30 T fl st pd A n c f A2 n2 c2 s t wt pa al pm la co sp W h9 hP hd hn hfl).mono fun e w' h => ?_
      obtain ⟨v, fr, b, en, h1, h2, h3⟩ := h
      rcases h3 with ⟨_, rfl, rfl, rfl⟩ | ⟨h4, _⟩ | ⟨h4, _⟩
      · exact ⟨v, h1, h2⟩
      · omega
      · omega
  obtain rfl : n = 0 := by omega
  cases hb : hsB T fl 2 with
  | false =>
    refine .inl ⟨0, fun W hk hw hd hs => ?_, fun W hd => ?_⟩
    · exact (addMore30 T fl st pd A 0 c f A2 n2 c2 s t wt pa al pm la co sp B p (Q1 p) 0 {} W hk hw htk2 hP (by decide) hfl hd hs (by decide) hn2 hAp hSp (by show ¬ ((0 : Int) - ((0 : Nat) : Int) < ((0 : Nat) : Int)); omega) hb).mono fun e w' ⟨h1, _, _, _, h3⟩ => ⟨h1, h3⟩
    · refine (raddPart30 T fl st pd A 0 c f A2 n2 c2 s t wt pa al pm la co sp W h9 hP hd (by decide) hfl).mono fun e w' h => ?_
      obtain ⟨v, fr, b, en, h1, h2, h3⟩ := h
      rcases h3 with ⟨h4, _⟩ | ⟨_, _, rfl, rfl, rfl⟩ | ⟨_, h4, _⟩
      · omega
      · exact ⟨v, h1, h2⟩
      · rw [hb] at h4; cases h4
  | true =>
    refine .inr ⟨fun W hk hw hd hs => ?_, fun W hd => ?_⟩
    · exact (addEnd30 T fl st pd A 0 c f A2 n2 c2 s t wt pa al pm la co sp B p (Q1 p) 0 {} W hk hw htk2 hP (by decide) hfl hd hs (by decide) hn2 hAp hSp (by show ¬ ((0 : Int) - ((0 : Nat) : Int) < ((0 : Nat) : Int)); omega) hb ⟨true, T, fl, st, pd, 0, f, n2, s, t, wt, pa, al, pm, la, co, sp⟩ rfl).mono fun e w' ⟨A4, c4, A5, c5, h1, h2, h3, _, h5⟩ => ⟨A4, c4, A5, c5, h1, ⟨h2.2.1, h2.2.2.1⟩, h3, h5⟩
    · refine (raddPart30 T fl st pd A 0 c f A2 n2 c2 s t wt pa al pm la co sp W h9 hP hd (by decide) hfl).mono fun e w' h => ?_
      obtain ⟨v, fr, b, en, h1, h2, h3⟩ := h
      rcases h3 with ⟨h4, _⟩ | ⟨_, h4, _⟩ | ⟨_, _, ⟨A6, c6, rfl, h7, h8⟩, rfl, rfl⟩
      · omega
      · rw [hb] at h4; cases h4
      · exact ⟨v, A6, c6, h1, ⟨h7, h8⟩, h2⟩

set_option maxRecDepth 100000 in
set_option maxHeartbeats 12800000 in
theorem nobody_walk30 (T fl st pd : Int) (A : Option Addr) (n c : Nat) (f : Nat → Int) (A2 : Option Addr) (n2 c2 : Nat) (s t : Nat → Int) (wt pa : Int) (al : Bool) (pm la co sp : Int) (w : World) (ha : Rd .u8 w A n c f) (hs : Rd2 w A2 n2 c2 s t) (hfl64 : I64 fl) :
    Calls Try.prog 8 #[.agg #[.int .i64 T, .int .i64 fl, .int .i64 st, .int .i64 pd, .slice A n c, .slice A2 n2 c2, .int .i64 wt, .int .i64 pa, .bool al, .int .i64 pm, .int .i64 la, .int .i64 co, .int .i64 sp]] w (Yes w) := by
  have hn63 : n ≤ 9223372036854775807 := by have h1 := ha.1; have h2 := ha.2.1; simp only [maxLen] at h2; omega
  have R0 := hide (heap_alloc_new w (.cells #[.int .i64 T, .int .i64 fl, .int .i64 st, .int .i64 pd, .slice A n c, .slice A2 n2 c2, .int .i64 wt, .int .i64 pa, .bool al, .int .i64 pm, .int .i64 la, .int .i64 co, .int .i64 sp] 28))
  have e0 := (Below.refl w.heap.size w).alloc (Nat.le_refl _) (.cells #[.int .i64 T, .int .i64 fl, .int .i64 st, .int .i64 pd, .slice A n c, .slice A2 n2 c2, .int .i64 wt, .int .i64 pa, .bool al, .int .i64 pm, .int .i64 la, .int .i64 co, .int .i64 sp] 28)
  have E0 := hide e0
  have HA0 := hide (ha.below e0)
  have HS0 := hide (hs.below e0)
  have NA0 : Hid (∀ b off, 0 < n → A = some ⟨b, off, none⟩ → b < w.heap.size) := fun b off h0 e => by
    obtain ⟨b', off', e', hl, _⟩ := ha.block h0
    rw [e] at e'
    cases e'
    exact hl
  have NS0 : Hid (∀ b off, 0 < n2 → A2 = some ⟨b, off, none⟩ → b < w.heap.size) := fun b off h0 e => by
    obtain ⟨b', off', e', hx⟩ := hs.2.2.2 h0
    rw [e] at e'
    cases e'
    exact World.block_lt_of_cell? _ _ (hx 0 h0).1
  clear ha hs e0
  obtain ⟨f0_, f1_, f2_, f3_, f4_, f5_, f6_, f7_, f8_, f9_, f10_, f11_, f12_⟩ := row13 R0.out
  obtain ⟨bl, hbl⟩ : ∃ b, (decide ((2000 : Int) < (n : Int)) || decide ((100 : Int) < (n2 : Int))) = b := ⟨_, rfl⟩
  have HLG : Hid (∀ W : World, Calls Try.prog 28 #[.agg #[.int .i64 T, .int .i64 fl, .int .i64 st, .int .i64 pd, .slice A n c, .slice A2 n2 c2, .int .i64 wt, .int .i64 pa, .bool al, .int .i64 pm, .int .i64 la, .int .i64 co, .int .i64 sp]] W fun e w' => e = .returned (.bool bl) ∧ Below W.heap.size W w') := fun W => by rw [← hbl]; exact large14Z _ _ _ _ A n c A2 n2 c2 _ _ _ _ _ _ _ W
  have HBL := hide hbl
  clear hbl
  go_enter Try.func8, Try.ntmps8
  go_wp2_with fail
  refine (HLG.out _).mono ?_
  rintro e w1 ⟨rfl, hb⟩
  have R1 := hide (keepRow R0.out hb)
  have E1 := hide (E0.out.of hb)
  have HA1 := hide (HA0.out.below hb)
  have HS1 := hide (HS0.out.below hb)
  clear hb R0 E0 HA0 HS0 f0_ f1_ f2_ f3_ f4_ f5_ f6_ f7_ f8_ f9_ f10_ f11_ f12_
  cases bl with
  | true =>
    go_wp2_with fail
    refine (alive30 _).mono ?_
    rintro e w' ⟨rfl, hb⟩
    have HB := hide (E1.out.of hb)
    clear hb
    go_wp2_with fail
    go_ret
    exact ⟨rfl, HB.out⟩
  | false =>
  have hnn : n ≤ 100000 ∧ n2 ≤ 100000 := by
    have h := HBL.out
    simp at h
    omega
  -- the zero assembly
  have e2 := (Below.refl w1.heap.size w1).alloc (Nat.le_refl _) (.cells #[.int .i64 0, .bool false, .int .i64 0, .int .i64 0, .int .i64 0, .int .i64 0, .slice none 0 0, .slice none 0 0, .int .i64 0, .int .i64 0, .bool false, .int .i64 0, .int .i64 0, .int .i64 0, .int .i64 0] 59)
  have hw1 := E1.out.size
  have hr1 := rowLt R1.out
  have K2 : Hid (AsOk w1.heap.size (w1.alloc (.cells #[.int .i64 0, .bool false, .int .i64 0, .int .i64 0, .int .i64 0, .int .i64 0, .slice none 0 0, .slice none 0 0, .int .i64 0, .int .i64 0, .bool false, .int .i64 0, .int .i64 0, .int .i64 0, .int .i64 0] 59)) w1.heap.size (Q1 w1.heap.size) 0 {}) := ⟨⟨_, none, 0, heap_alloc_new w1 (.cells #[.int .i64 0, .bool false, .int .i64 0, .int .i64 0, .int .i64 0, .int .i64 0, .slice none 0 0, .slice none 0 0, .int .i64 0, .int .i64 0, .bool false, .int .i64 0, .int .i64 0, .int .i64 0, .int .i64 0] 59), Own.nil _ _ _ _ _, Rd2.nil _ _ _, fun b e => (by cases e), fun a e => (by cases e)⟩, rfl, fun i hi => by have e : i = w1.heap.size := hi; subst e; simp⟩
  have R2 := hide (keepRow R1.out e2)
  have E2 := hide (E1.out.of e2)
  have HA2 := hide (HA1.out.below e2)
  have HS2 := hide (HS1.out.below e2)
  clear e2 R1 E1 HA1 HS1
  obtain ⟨f0_, f1_, f2_, f3_, f4_, f5_, f6_, f7_, f8_, f9_, f10_, f11_, f12_⟩ := row13 R2.out
  go_upto_region 5 with (fail)
  have hpz : (w1.alloc (.cells #[.int .i64 0, .bool false, .int .i64 0, .int .i64 0, .int .i64 0, .int .i64 0, .slice none 0 0, .slice none 0 0, .int .i64 0, .int .i64 0, .bool false, .int .i64 0, .int .i64 0, .int .i64 0, .int .i64 0] 59)).heap.size = w1.heap.size + 1 := by simp
  generalize w1.alloc (.cells #[.int .i64 0, .bool false, .int .i64 0, .int .i64 0, .int .i64 0, .int .i64 0, .slice none 0 0, .slice none 0 0, .int .i64 0, .int .i64 0, .bool false, .int .i64 0, .int .i64 0, .int .i64 0, .int .i64 0] 59) = W2 at *
  generalize w1.heap.size = p at *
  have NAK : Hid (∀ b off, 0 < n → A = some ⟨b, off, none⟩ → b ≠ p) := fun b off h0 e => by have := NA0.out b off h0 e; omega
  have NSB : Hid (∀ b off, 0 < n2 → A2 = some ⟨b, off, none⟩ → b ≠ p) := fun b off h0 e => by have := NS0.out b off h0 e; omega
  rcases nb_cases30 T fl st pd A n c f A2 n2 c2 s t wt pa al pm la co sp p p hnn.1 hnn.2 hfl64.2 NAK.out NSB.out with ⟨en, h1, h2⟩ | ⟨h1, h2⟩
  · have HPR := hide h1
    have HRR := hide h2
    clear h1 h2
    have hp1 : w.heap.size < p := by omega
    go_wp2_with fail
    refine (addNobody30 T fl st pd A n c A2 n2 c2 wt pa al pm la co sp _).mono ?_
    rintro e w3 ⟨rfl, hb⟩
    have e3 := (Below.refl w3.heap.size w3).alloc (Nat.le_refl _) (.cells z13 28)
    have ht := hb.of e3
    have X3 := hide (heap_alloc_new w3 (.cells z13 28))
    have R3 := hide (keepRow R2.out ht)
    have E3 := hide (E2.out.of ht)
    have K3 := hide (K2.out.below ht)
    have HA3 := hide (HA2.out.below ht)
    have HS3 := hide (HS2.out.below ht)
    have hs3 := hb.size
    clear hb e3 ht R2 E2 K2 HA2 HS2 f0_ f1_ f2_ f3_ f4_ f5_ f6_ f7_ f8_ f9_ f10_ f11_ f12_
    go_upto_region 6 with (fail)
    have hz3 : (w3.alloc (.cells z13 28)).heap.size = w3.heap.size + 1 := by simp
    generalize w3.alloc (.cells z13 28) = W3 at *
    go_wp2_with fail
    refine (openNobody30 _).mono ?_
    rintro e w4 ⟨rfl, rfl⟩
    obtain ⟨f0_, f1_, f2_, f3_, f4_, f5_, f6_, f7_, f8_, f9_, f10_, f11_, f12_⟩ := row13 R3.out
    go_wp2_with fail
    refine (HPR.out _ K3.out (by omega) HA3.out HS3.out).mono ?_
    rintro e w5 ⟨rfl, hF⟩
    have e5 := (Below.refl w5.heap.size w5).alloc (Nat.le_refl _) (.cells z13 28)
    have Z5 := hide (heap_alloc_new w5 (.cells z13 28))
    have X5 := hide (keepRow (hF.row X3.out (fun e => by have e2 : w3.heap.size = p := e; omega)) e5)
    have R5 := hide (keepRow (hF.row R3.out (fun e => by have e2 : w.heap.size = p := e; omega)) e5)
    have E5 := hide ((E3.out.trans (hF.bel.mono (by omega))).of e5)
    have HA5 := hide ((HA3.out.frs hF (fun b off h0 e s => NAK.out b off h0 e s)).below e5)
    have HS5 := hide ((HS3.out.frs hF (fun b off h0 e s => NSB.out b off h0 e s)).below e5)
    have hs5 := hF.bel.size
    clear hF e5 X3 R3 E3 K3 HA3 HS3 f0_ f1_ f2_ f3_ f4_ f5_ f6_ f7_ f8_ f9_ f10_ f11_ f12_
    go_upto_region 8 with (fail)
    generalize w5.alloc (.cells z13 28) = W5 at *
    obtain ⟨f0_, f1_, f2_, f3_, f4_, f5_, f6_, f7_, f8_, f9_, f10_, f11_, f12_⟩ := row13 R5.out
    go_wp2_with fail
    refine (HRR.out _ HA5.out).mono ?_
    rintro e w6 ⟨v6, rfl, hb⟩
    have e6 := (Below.refl w6.heap.size w6).alloc (Nat.le_refl _) (.cells z13 28)
    have ht := hb.of e6
    have Y6 := hide (heap_alloc_new w6 (.cells z13 28))
    have X6 := hide (keepRow X5.out ht)
    have Z6 := hide (keepRow Z5.out ht)
    have R6 := hide (keepRow R5.out ht)
    have E6 := hide (E5.out.of ht)
    have HS6 := hide (HS5.out.below ht)
    clear ht hb e6 X5 Z5 R5 E5 HA5 HS5 f0_ f1_ f2_ f3_ f4_ f5_ f6_ f7_ f8_ f9_ f10_ f11_ f12_
    go_upto_region 9 with (fail)
    generalize w6.alloc (.cells z13 28) = W6 at *
    obtain ⟨f0_, f1_, f2_, f3_, f4_, f5_, f6_, f7_, f8_, f9_, f10_, f11_, f12_⟩ := row13 R6.out
    go_wp2_with fail
    refine (takesNobody30 T fl st pd A n c A2 n2 c2 wt pa al pm la co sp _).mono ?_
    rintro e w7 ⟨rfl, hb⟩
    have X7 := hide (keepRow X6.out hb)
    have Z7 := hide (keepRow Z6.out hb)
    have Y7 := hide (keepRow Y6.out hb)
    have E7 := hide (E6.out.of hb)
    have HS7 := hide (HS6.out.below hb)
    clear hb X6 Z6 Y6 R6 E6 HS6 f0_ f1_ f2_ f3_ f4_ f5_ f6_ f7_ f8_ f9_ f10_ f11_ f12_
    obtain ⟨g0_, g1_, g2_, g3_, g4_, g5_, g6_, g7_, g8_, g9_, g10_, g11_, g12_⟩ := row13 X7.out
    go_wp2_with fail
    refine (rfsame14 0 0 0 0 0 0 0 0 none none 0 0 0 0 (oneF 0) (oneF 0) none none 0 0 0 0 (oneF 0) (oneF 0) (oneF 0) (oneF 0) 0 0 0 0 0 0 0 0 0 0 0 0 false false _ (Rd.nil _ _ _) (Rd.nil _ _ _) (fun i hi => by omega) (fun i hi => by omega) (Rd2.nil _ _ _) (Rd2.nil _ _ _)).mono ?_
    rw [smB_selfY]
    rintro e w8 ⟨rfl, hb⟩
    have Z8 := hide (keepRow Z7.out hb)
    have Y8 := hide (keepRow Y7.out hb)
    have E8 := hide (E7.out.of hb)
    have HS8 := hide (HS7.out.below hb)
    clear hb X7 Z7 Y7 E7 HS7 g0_ g1_ g2_ g3_ g4_ g5_ g6_ g7_ g8_ g9_ g10_ g11_ g12_
    obtain ⟨g0_, g1_, g2_, g3_, g4_, g5_, g6_, g7_, g8_, g9_, g10_, g11_, g12_⟩ := row13 Z8.out
    obtain ⟨f0_, f1_, f2_, f3_, f4_, f5_, f6_, f7_, f8_, f9_, f10_, f11_, f12_⟩ := row13 Y8.out
    go_wp2_with fail
    refine (rfsame14 0 0 0 0 0 0 0 0 none none 0 0 0 0 (oneF 0) (oneF 0) none none 0 0 0 0 (oneF 0) (oneF 0) (oneF 0) (oneF 0) 0 0 0 0 0 0 0 0 0 0 0 0 false false _ (Rd.nil _ _ _) (Rd.nil _ _ _) (fun i hi => by omega) (fun i hi => by omega) (Rd2.nil _ _ _) (Rd2.nil _ _ _)).mono ?_
    rw [smB_selfY]
    rintro e w9 ⟨rfl, hb⟩
    have E9 := hide (E8.out.of hb)
    clear hb Z8 Y8 E8 HS8 g0_ g1_ g2_ g3_ g4_ g5_ g6_ g7_ g8_ g9_ g10_ g11_ g12_ f0_ f1_ f2_ f3_ f4_ f5_ f6_ f7_ f8_ f9_ f10_ f11_ f12_
    go_wp2_with fail
    refine (alive30 _).mono ?_
    rintro e w' ⟨rfl, hb⟩
    have HB := hide (E9.out.of hb)
    clear hb
    go_wp2_with fail
    go_ret
    exact ⟨rfl, HB.out⟩
  · have HPR := hide h1
    have HRR := hide h2
    clear h1 h2
    have hp1 : w.heap.size < p := by omega
    go_wp2_with fail
    refine (addNobody30 T fl st pd A n c A2 n2 c2 wt pa al pm la co sp _).mono ?_
    rintro e w3 ⟨rfl, hb⟩
    have e3 := (Below.refl w3.heap.size w3).alloc (Nat.le_refl _) (.cells z13 28)
    have ht := hb.of e3
    have X3 := hide (heap_alloc_new w3 (.cells z13 28))
    have R3 := hide (keepRow R2.out ht)
    have E3 := hide (E2.out.of ht)
    have K3 := hide (K2.out.below ht)
    have HA3 := hide (HA2.out.below ht)
    have HS3 := hide (HS2.out.below ht)
    have hs3 := hb.size
    clear hb e3 ht R2 E2 K2 HA2 HS2 f0_ f1_ f2_ f3_ f4_ f5_ f6_ f7_ f8_ f9_ f10_ f11_ f12_
    go_upto_region 6 with (fail)
    have hz3 : (w3.alloc (.cells z13 28)).heap.size = w3.heap.size + 1 := by simp
    generalize w3.alloc (.cells z13 28) = W3 at *
    go_wp2_with fail
    refine (openNobody30 _).mono ?_
    rintro e w4 ⟨rfl, rfl⟩
    obtain ⟨f0_, f1_, f2_, f3_, f4_, f5_, f6_, f7_, f8_, f9_, f10_, f11_, f12_⟩ := row13 R3.out
    go_wp2_with fail
    refine (HPR.out _ K3.out (by omega) HA3.out HS3.out).mono ?_
    rintro e w5 ⟨A4, c4, A5, c5, rfl, ⟨hz1, hz2⟩, hq, hF⟩
    unfold FWN
    have e5 := (Below.refl w5.heap.size w5).alloc (Nat.le_refl _) (.cells #[.int .i64 T, .int .i64 fl, .int .i64 st, .int .i64 pd, .slice A4 0 c4, .slice A5 n2 c5, .int .i64 wt, .int .i64 pa, .bool al, .int .i64 pm, .int .i64 la, .int .i64 co, .int .i64 sp] 28)
    have Z5 := hide (heap_alloc_new w5 (.cells #[.int .i64 T, .int .i64 fl, .int .i64 st, .int .i64 pd, .slice A4 0 c4, .slice A5 n2 c5, .int .i64 wt, .int .i64 pa, .bool al, .int .i64 pm, .int .i64 la, .int .i64 co, .int .i64 sp] 28))
    have Q5 := hide (hq.below e5)
    clear hq
    have X5 := hide (keepRow (hF.row X3.out (fun e => by have e2 : w3.heap.size = p := e; omega)) e5)
    have R5 := hide (keepRow (hF.row R3.out (fun e => by have e2 : w.heap.size = p := e; omega)) e5)
    have E5 := hide ((E3.out.trans (hF.bel.mono (by omega))).of e5)
    have HA5 := hide ((HA3.out.frs hF (fun b off h0 e s => NAK.out b off h0 e s)).below e5)
    have HS5 := hide ((HS3.out.frs hF (fun b off h0 e s => NSB.out b off h0 e s)).below e5)
    have hs5 := hF.bel.size
    clear hF e5 X3 R3 E3 K3 HA3 HS3 f0_ f1_ f2_ f3_ f4_ f5_ f6_ f7_ f8_ f9_ f10_ f11_ f12_
    go_upto_region 8 with (fail)
    generalize w5.alloc (.cells #[.int .i64 T, .int .i64 fl, .int .i64 st, .int .i64 pd, .slice A4 0 c4, .slice A5 n2 c5, .int .i64 wt, .int .i64 pa, .bool al, .int .i64 pm, .int .i64 la, .int .i64 co, .int .i64 sp] 28) = W5 at *
    obtain ⟨f0_, f1_, f2_, f3_, f4_, f5_, f6_, f7_, f8_, f9_, f10_, f11_, f12_⟩ := row13 R5.out
    go_wp2_with fail
    refine (HRR.out _ HA5.out).mono ?_
    rintro e w6 ⟨v6, A6, c6, rfl, ⟨hy1, hy2⟩, hb⟩
    unfold FWN
    have e6 := (Below.refl w6.heap.size w6).alloc (Nat.le_refl _) (.cells #[.int .i64 T, .int .i64 fl, .int .i64 st, .int .i64 pd, .slice A6 0 c6, .slice A2 n2 c2, .int .i64 wt, .int .i64 pa, .bool al, .int .i64 pm, .int .i64 la, .int .i64 co, .int .i64 sp] 28)
    have ht := hb.of e6
    have Y6 := hide (heap_alloc_new w6 (.cells #[.int .i64 T, .int .i64 fl, .int .i64 st, .int .i64 pd, .slice A6 0 c6, .slice A2 n2 c2, .int .i64 wt, .int .i64 pa, .bool al, .int .i64 pm, .int .i64 la, .int .i64 co, .int .i64 sp] 28))
    have X6 := hide (keepRow X5.out ht)
    have Z6 := hide (keepRow Z5.out ht)
    have R6 := hide (keepRow R5.out ht)
    have E6 := hide (E5.out.of ht)
    have HS6 := hide (HS5.out.below ht)
    have Q6 := hide (Q5.out.below ht)
    clear ht hb e6 X5 Z5 R5 E5 HA5 HS5 f0_ f1_ f2_ f3_ f4_ f5_ f6_ f7_ f8_ f9_ f10_ f11_ f12_
    go_upto_region 9 with (fail)
    generalize w6.alloc (.cells #[.int .i64 T, .int .i64 fl, .int .i64 st, .int .i64 pd, .slice A6 0 c6, .slice A2 n2 c2, .int .i64 wt, .int .i64 pa, .bool al, .int .i64 pm, .int .i64 la, .int .i64 co, .int .i64 sp] 28) = W6 at *
    obtain ⟨f0_, f1_, f2_, f3_, f4_, f5_, f6_, f7_, f8_, f9_, f10_, f11_, f12_⟩ := row13 R6.out
    go_wp2_with fail
    refine (takesNobody30 T fl st pd A n c A2 n2 c2 wt pa al pm la co sp _).mono ?_
    rintro e w7 ⟨rfl, hb⟩
    have X7 := hide (keepRow X6.out hb)
    have Z7 := hide (keepRow Z6.out hb)
    have Y7 := hide (keepRow Y6.out hb)
    have E7 := hide (E6.out.of hb)
    have HS7 := hide (HS6.out.below hb)
    have Q7 := hide (Q6.out.below hb)
    clear hb X6 Z6 Y6 R6 E6 HS6 f0_ f1_ f2_ f3_ f4_ f5_ f6_ f7_ f8_ f9_ f10_ f11_ f12_
    obtain ⟨g0_, g1_, g2_, g3_, g4_, g5_, g6_, g7_, g8_, g9_, g10_, g11_, g12_⟩ := row13 X7.out
    go_wp2_with fail
    refine (rfsame14 0 0 0 0 0 0 0 0 none none 0 0 0 0 (oneF 0) (oneF 0) none none 0 0 0 0 (oneF 0) (oneF 0) (oneF 0) (oneF 0) 0 0 0 0 0 0 0 0 0 0 0 0 false false _ (Rd.nil _ _ _) (Rd.nil _ _ _) (fun i hi => by omega) (fun i hi => by omega) (Rd2.nil _ _ _) (Rd2.nil _ _ _)).mono ?_
    rw [smB_selfY]
    rintro e w8 ⟨rfl, hb⟩
    have Z8 := hide (keepRow Z7.out hb)
    have Y8 := hide (keepRow Y7.out hb)
    have E8 := hide (E7.out.of hb)
    have HS8 := hide (HS7.out.below hb)
    have Q8 := hide (Q7.out.below hb)
    clear hb X7 Z7 Y7 E7 HS7 g0_ g1_ g2_ g3_ g4_ g5_ g6_ g7_ g8_ g9_ g10_ g11_ g12_
    obtain ⟨g0_, g1_, g2_, g3_, g4_, g5_, g6_, g7_, g8_, g9_, g10_, g11_, g12_⟩ := row13 Z8.out
    obtain ⟨f0_, f1_, f2_, f3_, f4_, f5_, f6_, f7_, f8_, f9_, f10_, f11_, f12_⟩ := row13 Y8.out
    go_wp2_with fail
    refine (rfsame14 T fl st pd T fl st pd A4 A6 0 c4 0 c6 (oneF 0) (oneF 0) A5 A2 n2 c5 n2 c2 s t s t wt pa pm la co sp wt pa pm la co sp al al _ ⟨Nat.zero_le _, hz1, hz2, fun h => absurd h (by omega)⟩ ⟨Nat.zero_le _, hy1, hy2, fun h => absurd h (by omega)⟩ (fun i hi => by omega) (fun i hi => by omega) Q8.out HS8.out).mono ?_
    rw [smB_selfY]
    rintro e w9 ⟨rfl, hb⟩
    have E9 := hide (E8.out.of hb)
    clear hb Z8 Y8 E8 HS8 g0_ g1_ g2_ g3_ g4_ g5_ g6_ g7_ g8_ g9_ g10_ g11_ g12_ f0_ f1_ f2_ f3_ f4_ f5_ f6_ f7_ f8_ f9_ f10_ f11_ f12_
    go_wp2_with fail
    refine (alive30 _).mono ?_
    rintro e w' ⟨rfl, hb⟩
    have HB := hide (E9.out.of hb)
    clear hb
    go_wp2_with fail
    go_ret
    exact ⟨rfl, HB.out⟩

end Go.Proofs.Ytelcpfjifhobjaa
