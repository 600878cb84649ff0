/- Layer 14: what any frame says, by the reference: one answer for all. -/
import Derived.Test.YtpnjamomkpkkeaaFs5
import Derived.Test.YtpnjamomkpkkeaaFs6
import Derived.Test.YtpnjamomkpkkeaaFs7
import Derived.Test.YtpnjamomkpkkeaaFs8
import Derived.Test.YtpnjamomkpkkeaaFsa
import Derived.Test.YtpnjamomkpkkeaaFsb
namespace Go.Proofs.Ytpnjamomkpkkeaa
set_option linter.unusedVariables false
set_option linter.unusedSimpArgs false
open Go.RowKit

def RsR (G : FR) (f : Nat → Int) (w : World) (e : Ending) (w' : World) : Prop :=
  ∃ A2 c2 A3 c3, e = .returned (.tuple #[.agg #[.int .i64 G.T, .int .i64 G.fl, .int .i64 G.st, .int .i64 G.pad, .slice A2 G.N c2, .slice A3 G.sn c3, .int .i64 G.wt, .int .i64 G.pa, .bool G.al, .int .i64 G.pm, .int .i64 G.la, .int .i64 G.co, .int .i64 G.sp], .agg #[.int .i64 G.fs, .int .i64 G.fc]]) ∧ Rd .u8 w' A2 G.N c2 (fun i => f (G.off + i)) ∧ Rd2 w' A3 G.sn c3 (sF f) (sG f) ∧ Below w.heap.size w w'
theorem RPost.rs {T fl st : Int} {D : FD} {N n : Nat} {f : Nat → Int} {w w' : World} {e : Ending} (h : RPost T fl st D N f w e w') (hN : upN n D.off (m0 D.pad) = N) : RsR (goodR T fl st n D) f w e w' := by
  obtain ⟨A2, c2, A3, c3, h1, h2, h3, h4⟩ := h
  subst hN
  exact ⟨A2, c2, A3, c3, h1, h2, h3, h4⟩
theorem heap13z {w : World} {p q : Nat} (hne : q ≠ p) (b0 b1 b2 b3 b4 b5 b6 b7 b8 b9 b10 b11 b12 : Value) : (((((((((((((w.setCell ⟨p, 0, none⟩ b0).setCell ⟨p, 1, none⟩ b1).setCell ⟨p, 2, none⟩ b2).setCell ⟨p, 3, none⟩ b3).setCell ⟨p, 4, none⟩ b4).setCell ⟨p, 5, none⟩ b5).setCell ⟨p, 6, none⟩ b6).setCell ⟨p, 7, none⟩ b7).setCell ⟨p, 8, none⟩ b8).setCell ⟨p, 9, none⟩ b9).setCell ⟨p, 10, none⟩ b10).setCell ⟨p, 11, none⟩ b11).setCell ⟨p, 12, none⟩ b12).heap[q]? = w.heap[q]? := by
  rw [Below.heap_setCell _ ⟨p, 12, none⟩ _ _ hne, Below.heap_setCell _ ⟨p, 11, none⟩ _ _ hne, Below.heap_setCell _ ⟨p, 10, none⟩ _ _ hne, Below.heap_setCell _ ⟨p, 9, none⟩ _ _ hne, Below.heap_setCell _ ⟨p, 8, none⟩ _ _ hne, Below.heap_setCell _ ⟨p, 7, none⟩ _ _ hne, Below.heap_setCell _ ⟨p, 6, none⟩ _ _ hne, Below.heap_setCell _ ⟨p, 5, none⟩ _ _ hne, Below.heap_setCell _ ⟨p, 4, none⟩ _ _ hne, Below.heap_setCell _ ⟨p, 3, none⟩ _ _ hne, Below.heap_setCell _ ⟨p, 2, none⟩ _ _ hne, Below.heap_setCell _ ⟨p, 1, none⟩ _ _ hne, Below.heap_setCell _ ⟨p, 0, none⟩ _ _ hne]
theorem cell13z {w : World} {p b j : Nat} (hne : b ≠ p) (b0 b1 b2 b3 b4 b5 b6 b7 b8 b9 b10 b11 b12 : Value) : (((((((((((((w.setCell ⟨p, 0, none⟩ b0).setCell ⟨p, 1, none⟩ b1).setCell ⟨p, 2, none⟩ b2).setCell ⟨p, 3, none⟩ b3).setCell ⟨p, 4, none⟩ b4).setCell ⟨p, 5, none⟩ b5).setCell ⟨p, 6, none⟩ b6).setCell ⟨p, 7, none⟩ b7).setCell ⟨p, 8, none⟩ b8).setCell ⟨p, 9, none⟩ b9).setCell ⟨p, 10, none⟩ b10).setCell ⟨p, 11, none⟩ b11).setCell ⟨p, 12, none⟩ b12).cell? ⟨b, j, none⟩ = w.cell? ⟨b, j, none⟩ := by
  have hh := heap13z (w := w) hne b0 b1 b2 b3 b4 b5 b6 b7 b8 b9 b10 b11 b12
  unfold World.cell?
  simp only at hh ⊢
  rw [hh]
abbrev set13z (w : World) (p : Nat) (b0 b1 b2 b3 b4 b5 b6 b7 b8 b9 b10 b11 b12 : Value) : World := (((((((((((((w.setCell ⟨p, 0, none⟩ b0).setCell ⟨p, 1, none⟩ b1).setCell ⟨p, 2, none⟩ b2).setCell ⟨p, 3, none⟩ b3).setCell ⟨p, 4, none⟩ b4).setCell ⟨p, 5, none⟩ b5).setCell ⟨p, 6, none⟩ b6).setCell ⟨p, 7, none⟩ b7).setCell ⟨p, 8, none⟩ b8).setCell ⟨p, 9, none⟩ b9).setCell ⟨p, 10, none⟩ b10).setCell ⟨p, 11, none⟩ b11).setCell ⟨p, 12, none⟩ b12)
theorem heap2z {w : World} {p q : Nat} (hne : q ≠ p) (b0 b1 : Value) : ((w.setCell ⟨p, 0, none⟩ b0).setCell ⟨p, 1, none⟩ b1).heap[q]? = w.heap[q]? := by
  rw [Below.heap_setCell _ ⟨p, 1, none⟩ _ _ hne, Below.heap_setCell _ ⟨p, 0, none⟩ _ _ hne]
theorem cell2z {w : World} {p b j : Nat} (hne : b ≠ p) (b0 b1 : Value) : ((w.setCell ⟨p, 0, none⟩ b0).setCell ⟨p, 1, none⟩ b1).cell? ⟨b, j, none⟩ = w.cell? ⟨b, j, none⟩ := by
  have hh := heap2z (w := w) hne b0 b1
  unfold World.cell?
  simp only at hh ⊢
  rw [hh]
abbrev set2z (w : World) (p : Nat) (b0 b1 : Value) : World := ((w.setCell ⟨p, 0, none⟩ b0).setCell ⟨p, 1, none⟩ b1)
theorem heapDrewZ {w : World} {p : Nat} {o : Option Obj} (h : w.heap[p]? = o) : w.drew.heap[p]? = o := h
theorem absZ {p : World → Prop} (W0 : World) (R : World → Prop) (h0 : R W0) (h : ∀ W, R W → p W) : p W0 := h W0 h0
set_option maxRecDepth 100000 in
set_option maxHeartbeats 3200000 in
theorem rparse_bad (fm T fl st : Int) (rs : Bool) (A : Option Addr) (n c : Nat) (f : Nat → Int) (S C : Int) (h0 : 0 ≤ fl) (hfl : fl ≤ 255) (hn : n ≤ 100000) (w : World) (ha : Rd .u8 w A n c f) (hf : Byt n f) (hS : rflt T fl st n f = (S, C)) (hne : S ≠ 0) : Calls Try.prog 63 #[.agg #[.int .i64 fm, .int .i64 T, .int .i64 fl, .int .i64 st, .bool rs, .slice A n c]] w (RsR { fs := S, fc := C } f w) := by
  obtain ⟨x0, x1, x2, e0⟩ := heap3f w #[.int .i64 fm, .int .i64 T, .int .i64 fl, .int .i64 st, .bool rs, .slice A n c] z13 #[.int .i64 0, .int .i64 0] 29 25 38
  have RS0 := hide x0
  have RQ0 := hide x1
  have RU0 := hide x2
  have E0 := hide e0
  have Hf := hide hf
  have HS := hide hS
  have HA0 := hide (ha.below e0)
  have dS : (S != 0) = true := by simp [hne]
  clear x0 x1 x2 e0 hf hS ha hne
  go_enter Try.func63, Try.ntmps63
  go_upto_region 1 with (fail)
  generalize ((w.alloc (.cells #[.int .i64 fm, .int .i64 T, .int .i64 fl, .int .i64 st, .bool rs, .slice A n c] 29)).alloc (.cells z13 25)).alloc (.cells #[.int .i64 0, .int .i64 0] 38) = W0 at *
  obtain ⟨s0, s1, s2, s3, s4, s5⟩ := row6 RS0.out
  go_wp2_with fail
  refine (rfault14 fm T fl st rs _ n c f h0 hfl hn _ HA0.out Hf.out).mono ?_
  rw [HS.out]
  rintro e w1 ⟨rfl, hb⟩
  have al1 := (Below.refl w1.heap.size w1).alloc (Nat.le_refl _) (.cells #[.int .i64 S, .int .i64 C] 38)
  have ht := hb.of al1
  have hw0 := rowLt RU0.out
  have RV := hide (heap_alloc_new w1 (.cells #[.int .i64 S, .int .i64 C] 38))
  have RQ := hide (keepRow RQ0.out ht)
  have RU := hide (keepRow RU0.out ht)
  have EE := hide (E0.out.of ht)
  have hs1 := hb.size
  clear s0 s1 s2 s3 s4 s5 ht al1 hb RS0 RQ0 RU0 E0 HA0
  go_upto_region 3 with (fail)
  generalize w1.alloc (.cells #[.int .i64 S, .int .i64 C] 38) = W1 at *
  generalize w1.heap.size = p at *
  obtain ⟨v0, v1⟩ := row2 RV.out
  obtain ⟨⟨k0, f0_⟩, ⟨k1, f1_⟩, ⟨k2, f2_⟩, ⟨k3, f3_⟩, ⟨k4, f4_⟩, ⟨k5, f5_⟩, ⟨k6, f6_⟩, ⟨k7, f7_⟩, ⟨k8, f8_⟩, ⟨k9, f9_⟩, ⟨k10, f10_⟩, ⟨k11, f11_⟩, ⟨k12, f12_⟩, rq⟩ := store13 RQ.out (.int .i64 0) (.int .i64 0) (.int .i64 0) (.int .i64 0) (.slice none 0 0) (.slice none 0 0) (.int .i64 0) (.int .i64 0) (.bool false) (.int .i64 0) (.int .i64 0) (.int .i64 0) (.int .i64 0)
  have gB := hide (FrS.set13 (B := w.heap.size) (S := Q1 (w.heap.size + 1)) (by omega) (rowLt RQ.out) rfl (.int .i64 0) (.int .i64 0) (.int .i64 0) (.int .i64 0) (.slice none 0 0) (.slice none 0 0) (.int .i64 0) (.int .i64 0) (.bool false) (.int .i64 0) (.int .i64 0) (.int .i64 0) (.int .i64 0))
  obtain ⟨⟨l0, m0_⟩, ⟨l1, m1_⟩, ru⟩ := store2f (gB.out.row RU.out (fun e => by have e2 : w.heap.size + 1 + 1 = w.heap.size + 1 := e; omega)) (.int .i64 S) (.int .i64 C)
  have gU := hide (FrS.set2 (B := w.heap.size) (S := Q1 (w.heap.size + 1 + 1)) (by omega) (rowLt (gB.out.row RU.out (fun e => by have e2 : w.heap.size + 1 + 1 = w.heap.size + 1 := e; omega))) rfl (.int .i64 S) (.int .i64 C))
  have RZ := hide (gU.out.row rq (fun e => by have e2 : w.heap.size + 1 = w.heap.size + 1 + 1 := e; omega))
  have RY := hide ru
  have EF := hide ((EE.out.trans gB.out.bel).trans gU.out.bel)
  have hpn : p ≠ w.heap.size + 1 := by omega
  have hpm : p ≠ w.heap.size + 1 + 1 := by omega
  have RZd := hide (heapDrewZ RZ.out)
  have RYd := hide (heapDrewZ RY.out)
  have EFd := hide EF.out.drew
  have HPN := hide hpn
  have HPM := hide hpm
  have S0 := hide (And.intro v0 v1)
  clear rq ru gB gU hpn hpm
  go_region_held3 (fun W => W.cell? ⟨p, 0, none⟩ = some (.int .i64 S) ∧ W.cell? ⟨p, 1, none⟩ = some (.int .i64 C))
    ((first | with_reducible exact S0.out | (simp only [World.cell?_drew, cell13z HPN.out, cell2z HPM.out]; with_reducible exact S0.out)))
    ((fail))
  all_goals
    first
      | with_reducible refine absZ (set2z (set13z W1 (w.heap.size + 1) (.int .i64 0) (.int .i64 0) (.int .i64 0) (.int .i64 0) (.slice none 0 0) (.slice none 0 0) (.int .i64 0) (.int .i64 0) (.bool false) (.int .i64 0) (.int .i64 0) (.int .i64 0) (.int .i64 0)) (w.heap.size + 1 + 1) (.int .i64 S) (.int .i64 C)).drew (fun W => W.heap[w.heap.size + 1]? = some (.cells z13 25 (0, 0)) ∧ W.heap[w.heap.size + 1 + 1]? = some (.cells #[.int .i64 S, .int .i64 C] 38 (0, 0)) ∧ Below w.heap.size w W) ⟨RZd.out, RYd.out, EFd.out⟩ ?_
      | with_reducible refine absZ (set2z (set13z W1 (w.heap.size + 1) (.int .i64 0) (.int .i64 0) (.int .i64 0) (.int .i64 0) (.slice none 0 0) (.slice none 0 0) (.int .i64 0) (.int .i64 0) (.bool false) (.int .i64 0) (.int .i64 0) (.int .i64 0) (.int .i64 0)) (w.heap.size + 1 + 1) (.int .i64 S) (.int .i64 C)) (fun W => W.heap[w.heap.size + 1]? = some (.cells z13 25 (0, 0)) ∧ W.heap[w.heap.size + 1 + 1]? = some (.cells #[.int .i64 S, .int .i64 C] 38 (0, 0)) ∧ Below w.heap.size w W) ⟨RZ.out, RY.out, EF.out⟩ ?_
    clear k0 f0_ k1 f1_ k2 f2_ k3 f3_ k4 f4_ k5 f5_ k6 f6_ k7 f7_ k8 f8_ k9 f9_ k10 f10_ k11 f11_ k12 f12_ l0 m0_ l1 m1_ RZ RY EF RZd RYd EFd S0 v0 v1
    rintro WW ⟨rP, rQ, eE⟩
    have EEf := hide eE
    obtain ⟨n0_, n1_, n2_, n3_, n4_, n5_, n6_, n7_, n8_, n9_, n10_, n11_, n12_⟩ := row13 rP
    obtain ⟨o0, o1⟩ := row2 rQ
    clear rP rQ eE
    go_wp2_with fail
    refine bodyPost_ret (v := .tuple #[.agg #[.int .i64 0, .int .i64 0, .int .i64 0, .int .i64 0, .slice none 0 0, .slice none 0 0, .int .i64 0, .int .i64 0, .bool false, .int .i64 0, .int .i64 0, .int .i64 0, .int .i64 0], .agg #[.int .i64 S, .int .i64 C]]) ?_ rfl ⟨none, 0, none, 0, rfl, Rd.nil _ _ _, Rd2.nil _ _ _, EEf.out⟩
    rw [results_cc14 rfl]
    go_simp
theorem nb_ok {f : Nat → Int} {n t s : Nat} (h : t + s ≤ n) : nbV f n t s = num (fun i => f (t + i)) s ∧ nbT n t s = t + s ∧ nbM n t s = false := by
  unfold nbV nbT nbM
  rw [if_pos h, if_pos h, decide_eq_true h]
  exact ⟨rfl, rfl, rfl⟩
theorem nbM_no {n t s : Nat} (h : nbM n t s = false) : t + s ≤ n := by
  unfold nbM at h
  simpa using h
theorem misB_rf {T fl st : Int} {n : Nat} {f : Nat → Int} (hm : misB T st = true) : rflt T fl st n f = (2, 1) := by unfold rflt; rw [if_pos hm]
theorem rflt_rf {T fl st : Int} {n : Nat} {f : Nat → Int} (hm : misB T st = false) : rflt T fl st n f = rfF T fl n f := by unfold rflt rfF; rw [hm, if_neg (by decide)]
theorem rparse14 (fm T fl st : Int) (rs : Bool) (A : Option Addr) (n c : Nat) (f : Nat → Int) (hr : HdR n T fl st) (hn : n ≤ 100000) (w : World) (ha : Rd .u8 w A n c f) (hf : Byt n f) : Calls Try.prog 63 #[.agg #[.int .i64 fm, .int .i64 T, .int .i64 fl, .int .i64 st, .bool rs, .slice A n c]] w (RsR (frR T fl st n f) f w) := by
  have h0 : 0 ≤ fl := hr.2.2.1.1
  have hfl : fl ≤ 255 := hr.2.2.1.2
  have hA : ∀ b off, 0 < n → A = some ⟨b, off, none⟩ → b < w.heap.size := fun b off hn e => by
    obtain ⟨b', off', e', hl, _⟩ := ha.block hn
    rw [e] at e'
    cases e'
    exact hl
  cases hm : misB T st with
  | true =>
    have e : frR T fl st n f = { fs := 2, fc := 1 } := by unfold frR; rw [if_pos hr, hm, if_pos rfl]
    rw [e]
    exact rparse_bad fm T fl st rs A n c f 2 1 h0 hfl hn w ha hf (misB_rf hm) (by decide)
  | false =>
  have h1 : rflt T fl st n f = frF T fl n f := (rflt_rf hm).trans (flt_eq hf)
  have hsz : szS T ≠ 0 := by unfold szS; split <;> decide
  cases hs : wrsB T fl n with
  | true =>
    have e : frR T fl st n f = { fs := szS T, fc := 6 } := by unfold frR; rw [if_pos hr, hm, if_neg (by decide), hs, if_pos rfl]
    have e2 : frF T fl n f = (szS T, 6) := by unfold frF; rw [hs, if_pos rfl]
    rw [e]
    exact rparse_bad fm T fl st rs A n c f _ _ h0 hfl hn w ha hf (h1.trans e2) hsz
  | false =>
  cases hms : (fdOf T fl n f).ms with
  | true =>
    have e : frR T fl st n f = { fs := szS T, fc := 6 } := by unfold frR; rw [if_pos hr, hm, if_neg (by decide), hs, if_neg (by decide), hms, if_pos rfl]
    have e2 : frF T fl n f = (szS T, 6) := by unfold frF; rw [hs, if_neg (by decide), hms, if_pos rfl]
    rw [e]
    exact rparse_bad fm T fl st rs A n c f _ _ h0 hfl hn w ha hf (h1.trans e2) hsz
  | false =>
  cases hov : ovB (fdOf T fl n f) n with
  | true =>
    have e : frR T fl st n f = { fs := 2, fc := 1 } := by unfold frR; rw [if_pos hr, hm, if_neg (by decide), hs, if_neg (by decide), hms, if_neg (by decide), hov, if_pos rfl]
    have e2 : frF T fl n f = (2, 1) := by unfold frF; rw [hs, if_neg (by decide), hms, if_neg (by decide), hov, if_pos rfl]
    rw [e]
    exact rparse_bad fm T fl st rs A n c f _ _ h0 hfl hn w ha hf (h1.trans e2) (by decide)
  | false =>
  have e : frR T fl st n f = goodR T fl st n (fdOf T fl n f) := by unfold frR; rw [if_pos hr, hm, if_neg (by decide), hs, if_neg (by decide), hms, if_neg (by decide), hov, if_neg (by decide)]
  have e2 : frF T fl n f = (0, 0) := by unfold frF; rw [hs, if_neg (by decide), hms, if_neg (by decide), hov, if_neg (by decide)]
  have hok := h1.trans e2
  rw [e]
  clear h1 e2 e hm hsz
  have hby : 0 < n → 0 ≤ f 0 ∧ f 0 ≤ 255 := fun h => hf 0 h
  by_cases h0' : T = 0
  · subst h0'
    have e5 : hsB 0 fl 5 = false := hsB5_no (by decide)
    cases e3 : hsB 0 fl 3 with
    | true =>
      have hfd : fdOf 0 fl n f = { pad := nbV f n 0 1, off := (nbT n 0 1), ms := (false || (nbM n 0 1)) } := by unfold fdOf; rw [if_pos rfl, if_pos e3]
      rw [hfd] at hms hov ⊢
      simp only [Bool.or_eq_false_iff] at hms
      obtain ⟨-, m0_⟩ := hms
      have L0_ := nbM_no m0_
      obtain ⟨V0_, T0_, M0_⟩ := nb_ok (f := f) (n := n) (t := 0) (s := 1) (by omega)
      simp only [Nat.reduceAdd] at T0_
      have hD : ({ pad := nbV f n 0 1, off := (nbT n 0 1), ms := (false || (nbM n 0 1)) } : FD) = ({ pad := f 0, off := 1 } : FD) := by simp only [V0_, T0_, M0_, num1, Nat.sub_zero, Nat.add_zero, Bool.or_false, Bool.or_self]
      rw [hD] at hov ⊢
      clear hD hfd
      have hb0 := hby (by omega)
      have hov2 : ¬ (((n - 1 : Nat) : Int) < f 0) := by have h := of_decide_eq_false hov; rw [show m0 (f 0) = f 0 from m0_of hb0.1] at h; exact h
      obtain ⟨E, hE⟩ : ∃ E : Nat, E = n - (f 0).toNat := ⟨_, rfl⟩
      refine (rp_o10 fm fl st rs 0 (by decide) A n c f h0 hfl hn e3 e5 hok E (by omega) (by omega) (by omega) w hA ha hf).mono fun e w' h => h.rs ?_
      show upN n 1 (m0 (f 0)) = _
      rw [m0_of hb0.1]
      unfold upN
      rw [if_pos (by omega)]
      omega
    | false =>
      have hfd : fdOf 0 fl n f = { off := 0 } := by unfold fdOf; rw [if_pos rfl, if_neg (by rw [e3]; decide)]
      rw [hfd] at hms hov ⊢
      have hD : ({ off := 0 } : FD) = ({ off := 0 } : FD) := rfl
      rw [hD] at hov ⊢
      clear hD hfd
      refine (rp_o00 fm fl st rs 0 (by decide) A n c f h0 hfl hn e3 e5 hok n rfl (by omega) (Nat.le_refl _) w hA ha hf).mono fun e w' h => h.rs ?_
      show upN n 0 (m0 (-1)) = _
      unfold upN m0
      simp
  by_cases h1 : T = 1
  · subst h1
    cases e3 : hsB 1 fl 3 with
    | true =>
      cases e5 : hsB 1 fl 5 with
      | true =>
        have hfd : fdOf 1 fl n f = { pad := nbV f n 0 1, pa := lowN (nbV f n (nbT n 0 1) 4), al := lowB (nbV f n (nbT n 0 1) 4), wt := nbV f n (nbT n (nbT n 0 1) 4) 1, off := (nbT n (nbT n (nbT n 0 1) 4) 1), ms := (((false || (nbM n 0 1)) || nbM n (nbT n 0 1) 4) || nbM n (nbT n (nbT n 0 1) 4) 1) } := by unfold fdOf; rw [if_neg (by decide), if_pos rfl, if_pos e3, if_pos e5]
        rw [hfd] at hms hov ⊢
        simp only [Bool.or_eq_false_iff] at hms
        obtain ⟨⟨⟨-, m0_⟩, m1_⟩, m2_⟩ := hms
        have L0_ := nbM_no m0_
        obtain ⟨V0_, T0_, M0_⟩ := nb_ok (f := f) (n := n) (t := 0) (s := 1) (by omega)
        simp only [Nat.reduceAdd] at T0_
        rw [T0_] at m1_
        have L1_ := nbM_no m1_
        obtain ⟨V1_, T1_, M1_⟩ := nb_ok (f := f) (n := n) (t := 1) (s := 4) (by omega)
        simp only [Nat.reduceAdd] at T1_
        rw [T0_, T1_] at m2_
        have L2_ := nbM_no m2_
        obtain ⟨V2_, T2_, M2_⟩ := nb_ok (f := f) (n := n) (t := 5) (s := 1) (by omega)
        simp only [Nat.reduceAdd] at T2_
        have hD : ({ pad := nbV f n 0 1, pa := lowN (nbV f n (nbT n 0 1) 4), al := lowB (nbV f n (nbT n 0 1) 4), wt := nbV f n (nbT n (nbT n 0 1) 4) 1, off := (nbT n (nbT n (nbT n 0 1) 4) 1), ms := (((false || (nbM n 0 1)) || nbM n (nbT n 0 1) 4) || nbM n (nbT n (nbT n 0 1) 4) 1) } : FD) = ({ pad := f 0, pa := lowN (num (fun i => f (1 + i)) 4), al := lowB (num (fun i => f (1 + i)) 4), wt := f 5, off := 6 } : FD) := by simp only [V0_, T0_, M0_, V1_, T1_, M1_, V2_, T2_, M2_, num1, Nat.sub_zero, Nat.add_zero, Bool.or_false, Bool.or_self]
        rw [hD] at hov ⊢
        clear hD hfd
        have hb0 := hby (by omega)
        have hov2 : ¬ (((n - 6 : Nat) : Int) < f 0) := by have h := of_decide_eq_false hov; rw [show m0 (f 0) = f 0 from m0_of hb0.1] at h; exact h
        obtain ⟨E, hE⟩ : ∃ E : Nat, E = n - (f 0).toNat := ⟨_, rfl⟩
        refine (rp_o11 fm fl st rs 1 (by decide) A n c f h0 hfl hn e3 e5 hok E (by omega) (by omega) (by omega) w hA ha hf).mono fun e w' h => h.rs ?_
        show upN n 6 (m0 (f 0)) = _
        rw [m0_of hb0.1]
        unfold upN
        rw [if_pos (by omega)]
        omega
      | false =>
        have hfd : fdOf 1 fl n f = { pad := nbV f n 0 1, off := (nbT n 0 1), ms := (false || (nbM n 0 1)) } := by unfold fdOf; rw [if_neg (by decide), if_pos rfl, if_pos e3, if_neg (by rw [e5]; decide)]
        rw [hfd] at hms hov ⊢
        simp only [Bool.or_eq_false_iff] at hms
        obtain ⟨-, m0_⟩ := hms
        have L0_ := nbM_no m0_
        obtain ⟨V0_, T0_, M0_⟩ := nb_ok (f := f) (n := n) (t := 0) (s := 1) (by omega)
        simp only [Nat.reduceAdd] at T0_
        have hD : ({ pad := nbV f n 0 1, off := (nbT n 0 1), ms := (false || (nbM n 0 1)) } : FD) = ({ pad := f 0, off := 1 } : FD) := by simp only [V0_, T0_, M0_, num1, Nat.sub_zero, Nat.add_zero, Bool.or_false, Bool.or_self]
        rw [hD] at hov ⊢
        clear hD hfd
        have hb0 := hby (by omega)
        have hov2 : ¬ (((n - 1 : Nat) : Int) < f 0) := by have h := of_decide_eq_false hov; rw [show m0 (f 0) = f 0 from m0_of hb0.1] at h; exact h
        obtain ⟨E, hE⟩ : ∃ E : Nat, E = n - (f 0).toNat := ⟨_, rfl⟩
        refine (rp_o10 fm fl st rs 1 (by decide) A n c f h0 hfl hn e3 e5 hok E (by omega) (by omega) (by omega) w hA ha hf).mono fun e w' h => h.rs ?_
        show upN n 1 (m0 (f 0)) = _
        rw [m0_of hb0.1]
        unfold upN
        rw [if_pos (by omega)]
        omega
    | false =>
      cases e5 : hsB 1 fl 5 with
      | true =>
        have hfd : fdOf 1 fl n f = { pa := lowN (nbV f n 0 4), al := lowB (nbV f n 0 4), wt := nbV f n (nbT n 0 4) 1, off := (nbT n (nbT n 0 4) 1), ms := ((false || nbM n 0 4) || nbM n (nbT n 0 4) 1) } := by unfold fdOf; rw [if_neg (by decide), if_pos rfl, if_neg (by rw [e3]; decide), if_pos e5]
        rw [hfd] at hms hov ⊢
        simp only [Bool.or_eq_false_iff] at hms
        obtain ⟨⟨-, m0_⟩, m1_⟩ := hms
        have L0_ := nbM_no m0_
        obtain ⟨V0_, T0_, M0_⟩ := nb_ok (f := f) (n := n) (t := 0) (s := 4) (by omega)
        simp only [Nat.reduceAdd] at T0_
        rw [T0_] at m1_
        have L1_ := nbM_no m1_
        obtain ⟨V1_, T1_, M1_⟩ := nb_ok (f := f) (n := n) (t := 4) (s := 1) (by omega)
        simp only [Nat.reduceAdd] at T1_
        have hD : ({ pa := lowN (nbV f n 0 4), al := lowB (nbV f n 0 4), wt := nbV f n (nbT n 0 4) 1, off := (nbT n (nbT n 0 4) 1), ms := ((false || nbM n 0 4) || nbM n (nbT n 0 4) 1) } : FD) = ({ pa := lowN (num (fun i => f (0 + i)) 4), al := lowB (num (fun i => f (0 + i)) 4), wt := f 4, off := 5 } : FD) := by simp only [V0_, T0_, M0_, V1_, T1_, M1_, num1, Nat.sub_zero, Nat.add_zero, Bool.or_false, Bool.or_self]
        rw [hD] at hov ⊢
        clear hD hfd
        refine (rp_o01 fm fl st rs 1 (by decide) A n c f h0 hfl hn e3 e5 hok n rfl (by omega) (Nat.le_refl _) w hA ha hf).mono fun e w' h => h.rs ?_
        show upN n 5 (m0 (-1)) = _
        unfold upN m0
        simp
      | false =>
        have hfd : fdOf 1 fl n f = { off := 0 } := by unfold fdOf; rw [if_neg (by decide), if_pos rfl, if_neg (by rw [e3]; decide), if_neg (by rw [e5]; decide)]
        rw [hfd] at hms hov ⊢
        have hD : ({ off := 0 } : FD) = ({ off := 0 } : FD) := rfl
        rw [hD] at hov ⊢
        clear hD hfd
        refine (rp_o00 fm fl st rs 1 (by decide) A n c f h0 hfl hn e3 e5 hok n rfl (by omega) (Nat.le_refl _) w hA ha hf).mono fun e w' h => h.rs ?_
        show upN n 0 (m0 (-1)) = _
        unfold upN m0
        simp
  by_cases h2 : T = 2
  · subst h2
    have e5 : hsB 2 fl 5 = false := hsB5_no (by decide)
    have e3 : hsB 2 fl 3 = false := hsB3_no (by decide)
    have hfd : fdOf 2 fl n f = { pa := lowN (nbV f n 0 4), al := lowB (nbV f n 0 4), wt := nbV f n (nbT n 0 4) 1, off := (nbT n (nbT n 0 4) 1), ms := ((false || nbM n 0 4) || nbM n (nbT n 0 4) 1) } := by unfold fdOf; rw [if_neg (by decide), if_neg (by decide), if_pos rfl]
    rw [hfd] at hms hov ⊢
    simp only [Bool.or_eq_false_iff] at hms
    obtain ⟨⟨-, m0_⟩, m1_⟩ := hms
    have L0_ := nbM_no m0_
    obtain ⟨V0_, T0_, M0_⟩ := nb_ok (f := f) (n := n) (t := 0) (s := 4) (by omega)
    simp only [Nat.reduceAdd] at T0_
    rw [T0_] at m1_
    have L1_ := nbM_no m1_
    obtain ⟨V1_, T1_, M1_⟩ := nb_ok (f := f) (n := n) (t := 4) (s := 1) (by omega)
    simp only [Nat.reduceAdd] at T1_
    have hD : ({ pa := lowN (nbV f n 0 4), al := lowB (nbV f n 0 4), wt := nbV f n (nbT n 0 4) 1, off := (nbT n (nbT n 0 4) 1), ms := ((false || nbM n 0 4) || nbM n (nbT n 0 4) 1) } : FD) = ({ pa := lowN (num (fun i => f (0 + i)) 4), al := lowB (num (fun i => f (0 + i)) 4), wt := f 4, off := 5 } : FD) := by simp only [V0_, T0_, M0_, V1_, T1_, M1_, num1, Nat.sub_zero, Nat.add_zero, Bool.or_false, Bool.or_self]
    rw [hD] at hov ⊢
    clear hD hfd
    refine (rp_p fm fl st rs A n c f h0 hfl hn e3 hok n rfl (by omega) (Nat.le_refl _) w hA ha hf).mono fun e w' h => h.rs ?_
    show upN n 5 (m0 (-1)) = _
    unfold upN m0
    simp
  by_cases h3 : T = 3
  · subst h3
    have e5 : hsB 3 fl 5 = false := hsB5_no (by decide)
    have e3 : hsB 3 fl 3 = false := hsB3_no (by decide)
    have hfd : fdOf 3 fl n f = { co := nbV f n 0 4, off := (nbT n 0 4), ms := (false || nbM n 0 4) } := by unfold fdOf; rw [if_neg (by decide), if_neg (by decide), if_neg (by decide), if_pos rfl]
    rw [hfd] at hms hov ⊢
    simp only [Bool.or_eq_false_iff] at hms
    obtain ⟨-, m0_⟩ := hms
    have L0_ := nbM_no m0_
    obtain ⟨V0_, T0_, M0_⟩ := nb_ok (f := f) (n := n) (t := 0) (s := 4) (by omega)
    simp only [Nat.reduceAdd] at T0_
    have hD : ({ co := nbV f n 0 4, off := (nbT n 0 4), ms := (false || nbM n 0 4) } : FD) = ({ co := num (fun i => f (0 + i)) 4, off := 4 } : FD) := by simp only [V0_, T0_, M0_, num1, Nat.sub_zero, Nat.add_zero, Bool.or_false, Bool.or_self]
    rw [hD] at hov ⊢
    clear hD hfd
    have hn4 : n = 4 := by have h := hs; unfold wrsB at h; simp at h; omega
    refine (rp_r fm fl st rs A n c f h0 hfl hn e3 e5 hok (by omega) w hA ha hf).mono fun e w' h => ?_
    obtain ⟨A2, c2, A3, c3, r1, r2, r3, r4⟩ := h
    have hu : upN n 4 (m0 (-1)) = 0 := by unfold upN m0; simp; omega
    refine ⟨A2, c2, A3, c3, ?_, ?_, r3, r4⟩
    · show e = _
      rw [r1]
      show _ = Ending.returned (.tuple #[.agg #[_, _, _, _, .slice _ (upN n 4 (m0 (-1))) _, _, _, _, _, _, _, _, _], _])
      rw [hu]
      rfl
    · show Rd .u8 w' A2 (upN n 4 (m0 (-1))) c2 _
      rw [hu]
      exact r2.congr (fun i hi => by omega)
  by_cases h4 : T = 4
  · subst h4
    have e5 : hsB 4 fl 5 = false := hsB5_no (by decide)
    have e3 : hsB 4 fl 3 = false := hsB3_no (by decide)
    have hfd : fdOf 4 fl n f = { sn := nsN (n - 0), off := n, ms := (false || decide ((n - 0) % 6 ≠ 0)) } := by unfold fdOf; rw [if_neg (by decide), if_neg (by decide), if_neg (by decide), if_neg (by decide), if_pos rfl]
    rw [hfd] at hms hov ⊢
    simp only [Bool.or_eq_false_iff] at hms
    obtain ⟨-, m0_⟩ := hms
    have hm6 : n % 6 = 0 := by simpa using m0_
    have hD : ({ sn := nsN (n - 0), off := n, ms := (false || decide ((n - 0) % 6 ≠ 0)) } : FD) = ({ sn := nsN n, off := n } : FD) := by simp only [num1, Nat.sub_zero, Nat.add_zero, Bool.or_false, Bool.or_self]; simp [hm6]
    rw [hD] at hov ⊢
    clear hD hfd
    refine (rp_s fm fl st rs A n c f h0 hfl hn e3 e5 hok (hm6) w hA ha hf).mono fun e w' h => ?_
    obtain ⟨A2, c2, A3, c3, r1, r2, r3, r4⟩ := h
    have hu : upN n n (m0 (-1)) = 0 := by unfold upN m0; simp
    refine ⟨A2, c2, A3, c3, ?_, ?_, r3, r4⟩
    · show e = _
      rw [r1]
      show _ = Ending.returned (.tuple #[.agg #[_, _, _, _, .slice _ (upN n n (m0 (-1))) _, _, _, _, _, _, _, _, _], _])
      rw [hu]
      rfl
    · show Rd .u8 w' A2 (upN n n (m0 (-1))) c2 _
      rw [hu]
      exact r2.congr (fun i hi => by omega)
  by_cases h5 : T = 5
  · subst h5
    have e5 : hsB 5 fl 5 = false := hsB5_no (by decide)
    cases e3 : hsB 5 fl 3 with
    | true =>
      have hfd : fdOf 5 fl n f = { pad := nbV f n 0 1, pm := lowN (nbV f n (nbT n 0 1) 4), off := (nbT n (nbT n 0 1) 4), ms := ((false || (nbM n 0 1)) || nbM n (nbT n 0 1) 4) } := by unfold fdOf; rw [if_neg (by decide), if_neg (by decide), if_neg (by decide), if_neg (by decide), if_neg (by decide), if_pos rfl, if_pos e3]
      rw [hfd] at hms hov ⊢
      simp only [Bool.or_eq_false_iff] at hms
      obtain ⟨⟨-, m0_⟩, m1_⟩ := hms
      have L0_ := nbM_no m0_
      obtain ⟨V0_, T0_, M0_⟩ := nb_ok (f := f) (n := n) (t := 0) (s := 1) (by omega)
      simp only [Nat.reduceAdd] at T0_
      rw [T0_] at m1_
      have L1_ := nbM_no m1_
      obtain ⟨V1_, T1_, M1_⟩ := nb_ok (f := f) (n := n) (t := 1) (s := 4) (by omega)
      simp only [Nat.reduceAdd] at T1_
      have hD : ({ pad := nbV f n 0 1, pm := lowN (nbV f n (nbT n 0 1) 4), off := (nbT n (nbT n 0 1) 4), ms := ((false || (nbM n 0 1)) || nbM n (nbT n 0 1) 4) } : FD) = ({ pad := f 0, pm := lowN (num (fun i => f (1 + i)) 4), off := 5 } : FD) := by simp only [V0_, T0_, M0_, V1_, T1_, M1_, num1, Nat.sub_zero, Nat.add_zero, Bool.or_false, Bool.or_self]
      rw [hD] at hov ⊢
      clear hD hfd
      have hb0 := hby (by omega)
      have hov2 : ¬ (((n - 5 : Nat) : Int) < f 0) := by have h := of_decide_eq_false hov; rw [show m0 (f 0) = f 0 from m0_of hb0.1] at h; exact h
      obtain ⟨E, hE⟩ : ∃ E : Nat, E = n - (f 0).toNat := ⟨_, rfl⟩
      refine (rp_u1 fm fl st rs A n c f h0 hfl hn e3 e5 hok E (by omega) (by omega) (by omega) w hA ha hf).mono fun e w' h => h.rs ?_
      show upN n 5 (m0 (f 0)) = _
      rw [m0_of hb0.1]
      unfold upN
      rw [if_pos (by omega)]
      omega
    | false =>
      have hfd : fdOf 5 fl n f = { pm := lowN (nbV f n 0 4), off := (nbT n 0 4), ms := (false || nbM n 0 4) } := by unfold fdOf; rw [if_neg (by decide), if_neg (by decide), if_neg (by decide), if_neg (by decide), if_neg (by decide), if_pos rfl, if_neg (by rw [e3]; decide)]
      rw [hfd] at hms hov ⊢
      simp only [Bool.or_eq_false_iff] at hms
      obtain ⟨-, m0_⟩ := hms
      have L0_ := nbM_no m0_
      obtain ⟨V0_, T0_, M0_⟩ := nb_ok (f := f) (n := n) (t := 0) (s := 4) (by omega)
      simp only [Nat.reduceAdd] at T0_
      have hD : ({ pm := lowN (nbV f n 0 4), off := (nbT n 0 4), ms := (false || nbM n 0 4) } : FD) = ({ pm := lowN (num (fun i => f (0 + i)) 4), off := 4 } : FD) := by simp only [V0_, T0_, M0_, num1, Nat.sub_zero, Nat.add_zero, Bool.or_false, Bool.or_self]
      rw [hD] at hov ⊢
      clear hD hfd
      refine (rp_u0 fm fl st rs A n c f h0 hfl hn e3 e5 hok n rfl (by omega) (Nat.le_refl _) w hA ha hf).mono fun e w' h => h.rs ?_
      show upN n 4 (m0 (-1)) = _
      unfold upN m0
      simp
  by_cases h7 : T = 7
  · subst h7
    have e5 : hsB 7 fl 5 = false := hsB5_no (by decide)
    have e3 : hsB 7 fl 3 = false := hsB3_no (by decide)
    have hfd : fdOf 7 fl n f = { la := lowN (nbV f n 0 4), co := nbV f n (nbT n 0 4) 4, off := (nbT n (nbT n 0 4) 4), ms := ((false || nbM n 0 4) || nbM n (nbT n 0 4) 4) } := by unfold fdOf; rw [if_neg (by decide), if_neg (by decide), if_neg (by decide), if_neg (by decide), if_neg (by decide), if_neg (by decide), if_pos rfl]
    rw [hfd] at hms hov ⊢
    simp only [Bool.or_eq_false_iff] at hms
    obtain ⟨⟨-, m0_⟩, m1_⟩ := hms
    have L0_ := nbM_no m0_
    obtain ⟨V0_, T0_, M0_⟩ := nb_ok (f := f) (n := n) (t := 0) (s := 4) (by omega)
    simp only [Nat.reduceAdd] at T0_
    rw [T0_] at m1_
    have L1_ := nbM_no m1_
    obtain ⟨V1_, T1_, M1_⟩ := nb_ok (f := f) (n := n) (t := 4) (s := 4) (by omega)
    simp only [Nat.reduceAdd] at T1_
    have hD : ({ la := lowN (nbV f n 0 4), co := nbV f n (nbT n 0 4) 4, off := (nbT n (nbT n 0 4) 4), ms := ((false || nbM n 0 4) || nbM n (nbT n 0 4) 4) } : FD) = ({ la := lowN (num (fun i => f (0 + i)) 4), co := num (fun i => f (4 + i)) 4, off := 8 } : FD) := by simp only [V0_, T0_, M0_, V1_, T1_, M1_, num1, Nat.sub_zero, Nat.add_zero, Bool.or_false, Bool.or_self]
    rw [hD] at hov ⊢
    clear hD hfd
    refine (rp_g fm fl st rs A n c f h0 hfl hn e3 e5 hok n rfl (by omega) (Nat.le_refl _) w hA ha hf).mono fun e w' h => h.rs ?_
    show upN n 8 (m0 (-1)) = _
    unfold upN m0
    simp
  by_cases h8 : T = 8
  · subst h8
    have e5 : hsB 8 fl 5 = false := hsB5_no (by decide)
    have e3 : hsB 8 fl 3 = false := hsB3_no (by decide)
    have hfd : fdOf 8 fl n f = { sp := lowN (nbV f n 0 4), off := (nbT n 0 4), ms := (false || nbM n 0 4) } := by unfold fdOf; rw [if_neg (by decide), if_neg (by decide), if_neg (by decide), if_neg (by decide), if_neg (by decide), if_neg (by decide), if_neg (by decide), if_pos rfl]
    rw [hfd] at hms hov ⊢
    simp only [Bool.or_eq_false_iff] at hms
    obtain ⟨-, m0_⟩ := hms
    have L0_ := nbM_no m0_
    obtain ⟨V0_, T0_, M0_⟩ := nb_ok (f := f) (n := n) (t := 0) (s := 4) (by omega)
    simp only [Nat.reduceAdd] at T0_
    have hD : ({ sp := lowN (nbV f n 0 4), off := (nbT n 0 4), ms := (false || nbM n 0 4) } : FD) = ({ sp := lowN (num (fun i => f (0 + i)) 4), off := 4 } : FD) := by simp only [V0_, T0_, M0_, num1, Nat.sub_zero, Nat.add_zero, Bool.or_false, Bool.or_self]
    rw [hD] at hov ⊢
    clear hD hfd
    have hn4 : n = 4 := by have h := hs; unfold wrsB at h; simp at h; omega
    refine (rp_w fm fl st rs A n c f h0 hfl hn e3 e5 hok (by omega) w hA ha hf).mono fun e w' h => ?_
    obtain ⟨A2, c2, A3, c3, r1, r2, r3, r4⟩ := h
    have hu : upN n 4 (m0 (-1)) = 0 := by unfold upN m0; simp; omega
    refine ⟨A2, c2, A3, c3, ?_, ?_, r3, r4⟩
    · show e = _
      rw [r1]
      show _ = Ending.returned (.tuple #[.agg #[_, _, _, _, .slice _ (upN n 4 (m0 (-1))) _, _, _, _, _, _, _, _, _], _])
      rw [hu]
      rfl
    · show Rd .u8 w' A2 (upN n 4 (m0 (-1))) c2 _
      rw [hu]
      exact r2.congr (fun i hi => by omega)
  have e5 : hsB T fl 5 = false := hsB5_no h1
  have e3 : hsB T fl 3 = false := hsB3_no ⟨h0', h1, h5⟩
  have hfd : fdOf T fl n f = { off := 0 } := by unfold fdOf; rw [if_neg h0', if_neg h1, if_neg h2, if_neg h3, if_neg h4, if_neg h5, if_neg h7, if_neg h8]
  rw [hfd] at hms hov ⊢
  have hD : ({ off := 0 } : FD) = ({ off := 0 } : FD) := rfl
  rw [hD] at hov ⊢
  clear hD hfd
  refine (rp_o00 fm fl st rs T ⟨h2, h3, h4, h5, h7, h8⟩ A n c f h0 hfl hn e3 e5 hok n rfl (by omega) (Nat.le_refl _) w hA ha hf).mono fun e w' h => h.rs ?_
  show upN n 0 (m0 (-1)) = _
  unfold upN m0
  simp
end Go.Proofs.Ytpnjamomkpkkeaa
