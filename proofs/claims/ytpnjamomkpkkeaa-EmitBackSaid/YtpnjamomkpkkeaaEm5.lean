/- Layer 15: the body of a frame, as the program writes it. -/
import Derived.Test.YtpnjamomkpkkeaaEm4
import Derived.Test.YtpnjamomkpkkeaaMI
import Derived.Test.YtpnjamomkpkkeaaSetV
namespace Go.Proofs.Ytpnjamomkpkkeaa
set_option linter.unusedVariables false
set_option linter.unusedSimpArgs false
open Go.RowKit

theorem bne_u8 : 25 ≠ 5 := by decide
theorem WrB.flag {w : World} {p : Nat} {fl : Bool} {l : List Int} (h : WrB w p fl l) (b : Bool) : WrB (w.setCell ⟨p, 1, none⟩ (.bool b)) p b l ∧ Below p w (w.setCell ⟨p, 1, none⟩ (.bool b)) := by
  obtain ⟨A, c, hr, ho⟩ := h
  have hne : (Value.slice A l.length c).ownBlock ≠ some p := fun e => by have := (World.ownsRow.lt ho p e).1; omega
  have hr1 := setRow w p 1 (.bool b) hr
  simp only [List.setIfInBounds_toArray, List.set_cons_zero, List.set_cons_succ] at hr1
  exact ⟨⟨A, c, hr1, World.ownsRow.kept ho (grown_set w p 1 (.bool b)) (.inr hne)⟩, (Below.refl p w).setCell (p := ⟨p, 1, none⟩) (Nat.le_refl _) _⟩
theorem World.grownBy.heap_old5 {w w' : World} {p : Nat} (h : w.grownBy w' (some p)) (i : Nat) (hi : i ≠ p) (hl : i < w.heap.size) : w'.heap[i]? = w.heap[i]? := by
  obtain ⟨_, _, _, _, hk⟩ := h
  exact hk i hl (fun e => hi (Option.some.inj e))
theorem wrd_rng {n : Int} {b : Bool} (h : 0 ≤ n ∧ n ≤ 2147483647) : 0 ≤ wrd5 n b ∧ wrd5 n b < pw 4 := by
  have : pw 4 = 4294967296 := by decide
  rw [this]
  unfold wrd5
  split <;> omega
def prL5 (pa : Int) (al : Bool) (wt : Int) : List Int := numL (wrd5 pa al) 4 ++ numL wt 1
theorem prL5_len (pa : Int) (al : Bool) (wt : Int) : (prL5 pa al wt).length = 5 := by simp [prL5, numL_len]
set_option maxRecDepth 20000 in
set_option maxHeartbeats 1600000 in
theorem priority15 {w : World} {p : Nat} {fw : Bool} {l : List Int} (h : WrB w p fw l) (hl : l.length ≤ 800000) (T fl st pad : Int) (A2 : Option Addr) (nd c2 : Nat) (d : Nat → Int) (A3 : Option Addr) (ns c3 : Nat) (s g : Nat → Int) (wt pa : Int) (al : Bool) (pm la co sp : Int) (b : Bool) (hb : decide (0 ≤ pa ∧ pa ≤ 2147483647 ∧ 0 ≤ wt ∧ wt ≤ 255) = b) :
    Calls Try.prog 137 #[.pointer (some ⟨p, 0, none⟩), .agg #[.int .i64 T, .int .i64 fl, .int .i64 st, .int .i64 pad, .slice A2 nd c2, .slice A3 ns c3, .int .i64 wt, .int .i64 pa, .bool al, .int .i64 pm, .int .i64 la, .int .i64 co, .int .i64 sp]] w fun x w' => x = .returned (.tuple #[]) ∧ (∃ l', WrB w' p (fw || !b) l' ∧ l'.length ≤ l.length + 5 ∧ (b = true → l' = l ++ prL5 pa al wt)) ∧ Below p w w' ∧ FrW p w w' := by
  have hp1 : pw 1 = 256 := by decide
  have hp4 : pw 4 = 4294967296 := by decide
  have ab := (Below.refl w.heap.size w).alloc (Nat.le_refl _) (.cells #[.int .i64 T, .int .i64 fl, .int .i64 st, .int .i64 pad, .slice A2 nd c2, .slice A3 ns c3, .int .i64 wt, .int .i64 pa, .bool al, .int .i64 pm, .int .i64 la, .int .i64 co, .int .i64 sp] 25)
  have HR := hide (heap_alloc_new w (.cells #[.int .i64 T, .int .i64 fl, .int .i64 st, .int .i64 pad, .slice A2 nd c2, .slice A3 ns c3, .int .i64 wt, .int .i64 pa, .bool al, .int .i64 pm, .int .i64 la, .int .i64 co, .int .i64 sp] 25))
  have H1 := hide (h.below ab)
  have hlt := h.lt
  have E1 := hide (ab.mono (Nat.le_of_lt hlt))
  have V1 := hide (FrW.of (p := p) ab)
  obtain ⟨-, -, -, -, -, -, q6, q7, q8, -, -, -, -⟩ := row13 HR.out
  clear h ab
  by_cases hpa : 0 ≤ pa ∧ pa ≤ 2147483647
  · have C := hide (fun W => with_ok pa al W hpa.1 (by omega))
    have hwv : (if al = true then pa + 2147483648 else pa) = wrd5 pa al := rfl
    rw [hwv] at C
    have hwr := wrd_rng (b := al) hpa
    obtain ⟨b1, hb1⟩ : ∃ b1, decide (0 ≤ wt ∧ wt < pw 1) = b1 := ⟨_, rfl⟩
    have hbb : b = b1 := by
      rw [← hb, ← hb1, hp1]
      exact decide_eq_decide.2 ⟨fun h => ⟨h.2.2.1, by omega⟩, fun h => ⟨hpa.1, hpa.2, h.1, by omega⟩⟩
    have HB1 := hide hb1
    generalize hwx : wrd5 pa al = wx at *
    have HX := hide hwx
    subst hbb
    clear hb hb1 hwv hwx hp1 hp4
    obtain ⟨Wf, Ef⟩ := H1.out.flag fw
    have F1 := hide Wf
    have F2 := hide Ef
    have F3 := hide (FrW.set (p := p) (w.alloc (.cells #[.int .i64 T, .int .i64 fl, .int .i64 st, .int .i64 pad, .slice A2 nd c2, .slice A3 ns c3, .int .i64 wt, .int .i64 pa, .bool al, .int .i64 pm, .int .i64 la, .int .i64 co, .int .i64 sp] 25)) 1 (.bool fw))
    obtain ⟨Aw, cw, hwr1, _⟩ := H1.out
    obtain ⟨x0, x1⟩ := row2 hwr1
    have z1 := frozenRow hwr1 1
    have HRf := hide ((World.grownBy.heap_old5 (grown_set (w.alloc (.cells #[.int .i64 T, .int .i64 fl, .int .i64 st, .int .i64 pad, .slice A2 nd c2, .slice A3 ns c3, .int .i64 wt, .int .i64 pa, .bool al, .int .i64 pm, .int .i64 la, .int .i64 co, .int .i64 sp] 25)) p 1 (.bool fw)) w.heap.size (by omega) (rowLt HR.out)).trans HR.out)
    obtain ⟨-, -, -, -, -, -, y6, -, -, -, -, -, -⟩ := row13 HRf.out
    clear hwr1 Wf Ef
    cases fw
    all_goals
      go_enter Try.func137, Try.ntmps137
      go_upto_region 1 with (fail)
      generalize hW : w.alloc (.cells #[.int .i64 T, .int .i64 fl, .int .i64 st, .int .i64 pad, .slice A2 nd c2, .slice A3 ns c3, .int .i64 wt, .int .i64 pa, .bool al, .int .i64 pm, .int .i64 la, .int .i64 co, .int .i64 sp] 25) = W0 at *
      clear hW
      go_wp2_with fail
      refine (C.out _).mono ?_
      rintro e w1 ⟨rfl, rfl⟩
      go_wp2_with fail
      refine (number15 F1.out wx 4 4 rfl (by decide) (by decide) (by omega) true (decide_eq_true hwr)).mono ?_
      rintro e w2 ⟨rfl, hw2, hb2, hv2⟩
      rw [if_pos rfl] at hw2
      simp only [Bool.not_true, Bool.or_false] at hw2
      have W2 := hide hw2
      have E2 := hide hb2
      have HR2 := hide (hv2 _ _ _ (by omega) bne_u8 HRf.out)
      have V2 := hide hv2
      obtain ⟨-, -, -, -, -, -, t6, -, -, -, -, -, -⟩ := row13 HR2.out
      clear hw2 hb2 hv2
      go_wp2_with fail
      refine (number15 W2.out wt 1 1 rfl (by decide) (by decide) (by rw [List.length_append, numL_len]; omega) _ HB1.out).mono ?_
      rintro e w3 ⟨rfl, hw3, hb3, hv3⟩
      have W3 := hide hw3
      have E3 := hide (((E1.out.trans F2.out).trans E2.out).trans hb3)
      have V3 := hide (((V1.out.trans F3.out).trans V2.out).trans hv3)
      clear hw3 hb3 hv3
      go_wp2_with fail
      go_end0
      refine ⟨rfl, ⟨_, by simpa using W3.out, ?_, ?_⟩, E3.out, V3.out⟩
      · split <;> simp only [List.length_append, numL_len] <;> omega
      · intro e
        rw [if_pos e]
        unfold prL5
        rw [HX.out]
  · have C := hide (fun W => with_bad pa al W (by omega))
    have hbf : b = false := by rw [← hb]; exact decide_eq_false fun h => hpa ⟨h.1, h.2.1⟩
    obtain ⟨b1, hb1⟩ : ∃ b1, decide (0 ≤ wt ∧ wt < pw 1) = b1 := ⟨_, rfl⟩
    have HB1 := hide hb1
    subst hbf
    clear hb hb1 hp1
    obtain ⟨Wf, Ef⟩ := H1.out.flag true
    have F1 := hide Wf
    have F2 := hide Ef
    have F3 := hide (FrW.set (p := p) (w.alloc (.cells #[.int .i64 T, .int .i64 fl, .int .i64 st, .int .i64 pad, .slice A2 nd c2, .slice A3 ns c3, .int .i64 wt, .int .i64 pa, .bool al, .int .i64 pm, .int .i64 la, .int .i64 co, .int .i64 sp] 25)) 1 (.bool true))
    obtain ⟨Aw, cw, hwr1, _⟩ := H1.out
    obtain ⟨x0, x1⟩ := row2 hwr1
    have z1 := frozenRow hwr1 1
    have HRf := hide ((World.grownBy.heap_old5 (grown_set (w.alloc (.cells #[.int .i64 T, .int .i64 fl, .int .i64 st, .int .i64 pad, .slice A2 nd c2, .slice A3 ns c3, .int .i64 wt, .int .i64 pa, .bool al, .int .i64 pm, .int .i64 la, .int .i64 co, .int .i64 sp] 25)) p 1 (.bool true)) w.heap.size (by omega) (rowLt HR.out)).trans HR.out)
    obtain ⟨-, -, -, -, -, -, y6, -, -, -, -, -, -⟩ := row13 HRf.out
    clear hwr1 Wf Ef hpa
    cases fw
    all_goals
      go_enter Try.func137, Try.ntmps137
      go_upto_region 1 with (fail)
      generalize hW : w.alloc (.cells #[.int .i64 T, .int .i64 fl, .int .i64 st, .int .i64 pad, .slice A2 nd c2, .slice A3 ns c3, .int .i64 wt, .int .i64 pa, .bool al, .int .i64 pm, .int .i64 la, .int .i64 co, .int .i64 sp] 25) = W0 at *
      clear hW
      go_wp2_with fail
      refine (C.out _).mono ?_
      rintro e w1 ⟨rfl, rfl⟩
      go_wp2_with fail
      refine (number15 F1.out 0 4 4 rfl (by decide) (by decide) (by omega) true (by decide)).mono ?_
      rintro e w2 ⟨rfl, hw2, hb2, hv2⟩
      rw [if_pos rfl] at hw2
      simp only [Bool.not_true, Bool.or_false] at hw2
      have W2 := hide hw2
      have E2 := hide hb2
      have HR2 := hide (hv2 _ _ _ (by omega) bne_u8 HRf.out)
      have V2 := hide hv2
      obtain ⟨-, -, -, -, -, -, t6, -, -, -, -, -, -⟩ := row13 HR2.out
      clear hw2 hb2 hv2
      go_wp2_with fail
      refine (number15 W2.out wt 1 1 rfl (by decide) (by decide) (by rw [List.length_append, numL_len]; omega) _ HB1.out).mono ?_
      rintro e w3 ⟨rfl, hw3, hb3, hv3⟩
      have W3 := hide hw3
      have E3 := hide (((E1.out.trans F2.out).trans E2.out).trans hb3)
      have V3 := hide (((V1.out.trans F3.out).trans V2.out).trans hv3)
      clear hw3 hb3 hv3
      go_wp2_with fail
      go_end0
      refine ⟨rfl, ⟨_, by simpa using W3.out, ?_, fun h => by cases h⟩, E3.out, V3.out⟩
      split <;> simp only [List.length_append, numL_len] <;> omega
end Go.Proofs.Ytpnjamomkpkkeaa
