/- Layer 15: the writer: bytes, a number, a priority; append of a row of noughts. -/
import Derived.Test.YtpnjamomkpkkeaaEm1
import Derived.Test.YtpnjamomkpkkeaaM3
import Derived.Lib.AppendStr
import Derived.Lib.AppendZeros
namespace Go.Proofs.Ytpnjamomkpkkeaa
set_option linter.unusedVariables false
set_option linter.unusedSimpArgs false
open Go.RowKit

/-- A writer at p: its bytes are a list; has it failed? -/
def WrB (w : World) (p : Nat) (fl : Bool) (l : List Int) : Prop :=
  ∃ A c, w.heap[p]? = some (.cells #[.slice A l.length c, .bool fl] 218 (0, 0)) ∧ Own .u8 5 (p + 1) w (.slice A l.length c) l.length (lF l)
theorem WrB.below {w w' : World} {p : Nat} {fl : Bool} {l : List Int} (h : WrB w p fl l) (hb : Below w.heap.size w w') : WrB w' p fl l := by
  obtain ⟨A, c, hr, ho⟩ := h
  exact ⟨A, c, keepRow hr hb, ho.below hb⟩
theorem WrB.lt {w : World} {p : Nat} {fl : Bool} {l : List Int} (h : WrB w p fl l) : p < w.heap.size := by
  obtain ⟨A, c, hr, ho⟩ := h
  exact rowLt hr
/-- What is no row of bytes, and not the writer, stays. -/
def FrW (p : Nat) (w w' : World) : Prop := ∀ (i : Nat) (cs : Array Value) (T : TypeId), i ≠ p → T ≠ 5 → w.heap[i]? = some (.cells cs T (0, 0)) → w'.heap[i]? = some (.cells cs T (0, 0))
theorem FrW.trans {p : Nat} {w w1 w2 : World} (h : FrW p w w1) (k : FrW p w1 w2) : FrW p w w2 := fun i cs T a b c => k i cs T a b (h i cs T a b c)
theorem FrW.of {p : Nat} {w w1 : World} (h : Below w.heap.size w w1) : FrW p w w1 := fun i cs T _ _ c => keepRow c h
theorem FrW.set {p : Nat} (w : World) (j : Nat) (u : Value) : FrW p w (w.setCell ⟨p, j, none⟩ u) := fun i cs T a _ c => by
  obtain ⟨_, _, _, _, hk⟩ := grown_set w p j u
  rw [hk i (rowLt c) (fun e => a (Option.some.inj e))]
  exact c
theorem FrW.app {p B n : Nat} {w w1 : World} {v : Value} {f : Nat → Int} (ho : Own .u8 5 B w v n f) (hg : w.grownBy w1 v.ownBlock) : FrW p w w1 := fun i cs T _ b c => by
  obtain ⟨_, _, _, _, hk⟩ := hg
  rw [hk i (rowLt c) (fun e => ?_)]
  · exact c
  · rcases ho.2 with ⟨rfl, _⟩ | ⟨g, cap, cur, rfl, _, hgr, _⟩
    · cases e
    · obtain rfl : i = g := by
        first
          | exact Option.some.inj e
          | exact (Option.some.inj e).symm
      rw [hgr] at c
      cases c
      exact b rfl
theorem u8_apart5 {w : World} {A : Option Addr} {n c : Nat} {f : Nat → Int} (h : Rd .u8 w A n c f) {p : Nat} {T : TypeId} {B : Option Addr} {m d : Nat} {x : Bool} (hr : w.heap[p]? = some (.cells #[.slice B m d, .bool x] T (0, 0))) : 0 < n → ∀ a, A = some a → a.block ≠ p := fun hn a ha e => by
  obtain ⟨b, off, hA, hc⟩ := h.2.2.2 hn
  obtain rfl := Option.some.inj (ha.symm.trans hA)
  have h0 := hc 0 hn
  simp only at e
  subst e
  unfold World.cell? at h0
  simp only [hr] at h0
  match off, h0 with
  | 0, h0 => simp at h0
  | 1, h0 => simp at h0
  | off + 2, h0 => simp at h0
theorem rd_set5 {w : World} {A : Option Addr} {n c : Nat} {f : Nat → Int} (h : Rd .u8 w A n c f) {p : Nat} (hq : 0 < n → ∀ a, A = some a → a.block ≠ p) (j : Nat) (u : Value) : Rd .u8 (w.setCell ⟨p, j, none⟩ u) A n c f :=
  ⟨h.1, h.2.1, h.2.2.1, fun hn => by
    obtain ⟨b, off, hA, hc⟩ := h.2.2.2 hn
    have hne := hq hn _ hA
    refine ⟨b, off, hA, fun i hi => ?_⟩
    rw [← hc i hi]
    exact World.cell?_setCell_far w _ _ _ (by intro e; exact hne (by simpa using e.symm))⟩
theorem lF_cat {l m : List Int} : ∀ i, i < l.length + m.length → catF l.length (lF l) (lF m) i = lF (l ++ m) i := fun i hi => (lF_app hi).symm
set_option maxRecDepth 20000 in
set_option maxHeartbeats 800000 in
theorem add15 {w : World} {p : Nat} {fl : Bool} {l : List Int} (h : WrB w p fl l) (A : Option Addr) (n c : Nat) (m : List Int) (hm : m.length = n) (ha : Rd .u8 w A n c (lF m)) (hl : l.length + n ≤ 1000000) (e : Int) (b : Bool) (hb : (e != 0) = b) :
    Calls Try.prog 138 #[.pointer (some ⟨p, 0, none⟩), .slice A n c, .int .i64 e] w fun x w' => x = .returned (.tuple #[]) ∧ WrB w' p (fl || b) (l ++ m) ∧ Below p w w' ∧ FrW p w w' := by
  obtain ⟨i0, hi, hz0, hz1, hz2⟩ := info_parts u8_info
  subst hm
  obtain ⟨Av, cv, hr, ho⟩ := h
  have hap := u8_apart5 ha hr
  have hlt := rowLt hr
  have hne : (Value.slice Av l.length cv).ownBlock ≠ some p := fun e => by have := (World.ownsRow.lt ho p e).1; omega
  have hr1 := setRow w p 1 (.bool (fl || b)) hr
  simp only [List.setIfInBounds_toArray, List.set_cons_zero, List.set_cons_succ] at hr1
  have Ho1 := hide (World.ownsRow.kept ho (grown_set w p 1 (.bool (fl || b))) (.inr hne))
  have Ha1 := hide (rd_set5 ha hap 1 (.bool (fl || b)))
  have HR1 := hide hr1
  have hs1 : (w.setCell ⟨p, 1, none⟩ (.bool (fl || b))).heap.size = w.heap.size := by simp [World.setCell]
  have E1 := hide ((Below.refl p w).setCell (p := ⟨p, 1, none⟩) (Nat.le_refl _) (.bool (fl || b)))
  obtain ⟨r0, r1⟩ := row2 hr
  have z1 := frozenRow hr 1
  obtain ⟨s0, s1⟩ := row2 hr1
  have hfb : ((if fl = true then true else b) : Bool) = (fl || b) := by cases fl <;> rfl
  clear ho ha hr hr1 hap
  cases fl
  all_goals
    simp only [Bool.false_or, Bool.true_or] at *
    go_enter Try.func138, Try.ntmps138
    go_wp2_with (at_builtin; refine wp_app rfl (.tmp 21) (.tmp 22) _ rfl i0 0 1 Try.underlying22 hi hz0 hz1 hz2 (p + 1) _ l.length (lF l) rfl Ho1.out A m.length c (lF m) rfl Ha1.out (by simp only [maxLen]; omega) (by omega) (by rw [hs1]; omega) ?_; intro v2 w2 hown2 hg2; obtain ⟨A2, c2, rfl, _, _⟩ := hown2.rd; have hr2 := keepGrown HR1.out hg2 hne; obtain ⟨q0, q1⟩ := row2 hr2; have zq := frozenRow hr2 0; have Ho2 := hide hown2; have HR2 := hide hr2; have HG := hide hg2; clear hown2 hg2 hr2)
    go_end0
    have hr3 := setRow w2 p 0 (.slice A2 (l.length + m.length) c2) HR2.out
    simp only [List.setIfInBounds_toArray, List.set_cons_zero, List.set_cons_succ] at hr3
    have hne2 : (Value.slice A2 (l.length + m.length) c2).ownBlock ≠ some p := fun e => by have := (World.ownsRow.lt Ho2.out p e).1; omega
    have ho3 := World.ownsRow.kept Ho2.out (grown_set w2 p 0 (.slice A2 (l.length + m.length) c2)) (.inr hne2)
    refine ⟨rfl, ⟨A2, c2, by rw [List.length_append]; exact hr3, ?_⟩, ?_, ((FrW.set w 1 _).trans (FrW.app Ho1.out HG.out)).trans (FrW.set w2 0 _)⟩
    · rw [List.length_append]
      exact Own.congr ho3 fun i hi => lF_cat i hi
    · refine Below.setCell (p := ⟨p, 0, none⟩) ?_ (Nat.le_refl _) _
      exact E1.out.grown HG.out (by rw [hs1]; omega) (fun k e => by have := (World.ownsRow.lt Ho1.out k e).1; omega)
theorem Gave0.lst {v : Int} {s : Nat} {f : Nat → Int} {w w' : World} {A : Option Addr} {c : Nat} (h : Own .u8 5 w.heap.size w' (.slice A s c) s (putF 0 f s v)) : Rd .u8 w' A s c (lF (numL v s)) :=
  (Own.congr h fun i hi => by
    unfold putF catF numL
    rw [if_neg (by omega), Nat.sub_zero, lF_map hi]).rdS
set_option maxRecDepth 20000 in
set_option maxHeartbeats 800000 in
theorem number15 {w : World} {p : Nat} {fl : Bool} {l : List Int} (h : WrB w p fl l) (v : Int) (s : Nat) (size : Int) (hs : size = (s : Int)) (h1 : 1 ≤ s) (h4 : s ≤ 4) (hl : l.length ≤ 900000) (b : Bool) (hb : decide (0 ≤ v ∧ v < pw size) = b) :
    Calls Try.prog 136 #[.pointer (some ⟨p, 0, none⟩), .int .i64 v, .int .i64 size] w fun x w' => x = .returned (.tuple #[]) ∧ WrB w' p (fl || !b) (if b = true then l ++ numL v s else l) ∧ Below p w w' ∧ FrW p w w' := by
  have H := hide h
  have hlt := h.lt
  subst hs
  clear h
  cases b with
  | true =>
    have hv : 0 ≤ v ∧ v < pw (s : Int) := of_decide_eq_true hb
    have C := hide (putL none 0 0 s s (s : Int) v rfl (by omega) (fun _ => 0) w (Rd.nil _ _ _) (by omega) h1 h4 hv.1 hv.2)
    clear hb
    go_enter Try.func136, Try.ntmps136
    go_wp2_with fail
    refine C.out.mono ?_
    rintro e w1 ⟨A1, c1, rfl, ho, hb1⟩
    have R1 := hide (Gave0.lst ho)
    have H1 := hide (H.out.below hb1)
    have E1 := hide (hb1.mono (Nat.le_of_lt hlt))
    have V1 := hide (FrW.of (p := p) hb1)
    clear ho hb1
    go_wp2_with fail
    refine (add15 H1.out A1 s c1 (numL v s) (numL_len _ _) R1.out (by omega) 0 false rfl).mono ?_
    rintro e w2 ⟨rfl, hw, hb2, hv2⟩
    simp only [Bool.or_false, Bool.or_true] at hw
    have HW := hide hw
    have HB2 := hide hb2
    have HV2 := hide hv2
    clear hw hb2 hv2
    go_wp2_with fail
    go_end0
    exact ⟨rfl, HW.out, E1.out.trans HB2.out, V1.out.trans HV2.out⟩
  | false =>
    have hv : ¬ (0 ≤ v ∧ v < pw (s : Int)) := of_decide_eq_false hb
    have C := hide (putR none 0 0 s v (s : Int) rfl w h1 h4 (by omega))
    clear hb
    go_enter Try.func136, Try.ntmps136
    go_wp2_with fail
    refine C.out.mono ?_
    rintro e w1 ⟨rfl, rfl⟩
    go_wp2_with fail
    refine (add15 H.out none 0 0 [] rfl (Rd.nil _ _ _) (by omega) 5 true rfl).mono ?_
    rintro e w2 ⟨rfl, hw, hb2, hv2⟩
    rw [List.append_nil] at hw
    simp only [Bool.or_false, Bool.or_true] at hw
    have HW := hide hw
    have HB2 := hide hb2
    have HV2 := hide hv2
    clear hw hb2 hv2
    go_wp2_with fail
    go_end0
    exact ⟨rfl, HW.out, HB2.out, HV2.out⟩
end Go.Proofs.Ytpnjamomkpkkeaa
