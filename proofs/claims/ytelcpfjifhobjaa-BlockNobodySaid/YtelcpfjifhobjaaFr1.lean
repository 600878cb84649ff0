/- Layer 14: the reader of a frame's body: what turns of the memory, its numbers. -/
import Derived.Test.YtelcpfjifhobjaaFm1
import Derived.Test.YtelcpfjifhobjaaSet3
import Derived.Deep.RegionHeld3
namespace Go.Proofs.Ytelcpfjifhobjaa
set_option linter.unusedVariables false
set_option linter.unusedSimpArgs false
open Go.RowKit

/-- What turns of a world when the blocks of S alone are written (above B). -/
structure FrS (B : Nat) (S : Nat → Prop) (w w' : World) : Prop where
  bel : Below B w w'
  keep : ∀ i, i < w.heap.size → ¬ S i → w'.heap[i]? = w.heap[i]?
def PQ (p q : Nat) : Nat → Prop := fun i => i = p ∨ i = q
def Q1 (q : Nat) : Nat → Prop := fun i => i = q
def PQR (p q r : Nat) : Nat → Prop := fun i => i = p ∨ i = q ∨ i = r
theorem FrS.refl (B : Nat) (S : Nat → Prop) (w : World) : FrS B S w w := ⟨Below.refl _ _, fun _ _ _ => rfl⟩
theorem FrS.trans {B : Nat} {S : Nat → Prop} {w w1 w2 : World} (h : FrS B S w w1) (k : FrS B S w1 w2) : FrS B S w w2 :=
  ⟨h.bel.trans k.bel, fun i hi a => (k.keep i (Nat.lt_of_lt_of_le hi h.bel.size) a).trans (h.keep i hi a)⟩
theorem FrS.wide {B : Nat} {S T : Nat → Prop} {w w1 : World} (h : FrS B S w w1) (hS : ∀ i, S i → T i) : FrS B T w w1 := ⟨h.bel, fun i hi a => h.keep i hi fun s => a (hS i s)⟩
theorem FrS.pqr {B p q : Nat} (r : Nat) {w w1 : World} (h : FrS B (PQ p q) w w1) : FrS B (PQR p q r) w w1 := h.wide fun _ s => s.elim .inl fun s => .inr (.inl s)
theorem FrS.ofBelow {B : Nat} (S : Nat → Prop) {w w' : World} (h : Below w.heap.size w w') (hB : B ≤ w.heap.size) : FrS B S w w' := ⟨h.mono hB, fun i hi _ => h.block i hi⟩
theorem FrS.ofDrawn (B : Nat) (S : Nat → Prop) {w w' : World} (h : Drawn w w') : FrS B S w w' := ⟨drawn_below h B, fun i hi _ => (drawn_below h w.heap.size).block i hi⟩
theorem FrS.ofGrown {B g : Nat} {S : Nat → Prop} {w w' : World} (h : w.grownBy w' (some g)) (hB : B ≤ g) (hg : g < w.heap.size) (hS : S g) : FrS B S w w' :=
  ⟨⟨h.os, h.tape, h.output, h.size, fun k hk => h.block k (by omega) (fun e => by have := Option.some.inj e; omega)⟩, fun i hi a => h.block i hi (fun e => a (by have := Option.some.inj e; rw [this]; exact hS))⟩
theorem FrS.row {B b : Nat} {S : Nat → Prop} {w w' : World} {o : Obj} (h : FrS B S w w') (hr : w.heap[b]? = some o) (hb : ¬ S b) : w'.heap[b]? = some o := (h.keep b (rowLt hr) hb).trans hr
theorem FrS.pq {B p q : Nat} {w w1 : World} (h : FrS B (Q1 q) w w1) : FrS B (PQ p q) w w1 := h.wide fun _ s => .inr s
theorem row3r {w : World} {b : Nat} {T : TypeId} {v0 v1 v2 : Value} (h : w.heap[b]? = some (.cells #[v0, v1, v2] T (0, 0))) : w.cell? ⟨b, 0, none⟩ = some v0 ∧ w.cell? ⟨b, 1, none⟩ = some v1 ∧ w.cell? ⟨b, 2, none⟩ = some v2 := by
  refine ⟨?_, ?_, ?_⟩
  · rw [cell_of_row w b 0 _ _ _ h]; rfl
  · rw [cell_of_row w b 1 _ _ _ h]; rfl
  · rw [cell_of_row w b 2 _ _ _ h]; rfl

/-- A reader at block q, its cursor at block p. -/
def Rdr (w : World) (q p : Nat) (A : Option Addr) (c n : Nat) (f : Nat → Int) (t : Nat) (ms ov : Bool) : Prop :=
  CurA w p A c n f t ∧ w.heap[q]? = some (.cells #[.pointer (some ⟨p, 0, none⟩), .bool ms, .bool ov] 127 (0, 0)) ∧ p ≠ q ∧ (∀ a, A = some a → a.block ≠ q)
section
variable {w w' : World} {q p c n t : Nat} {A : Option Addr} {f : Nat → Int} {ms ov : Bool}
theorem Rdr.below (h : Rdr w q p A c n f t ms ov) (hb : Below w.heap.size w w') : Rdr w' q p A c n f t ms ov := ⟨h.1.below hb, keepRow h.2.1 hb, h.2.2⟩
theorem Rdr.drawn (h : Rdr w q p A c n f t ms ov) (hd : Drawn w w') : Rdr w' q p A c n f t ms ov := h.below (drawn_below hd _)
/-- The cursor has moved on. -/
theorem Rdr.moved {t' : Nat} (h : Rdr w q p A c n f t ms ov) (hc : CurA w' p A c n f t') (hg : w.grownBy w' (some p)) : Rdr w' q p A c n f t' ms ov :=
  ⟨hc, keepOne h.2.1 hg (fun e => h.2.2.1 e.symm), h.2.2⟩
theorem Rdr.told (h : Rdr w q p A c n f t ms ov) (b : Bool) : Rdr (w.setCell ⟨q, 1, none⟩ (.bool b)) q p A c n f t b ov :=
  ⟨h.1.other (grown_set w q 1 _) h.2.2.1 h.2.2.2, by have := setRow w q 1 (.bool b) h.2.1; simpa using this, h.2.2⟩
theorem Rdr.full (h : Rdr w q p A c n f t ms ov) (b : Bool) : Rdr (w.setCell ⟨q, 2, none⟩ (.bool b)) q p A c n f t ms b :=
  ⟨h.1.other (grown_set w q 2 _) h.2.2.1 h.2.2.2, by have := setRow w q 2 (.bool b) h.2.1; simpa using this, h.2.2⟩
theorem Rdr.ltq (h : Rdr w q p A c n f t ms ov) : q < w.heap.size := rowLt h.2.1
theorem Rdr.ltp (h : Rdr w q p A c n f t ms ov) : p < w.heap.size := h.1.lt
end
theorem FrS.set {B g j : Nat} {S : Nat → Prop} {w : World} {u : Value} (hB : B ≤ g) (hg : g < w.heap.size) (hS : S g) : FrS B S w (w.setCell ⟨g, j, none⟩ u) := FrS.ofGrown (grown_set w g j u) hB hg hS

set_option maxHeartbeats 800000 in
theorem expect14 (q p c n t : Nat) (A : Option Addr) (f : Nat → Int) (ms ov b : Bool) (e : Int) (hb : (e != 0) = b) (B : Nat) (hB : B ≤ q) (w : World) (h : Rdr w q p A c n f t ms ov) :
    Calls Try.prog 120 #[.pointer (some ⟨q, 0, none⟩), .int .i64 e] w fun x w' => x = .returned (.tuple #[]) ∧ Rdr w' q p A c n f t (ms || b) ov ∧ FrS B (Q1 q) w w' := by
  obtain ⟨r0, r1, r2⟩ := row3r h.2.1
  have z1 := frozenRow h.2.1 1
  have H := hide h
  have hq := h.ltq
  clear h
  cases ms with
  | true =>
    go_enter Try.func120, Try.ntmps120
    go_wp2
    go_end0
    exact ⟨rfl, H.out.told true, FrS.set hB hq rfl⟩
  | false =>
    go_enter Try.func120, Try.ntmps120
    go_wp2
    go_end0
    exact ⟨rfl, H.out.told b, FrS.set hB hq rfl⟩
def nbV (f : Nat → Int) (n t s : Nat) : Int := if t + s ≤ n then num (fun i => f (t + i)) s else 0
def nbT (n t s : Nat) : Nat := if t + s ≤ n then t + s else t
def nbM (n t s : Nat) : Bool := !decide (t + s ≤ n)
set_option maxHeartbeats 800000 in
theorem number14 (q p c n t s : Nat) (A : Option Addr) (f : Nat → Int) (ms ov : Bool) (size : Int) (hs : size = (s : Int)) (h1 : 1 ≤ s) (h2 : s ≤ 4) (hf : Byt n f) (B : Nat) (hB : B ≤ q) (hBp : B ≤ p) (w : World) (h : Rdr w q p A c n f t ms ov) :
    Calls Try.prog 93 #[.pointer (some ⟨q, 0, none⟩), .int .i64 size] w fun x w' => x = .returned (.int .i64 (nbV f n t s)) ∧ Rdr w' q p A c n f (nbT n t s) (ms || nbM n t s) ov ∧ FrS B (PQ p q) w w' := by
  obtain ⟨r0, r1, r2⟩ := row3r h.2.1
  have H := hide h
  have Hf := hide hf
  clear h hf
  subst hs
  by_cases hl : t + s ≤ n
  · have hV : nbV f n t s = num (fun i => f (t + i)) s := by unfold nbV; rw [if_pos hl]
    have hT : nbT n t s = t + s := by unfold nbT; rw [if_pos hl]
    have hM : nbM n t s = false := by unfold nbM; rw [decide_eq_true hl]; rfl
    rw [hV, hT, hM]
    clear hV hT hM
    generalize hX : num (fun i => f (t + i)) s = X
    have HX := hide hX
    clear hX
    go_enter Try.func93, Try.ntmps93
    go_wp2_with fail
    refine (numberA p n t s c A _ rfl f _ H.out.1 Hf.out h1 h2 hl).mono ?_
    rintro e w1 ⟨rfl, hc1, hg1⟩
    rw [HX.out]
    have H1 := hide (H.out.moved hc1 hg1)
    have F1 := hide (FrS.ofGrown (S := PQ p q) hg1 hBp H.out.ltp (.inl rfl))
    clear hc1 hg1 r0 r1 r2
    go_wp2_with fail
    refine (expect14 q p c n (t + s) A f ms ov false 0 rfl B hB _ H1.out).mono ?_
    rintro e w2 ⟨rfl, hc2, hg2⟩
    have H2 := hide hc2
    have F2 := hide (F1.out.trans hg2.pq)
    clear hc2 hg2
    go_wp2_with fail
    go_ret
    exact ⟨rfl, H2.out, F2.out⟩
  · have hV : nbV f n t s = 0 := by unfold nbV; rw [if_neg hl]
    have hT : nbT n t s = t := by unfold nbT; rw [if_neg hl]
    have hM : nbM n t s = true := by unfold nbM; rw [decide_eq_false hl]; rfl
    rw [hV, hT, hM]
    clear hV hT hM
    have hE : getE (n - t) (s : Int) = 3 := by
      unfold getE
      rw [if_neg (by omega), if_pos (by omega)]
    have HE := hide hE
    clear hE
    go_enter Try.func93, Try.ntmps93
    go_wp2_with fail
    refine (number_bad p n t s f _ H.out.1.cur (by rw [HE.out]; decide)).mono ?_
    rintro e w1 ⟨rfl, hd1⟩
    rw [HE.out]
    have H1 := hide (H.out.drawn hd1)
    have F1 := hide (FrS.ofDrawn B (PQ p q) hd1)
    clear hd1 r0 r1 r2
    go_wp2_with fail
    refine (expect14 q p c n t A f ms ov true 3 rfl B hB _ H1.out).mono ?_
    rintro e w2 ⟨rfl, hc2, hg2⟩
    have H2 := hide hc2
    have F2 := hide (F1.out.trans hg2.pq)
    clear hc2 hg2
    go_wp2_with fail
    go_ret
    exact ⟨rfl, H2.out, F2.out⟩
set_option maxHeartbeats 800000 in
theorem low14 (q p c n t : Nat) (A : Option Addr) (f : Nat → Int) (ms ov : Bool) (hf : Byt n f) (B : Nat) (hB : B ≤ q) (hBp : B ≤ p) (w : World) (h : Rdr w q p A c n f t ms ov) :
    Calls Try.prog 96 #[.pointer (some ⟨q, 0, none⟩)] w fun x w' => x = .returned (.tuple #[.int .i64 (lowN (nbV f n t 4)), .bool (lowB (nbV f n t 4))]) ∧ Rdr w' q p A c n f (nbT n t 4) (ms || nbM n t 4) ov ∧ FrS B (PQ p q) w w' := by
  have H := hide h
  have Hf := hide hf
  clear h hf
  obtain ⟨X, hX⟩ : ∃ X, nbV f n t 4 = X := ⟨_, rfl⟩
  rw [hX]
  have HX := hide hX
  clear hX
  go_enter Try.func96, Try.ntmps96
  go_wp2_with fail
  refine (number14 q p c n t 4 A f ms ov 4 rfl (by omega) (by omega) Hf.out B hB hBp _ H.out).mono ?_
  rw [HX.out]
  rintro e w1 ⟨rfl, hc1, hg1⟩
  have H1 := hide hc1
  have F1 := hide hg1
  clear hc1 hg1
  go_wp2_with fail
  refine (low_any X _).mono ?_
  rintro e w2 ⟨rfl, rfl⟩
  go_wp2_with fail
  go_ret2
  exact ⟨rfl, H1.out, F1.out⟩
end Go.Proofs.Ytelcpfjifhobjaa
