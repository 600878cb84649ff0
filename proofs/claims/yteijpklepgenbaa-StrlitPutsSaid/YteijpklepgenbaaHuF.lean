/- Layer 17: Decode, the program's: the state at the label. -/
import Derived.Test.YteijpklepgenbaaHuE
import Derived.Test.YteijpklepgenbaaCbA
import Derived.ScopeJumps
namespace Go.Proofs.Yteijpklepgenbaa
open Go.RowKit

/-- A reader whose bytes' place has a name. -/
def RdrA (w : World) (p : Nat) (A : Option Addr) (c n t : Nat) : Prop := w.heap[p]? = some (.cells #[.slice A n c, .int .i64 (t : Int)] 76 (0, 0))
theorem bnextA (p n t c : Nat) (A : Option Addr) (f : Nat → Int) (w : World) (hh : RdrA w p A c n t) (hr : Rd .u8 w A n c f) (ha : ∀ a, A = some a → a.block ≠ p) (hb : Byt n f) (ht : t < 8 * n) (h2 : n ≤ 1000000) :
    Calls Try.prog 46 #[.pointer (some ⟨p, 0, none⟩)] w fun e w' => e = .returned (.int .i64 (bitF f t)) ∧ RdrA w' p A c n (t + 1) ∧ w.grownBy w' (some p) := by
  have hh' : w.heap[p]? = some (.cells #[.slice A n c, .int .i64 (t : Int)] 76 (0, 0)) := hh
  have c0 := cell_of_row w p 0 _ _ _ hh'
  have c1 := cell_of_row w p 1 _ _ _ hh'
  simp at c0 c1
  obtain ⟨b, off, rfl, hcell⟩ := hr.at_ (i := t / 8) (by omega)
  have hf1 := frozen_of_row w p 1 _ _ hh'
  have Hh := hide hh'
  have Hr := hide hr
  have Ha := hide ha
  clear hh hh' hr ha
  go_enter Try.func46, Try.ntmps46
  go_wp2
  go_quiet (fail)
  go_wp2
  go_ret
  refine ⟨by rw [← bit_eq hb ht]; rfl, ?_, bgrown_cell w nq p 1 _⟩
  have := heap_setCell_same (w.drewN nq) p 1 _ _ (.int .i64 ((t : Int) + 1)) Hh.out
  unfold RdrA
  rw [this]
  simp
theorem bitA (p n t c : Nat) (A : Option Addr) (f : Nat → Int) (w : World) (hh : RdrA w p A c n t) (hr : Rd .u8 w A n c f) (ha : ∀ a, A = some a → a.block ≠ p) (hb : Byt n f) (ht : t < 8 * n) (h2 : n ≤ 1000000) :
    Calls Try.prog 34 #[.pointer (some ⟨p, 0, none⟩)] w fun e w' => e = .returned (.tuple #[.int .i64 (bitF f t), .bool true]) ∧ RdrA w' p A c n (t + 1) ∧ w.grownBy w' (some p) := by
  have H := hide hh
  have Hr := hide hr
  have Ha := hide ha
  have Hb := hide hb
  clear hh hr ha hb
  have hz2 : (((8 * n - t : Nat) : Int) == 0) = false := by simp; omega
  obtain ⟨q, hq⟩ : ∃ q, q = 8 * n - t := ⟨_, rfl⟩
  have Hq := hide hq
  rw [← hq] at hz2
  clear hq
  go_enter Try.func34, Try.ntmps34
  go_wp2_with fail
  refine (bleft_any p n t f _ ⟨A, c, H.out, Hr.out, Ha.out, by omega, h2⟩).mono ?_
  rintro e w1 ⟨rfl, hd⟩
  rw [← Hq.out]
  obtain ⟨m, rfl⟩ := hd
  go_wp2_with fail
  refine (bnextA p n t c A f (w.drewN m) H.out (Hr.out.drewN m) Ha.out Hb.out ht h2).mono ?_
  rintro e w2 ⟨rfl, hr, hg⟩
  go_wp2_with fail
  go_ret2
  exact ⟨rfl, hr, ⟨hg.os, hg.tape, hg.output, hg.size, hg.block⟩⟩
/-- Where a reader stands. -/
def rdPos (a : Act) (w : World) : Nat := match a.tmps.getD 5 undef with
  | .pointer (some x) => (intOf ((w.cell? ⟨x.block, 1, none⟩).getD undef)).toNat
  | _ => 0
theorem rdPos_of {a : Act} {w : World} {p c n t : Nat} {A : Option Addr} (h5 : a.tmps.getD 5 undef = .pointer (some ⟨p, 0, none⟩)) (hh : RdrA w p A c n t) : rdPos a w = t := by
  have hh' : w.heap[p]? = some (.cells #[.slice A n c, .int .i64 (t : Int)] 76 (0, 0)) := hh
  have c1 := cell_of_row w p 1 _ _ _ hh'
  simp at c1
  unfold rdPos
  rw [h5]
  simp [c1, intOf]
/-- The state at the label: the book B, the reader p, the text v, the code and its length. -/
def DSt (w : World) (n : Nat) (f : Nat → Int) (B p : Nat) (v : Value) (x : Int) (L : Nat) (w' : World) : Prop :=
  ∃ (w1 w2 : World) (A' : Option Addr) (c' k : Nat) (ps ss : Nat → Nat),
    Book w1 B ∧ Below w.heap.size w w1 ∧ w1.heap.size ≤ p ∧ Below w1.heap.size w1 w2 ∧ p < w2.heap.size ∧ Rd .u8 w2 A' n c' f ∧ (∀ a, A' = some a → a.block ≠ p) ∧
    w2.grownBy w' (some p) ∧ RdrA w' p A' c' n (ps k + L) ∧ Own .u8 5 w2.heap.size w' v k (fun i => (ss i : Int)) ∧
    Chn (bitF f) (8 * n) k ps ss ∧ x = bnum (fun i => bitF f (ps k + i)) L ∧ ps k + L ≤ 8 * n ∧ L ≤ 29 ∧ ∀ S, len S ≤ L → ¬ Mt (bitF f) (8 * n) (ps k) S
theorem grown_below {w2 wr w5 : World} {p : Nat} (h : w2.grownBy wr (some p)) (hb : Below w2.heap.size wr w5) : w2.grownBy w5 (some p) :=
  ⟨hb.os.trans h.os, hb.tape.trans h.tape, hb.output.trans h.output, Nat.le_trans h.size hb.size, fun j hj hne => (hb.block j hj).trans (h.block j hj hne)⟩
end Go.Proofs.Yteijpklepgenbaa
