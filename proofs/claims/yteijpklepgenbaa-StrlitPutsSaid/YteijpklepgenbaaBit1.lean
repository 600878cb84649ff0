/- The contracts of layer 5's reader: a reader of bits, how many are left, the next one, the number of the next ones. -/
import Derived.Test.YteijpklepgenbaaClone
import Derived.Laws.BitsAllLaws
import Derived.Laws.BitsLemmas
import Derived.WalkLawsBesides
namespace Go.Proofs.Yteijpklepgenbaa
open Go.RowKit

/-- A reader at block p: its n bytes are f; so many of their bits are taken. -/
def Rdr (w : World) (p n : Nat) (f : Nat → Int) (t : Nat) : Prop :=
  ∃ A c, w.heap[p]? = some (.cells #[.slice A n c, .int .i64 (t : Int)] 76 (0, 0)) ∧ Rd .u8 w A n c f ∧ (∀ a, A = some a → a.block ≠ p) ∧ t ≤ 8 * n ∧ n ≤ 1000000

/-- The i-th bit of bytes. -/
def bitF (f : Nat → Int) (i : Nat) : Int := f (i / 8) / 2 ^ (7 - i % 8) % 2
/-- The number that k bits are. -/
def bnum (g : Nat → Int) : Nat → Int
  | 0 => 0
  | k + 1 => 2 * bnum g k + g k

theorem Rdr.lt {w : World} {p n t : Nat} {f : Nat → Int} (h : Rdr w p n f t) : p < w.heap.size := by
  obtain ⟨A, c, hh, _⟩ := h
  exact (Array.getElem?_eq_some_iff.1 hh).1
theorem Rdr.below {w w' : World} {p n t : Nat} {f : Nat → Int} (h : Rdr w p n f t) (hb : Below w.heap.size w w') : Rdr w' p n f t := by
  have hp := h.lt
  obtain ⟨A, c, hh, hr, ha, h1⟩ := h
  exact ⟨A, c, (hb.block p hp).trans hh, hr.below hb, ha, h1⟩
theorem Rdr.drawn {w w' : World} {p n t : Nat} {f : Nat → Int} (h : Rdr w p n f t) (hd : Drawn w w') : Rdr w' p n f t := h.below (drawn_below hd _)

set_option maxHeartbeats 400000 in
theorem of_any (A : Option Addr) (n c : Nat) (f : Nat → Int) (w : World) (ha : Rd .u8 w A n c f) (hn : n ≤ 1000000) :
    Calls Try.prog 32 #[.slice A n c] w fun e w' => ∃ p, e = .returned (.pointer (some ⟨p, 0, none⟩)) ∧ w.heap.size ≤ p ∧ Rdr w' p n f 0 ∧ Below w.heap.size w w' := by
  have Ha := hide ha
  clear ha
  go_enter Try.func32, Try.ntmps32
  go_wp2_with fail
  refine (clone_any A n c f _ Ha.out (by omega)).mono ?_
  rintro e w1 ⟨v, rfl, hown, hb1⟩
  obtain ⟨A1, c1, rfl, hr1, hbl⟩ := hown.rd
  have Hr1 := hide hr1
  have Hbl := hide hbl
  have hs := hb1.size
  clear hown hr1 hbl
  go_wp2_with fail
  go_ret
  refine ⟨w1.heap.size, rfl, hs, ⟨A1, c1, heap_alloc_new w1 _, Hr1.out.alloc _, fun a e => ?_, by omega, hn⟩, hb1.alloc hs _⟩
  have := Hbl.out a e
  omega

set_option maxHeartbeats 400000 in
theorem bleft_any (p n t : Nat) (f : Nat → Int) (w : World) (h : Rdr w p n f t) :
    Calls Try.prog 33 #[.pointer (some ⟨p, 0, none⟩)] w fun e w' => e = .returned (.int .i64 (8 * n - t : Nat)) ∧ Drawn w w' := by
  obtain ⟨A, c, hh, hr, ha, h1, h2⟩ := h
  have c0 := cell_of_row w p 0 _ _ _ hh
  have c1 := cell_of_row w p 1 _ _ _ hh
  simp at c0 c1
  clear hh hr ha
  have hw1 : IntKind.i64.wrap (8 * (n : Int)) = 8 * (n : Int) := IntWalk.i64_in _ (by omega)
  have hw2 : IntKind.i64.wrap (8 * (n : Int) - (t : Int)) = 8 * (n : Int) - (t : Int) := IntWalk.i64_in _ (by omega)
  have he : Hid (((8 * n - t : Nat) : Int) = 8 * (n : Int) - (t : Int)) := by unfold Hid; omega
  go_enter Try.func33, Try.ntmps33
  go_wp2
  go_quiet (fail)
  go_wp2
  go_ret
  exact ⟨by rw [he.out]; rfl, Drawn.of _ _⟩

theorem bleftNil (w : World) : Calls Try.prog 33 #[.pointer none] w fun e w' => e = .returned (.int .i64 0) ∧ w = w' := by
  go_enter Try.func33, Try.ntmps33
  go_wp2
  go_ret
  exact ⟨rfl, rfl⟩

theorem and1 {x : Int} (h0 : 0 ≤ x) (h1 : x ≤ 9223372036854775807) : bits .and .i64 x 1 = x % 2 := by
  obtain ⟨a, rfl⟩ := Int.eq_ofNat_of_zero_le h0
  show IntKind.i64.wrap ((BitVec.ofInt 64 (a : Int) &&& BitVec.ofInt 64 ((1 : Nat) : Int)).toNat : Int) = _
  rw [BitVec.toNat_and, BitVec.ofInt_natCast, BitVec.ofInt_natCast, BitVec.toNat_ofNat, BitVec.toNat_ofNat, Nat.mod_eq_of_lt (show a < 2 ^ 64 by omega), Nat.mod_eq_of_lt (show 1 < 2 ^ 64 by omega), Nat.and_one_is_mod, IntKind.wrap_i64]
  omega
theorem shr_bd {x : Int} (h0 : 0 ≤ x) (h1 : x ≤ 255) (k : Nat) : 0 ≤ x / 2 ^ k ∧ x / 2 ^ k ≤ 255 := by
  have hp : (0 : Int) < 2 ^ k := Int.pow_pos (by decide)
  exact ⟨Int.ediv_nonneg h0 (by omega), Int.le_trans (Int.ediv_le_self _ h0) h1⟩
theorem bit_eq {f : Nat → Int} {n t : Nat} (hb : Byt n f) (ht : t < 8 * n) : bits .and .i64 (wrap64 (f (t / 8) / 2 ^ (7 - t % 8))) 1 = bitF f t := by
  obtain ⟨h0, h1⟩ := hb (t / 8) (by omega)
  obtain ⟨a, b⟩ := shr_bd h0 h1 (7 - t % 8)
  rw [IntWalk.wrap64_in _ (by omega), and1 a (by omega)]
  rfl
theorem bgrown_cell (w : World) (q p j : Nat) (u : Value) : w.grownBy ((w.drewN q).setCell ⟨p, j, none⟩ u) (some p) :=
  ⟨rfl, rfl, rfl, by simp [World.setCell], fun i _ hne => Below.heap_setCell (w.drewN q) ⟨p, j, none⟩ u i (fun e => hne (by simp [e]))⟩

set_option maxHeartbeats 400000 in
theorem bnext_any (p n t : Nat) (f : Nat → Int) (w : World) (h : Rdr w p n f t) (hb : Byt n f) (ht : t < 8 * n) :
    Calls Try.prog 46 #[.pointer (some ⟨p, 0, none⟩)] w fun e w' => e = .returned (.int .i64 (bitF f t)) ∧ Rdr w' p n f (t + 1) ∧ w.grownBy w' (some p) := by
  obtain ⟨A, c, hh, hr, ha, h1, h2⟩ := h
  have c0 := cell_of_row w p 0 _ _ _ hh
  have c1 := cell_of_row w p 1 _ _ _ hh
  simp at c0 c1
  obtain ⟨b, off, rfl, hcell⟩ := hr.at_ (i := t / 8) (by omega)
  have hf1 := frozen_of_row w p 1 _ _ hh
  have Hh := hide hh
  have Hr := hide hr
  have Ha := hide ha
  clear hh hr ha
  go_enter Try.func46, Try.ntmps46
  go_wp2
  go_quiet (fail)
  go_wp2
  go_ret
  refine ⟨by rw [← bit_eq hb ht]; rfl, ⟨_, c, ?_, Hr.out.other (bgrown_cell w nq p 1 _) (fun b' o' e => Ha.out _ e), Ha.out, by omega, h2⟩, bgrown_cell w nq p 1 _⟩
  have := heap_setCell_same (w.drewN nq) p 1 _ _ (.int .i64 ((t : Int) + 1)) Hh.out
  rw [this]
  simp
end Go.Proofs.Yteijpklepgenbaa
