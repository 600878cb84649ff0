/- Layer 15: a frame's raw form, as the program writes it. -/
import Derived.Test.YtpnjamomkpkkeaaEm7
import Derived.Test.YtpnjamomkpkkeaaFre
import Derived.Laws.ResultCell
namespace Go.Proofs.Ytpnjamomkpkkeaa
set_option linter.unusedVariables false
set_option linter.unusedSimpArgs false
open Go.RowKit

theorem store6 {w : World} {p : Nat} {T : TypeId} {a0 a1 a2 a3 a4 a5 : Value} (h : w.heap[p]? = some (.cells #[a0, a1, a2, a3, a4, a5] T (0, 0))) (b0 b1 b2 b3 b4 b5 : Value) :
    (w.cell? ⟨p, 0, none⟩ = some a0 ∧ w.frozen? ⟨p, 0, none⟩ = false) ∧ ((w.setCell ⟨p, 0, none⟩ b0).cell? ⟨p, 1, none⟩ = some a1 ∧ (w.setCell ⟨p, 0, none⟩ b0).frozen? ⟨p, 1, none⟩ = false) ∧ (((w.setCell ⟨p, 0, none⟩ b0).setCell ⟨p, 1, none⟩ b1).cell? ⟨p, 2, none⟩ = some a2 ∧ ((w.setCell ⟨p, 0, none⟩ b0).setCell ⟨p, 1, none⟩ b1).frozen? ⟨p, 2, none⟩ = false) ∧ ((((w.setCell ⟨p, 0, none⟩ b0).setCell ⟨p, 1, none⟩ b1).setCell ⟨p, 2, none⟩ b2).cell? ⟨p, 3, none⟩ = some a3 ∧ (((w.setCell ⟨p, 0, none⟩ b0).setCell ⟨p, 1, none⟩ b1).setCell ⟨p, 2, none⟩ b2).frozen? ⟨p, 3, none⟩ = false) ∧ (((((w.setCell ⟨p, 0, none⟩ b0).setCell ⟨p, 1, none⟩ b1).setCell ⟨p, 2, none⟩ b2).setCell ⟨p, 3, none⟩ b3).cell? ⟨p, 4, none⟩ = some a4 ∧ ((((w.setCell ⟨p, 0, none⟩ b0).setCell ⟨p, 1, none⟩ b1).setCell ⟨p, 2, none⟩ b2).setCell ⟨p, 3, none⟩ b3).frozen? ⟨p, 4, none⟩ = false) ∧ ((((((w.setCell ⟨p, 0, none⟩ b0).setCell ⟨p, 1, none⟩ b1).setCell ⟨p, 2, none⟩ b2).setCell ⟨p, 3, none⟩ b3).setCell ⟨p, 4, none⟩ b4).cell? ⟨p, 5, none⟩ = some a5 ∧ (((((w.setCell ⟨p, 0, none⟩ b0).setCell ⟨p, 1, none⟩ b1).setCell ⟨p, 2, none⟩ b2).setCell ⟨p, 3, none⟩ b3).setCell ⟨p, 4, none⟩ b4).frozen? ⟨p, 5, none⟩ = false) ∧ ((((((w.setCell ⟨p, 0, none⟩ b0).setCell ⟨p, 1, none⟩ b1).setCell ⟨p, 2, none⟩ b2).setCell ⟨p, 3, none⟩ b3).setCell ⟨p, 4, none⟩ b4).setCell ⟨p, 5, none⟩ b5).heap[p]? = some (.cells #[b0, b1, b2, b3, b4, b5] T (0, 0)) ∧ (∀ q, q ≠ p → ((((((w.setCell ⟨p, 0, none⟩ b0).setCell ⟨p, 1, none⟩ b1).setCell ⟨p, 2, none⟩ b2).setCell ⟨p, 3, none⟩ b3).setCell ⟨p, 4, none⟩ b4).setCell ⟨p, 5, none⟩ b5).heap[q]? = w.heap[q]?) ∧ ∀ B w0, B ≤ p → Below B w0 w → Below B w0 ((((((w.setCell ⟨p, 0, none⟩ b0).setCell ⟨p, 1, none⟩ b1).setCell ⟨p, 2, none⟩ b2).setCell ⟨p, 3, none⟩ b3).setCell ⟨p, 4, none⟩ b4).setCell ⟨p, 5, none⟩ b5) := by
  have h1 := setRow w p 0 b0 h
  have h2 := setRow _ p 1 b1 h1
  have h3 := setRow _ p 2 b2 h2
  have h4 := setRow _ p 3 b3 h3
  have h5 := setRow _ p 4 b4 h4
  have h6 := setRow _ p 5 b5 h5
  simp only [List.setIfInBounds_toArray, List.set_cons_zero, List.set_cons_succ] at h1 h2 h3 h4 h5 h6
  refine ⟨⟨(row6 h).1, frozenRow h 0⟩, ⟨(row6 h1).2.1, frozenRow h1 1⟩, ⟨(row6 h2).2.2.1, frozenRow h2 2⟩, ⟨(row6 h3).2.2.2.1, frozenRow h3 3⟩, ⟨(row6 h4).2.2.2.2.1, frozenRow h4 4⟩, ⟨(row6 h5).2.2.2.2.2, frozenRow h5 5⟩, h6, fun q hq => ?_, fun B w0 hB hb => ?_⟩
  · have hne : ∀ (W : World) (j : Nat) (u : Value), (W.setCell ⟨p, j, none⟩ u).heap[q]? = W.heap[q]? := fun W j u => by
      obtain ⟨_, _, _, hsz, hk⟩ := grown_set W p j u
      by_cases hl : q < W.heap.size
      · exact hk q hl (fun e => hq (Option.some.inj e))
      · have hz : (W.setCell ⟨p, j, none⟩ u).heap.size = W.heap.size := by simp [World.setCell]
        rw [Array.getElem?_eq_none (by omega), Array.getElem?_eq_none (by omega)]
    rw [hne, hne, hne, hne, hne, hne]
  · exact (((((hb.setCell (p := ⟨p, 0, none⟩) hB _).setCell (p := ⟨p, 1, none⟩) hB _).setCell (p := ⟨p, 2, none⟩) hB _).setCell (p := ⟨p, 3, none⟩) hB _).setCell (p := ⟨p, 4, none⟩) hB _).setCell (p := ⟨p, 5, none⟩) hB _
theorem Rd.set6 {w : World} {A : Option Addr} {n c : Nat} {f : Nat → Int} (h : Rd .u8 w A n c f) {p : Nat} (hq : 0 < n → ∀ a, A = some a → a.block ≠ p) (j : Nat) (u : Value) : Rd .u8 (w.setCell ⟨p, j, none⟩ u) A n c f := rd_set5 h hq j u
theorem u8_apart6 {w : World} {A : Option Addr} {n c : Nat} {f : Nat → Int} (h : Rd .u8 w A n c f) {p : Nat} {T : TypeId} {a b d e : Int} {x : Bool} {v : Value} (hv : ∀ y, v ≠ .int .u8 y) (hr : w.heap[p]? = some (.cells #[.int .i64 a, .int .i64 b, .int .i64 d, .int .i64 e, .bool x, v] T (0, 0))) : 0 < n → ∀ a, A = some a → a.block ≠ p := fun hn a ha e => by
  obtain ⟨b, off, hA, hc⟩ := h.2.2.2 hn
  obtain rfl := Option.some.inj (ha.symm.trans hA)
  have h0 := hc 0 hn
  simp only at e
  subst e
  unfold World.cell? at h0
  simp only [hr] at h0
  match off, h0 with
  | 0, h0 => simp at h0
  | 1, h0 => simp at h0
  | 2, h0 => simp at h0
  | 3, h0 => simp at h0
  | 4, h0 => simp at h0
  | 5, h0 => simp at h0; exact hv _ h0
  | off + 6, h0 => simp at h0
/-- What 'written' gives. -/
def Wr5 (X : Fm5) (w : World) (e : Ending) (w' : World) : Prop :=
  Below w.heap.size w w' ∧ ((X.Ok ∧ ∃ A c, e = .returned (.tuple #[.agg #[.int .i64 0, .int .i64 X.T, .int .i64 X.fl, .int .i64 X.st, .bool false, .slice A X.emL.length c], .bool true]) ∧ Rd .u8 w' A X.emL.length c (lF X.emL)) ∨
    (¬ X.Ok ∧ e = .returned (.tuple #[.agg #[.int .i64 0, .int .i64 0, .int .i64 0, .int .i64 0, .bool false, .slice none 0 0], .bool false])))
theorem emL_le {X : Fm5} (h : X.POk) (hn : X.nd ≤ 2000) (hs : X.ns ≤ 1000) : X.emL.length ≤ 9000 := by
  have h1 : X.padL.length ≤ 1 := by unfold Fm5.padL; split <;> simp [numL_len]
  have h2 : X.prL.length ≤ 5 := by unfold Fm5.prL; split <;> simp [numL_len]
  have h3 : X.tyL.length ≤ 6000 := by
    unfold Fm5.tyL Fm5.setL
    (repeat' split) <;> simp [numL_len] <;> omega
  have h4 : X.dL.length ≤ 2000 := by simpa [Fm5.dL] using hn
  have h5 : X.zL.length ≤ 255 := by
    unfold Fm5.zL
    split
    · have := h.1 (by assumption); rw [List.length_replicate]; omega
    · simp
  unfold Fm5.emL
  simp only [List.length_append]
  omega
end Go.Proofs.Ytpnjamomkpkkeaa
