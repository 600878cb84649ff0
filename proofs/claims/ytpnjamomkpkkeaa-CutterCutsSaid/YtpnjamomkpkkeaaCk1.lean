/- Layer 10: pieces, a row of chunks of the call's own, the bytes of each a row of the call's own. -/
import Derived.Test.YtpnjamomkpkkeaaMH
import Derived.Test.YtpnjamomkpkkeaaMD
import Derived.Test.YtpnjamomkpkkeaaSlB
namespace Go.Proofs.Ytpnjamomkpkkeaa
set_option linter.unusedVariables false
set_option linter.unusedSimpArgs false
open Go.RowKit

def upd {α : Type} (f : Nat → α) (n : Nat) (x : α) : Nat → α := fun i => if i = n then x else f i
def pcF (X : Nat → Int) (V : Nat → Value) : Nat → Value := fun i => if i % 2 = 0 then .int .i64 (X (i / 2)) else V (i / 2)
def litC2 (x : Int) (y : Value) : Nat → Value := fun i => if i = 0 then .int .i64 x else y
structure PcS (B : Nat) (w : World) (v : Value) (n : Nat) (X : Nat → Int) (V : Nat → Value) (N : Nat → Nat) (G : Nat → Nat → Int) : Prop where
  row : OwnV 2 52 B w v n (pcF X V)
  bytes : ∀ j, j < n → Own .u8 5 B w (V j) (N j) (G j)
theorem PcS.nil (B : Nat) (w : World) (X : Nat → Int) (V : Nat → Value) (N : Nat → Nat) (G : Nat → Nat → Int) : PcS B w (.slice none 0 0) 0 X V N G := ⟨OwnV.nil _ _ _ _ _, fun j hj => absurd hj (by omega)⟩
theorem PcS.below {B : Nat} {w w' : World} {v : Value} {n : Nat} {X : Nat → Int} {V : Nat → Value} {N : Nat → Nat} {G : Nat → Nat → Int} (h : PcS B w v n X V N G) (hb : Below w.heap.size w w') : PcS B w' v n X V N G :=
  ⟨h.row.below hb, fun j hj => (h.bytes j hj).below hb⟩
theorem PcS.set {B : Nat} {w : World} {v : Value} {n : Nat} {X : Nat → Int} {V : Nat → Value} {N : Nat → Nat} {G : Nat → Nat → Int} (h : PcS B w v n X V N G) {a : Addr} (ha : a.block < B) (u : Value) : PcS B (w.setCell a u) v n X V N G :=
  ⟨ownsRow_setCell_below h.row ha u, fun j hj => ownsRow_setCell_below (h.bytes j hj) ha u⟩
theorem uint8_chunk : (5 : TypeId) ≠ 52 := by decide
theorem PcS.push {B : Nat} {w w' : World} {v v' y : Value} {n m : Nat} {x : Int} {X : Nat → Int} {V : Nat → Value} {N : Nat → Nat} {G : Nat → Nat → Int} {g : Nat → Int} (h : PcS B w v n X V N G) (hy : Own .u8 5 B w y m g)
    (hown : OwnV 2 52 B w' v' (n + 1) (catV (n * 2) (pcF X V) (litC2 x y))) (hg : w.grownBy w' v.ownBlock) : PcS B w' v' (n + 1) (upd X n x) (upd V n y) (upd N n m) (upd G n g) := by
  have hk : KeepT 5 w w' := by
    rcases h.row.2 with ⟨rfl, _⟩ | ⟨b, cap, cur, rfl, hB, hh, _⟩
    · exact fun i cs e => (hg.block i (Array.getElem?_eq_some_iff.1 e).1 (by simp [Value.ownBlock])).trans e
    · exact KeepT.grown hg hh uint8_chunk
  refine ⟨hown.congr fun i hi => ?_, fun j hj => ?_⟩
  · unfold catV pcF litC2 upd
    by_cases h1 : i < n * 2
    · rw [if_pos h1]
      by_cases h2 : i % 2 = 0
      · rw [if_pos h2, if_pos h2, if_neg (by omega)]
      · rw [if_neg h2, if_neg h2, if_neg (by omega)]
    · rw [if_neg h1]
      by_cases h2 : i % 2 = 0
      · rw [if_pos h2, if_pos (by omega), if_pos (by omega)]
      · rw [if_neg h2, if_neg (by omega), if_pos (by omega)]
  · unfold upd
    by_cases h1 : j = n
    · subst h1
      simp only [if_true]
      exact hy.keepT hk
    · rw [if_neg h1, if_neg h1, if_neg h1]
      exact (h.bytes j (by omega)).keepT hk
/-- Pieces, read. -/
theorem PcS.rd {B : Nat} {w : World} {v : Value} {n : Nat} {X : Nat → Int} {V : Nat → Value} {N : Nat → Nat} {G : Nat → Nat → Int} (h : PcS B w v n X V N G) (hb : ∀ j, j < n → Byt (N j) (G j)) :
    ∃ A c F, v = .slice A n c ∧ RdC w A n c F ∧ ∀ j, j < n → (F j).from_ = X j ∧ (F j).n = N j ∧ (F j).b = G j := by
  obtain ⟨A, c, rfl, hr, _⟩ := h.row.rd
  have key : ∀ j, ∃ q : Option Addr × Nat, j < n → V j = .slice q.1 (N j) q.2 ∧ Rd .u8 w q.1 (N j) q.2 (G j) := by
    intro j
    by_cases hj : j < n
    · obtain ⟨A', c', h1, h2, _⟩ := (h.bytes j hj).rd
      exact ⟨(A', c'), fun _ => ⟨h1, h2⟩⟩
    · exact ⟨(none, 0), fun h => absurd h hj⟩
  obtain ⟨Q, hQ⟩ := Classical.axiomOfChoice key
  refine ⟨A, c, fun j => ⟨X j, (Q j).1, N j, (Q j).2, G j⟩, rfl, ⟨hr.1, hr.2.1, hr.2.2.1, fun hn => ?_, fun i hi => ⟨(hQ i hi).2, hb i hi⟩⟩, fun j _ => ⟨rfl, rfl, rfl⟩⟩
  obtain ⟨b, off, hA, hc⟩ := hr.2.2.2 hn
  refine ⟨b, off, hA, fun i hi => ⟨?_, ?_⟩⟩
  · have := hc (i * 2) (by omega)
    unfold pcF at this
    rw [if_pos (by omega), show i * 2 / 2 = i by omega] at this
    exact this
  · have := hc (i * 2 + 1) (by omega)
    unfold pcF at this
    rw [if_neg (by omega), show (i * 2 + 1) / 2 = i by omega, (hQ i hi).1] at this
    rw [Nat.add_assoc]
    exact this
end Go.Proofs.Ytpnjamomkpkkeaa
