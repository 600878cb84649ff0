/- Layer 13: the contracts of 'setting.Parse', of its reference, and of the reference's comparing. -/
import Derived.Test.YtpfhiimlloeciaaDoorMA
import Derived.Test.YtpfhiimlloeciaaDoorVal
namespace Go.Proofs.YtpfhiimlloeciaaDoor
open Go.RowKit

section
variable {P : Program} {e : TypeId} {w : World} {ops : Array Oper} {rest : List Oper} {o : Oper} {a : Act} {Q : Exit → Act → World → Prop}
/-- make([]T, n). -/
theorem wp_mkV (hgd : o.guard = none) (l c : Operand) (t : TypeId) (hop : o.op = Op.makeSlice t l c) (s : Nat)
    (i : TypeInfo) (z : Value) (bytes : Nat) (ht : P.underlying t = some (.slice e)) (hi : P.info? e = some i) (hz : i.zero = some z) (hsize : i.size = s) (hby : i.bytes = bytes) (F : Nat → Value)
    (B : Nat) (kl kc : IntKind) (L C : Int) (n : Nat) (hl : a.eval l = .int kl L) (hc : a.eval c = .int kc C) (hL : L = (n : Int)) (hC : C = (n : Int)) (hrow : (madeCells z.cells (n * s)).toList = rowV (n * s) F) (b2 : bytes * n ≤ 281474976710656) (b3 : n ≤ maxLen) (b4 : B ≤ w.heap.size)
    (hK : ∀ w', OwnV s e B w' (.slice (some ⟨w.heap.size, 0, none⟩) n n) n F → w.grownBy w' none → w'.heap.size = w.heap.size + 1 → wpList P ops Q rest (a.put o.dst (.slice (some ⟨w.heap.size, 0, none⟩) n n)) w') :
    wpList P ops Q (o :: rest) a w := by
  refine wpList_plain hgd fun K hK' => ?_
  subst hL
  subst hC
  have hb : (i.bytes : Int) * (n : Int) ≤ 281474976710656 := by
    rw [hby]
    have h : ((bytes * n : Nat) : Int) ≤ 281474976710656 := by omega
    rwa [Int.natCast_mul] at h
  have hr := run_make (P := P) w t e i z ht hi hz kl kc n n (by omega) (by omega) hb (by simp only [maxLen] at b3; omega)
  simp only [Int.toNat_natCast] at hr
  rw [hsize] at hr
  have h1 := OwnV.lit s e B w F (madeCells z.cells (n * s)) n b4 b3 hrow
  unfold Oper.wp
  simp [execOp, hop, hl, hc, hr, Result.andThen]
  exact hK' _ _ (hK _ h1 (World.grownBy_alloc w _ none) (by simp))
end
theorem made2 (n : Nat) : (madeCells (Value.agg #[.int .i64 0, .int .i64 0]).cells (n * 2)).toList = rowV (n * 2) (pr (oneF 0) (oneF 0)) := by
  simp only [madeCells, rowV, Array.toList_map, Array.toList_range, Value.cells]
  refine List.map_congr_left fun i _ => ?_
  rcases Nat.mod_two_eq_zero_or_one i with h | h <;> simp [h, pr, oneF]

/-- The settings that bytes are. -/
def sF (f : Nat → Int) (i : Nat) : Int := num (fun j => f (i * 6 + j)) 2
def sG (f : Nat → Int) (i : Nat) : Int := num (fun j => f (i * 6 + 2 + j)) 4
/-- Those of the first k. -/
def upF (k : Nat) (F : Nat → Int) (i : Nat) : Int := if i < k then F i else 0
theorem upF_succ (k : Nat) (F : Nat → Int) : setF (upF k F) k (F k) = upF (k + 1) F := by
  funext i
  unfold setF upF
  by_cases h : i = k
  · subst h
    simp
  · by_cases h2 : i < k
    · have : i < k + 1 := by omega
      simp [h, h2, this]
    · have : ¬ i < k + 1 := by omega
      simp [h, h2, this]
/-- What a parse hands back. -/
def Sets (w : World) (m : Nat) (F G : Nat → Int) (v2 : Value) (e : Ending) (w' : World) : Prop :=
  ∃ A c, e = .returned (.tuple #[.slice A m c, v2]) ∧ Rd2 w' A m c F G ∧ Below w.heap.size w w'

end Go.Proofs.YtpfhiimlloeciaaDoor
