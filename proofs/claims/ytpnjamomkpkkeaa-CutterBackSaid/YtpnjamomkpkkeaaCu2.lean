/- Layer 10: the program's Cut. -/
import Derived.Test.YtpnjamomkpkkeaaCu1
import Derived.Test.YtpnjamomkpkkeaaCk3
namespace Go.Proofs.Ytpnjamomkpkkeaa
set_option linter.unusedVariables false
set_option linter.unusedSimpArgs false
open Go.RowKit

theorem PcD.drewB {B : Nat} {w w' : World} {v : Value} {n : Nat} {X : Nat → Int} {V : Nat → Value} {N : Nat → Nat} {G : Nat → Nat → Int} (h : PcD B w v n X V N G) (hb : Below w.drew.heap.size w.drew w') : PcD B w' v n X V N G := (h.drewN 1).below hb
theorem PcD.set {B : Nat} {w : World} {v : Value} {n : Nat} {X : Nat → Int} {V : Nat → Value} {N : Nat → Nat} {G : Nat → Nat → Int} (h : PcD B w v n X V N G) {a : Addr} (ha : a.block < B) (u : Value) : PcD B (w.setCell a u) v n X V N G := ⟨h.pcs.set ha u, h.apart⟩
theorem PcD.base {B B' : Nat} {w : World} {v : Value} {n : Nat} {X : Nat → Int} {V : Nat → Value} {N : Nat → Nat} {G : Nat → Nat → Int} (h : PcD B w v n X V N G) (hB : B' ≤ B) : PcD B' w v n X V N G :=
  ⟨⟨by
    refine ⟨h.pcs.row.1, ?_⟩
    rcases h.pcs.row.2 with h2 | ⟨g, cap, cur, hv, hg, r⟩
    · exact .inl h2
    · exact .inr ⟨g, cap, cur, hv, by omega, r⟩, fun j hj => Own.baseT (h.pcs.bytes j hj) hB⟩, h.apart⟩
/-- The closure's cells, the pieces. -/
def CuI (w : World) (S : Option Addr) (d dc : Nat) (s : CtS) (v : Value) (W : World) : Prop :=
  W.heap[w.heap.size]? = some (.cells #[.slice S d dc] 68 (0, 0)) ∧ W.heap[w.heap.size + 1]? = some (.cells #[.int .i64 ((s.a % d : Nat) : Int)] 3 (0, 0)) ∧ (∃ V, PcD (w.heap.size + 2) W v s.p.m s.p.X V s.p.N s.p.G) ∧ Below w.heap.size w W
theorem mod_next (a d : Nat) : (((a % d : Nat) : Int) + 1) % (d : Int) = (((a + 1) % d : Nat) : Int) := by
  rw [← Nat.mod_add_mod]
  push_cast
  rfl
end Go.Proofs.Ytpnjamomkpkkeaa
