/- Layer 10: the walk of ChunksCuts. -/
import Derived.Test.YtpnjamomkpkkeaaCu3
import Derived.Test.YtpnjamomkpkkeaaJn6
namespace Go.Proofs.Ytpnjamomkpkkeaa
set_option linter.unusedVariables false
set_option linter.unusedSimpArgs false
open Go.RowKit

theorem rcut_none (A S : Option Addr) (n c dc : Nat) (F : Nat → Ck) (w : World) (ha : RdC w A n c F) (hn : n ≤ 1000000) (hs : sumC F n ≤ 1000000) :
    Calls Try.prog 32 #[.slice A n c, .slice S 0 dc] w fun e w' => ∃ v V, e = .returned v ∧ PcD w.heap.size w' v (jn F n).m (jn F n).X V (jn F n).N (jn F n).G ∧ Below w.heap.size w w' := by
  go_enter Try.func32, Try.ntmps32
  go_wp2_with fail
  refine (rjoin_any A n c F _ ha hn hs).mono ?_
  rintro e w2 ⟨v2, V2, rfl, hP2, hb2⟩
  go_wp2_with fail
  go_ret
  exact ⟨_, V2, rfl, hP2, hb2⟩
theorem flF_len (X : Nat → Int) (N : Nat → Nat) (G : Nat → Nat → Int) (H : Nat → Ck) (k : Nat) (h : ∀ i, i < k → (H i).n = N i) : (flF X N G k).length = sumC H k := by
  induction k with
  | zero => rfl
  | succ k ih =>
    show (flF X N G k ++ flC (X k) (G k) (N k)).length = sumC H k + (H k).n
    rw [List.length_append, ih (fun i hi => h i (by omega)), h k (by omega)]
    simp [flC]
end Go.Proofs.Ytpnjamomkpkkeaa
