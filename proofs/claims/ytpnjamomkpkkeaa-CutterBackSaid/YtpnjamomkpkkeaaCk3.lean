/- Layer 10: the example. -/
import Derived.Test.YtpnjamomkpkkeaaCk2
import Derived.Lib.SlBytesConst
namespace Go.Proofs.Ytpnjamomkpkkeaa
set_option linter.unusedVariables false
set_option linter.unusedSimpArgs false
open Go.RowKit

theorem rd_marked (w : World) (cs : Array Value) (n : Nat) (m : Nat × Nat) (f : Nat → Int) (hn : n ≤ maxLen) (h : ∀ i, i < n → cs[i]? = some (.int .u8 (f i))) : Rd .u8 (w.alloc (.cells cs 5 m)) (some ⟨w.heap.size, 0, none⟩) n n f :=
  ⟨Nat.le_refl _, hn, fun e => (by cases e), fun _ => ⟨_, _, rfl, fun i hi => by
    have h1 : (w.alloc (.cells cs 5 m)).cell? ⟨w.heap.size, 0 + i, none⟩ = cs[0 + i]? := World.cell?_alloc_mark _ _ _ _ _
    rw [h1, Nat.zero_add]
    exact h i hi⟩⟩
def fL (l : List Int) : Nat → Int := fun i => l.getD i 0
theorem byt_fL (l : List Int) (h : ∀ x ∈ l, 0 ≤ x ∧ x ≤ 255) : Byt l.length (fL l) := fun i hi => by
  unfold fL
  rw [List.getD_eq_getElem?_getD, List.getElem?_eq_getElem hi]
  exact h _ (List.getElem_mem _)
theorem rdc_lit (w : World) (cs : Array Value) (n : Nat) (F : Nat → Ck) (hn : n ≤ maxLen) (hc : ∀ i, i < n → cs[i * 2]? = some (.int .i64 (F i).from_) ∧ cs[i * 2 + 1]? = some (.slice (F i).A (F i).n (F i).c)) (hb : ∀ i, i < n → Rd .u8 w (F i).A (F i).n (F i).c (F i).b ∧ Byt (F i).n (F i).b) :
    RdC (w.alloc (.cells cs 52)) (some ⟨w.heap.size, 0, none⟩) n n F :=
  ⟨Nat.le_refl _, hn, fun e => (by cases e), fun _ => ⟨_, _, rfl, fun i hi => by
    have key : ∀ j, (w.alloc (.cells cs 52)).cell? ⟨w.heap.size, 0 + j, none⟩ = cs[0 + j]? := fun j => World.cell?_alloc_mark _ _ _ _ _
    refine ⟨?_, ?_⟩
    · rw [key, Nat.zero_add]
      exact (hc i hi).1
    · rw [Nat.add_assoc, key, Nat.zero_add]
      exact (hc i hi).2⟩, fun i hi => ⟨(hb i hi).1.alloc _, (hb i hi).2⟩⟩
def ckF (l : List Ck) : Nat → Ck := fun i => l.getD i ⟨0, none, 0, 0, fun _ => 0⟩
end Go.Proofs.Ytpnjamomkpkkeaa
