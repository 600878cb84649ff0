/- Layer 14: what the reader's frame says: the words. -/
import Derived.Test.YtelcpfjifhobjaaFr4
import Derived.Deep.Cut
namespace Go.Proofs.Ytelcpfjifhobjaa
set_option linter.unusedVariables false
set_option linter.unusedSimpArgs false
open Go.RowKit

theorem heap3f (w : World) (a1 a2 a3 : Array Value) (T1 T2 T3 : TypeId) : (((w.alloc (.cells a1 T1)).alloc (.cells a2 T2)).alloc (.cells a3 T3)).heap[w.heap.size]? = some (.cells a1 T1 (0, 0)) ∧ (((w.alloc (.cells a1 T1)).alloc (.cells a2 T2)).alloc (.cells a3 T3)).heap[w.heap.size + 1]? = some (.cells a2 T2 (0, 0)) ∧ (((w.alloc (.cells a1 T1)).alloc (.cells a2 T2)).alloc (.cells a3 T3)).heap[w.heap.size + 1 + 1]? = some (.cells a3 T3 (0, 0)) ∧ Below w.heap.size w (((w.alloc (.cells a1 T1)).alloc (.cells a2 T2)).alloc (.cells a3 T3)) := by
  refine ⟨keepRow (keepRow (heap_alloc_new w (.cells a1 T1)) ((Below.refl _ _).alloc (Nat.le_refl _) (.cells a2 T2))) ((Below.refl _ _).alloc (Nat.le_refl _) (.cells a3 T3)), ?_, ?_, (((Below.refl w.heap.size w).alloc (Nat.le_refl _) _).alloc (by simp) _).alloc (by simp; omega) _⟩
  · have h := keepRow (heap_alloc_new (w.alloc (.cells a1 T1)) (.cells a2 T2)) ((Below.refl _ _).alloc (Nat.le_refl _) (.cells a3 T3))
    have e : (w.alloc (.cells a1 T1)).heap.size = w.heap.size + 1 := by simp
    rw [e] at h
    exact h
  · have h := heap_alloc_new ((w.alloc (.cells a1 T1)).alloc (.cells a2 T2)) (.cells a3 T3)
    have e : ((w.alloc (.cells a1 T1)).alloc (.cells a2 T2)).heap.size = w.heap.size + 1 + 1 := by simp
    rw [e] at h
    exact h
def m0 (pad : Int) : Int := if pad < 0 then 0 else pad
theorem m0_of {pad : Int} (h : 0 ≤ pad) : m0 pad = pad := by unfold m0; rw [if_neg (by omega)]
theorem num_nonneg {n t s : Nat} {f : Nat → Int} (hf : Byt n f) (h : t + s ≤ n) (h4 : s ≤ 4) : 0 ≤ num (fun i => f (t + i)) s := (num_bd (n := n - t) (f := fun i => f (t + i)) (fun i hi => hf (t + i) (by omega)) s (by omega) h4).1
theorem nbV_nonneg {n t s : Nat} {f : Nat → Int} (hf : Byt n f) (h4 : s ≤ 4 := by omega) : 0 ≤ nbV f n t s := by
  unfold nbV
  split
  · exact num_nonneg hf (by assumption) h4
  · exact Int.le_refl _
/-- What a frame says: its fields; where its data begin; how many settings; whether something lacks. -/
structure FD where
  pad : Int := -1
  wt : Int := 0
  pa : Int := 0
  al : Bool := false
  pm : Int := 0
  la : Int := 0
  co : Int := 0
  sp : Int := 0
  off : Nat := 0
  sn : Nat := 0
  ms : Bool := false
def FPost (T fl st : Int) (D : FD) (q p n : Nat) (f : Nat → Int) (B : Nat) (w : World) (x : Ending) (w' : World) : Prop :=
  ∃ A2 c2 A3 c3, x = .returned (.agg #[.int .i64 T, .int .i64 fl, .int .i64 st, .int .i64 D.pad, .slice A2 (upN n D.off (m0 D.pad)) c2, .slice A3 D.sn c3, .int .i64 D.wt, .int .i64 D.pa, .bool D.al, .int .i64 D.pm, .int .i64 D.la, .int .i64 D.co, .int .i64 D.sp]) ∧
    Rd .u8 w' A2 (upN n D.off (m0 D.pad)) c2 (fun i => f (D.off + i)) ∧ Rd2 w' A3 D.sn c3 (sF f) (sG f) ∧
    w'.heap[q]? = some (.cells #[.pointer (some ⟨p, 0, none⟩), .bool D.ms, .bool (decide (((n - D.off : Nat) : Int) < m0 D.pad))] 127 (0, 0)) ∧ FrS B (PQ p q) w w' ∧ (∀ a, A2 = some a → w.heap.size ≤ a.block) ∧ (∀ a, A3 = some a → w.heap.size ≤ a.block)
end Go.Proofs.Ytelcpfjifhobjaa
