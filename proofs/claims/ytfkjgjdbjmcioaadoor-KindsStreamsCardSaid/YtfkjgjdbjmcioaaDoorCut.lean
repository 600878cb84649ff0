/- The cuts of a slice of one-cell elements, their addresses under one name. Plain theorems; no program is named. -/
import Derived.Test.YtfkjgjdbjmcioaaDoorMem
namespace Go.Proofs.YtfkjgjdbjmcioaaDoor
open Go.RowKit

/-- The address of a slice that is cut at lo: at the end of the room it stays. -/
def cutA (A : Option Addr) (c lo : Nat) : Option Addr := if c = lo then A else A.map (·.add (lo * 1))
theorem Rd.cutR {k : IntKind} {w : World} {A : Option Addr} {n c : Nat} {f : Nat → Int} (h : Rd k w A n c f) {lo hi : Nat} (h1 : lo ≤ hi) (h2 : hi ≤ n) :
    Rd k w (cutA A c lo) (hi - lo) (c - lo) (fun i => f (lo + i)) := h.cut h1 h2
theorem cutA_block {A : Option Addr} {c lo : Nat} {a : Addr} (h : cutA A c lo = some a) : ∃ b, A = some b ∧ b.block = a.block := by
  unfold cutA at h
  split at h
  · exact ⟨a, h, rfl⟩
  · cases A with
    | none => cases h
    | some b =>
      refine ⟨b, rfl, ?_⟩
      have := Option.some.inj h
      rw [← this]
      simp only [Addr.add]
      split <;> rfl

section
variable {P : Program} (T e : TypeId) (hT : P.underlying T = some (.slice e)) (hE : P.elem T = e) (hs : (P.info? e).map (·.size) = some 1) (A : Option Addr) (n c : Nat)
include hT hE hs
omit hT in
theorem size_run (W : World) : (sizeOf (P.elem T)).run P W = .ok 1 W := by
  obtain ⟨i, hi, h1⟩ := Option.map_eq_some_iff.1 hs
  rw [hE]
  simp [sizeOf, typeInfo, hi, h1]
theorem cut_l (lo : Nat) (hlo : lo ≤ n) (kl : IntKind) (W : World) :
    (Instr.slice T (.slice A n c) (some (.int kl (lo : Int))) none none).run P W = .ok (.slice (cutA A c lo) (n - lo) (c - lo)) W := by
  rw [run_slice_l (P := P) (w := W) T A n c (by rw [hE]; exact hT) kl (lo : Int) (by omega) (by omega), size_run T e hE hs W]
  simp [Result.andThen, sliced, cutA]
theorem cut_h (hi : Nat) (hc : hi ≤ c) (kh : IntKind) (W : World) :
    (Instr.slice T (.slice A n c) none (some (.int kh (hi : Int))) none).run P W = .ok (.slice (cutA A c 0) hi c) W := by
  rw [run_slice_h (P := P) (w := W) T A n c (by rw [hE]; exact hT) kh (hi : Int) (by omega) (by omega), size_run T e hE hs W]
  simp [Result.andThen, sliced, cutA]
theorem cut_lh (lo hi : Nat) (h1 : lo ≤ hi) (hc : hi ≤ c) (kl kh : IntKind) (W : World) :
    (Instr.slice T (.slice A n c) (some (.int kl (lo : Int))) (some (.int kh (hi : Int))) none).run P W = .ok (.slice (cutA A c lo) (hi - lo) (c - lo)) W := by
  rw [run_slice_lh (P := P) (w := W) T A n c (by rw [hE]; exact hT) kl kh (lo : Int) (hi : Int) (by omega) (by omega) (by omega), size_run T e hE hs W]
  simp [Result.andThen, sliced, cutA]
end
end Go.Proofs.YtfkjgjdbjmcioaaDoor
