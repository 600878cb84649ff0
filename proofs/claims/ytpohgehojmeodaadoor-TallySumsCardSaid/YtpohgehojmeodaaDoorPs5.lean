/- Layer 27: the reference's order. -/
import Derived.Test.YtpohgehojmeodaaDoorPs4
namespace Go.Proofs.YtpohgehojmeodaaDoor
set_option linter.unusedVariables false
set_option linter.unusedSimpArgs false
open Go.RowKit Go.PlainAid

theorem RdV.belowT {s : Nat} {w w' : World} {A : Option Addr} {n c : Nat} {F : Nat → Value} (h : RdV s w A n c F) (hb : Below w.heap.size w w') : RdV s w' A n c F :=
  ⟨h.1, h.2.1, h.2.2.1, fun hn => by
    obtain ⟨b, off, hA, hc⟩ := h.2.2.2 hn
    exact ⟨b, off, hA, fun i hi => cellKeepT hb (hc i hi)⟩⟩
theorem okR_step {NM : List ByteArray} {F : Nat → Fd} {n k : Nat} (h : okR NM F n k = true) (h2 : (!colB (F k).name || ((k == 0 || colB (F (k - 1)).name) && NM.any (eqN (F k).name ·) && decide (cntF F (F k).name n ≤ 1))) = true) : okR NM F n (k + 1) = true := by
  show (okR NM F n k && _) = true
  rw [h, h2]
  rfl
theorem okR_no {NM : List ByteArray} {F : Nat → Fd} {n k : Nat} (hk : k < n) (h2 : (!colB (F k).name || ((k == 0 || colB (F (k - 1)).name) && NM.any (eqN (F k).name ·) && decide (cntF F (F k).name n ≤ 1))) = false) : okF NM F n = false := by
  rw [← okR_ok]
  refine okR_bad hk ?_
  show (okR NM F n k && _) = false
  rw [h2]
  simp
end Go.Proofs.YtpohgehojmeodaaDoor
