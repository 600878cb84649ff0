/- A slice of strings that came in: a law's parameter of that kind. -/
import Derived.Test.YtdlmmjnomeladaaDoorWdM
import Derived.SliceStrings
import Derived.Deep.Slices
namespace Go.Proofs.YtdlmmjnomeladaaDoor
set_option linter.unusedVariables false
set_option linter.unusedSimpArgs false
open Go.RowKit Go.Maps Go.ChangeShapes Go.WideShapes Go.Deep

/-- The slice reads as these strings. -/
def RdS (w : World) (A : Option Addr) (n c : Nat) (ps : List ByteArray) : Prop := RdV 1 w A n c (stL ps) ∧ n = ps.length
section
variable {H : Type} {enc : TypeId × Value → H} {P : Program} {w : World} {base : Nat} {spare : Nat → Bool} {held : Bool}
theorem rds_of {t e : TypeId} {fuel : Nat} {a : Option Addr} {len cap : Nat} {x : DataW H × List MemPlace} (ht : P.underlying t = some (.slice e)) (he : P.underlying e = some .string) (hC : P.cellsOf e = 1)
    (h : DataW.trod enc P w base spare held fuel t [.slice a len cap] = some x) : ∃ ps, RdS w a len cap ps := by
  rcases open_strings ht he hC h with ⟨hcs, _⟩ | ⟨ad, l, c, ss, hcs, _, hl, hm, hlen, _, hi, _⟩
  · simp at hcs
    obtain ⟨rfl, rfl, rfl⟩ := hcs
    exact ⟨[], ⟨Nat.le_refl _, by simp [maxLen], fun _ => rfl, fun h => absurd h (by omega)⟩, rfl⟩
  · simp at hcs
    obtain ⟨rfl, rfl, rfl⟩ := hcs
    have hls : len ≤ ss.length := by rw [hlen]; split <;> omega
    refine ⟨ss.take len, ⟨hl, hm, fun e => (by cases e), fun hn => ?_⟩, by simp; omega⟩
    obtain ⟨b, off, spot⟩ := ad
    have h0 := hi 0 (by omega)
    have hs : spot = none := by simpa [Addr.add] using World.cell?_spot h0
    subst hs
    refine ⟨b, off, rfl, fun i hi2 => ?_⟩
    have hil : i < len := by omega
    have h1 := hi i (by omega)
    have e1 : ss.getD i ByteArray.empty = ss[i]'(by omega) := by simp [List.getD, List.getElem?_eq_getElem (show i < ss.length by omega)]
    have e2 : stL (ss.take len) i = .string (ss[i]'(by omega)) := by
      have h3 : i < (ss.take len).length := by simp; omega
      simp [stL, List.getD, List.getElem?_eq_getElem h3]
    rw [e2, ← e1]
    have e3 : (⟨b, off, none⟩ : Addr).add i = ⟨b, off + i, none⟩ := by
      unfold Addr.add
      by_cases h0 : i = 0 <;> simp [h0]
    rw [e3] at h1
    exact h1
end
end Go.Proofs.YtdlmmjnomeladaaDoor
