/- A row of the call's own, read. (For seats without a cursor.) -/
import Derived.Test.YtcoofiepoacmbaaOctV
import Derived.Test.YtcoofiepoacmbaaClone
import Derived.Test.YtcoofiepoacmbaaCut
import Derived.Laws.ResultCell
namespace Go.Proofs.Ytcoofiepoacmbaa
open Go.RowKit

theorem Own.rdK {k : IntKind} {e : TypeId} {B : Nat} {w : World} {A : Option Addr} {n c : Nat} {f : Nat → Int} (h : Own k e B w (.slice A n c) n f) : Rd k w A n c f := by
  obtain ⟨A', c', e', h4, _⟩ := h.rd
  injection e' with e1 _ e2
  subst e1
  subst e2
  exact h4
end Go.Proofs.Ytcoofiepoacmbaa
