/- Layer 15: EmitBack. -/
import Derived.Test.YtpnjamomkpkkeaaEmd
import Derived.Test.YtpnjamomkpkkeaaEm3
import Derived.Test.YtpnjamomkpkkeaaFse
namespace Go.Proofs.Ytpnjamomkpkkeaa
set_option linter.unusedVariables false
set_option linter.unusedSimpArgs false
open Go.RowKit

def FR.fm (G : FR) (f : Nat → Int) : Fm5 := ⟨G.T, G.fl, G.st, G.pad, G.N, fun i => f (G.off + i), G.sn, sF f, sG f, G.wt, G.pa, G.al, G.pm, G.la, G.co, G.sp⟩
theorem fm_ok {T fl st : Int} {n : Nat} {f : Nat → Int} {G : FR} (hG : G = frR T fl st n f) (hf : Byt n f) (h0 : G.fs = 0) (he : G.en = 0) : (G.fm f).Ok ∧ (G.fm f).emL.length = n ∧ (G.fm f).gR = G ∧ G.fc = 0 ∧ G.fl ≤ 255 ∧ G.N ≤ n ∧ G.sn * 6 ≤ n ∧ Byt G.N (fun i => f (G.off + i)) := by
  subst hG
  have hb := bk_ok hf h0 he
  have hg := frR_good h0 he
  have hle := frR_le T fl st n f
  have e : (frR T fl st n f).fm f = bk5 T fl st n f (fdOf T fl n f) := by rw [hg.1]; rfl
  have hms : (fdOf T fl n f).sn ≠ 0 → (fdOf T fl n f).sn * 6 ≤ n := fun h => (fd_sn h).2
  refine ⟨by rw [e]; exact hb.1, by rw [e]; exact hb.2.1, by rw [e]; exact hb.2.2, by rw [hg.1]; rfl, by rw [hg.1]; exact hg.2.2.2.1.2, by omega, ?_, fun i hi => hf _ (by omega)⟩
  rw [hg.1]
  show (fdOf T fl n f).sn * 6 ≤ n
  by_cases hz : (fdOf T fl n f).sn = 0
  · rw [hz]; omega
  · exact hms hz
theorem Fm5.Ok.facts {X : Fm5} (h : X.Ok) : X.gR.en = 0 ∧ X.gR.fs = 0 ∧ X.gR.fc = 0 := by
  refine ⟨h.2.1, h.2.2.1, ?_⟩
  have h1 := (frR_good (T := X.T) (fl := X.fl) (st := X.st) (n := X.emL.length) (f := lF X.emL) h.2.2.1 h.2.1).1
  show (frR _ _ _ _ _).fc = 0
  rw [h1]
  rfl
end Go.Proofs.Ytpnjamomkpkkeaa
