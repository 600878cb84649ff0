/- What a tied card's condition gives: a table of texts that the program's text lays, as a block. Plain theorems; no program is named. -/
import Derived.LaidMore
import Derived.LaidLaws
import Derived.OpenShut
import Derived.ChangeArms
import Derived.FnData
import GoSem.ClaimJoined
namespace Go.Proofs.YtminoofghdpomaaDoor
set_option linter.unusedVariables false
set_option linter.unusedSimpArgs false
open Go.RowKit Go.ChangeShapes Go.WideShapes

def strsD {H : Type} (ls : List (List UInt8)) : DataW H := .agg (ls.map fun l => .lit (.string l))
def strsV (ls : List (List UInt8)) : List Value := ls.map fun l => .string ⟨l.toArray⟩
theorem strs_of_trod {P : Program} {W : World} {enc : TypeId × Value → Unit} {held : Bool} {T S : TypeId} {n fuel : Nat} {cs : List Value} {q : List MemPlace} (ls : List (List UInt8)) (hT : P.underlying T = some (.array n S)) (hS : P.underlying S = some .string) (hcT : P.cellsOf T = n) (hcS : P.cellsOf S = 1)
    (h : DataW.trod enc P W 0 (fun _ => true) held fuel T cs = some (strsD ls, q)) : cs = strsV ls := by
  obtain ⟨xs, m, _, hx, hlen, hn, hel⟩ := DataW.trod_array hT h
  rw [hcT] at hlen
  simp only [Prod.mk.injEq, strsD, DataW.agg.injEq] at hx
  have hl : ls.length = n := by
    have := congrArg List.length hx.1
    simpa [hn] using this
  refine List.ext_getElem? fun i => ?_
  by_cases hi : i < n
  · have he := hel i hi
    rw [hcS, Nat.mul_one, List.getElem?_eq_getElem (by omega)] at he
    obtain ⟨s, e1, e2, _⟩ := DataW.trod_string hS he
    have h1 : cs[i]? = some (.string s) := by
      have : ((cs.drop i).take 1)[0]? = some (.string s) := by rw [e1]; rfl
      rw [List.getElem?_take_of_lt (by omega), List.getElem?_drop, Nat.add_zero] at this
      exact this
    have h2 : (xs.map (·.1))[i]? = some (.lit (.string s.data.toList)) := by
      rw [List.getElem?_map, List.getElem?_eq_getElem (by omega)]
      rw [e2]
      rfl
    rw [← hx.1, List.getElem?_map] at h2
    have h3 : ls[i]? = some s.data.toList := by
      cases hls : ls[i]? with
      | none => rw [hls] at h2; cases h2
      | some l =>
        rw [hls] at h2
        simp at h2
        rw [h2]
    rw [h1]
    unfold strsV
    rw [List.getElem?_map, h3]
    simp
  · rw [List.getElem?_eq_none (by omega), List.getElem?_eq_none (by simp [strsV]; omega)]
theorem var_heap {P : Program} {w : World} {name : String} {g : Nat} {cs : Array Value} (hg : P.globalNamed name = some g) (h : w.var? P name = some cs) : ∃ t fr, w.heap[g]? = some (.cells cs t fr) := by
  simp only [World.var?, hg, Option.bind_some] at h
  split at h
  · rename_i c t fr hh
    obtain rfl := Option.some.inj h
    exact ⟨t, fr, hh⟩
  · cases h
/-- What is listed lies there. -/
theorem laid_at {P : Program} {w : World} {name : String} {d : DataW Unit} : ∀ {laid : List (String × DataW Unit)} {ps : List MemPlace}, DataW.LaidVars P w laid ps → (name, d) ∈ laid →
    ∃ g t cs fuel p, P.globalNamed name = some g ∧ (P.globals[g]?).map (·.type) = some t ∧ w.var? P name = some cs ∧ DataW.trod (fun _ => ()) P w 0 (fun _ => true) false fuel t cs.toList = some (d, p)
  | [], _, _, h => by cases h
  | (n, e) :: r, _, hl, h => by
    obtain ⟨g, t, cs, fuel, p, q, h1, h2, h3, h4, h5, _⟩ := hl
    rcases List.mem_cons.1 h with he | h
    · cases he
      exact ⟨g, t, cs, fuel, p, h1, h2, h3, h4⟩
    · exact laid_at h5 h
theorem strs_laid {P : Program} {w : World} {name : String} {g : Nat} {T S : TypeId} {n : Nat} {laid : List (String × DataW Unit)} (ls : List (List UInt8)) (hL : laidMet P laid w) (hm : (name, strsD ls) ∈ laid) (hg : P.globalNamed name = some g) (ht : (P.globals[g]?).map (·.type) = some T)
    (hT : P.underlying T = some (.array n S)) (hS : P.underlying S = some .string) (hcT : P.cellsOf T = n) (hcS : P.cellsOf S = 1) : ∃ t fr, w.heap[g]? = some (.cells (strsV ls).toArray t fr) := by
  obtain ⟨ps, hv, _⟩ := hL
  obtain ⟨g', t', cs, fuel, p, h1, h2, h3, h4⟩ := laid_at hv hm
  obtain rfl := Option.some.inj (hg.symm.trans h1)
  obtain rfl := Option.some.inj (ht.symm.trans h2)
  obtain ⟨t, fr, hh⟩ := var_heap hg h3
  have := strs_of_trod ls hT hS hcT hcS h4
  obtain ⟨l⟩ := cs
  simp only at this
  subst this
  exact ⟨t, fr, hh⟩
end Go.Proofs.YtminoofghdpomaaDoor
