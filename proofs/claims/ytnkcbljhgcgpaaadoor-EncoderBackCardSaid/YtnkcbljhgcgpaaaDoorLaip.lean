/- What a tied card's condition gives: a table of structs of two one-cell fields that the program's text lays, as a block. Plain theorems; no program is named. -/
import Derived.Test.YtnkcbljhgcgpaaaDoorLaid
namespace Go.Proofs.YtnkcbljhgcgpaaaDoor
set_option linter.unusedVariables false
set_option linter.unusedSimpArgs false
open Go.RowKit Go.ChangeShapes Go.WideShapes

def cellD {H : Type} : DataW H → Value
  | .lit (.int k n) => .int k n
  | .lit (.string l) => .string ⟨l.toArray⟩
  | .lit (.bool b) => .bool b
  | _ => undef
def prsD {H : Type} (ls : List (DataW H × DataW H)) : DataW H := .agg (ls.map fun p => .agg [p.1, p.2])
def prsV {H : Type} (ls : List (DataW H × DataW H)) : List Value := ls.flatMap fun p => [cellD p.1, cellD p.2]
/-- A type whose data are one cell each. -/
def One (P : Program) (t : TypeId) : Prop := ∀ {W : World} {enc : TypeId × Value → Unit} {held : Bool} {fuel : Nat} {cs : List Value} {x : DataW Unit × List MemPlace}, DataW.trod enc P W 0 (fun _ => true) held fuel t cs = some x → cs = [cellD x.1]
theorem one_int {P : Program} {t : TypeId} {k : IntKind} (ht : P.underlying t = some (.int k)) : One P t := fun h => by
  obtain ⟨n, rfl, rfl, _⟩ := DataW.trod_int ht h
  rfl
theorem one_string {P : Program} {t : TypeId} (ht : P.underlying t = some .string) : One P t := fun h => by
  obtain ⟨s, rfl, rfl, _⟩ := DataW.trod_string ht h
  simp [cellD]
theorem prsV_get {H : Type} : ∀ (ls : List (DataW H × DataW H)) (i : Nat) (p : DataW H × DataW H), ls[i]? = some p → (prsV ls)[i * 2]? = some (cellD p.1) ∧ (prsV ls)[i * 2 + 1]? = some (cellD p.2)
  | [], i, p, h => by simp at h
  | x :: r, 0, p, h => by
    simp at h
    subst h
    simp [prsV]
  | x :: r, i + 1, p, h => by
    have h' : r[i]? = some p := by simpa using h
    have hi := prsV_get r i p h'
    have e1 : (i + 1) * 2 = i * 2 + 2 := by omega
    have e2 : (i + 1) * 2 + 1 = i * 2 + 1 + 2 := by omega
    have e : prsV (x :: r) = cellD x.1 :: cellD x.2 :: prsV r := by simp [prsV]
    rw [e, e1, show i * 2 + 2 + 1 = i * 2 + 1 + 2 by omega]
    simpa using hi
theorem prsV_len {H : Type} (ls : List (DataW H × DataW H)) : (prsV ls).length = ls.length * 2 := by
  induction ls with
  | nil => rfl
  | cons x r ih =>
    have e : prsV (x :: r) = cellD x.1 :: cellD x.2 :: prsV r := by simp [prsV]
    rw [e]
    simp [ih]
    omega
theorem prs_of_trod {P : Program} {W : World} {enc : TypeId × Value → Unit} {held : Bool} {T S : TypeId} {f0 f1 : Field} {n fuel : Nat} {cs : List Value} {q : List MemPlace} (ls : List (DataW Unit × DataW Unit)) (hT : P.underlying T = some (.array n S)) (hS : P.underlying S = some (.struct #[f0, f1])) (hcT : P.cellsOf T = n * 2) (hcS : P.cellsOf S = 2)
    (o0 : f0.offset = 0) (o1 : f1.offset = 1) (k0 : P.cellsOf f0.type = 1) (k1 : P.cellsOf f1.type = 1) (u0 : One P f0.type) (u1 : One P f1.type)
    (h : DataW.trod enc P W 0 (fun _ => true) held fuel T cs = some (prsD ls, q)) : cs = prsV ls := by
  obtain ⟨xs, m, _, hx, hlen, hn, hel⟩ := DataW.trod_array hT h
  rw [hcT] at hlen
  simp only [Prod.mk.injEq, prsD, DataW.agg.injEq] at hx
  have hl : ls.length = n := by
    have := congrArg List.length hx.1
    simpa [hn] using this
  have key : ∀ i p, ls[i]? = some p → cs[i * 2]? = some (cellD p.1) ∧ cs[i * 2 + 1]? = some (cellD p.2) := by
    intro i p hp
    have hi : i < n := by
      have := (List.getElem?_eq_some_iff.1 hp).1
      omega
    have he := hel i hi
    rw [hcS, List.getElem?_eq_getElem (by omega)] at he
    have h2 : (xs.map (·.1))[i]? = some (.agg [p.1, p.2]) := by
      rw [← hx.1, List.getElem?_map, hp]
      rfl
    rw [List.getElem?_map, List.getElem?_eq_getElem (by omega)] at h2
    simp at h2
    obtain ⟨ys, m', _, hy, _, hyl, hf⟩ := DataW.trod_struct hS he
    have hyl2 : ys.length = 2 := hyl
    match ys, hyl2, hy, hf with
    | [ya, yb], _, hy, hf =>
      have hya : ya.1 = p.1 ∧ yb.1 = p.2 := by
        rw [hy] at h2
        simpa using h2
      have a0 := hf 0 f0 rfl
      have a1 := hf 1 f1 rfl
      rw [o0, k0] at a0
      rw [o1, k1] at a1
      have b0 := u0 (show DataW.trod enc P W 0 (fun _ => true) held m' f0.type (((cs.drop (i * 2)).take 2).drop 0 |>.take 1) = some ya from a0)
      have b1 := u1 (show DataW.trod enc P W 0 (fun _ => true) held m' f1.type (((cs.drop (i * 2)).take 2).drop 1 |>.take 1) = some yb from a1)
      rw [hya.1] at b0
      rw [hya.2] at b1
      constructor
      · have := congrArg (fun l => l[0]?) b0
        simpa [List.getElem?_take, List.getElem?_drop] using this
      · have := congrArg (fun l => l[0]?) b1
        simpa [List.getElem?_take, List.getElem?_drop] using this
  refine List.ext_getElem? fun j => ?_
  by_cases hj : j < n * 2
  · obtain ⟨p, hp⟩ : ∃ p, ls[j / 2]? = some p := ⟨_, List.getElem?_eq_getElem (by omega)⟩
    have h1 := key _ _ hp
    have h2 := prsV_get ls _ _ hp
    by_cases e : j % 2 = 0
    · have ej : j = j / 2 * 2 := by omega
      rw [ej, h1.1, h2.1]
    · have ej : j = j / 2 * 2 + 1 := by omega
      rw [ej, h1.2, h2.2]
  · rw [List.getElem?_eq_none (by omega), List.getElem?_eq_none (by rw [prsV_len]; omega)]
theorem prs_laid {P : Program} {w : World} {name : String} {g : Nat} {T S : TypeId} {f0 f1 : Field} {n : Nat} {laid : List (String × DataW Unit)} (ls : List (DataW Unit × DataW Unit)) (hL : laidMet P laid w) (hm : (name, prsD ls) ∈ laid) (hg : P.globalNamed name = some g) (ht : (P.globals[g]?).map (·.type) = some T)
    (hT : P.underlying T = some (.array n S)) (hS : P.underlying S = some (.struct #[f0, f1])) (hcT : P.cellsOf T = n * 2) (hcS : P.cellsOf S = 2) (o0 : f0.offset = 0) (o1 : f1.offset = 1) (k0 : P.cellsOf f0.type = 1) (k1 : P.cellsOf f1.type = 1) (u0 : One P f0.type) (u1 : One P f1.type) : ∃ t fr, w.heap[g]? = some (.cells (prsV ls).toArray t fr) := by
  obtain ⟨ps, hv, _⟩ := hL
  obtain ⟨g', t', cs, fuel, p, h1, h2, h3, h4⟩ := laid_at hv hm
  obtain rfl := Option.some.inj (hg.symm.trans h1)
  obtain rfl := Option.some.inj (ht.symm.trans h2)
  obtain ⟨t, fr, hh⟩ := var_heap hg h3
  have := prs_of_trod ls hT hS hcT hcS o0 o1 k0 k1 u0 u1 h4
  obtain ⟨l⟩ := cs
  simp only at this
  subst this
  exact ⟨t, fr, hh⟩
end Go.Proofs.YtnkcbljhgcgpaaaDoor
