/- Layer 15: the writer: bytes, a number, a priority; append of a row of noughts. -/
import Derived.Test.YtpnjamomkpkkeaaEm1
import Derived.Test.YtpnjamomkpkkeaaM3
import Derived.Lib.AppendStr
import Derived.Lib.AppendZeros
namespace Go.Proofs.Ytpnjamomkpkkeaa
set_option linter.unusedVariables false
set_option linter.unusedSimpArgs false
open Go.RowKit

/-- A writer at p: its bytes are a list; has it failed? -/
def WrB (w : World) (p : Nat) (fl : Bool) (l : List Int) : Prop :=
  ∃ A c, w.heap[p]? = some (.cells #[.slice A l.length c, .bool fl] 218 (0, 0)) ∧ Own .u8 5 (p + 1) w (.slice A l.length c) l.length (lF l)
theorem WrB.below {w w' : World} {p : Nat} {fl : Bool} {l : List Int} (h : WrB w p fl l) (hb : Below w.heap.size w w') : WrB w' p fl l := by
  obtain ⟨A, c, hr, ho⟩ := h
  exact ⟨A, c, keepRow hr hb, ho.below hb⟩
theorem WrB.lt {w : World} {p : Nat} {fl : Bool} {l : List Int} (h : WrB w p fl l) : p < w.heap.size := by
  obtain ⟨A, c, hr, ho⟩ := h
  exact rowLt hr
/-- What is no row of bytes, and not the writer, stays. -/
def FrW (p : Nat) (w w' : World) : Prop := ∀ (i : Nat) (cs : Array Value) (T : TypeId), i ≠ p → T ≠ 5 → w.heap[i]? = some (.cells cs T (0, 0)) → w'.heap[i]? = some (.cells cs T (0, 0))
theorem FrW.trans {p : Nat} {w w1 w2 : World} (h : FrW p w w1) (k : FrW p w1 w2) : FrW p w w2 := fun i cs T a b c => k i cs T a b (h i cs T a b c)
theorem FrW.of {p : Nat} {w w1 : World} (h : Below w.heap.size w w1) : FrW p w w1 := fun i cs T _ _ c => keepRow c h
theorem FrW.set {p : Nat} (w : World) (j : Nat) (u : Value) : FrW p w (w.setCell ⟨p, j, none⟩ u) := fun i cs T a _ c => by
  obtain ⟨_, _, _, _, hk⟩ := grown_set w p j u
  rw [hk i (rowLt c) (fun e => a (Option.some.inj e))]
  exact c
theorem FrW.app {p B n : Nat} {w w1 : World} {v : Value} {f : Nat → Int} (ho : Own .u8 5 B w v n f) (hg : w.grownBy w1 v.ownBlock) : FrW p w w1 := fun i cs T _ b c => by
  obtain ⟨_, _, _, _, hk⟩ := hg
  rw [hk i (rowLt c) (fun e => ?_)]
  · exact c
  · rcases ho.2 with ⟨rfl, _⟩ | ⟨g, cap, cur, rfl, _, hgr, _⟩
    · cases e
    · obtain rfl : i = g := by
        first
          | exact Option.some.inj e
          | exact (Option.some.inj e).symm
      rw [hgr] at c
      cases c
      exact b rfl
theorem u8_apart5 {w : World} {A : Option Addr} {n c : Nat} {f : Nat → Int} (h : Rd .u8 w A n c f) {p : Nat} {T : TypeId} {B : Option Addr} {m d : Nat} {x : Bool} (hr : w.heap[p]? = some (.cells #[.slice B m d, .bool x] T (0, 0))) : 0 < n → ∀ a, A = some a → a.block ≠ p := fun hn a ha e => by
  obtain ⟨b, off, hA, hc⟩ := h.2.2.2 hn
  obtain rfl := Option.some.inj (ha.symm.trans hA)
  have h0 := hc 0 hn
  simp only at e
  subst e
  unfold World.cell? at h0
  simp only [hr] at h0
  match off, h0 with
  | 0, h0 => simp at h0
  | 1, h0 => simp at h0
  | off + 2, h0 => simp at h0
theorem rd_set5 {w : World} {A : Option Addr} {n c : Nat} {f : Nat → Int} (h : Rd .u8 w A n c f) {p : Nat} (hq : 0 < n → ∀ a, A = some a → a.block ≠ p) (j : Nat) (u : Value) : Rd .u8 (w.setCell ⟨p, j, none⟩ u) A n c f :=
  ⟨h.1, h.2.1, h.2.2.1, fun hn => by
    obtain ⟨b, off, hA, hc⟩ := h.2.2.2 hn
    have hne := hq hn _ hA
    refine ⟨b, off, hA, fun i hi => ?_⟩
    rw [← hc i hi]
    exact World.cell?_setCell_far w _ _ _ (by intro e; exact hne (by simpa using e.symm))⟩
theorem lF_cat {l m : List Int} : ∀ i, i < l.length + m.length → catF l.length (lF l) (lF m) i = lF (l ++ m) i := fun i hi => (lF_app hi).symm
theorem Gave0.lst {v : Int} {s : Nat} {f : Nat → Int} {w w' : World} {A : Option Addr} {c : Nat} (h : Own .u8 5 w.heap.size w' (.slice A s c) s (putF 0 f s v)) : Rd .u8 w' A s c (lF (numL v s)) :=
  (Own.congr h fun i hi => by
    unfold putF catF numL
    rw [if_neg (by omega), Nat.sub_zero, lF_map hi]).rdS
end Go.Proofs.Ytpnjamomkpkkeaa
