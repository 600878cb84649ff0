/- Layer 24: what lies behind the document's Encode. -/
import Derived.Test.YtnkcbljhgcgpaaaDoorEn7
import Derived.RegionTactic
import Derived.Deep.RegionLaw
namespace Go.Proofs.YtnkcbljhgcgpaaaDoor
set_option linter.unusedVariables false
set_option linter.unusedSimpArgs false
open Go.RowKit Go.Deep Go.ChangeShapes Go.WideShapes

structure RcK (w : World) (A0 : Option Addr) (n0 c0 mx0 : Nat) (W : World) (v : Value) (An : Option Addr) (cn : Nat) (σ : Es) : Prop where
  ov : OwnV 1 5 (w.heap.size + 3) W v (bN σ.rs) (byV (bF σ.rs))
  now : W.heap[w.heap.size + 1 + 1]? = some (.cells #[.slice An σ.tb.length cn, .int .i64 (σ.mx : Int)] 37 (0, 0))
  rd : RdV 3 W An σ.tb.length cn (fdV (fn σ.tb))
  al : ∀ a, An = some a → a.block < W.heap.size ∧ ((∃ a0, A0 = some a0 ∧ a0.block = a.block ∧ a0.block < w.heap.size) ∨ w.heap.size + 3 ≤ a.block) ∧ v.ownBlock ≠ some a.block
  q2 : W.heap[w.heap.size]? = some (.cells #[.slice A0 n0 c0, .int .i64 (mx0 : Int)] 37 (0, 0))
  q6 : W.heap[w.heap.size + 1]? = some (.cells #[.slice none 0 0, .int .i64 0] 37 (0, 0))
  e : Below w.heap.size w W
section
variable {w W W' : World} {A0 : Option Addr} {n0 c0 mx0 : Nat} {v v' : Value} {An : Option Addr} {cn : Nat} {σ : Es}
theorem RcK.below (h : RcK w A0 n0 c0 mx0 W v An cn σ) (hb : Below W.heap.size W W') : RcK w A0 n0 c0 mx0 W' v An cn σ :=
  ⟨h.ov.below hb, keepRow h.now hb, h.rd.below36O hb, fun a ha => ⟨Nat.lt_of_lt_of_le (h.al a ha).1 hb.size, (h.al a ha).2⟩, keepRow h.q2 hb, keepRow h.q6 hb, h.e.of hb⟩
theorem RcK.drew (h : RcK w A0 n0 c0 mx0 W v An cn σ) : RcK w A0 n0 c0 mx0 W.drew v An cn σ := ⟨h.ov.drew, h.now, h.rd, h.al, h.q2, h.q6, h.e.drew⟩
theorem RcK.sz (h : RcK w A0 n0 c0 mx0 W v An cn σ) : w.heap.size + 3 ≤ W.heap.size := by have := rowLt h.now; omega
/-- Another table. -/
theorem RcK.setT (h : RcK w A0 n0 c0 mx0 W v An cn σ) (hb : Below W.heap.size W W') {A' : Option Addr} {c' mx' : Nat} {tb' : List Fd} (hr : RdV 3 W' A' tb'.length c' (fdV (fn tb')))
    (ha : ∀ a, A' = some a → a.block < W'.heap.size ∧ ((∃ a0, An = some a0 ∧ a0.block = a.block) ∨ W.heap.size ≤ a.block)) :
    RcK w A0 n0 c0 mx0 ((W'.setCell ⟨w.heap.size + 1 + 1, 0, none⟩ (.slice A' tb'.length c')).setCell ⟨w.heap.size + 1 + 1, 1, none⟩ (.int .i64 (mx' : Int))) v A' c' ⟨mx', tb', σ.rs⟩ := by
  have hk : ∀ i, i ≠ w.heap.size + 1 + 1 → ((W'.setCell ⟨w.heap.size + 1 + 1, 0, none⟩ (.slice A' tb'.length c')).setCell ⟨w.heap.size + 1 + 1, 1, none⟩ (.int .i64 (mx' : Int))).heap[i]? = W'.heap[i]? := fun i hi => heap2d hi _ _
  have k := h.below hb
  have hlt := rowLt h.now
  have hal : ∀ a, A' = some a → a.block < W'.heap.size ∧ ((∃ a0, A0 = some a0 ∧ a0.block = a.block ∧ a0.block < w.heap.size) ∨ w.heap.size + 3 ≤ a.block) ∧ v.ownBlock ≠ some a.block := fun a hA => by
    obtain ⟨h0, h1⟩ := ha a hA
    rcases h1 with ⟨a0, h1, h2⟩ | h1
    · have h3 := k.al a0 h1
      rw [h2] at h3
      exact h3
    · refine ⟨h0, .inr (by omega), fun e => ?_⟩
      have := (World.ownsRow.lt h.ov _ e).2
      omega
  have hne : ∀ a, A' = some a → a.block ≠ w.heap.size + 1 + 1 := fun a hA => by
    rcases (hal a hA).2.1 with ⟨a0, _, e, l⟩ | l <;> omega
  refine ⟨ownV_at21 k.ov fun i hi => hk i ?_, set2t k.now _ _, (hr.set21 hne 0 _).set21 hne 1 _, fun a hA => ?_, (hk _ (by omega)).trans k.q2, (hk _ (by omega)).trans k.q6, ?_⟩
  · have := (World.ownsRow.lt h.ov i hi).1; omega
  · rw [heapsz2]
    exact hal a hA
  · exact (k.e.setCell (p := ⟨w.heap.size + 1 + 1, 0, none⟩) (by show _ ≤ w.heap.size + 1 + 1; omega) _).setCell (p := ⟨w.heap.size + 1 + 1, 1, none⟩) (by show _ ≤ w.heap.size + 1 + 1; omega) _
/-- One is put behind. -/
theorem RcK.put (h : RcK w A0 n0 c0 mx0 W v An cn σ) (hg : W.grownBy W' v.ownBlock) (r : Rpv) (ho : OwnV 1 5 (w.heap.size + 3) W' v' (bN σ.rs + r.N) (byV (catF (bN σ.rs) (bF σ.rs) r.F))) (hob : v'.ownBlock = v.ownBlock ∨ v'.ownBlock = some W.heap.size) :
    RcK w A0 n0 c0 mx0 W' v' An cn ⟨σ.mx, σ.tb, σ.rs ++ [r]⟩ := by
  have hkp : ∀ i, i < W.heap.size → v.ownBlock ≠ some i → W'.heap[i]? = W.heap[i]? := fun i hi hn => hg.block i hi (fun e => hn e.symm)
  have hlow : ∀ i, i < w.heap.size + 3 → i < W.heap.size → W'.heap[i]? = W.heap[i]? := fun i hi hj => hkp i hj fun e => by have := (World.ownsRow.lt h.ov i e).1; omega
  refine ⟨?_, (hlow _ (by omega) (rowLt h.now)).trans h.now, h.rd.at21 fun a ha => hkp _ (h.al a ha).1 (h.al a ha).2.2, fun a ha => ⟨Nat.lt_of_lt_of_le (h.al a ha).1 hg.size, (h.al a ha).2.1, fun e => ?_⟩, (hlow _ (by omega) (rowLt h.q2)).trans h.q2, (hlow _ (by omega) (rowLt h.q6)).trans h.q6, ?_⟩
  · show OwnV 1 _ _ _ _ (bN (σ.rs ++ [r])) (byV (bF (σ.rs ++ [r])))
    rw [bN_app]
    exact ho.congr fun i hi => by unfold byV; rw [bF_app r σ.rs i (by omega)]
  · rcases hob with k | k
    · exact (h.al a ha).2.2 (k ▸ e)
    · have h1 := (h.al a ha).1
      have : W.heap.size = a.block := Option.some.inj (k.symm.trans e)
      omega
  · refine h.e.grown hg h.e.size fun j hj => ?_
    have := (World.ownsRow.lt h.ov j hj).1; omega
end
/-- What the document's Encode comes to. -/
def RcP (mx : Nat) (tb : List Fd) (A0 : Option Addr) (c0 : Nat) (z : Nat → Int) (n1 : Nat) (G : Nat → Fd) (n2 : Nat) (O : Nat → Op4) (n3 : Nat) (w : World) (e : Ending) (w' : World) : Prop :=
  (¬ szok z n1 ∧ e = .returned (.tuple #[.slice none 0 0, .agg #[.slice A0 tb.length c0, .int .i64 (mx : Int)], .bool false]) ∧ Below w.heap.size w w') ∨
  (szok z n1 ∧ ∃ (σ : Es) (Av : Option Addr) (cv : Nat) (An : Option Addr) (cn : Nat), e = .returned (.tuple #[.slice Av (bN σ.rs) cv, .agg #[.slice An σ.tb.length cn, .int .i64 (σ.mx : Int)], .bool true]) ∧ EnR G (optAt O n3) (ezN z n1 ⟨mx, tb, []⟩) n2 σ ∧
    RdV 1 w' Av (bN σ.rs) cv (byV (bF σ.rs)) ∧ RdV 3 w' An σ.tb.length cn (fdV (fn σ.tb)) ∧ (∀ a, An = some a → a.block < w'.heap.size ∧ ((∃ a0, A0 = some a0 ∧ a0.block = a.block) ∨ w.heap.size ≤ a.block)) ∧ Below w.heap.size w w')
theorem results_tct {fn : Func} {a p d : Tmp} {ty : TypeId} (h : fn.results = #[.tmp a, .cell p ty, .tmp d]) (tmps : Array Value) (P : Program) (w : World) :
    (results fn tmps).run P w = ((asAddr (tmps.getD p undef)).run P w).andThen fun x w₁ => ((loadVar ty x).run P w₁).andThen fun y w₂ => .ok (.tuple #[tmps.getD a undef, y, tmps.getD d undef]) w₂ := by
  simp [results, h]
end Go.Proofs.YtnkcbljhgcgpaaaDoor
