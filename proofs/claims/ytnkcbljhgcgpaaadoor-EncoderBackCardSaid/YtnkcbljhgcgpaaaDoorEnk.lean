/- Layer 24: what a block leaves. -/
import Derived.Test.YtnkcbljhgcgpaaaDoorEnc
import Derived.Test.YtnkcbljhgcgpaaaDoorDed
namespace Go.Proofs.YtnkcbljhgcgpaaaDoor
set_option linter.unusedVariables false
set_option linter.unusedSimpArgs false
open Go.RowKit Go.Deep Go.ChangeShapes Go.WideShapes

/-- What a block leaves, on either side. -/
def EcR (mx : Nat) (tb : List Fd) (z : Nat → Int) (n1 : Nat) (G : Nat → Fd) (n2 : Nat) (O : Nat → Op4) (n3 : Nat) (σ : Es) (ok : Bool) : Prop :=
  (ok = true ∧ szok z n1 ∧ EnR G (optAt O n3) (ezN z n1 ⟨mx, tb, []⟩) n2 σ) ∨ (ok = false ∧ ¬ szok z n1 ∧ σ = ⟨mx, tb, []⟩)
section
variable {mx : Nat} {tb : List Fd} {z : Nat → Int} {n1 : Nat} {G : Nat → Fd} {n2 : Nat} {O : Nat → Op4} {n3 : Nat} {σ σ' : Es} {ok ok' : Bool}
theorem EcR.same (h : EcR mx tb z n1 G n2 O n3 σ ok) (h' : EcR mx tb z n1 G n2 O n3 σ' ok') : σ = σ' ∧ ok = ok' := by
  rcases h with ⟨rfl, h1, h2⟩ | ⟨rfl, h1, rfl⟩ <;> rcases h' with ⟨rfl, h3, h4⟩ | ⟨rfl, h3, rfl⟩
  · exact ⟨h2.same h4, rfl⟩
  · exact absurd h1 h3
  · exact absurd h3 h1
  · exact ⟨rfl, rfl⟩
theorem EcR.es (h : EcR mx tb z n1 G n2 O n3 σ ok) {T : Nat} (hs : EsOk T ⟨mx, tb, []⟩) (hT : T + n2 ≤ 900000) (hG : ∀ j, j < n2 → Sm4 (G j)) : EsOk (T + n2) ⟨σ.mx, σ.tb, []⟩ := by
  rcases h with ⟨rfl, h1, h2⟩ | ⟨rfl, h1, rfl⟩
  · have := en_ok h2 (ez_ok hs n1 h1) hT hG
    exact ⟨this.tb, this.nv, this.len, this.mx, fun r hr => absurd hr (by simp)⟩
  · exact ⟨hs.tb, hs.nv, Nat.le_trans hs.len (Nat.le_add_right _ _), hs.mx, hs.rs⟩
end
theorem encodeQ {B : Nat} {w : World} {p : Nat} {g : Option Nat} {mx : Nat} {tb : List Fd} {T : Nat} (hd : TL B w p g mx tb) (hB : B ≤ w.heap.size) (hok : EsOk T ⟨mx, tb, []⟩) (hT : T ≤ 700000)
    (A1 : Option Addr) (n1 c1 : Nat) (z : Nat → Int) (h1 : RdV 1 w A1 n1 c1 (izV z)) (hn1 : n1 ≤ 1000) (t1 : ∀ a, A1 = some a → 0 < n1 → ¬ tfp p g a.block)
    (A2 : Option Addr) (n2 c2 : Nat) (G : Nat → Fd) (h2 : RdV 3 w A2 n2 c2 (fdV G)) (hn2 : n2 ≤ 1000) (t2 : ∀ a, A2 = some a → 0 < n2 → ¬ tfp p g a.block) (hG : ∀ j, j < n2 → Sm4 (G j))
    (A3 : Option Addr) (n3 c3 : Nat) (O : Nat → Op4) (h3 : RdV 4 w A3 n3 c3 (opV O)) (hn3 : n3 ≤ 1000) (t3 : ∀ a, A3 = some a → 0 < n3 → ¬ tfp p g a.block)
    (Ty : TypeId) (fr : Nat × Nat) (hg : w.heap[0]? = some (.cells formsV Ty fr)) (hgt : ¬ tfp p g 0) :
    Calls Tryd.prog 24 #[.pointer (some ⟨p, 0, none⟩), .slice A1 n1 c1, .slice A2 n2 c2, .slice A3 n3 c3] w fun e w' => ∃ σ Av cv g1 ok cd, e = .returned (.tuple #[.slice Av (bN σ.rs) cv, .int .i64 cd]) ∧ (ok = true → cd = 0) ∧ (ok = false → cd = 1) ∧ EcR mx tb z n1 G n2 O n3 σ ok ∧ EcS B w p g w' (.slice Av (bN σ.rs) cv) g1 σ := by
  refine (encode24 hd hB hok hT A1 n1 c1 z h1 hn1 t1 A2 n2 c2 G h2 hn2 t2 hG A3 n3 c3 O h3 hn3 t3 Ty fr hg hgt).mono ?_
  rintro e w' (⟨hno, rfl, rfl⟩ | ⟨hz, σ, v, g1, rfl, hen, hs⟩)
  · exact ⟨⟨mx, tb, []⟩, none, 0, g, false, 1, rfl, fun h => (by cases h), fun _ => rfl, .inr ⟨rfl, hno, rfl⟩, hd, OwnV.nil _ _ _ _ _, FrO.of (Below.refl _ _) hB, .inl rfl, fun i hi => by cases hi⟩
  · obtain ⟨Av, cv, rfl, _, _⟩ := hs.ov.rd
    exact ⟨σ, Av, cv, g1, true, 0, rfl, fun _ => rfl, fun h => (by cases h), .inl ⟨rfl, hz, hen⟩, hs⟩
theorem cell_frO {B : Nat} {S : Nat → Prop} {w w' : World} (hf : FrO B S w w') {b o : Nat} {v : Value} (h : w.cell? ⟨b, o, none⟩ = some v) (hS : ¬ S b) : w'.cell? ⟨b, o, none⟩ = some v := by
  have hk := hf.keep b (World.block_lt_of_cell? w _ h) hS
  rw [← h]
  unfold World.cell?
  simp only
  rw [hk]
end Go.Proofs.YtnkcbljhgcgpaaaDoor
