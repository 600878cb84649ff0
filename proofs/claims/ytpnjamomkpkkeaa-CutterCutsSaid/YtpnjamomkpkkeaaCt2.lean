/- Layer 12: rows of raw frames of one's own; what turns when the cutter's blocks alone are written. -/
import Derived.Test.YtpnjamomkpkkeaaCt1
import Derived.Test.YtpnjamomkpkkeaaM3
import Derived.Test.YtpnjamomkpkkeaaRw1
import Derived.Deep.Cut
import Derived.Laws.ResultCell
import Derived.Deep.RegionLaw
import Derived.ScopeJumps
namespace Go.Proofs.Ytpnjamomkpkkeaa
set_option linter.unusedVariables false
set_option linter.unusedSimpArgs false
open Go.RowKit

structure FrQ (S : Nat → Prop) (w w' : World) : Prop where
  os : w'.os = w.os
  tape : w'.tape = w.tape
  output : w'.output = w.output
  size : w.heap.size ≤ w'.heap.size
  keep : ∀ i, i < w.heap.size → ¬ S i → w'.heap[i]? = w.heap[i]?
theorem FrQ.refl (S : Nat → Prop) (w : World) : FrQ S w w := ⟨rfl, rfl, rfl, Nat.le_refl _, fun _ _ _ => rfl⟩
theorem FrQ.trans {S S1 S2 : Nat → Prop} {a b c : World} (h : FrQ S1 a b) (k : FrQ S2 b c) (h1 : ∀ i, i < a.heap.size → S1 i → S i) (h2 : ∀ i, i < a.heap.size → S2 i → S i) : FrQ S a c :=
  ⟨k.os.trans h.os, k.tape.trans h.tape, k.output.trans h.output, Nat.le_trans h.size k.size, fun i hi hn =>
    (k.keep i (Nat.lt_of_lt_of_le hi h.size) fun e => hn (h2 i hi e)).trans (h.keep i hi fun e => hn (h1 i hi e))⟩
theorem FrQ.tr {S : Nat → Prop} {a b c : World} (h : FrQ S a b) (k : FrQ S b c) : FrQ S a c := h.trans k (fun _ _ e => e) fun _ _ e => e
theorem FrQ.ofBelow (S : Nat → Prop) {w w' : World} (h : Below w.heap.size w w') : FrQ S w w' := ⟨h.os, h.tape, h.output, h.size, fun i hi _ => h.block i hi⟩
theorem FrQ.grown {S : Nat → Prop} {w w' : World} {r : Option Nat} (h : w.grownBy w' r) (hS : ∀ g, r = some g → S g) : FrQ S w w' :=
  ⟨h.os, h.tape, h.output, h.size, fun i hi hn => h.block i hi fun e => hn (hS i e.symm)⟩
theorem FrQ.set {S : Nat → Prop} {w : World} {p : Nat} (hp : S p) (j : Nat) (u : Value) : FrQ S w (w.setCell ⟨p, j, none⟩ u) :=
  FrQ.grown (grown_set w p j u) fun g e => by cases e; exact hp
theorem FrQ.wide {S T : Nat → Prop} {w w' : World} (h : FrQ S w w') (hs : ∀ i, i < w.heap.size → S i → T i) : FrQ T w w' :=
  ⟨h.os, h.tape, h.output, h.size, fun i hi hn => h.keep i hi fun e => hn (hs i hi e)⟩
theorem FrQ.row {S : Nat → Prop} {w w' : World} (h : FrQ S w w') {p : Nat} {o : Obj} (hp : w.heap[p]? = some o) (hn : ¬ S p) : w'.heap[p]? = some o := (h.keep p (rowLt hp) hn).trans hp
theorem FrQ.bel {S : Nat → Prop} {w w' : World} (h : FrQ S w w') {B : Nat} (hB : B ≤ w.heap.size) (hs : ∀ i, i < w.heap.size → S i → B ≤ i) : Below B w w' :=
  ⟨h.os, h.tape, h.output, h.size, fun i hi => h.keep i (by omega) fun e => by have := hs i (by omega) e; omega⟩
theorem Rd.frQ {k : IntKind} {S : Nat → Prop} {w w' : World} {A : Option Addr} {n c : Nat} {f : Nat → Int} (h : Rd k w A n c f) (hf : FrQ S w w') (hS : 0 < n → ∀ a, A = some a → ¬ S a.block) : Rd k w' A n c f :=
  ⟨h.1, h.2.1, h.2.2.1, fun hn => by
    obtain ⟨b, off, hA, hc⟩ := h.2.2.2 hn
    refine ⟨b, off, hA, fun i hi => ?_⟩
    have h1 := hc i hi
    have hb := hf.keep b (World.block_lt_of_cell? w _ h1) (hS hn _ hA)
    rw [World.cell?_of_block (a := ⟨b, off + i, none⟩) hb]
    exact h1⟩
theorem own_atQ {k : IntKind} {e : TypeId} {B : Nat} {w w' : World} {v : Value} {n : Nat} {f : Nat → Int} (h : Own k e B w v n f) (hb : ∀ i, v.ownBlock = some i → w'.heap[i]? = w.heap[i]?) : Own k e B w' v n f := by
  refine ⟨h.1, ?_⟩
  rcases h.2 with h2 | ⟨g, cap, cur, hv, hg, hh, r⟩
  · exact .inl h2
  · exact .inr ⟨g, cap, cur, hv, hg, (hb g (by rw [hv]; rfl)).trans hh, r⟩
theorem Own.frQ {k : IntKind} {e : TypeId} {B : Nat} {S : Nat → Prop} {w w' : World} {v : Value} {n : Nat} {f : Nat → Int} (h : Own k e B w v n f) (hf : FrQ S w w') (hS : ∀ i, v.ownBlock = some i → ¬ S i) : Own k e B w' v n f :=
  own_atQ h fun i hi => hf.keep i (World.ownsRow.lt h i hi).2 (hS i hi)
theorem ownV_atQ {s : Nat} {e : TypeId} {B : Nat} {w w' : World} {v : Value} {n : Nat} {f : Nat → Value} (h : OwnV s e B w v n f) (hb : ∀ i, v.ownBlock = some i → w'.heap[i]? = w.heap[i]?) : OwnV s e B w' v n f := by
  refine ⟨h.1, ?_⟩
  rcases h.2 with h2 | ⟨g, cap, cur, hv, hg, hh, r⟩
  · exact .inl h2
  · exact .inr ⟨g, cap, cur, hv, hg, (hb g (by rw [hv]; rfl)).trans hh, r⟩
theorem OwnV.frQ {s : Nat} {e : TypeId} {B : Nat} {S : Nat → Prop} {w w' : World} {v : Value} {n : Nat} {f : Nat → Value} (h : OwnV s e B w v n f) (hf : FrQ S w w') (hS : ∀ i, v.ownBlock = some i → ¬ S i) : OwnV s e B w' v n f :=
  ownV_atQ h fun i hi => hf.keep i (World.ownsRow.lt h i hi).2 (hS i hi)
theorem row14 {w : World} {b : Nat} {T : TypeId} {v0 v1 v2 v3 v4 v5 v6 v7 v8 v9 v10 v11 v12 v13 : Value} (h : w.heap[b]? = some (.cells #[v0, v1, v2, v3, v4, v5, v6, v7, v8, v9, v10, v11, v12, v13] T (0, 0))) : w.cell? ⟨b, 0, none⟩ = some v0 ∧ w.cell? ⟨b, 1, none⟩ = some v1 ∧ w.cell? ⟨b, 2, none⟩ = some v2 ∧ w.cell? ⟨b, 3, none⟩ = some v3 ∧ w.cell? ⟨b, 4, none⟩ = some v4 ∧ w.cell? ⟨b, 5, none⟩ = some v5 ∧ w.cell? ⟨b, 6, none⟩ = some v6 ∧ w.cell? ⟨b, 7, none⟩ = some v7 ∧ w.cell? ⟨b, 8, none⟩ = some v8 ∧ w.cell? ⟨b, 9, none⟩ = some v9 ∧ w.cell? ⟨b, 10, none⟩ = some v10 ∧ w.cell? ⟨b, 11, none⟩ = some v11 ∧ w.cell? ⟨b, 12, none⟩ = some v12 ∧ w.cell? ⟨b, 13, none⟩ = some v13 := by
  refine ⟨?_, ?_, ?_, ?_, ?_, ?_, ?_, ?_, ?_, ?_, ?_, ?_, ?_, ?_⟩ <;> simp [World.cell?, h]
theorem frozen14 {w : World} {b : Nat} {T : TypeId} {cs : Array Value} (h : w.heap[b]? = some (.cells cs T (0, 0))) : ∀ j, w.frozen? ⟨b, j, none⟩ = false := fun j => frozenRow h j
/-- Bytes lie in no block without bytes. -/
theorem u8_no {w : World} {A : Option Addr} {n c : Nat} {f : Nat → Int} (h : Rd .u8 w A n c f) {p : Nat} {T : TypeId} {cs : Array Value} (hr : w.heap[p]? = some (.cells cs T (0, 0))) (hc : ∀ (j : Nat) (y : Int), cs[j]? ≠ some (Value.int .u8 y)) : 0 < n → ∀ a, A = some a → a.block ≠ p := fun hn a ha e => by
  obtain ⟨b, off, hA, hcc⟩ := h.2.2.2 hn
  obtain rfl := Option.some.inj (ha.symm.trans hA)
  have h0 := hcc 0 hn
  simp only at e
  subst e
  rw [cell_of_row w b _ _ _ _ hr] at h0
  exact hc _ _ h0
/-- The cells of raw frames. -/
def rwV (F : Nat → Rw) : Nat → Value := fun i => if i % 6 = 0 then .int .i64 (F (i / 6)).fm else if i % 6 = 1 then .int .i64 (F (i / 6)).T else if i % 6 = 2 then .int .i64 (F (i / 6)).fl else if i % 6 = 3 then .int .i64 (F (i / 6)).st else if i % 6 = 4 then .bool (F (i / 6)).rs else .slice (F (i / 6)).A (F (i / 6)).n (F (i / 6)).c
theorem rwV_at (F : Nat → Rw) (i : Nat) : rwV F (i * 6) = .int .i64 (F i).fm ∧ rwV F (i * 6 + 1) = .int .i64 (F i).T ∧ rwV F (i * 6 + 2) = .int .i64 (F i).fl ∧ rwV F (i * 6 + 3) = .int .i64 (F i).st ∧ rwV F (i * 6 + 4) = .bool (F i).rs ∧ rwV F (i * 6 + 5) = .slice (F i).A (F i).n (F i).c := by
  have m1 : (i * 6 + 1) % 6 = 1 := by omega
  have m2 : (i * 6 + 2) % 6 = 2 := by omega
  have m3 : (i * 6 + 3) % 6 = 3 := by omega
  have m4 : (i * 6 + 4) % 6 = 4 := by omega
  have m5 : (i * 6 + 5) % 6 = 5 := by omega
  have d0 : i * 6 / 6 = i := by omega
  have d1 : (i * 6 + 1) / 6 = i := by omega
  have d2 : (i * 6 + 2) / 6 = i := by omega
  have d3 : (i * 6 + 3) / 6 = i := by omega
  have d4 : (i * 6 + 4) / 6 = i := by omega
  have d5 : (i * 6 + 5) / 6 = i := by omega
  refine ⟨?_, ?_, ?_, ?_, ?_, ?_⟩ <;> simp [rwV, m1, m2, m3, m4, m5, d0, d1, d2, d3, d4, d5]
theorem rwV_one (F : Nat → Rw) (n : Nat) : ∀ i, i < n → (rwV F i).oneCell' = true := by
  intro i _
  unfold rwV
  repeat' split
  all_goals rfl
def catRw (n : Nat) (F G : Nat → Rw) : Nat → Rw := fun i => if i < n then F i else G (i - n)
theorem rwV_cat (n : Nat) (F G : Nat → Rw) : catV (n * 6) (rwV F) (rwV G) = rwV (catRw n F G) := by
  funext i
  unfold catV rwV catRw
  have e2 : (i - n * 6) / 6 = i / 6 - n := by omega
  by_cases h : i < n * 6
  · have h2 : i / 6 < n := by omega
    simp [h, h2]
  · have h2 : ¬ i / 6 < n := by omega
    have e1' : (i - n * 6) % 6 = i % 6 := by omega
    simp [h, h2, e1', e2]
theorem rwC_of {w : World} {b off : Nat} {F : Nat → Rw} {n i : Nat} (hc : ∀ j, j < n * 6 → w.cell? ⟨b, off + j, none⟩ = some (rwV F j)) (hi : i < n) : RwC w b (off + i * 6) (F i) := by
  obtain ⟨r0, r1, r2, r3, r4, r5⟩ := rwV_at F i
  refine ⟨?_, ?_, ?_, ?_, ?_, ?_⟩
  · rw [← r0]; exact hc (i * 6) (by omega)
  · rw [← r1, Nat.add_assoc]; exact hc (i * 6 + 1) (by omega)
  · rw [← r2, Nat.add_assoc]; exact hc (i * 6 + 2) (by omega)
  · rw [← r3, Nat.add_assoc]; exact hc (i * 6 + 3) (by omega)
  · rw [← r4, Nat.add_assoc]; exact hc (i * 6 + 4) (by omega)
  · rw [← r5, Nat.add_assoc]; exact hc (i * 6 + 5) (by omega)
/-- A frame of the heap is the one that numbers tell. -/
def RwIs (w : World) (X : Rw) (x : Rl) : Prop := X.fm = x.fm ∧ X.T = x.T ∧ X.fl = x.fl ∧ X.st = x.st ∧ X.rs = x.rs ∧ X.n = x.b.length ∧ Rd .u8 w X.A X.n X.c (lyF x.b)
/-- A slice of frames: its cells, and each body apart from the blocks S. -/
def RwsL (S : Nat → Prop) (w : World) (A : Option Addr) (n c : Nat) (fs : List Rl) : Prop :=
  ∃ F : Nat → Rw, RdV 6 w A n c (rwV F) ∧ n = fs.length ∧ ∀ i x, fs[i]? = some x → RwIs w (F i) x ∧ (0 < (F i).n → ∀ a, (F i).A = some a → ¬ S a.block)
theorem RwIs.below {w w' : World} {X : Rw} {x : Rl} (h : RwIs w X x) (hb : Below w.heap.size w w') : RwIs w' X x := ⟨h.1, h.2.1, h.2.2.1, h.2.2.2.1, h.2.2.2.2.1, h.2.2.2.2.2.1, h.2.2.2.2.2.2.below hb⟩
theorem RwIs.frQ {S : Nat → Prop} {w w' : World} {X : Rw} {x : Rl} (h : RwIs w X x) (hf : FrQ S w w') (hS : 0 < X.n → ∀ a, X.A = some a → ¬ S a.block) : RwIs w' X x := ⟨h.1, h.2.1, h.2.2.1, h.2.2.2.1, h.2.2.2.2.1, h.2.2.2.2.2.1, h.2.2.2.2.2.2.frQ hf hS⟩
end Go.Proofs.Ytpnjamomkpkkeaa
