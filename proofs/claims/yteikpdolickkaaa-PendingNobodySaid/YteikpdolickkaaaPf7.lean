/- Layer 32: both sides of a queue, side by side. -/
import Derived.Test.YteikpdolickkaaaPf6
namespace Go.Proofs.Yteikpdolickkaaa
open Go.RowKit Go.Deep Go.ChangeShapes Go.WideShapes

/-- The document's queue in a variable. -/
structure PrS (w0 : World) (B : Nat) (w : World) (pr a l n m : Nat) (A1 : Option Addr) (c1 : Nat) (A3 : Option Addr) (c3 : Nat) (D : Nat → Sg) : Prop where
  row : w.heap[pr]? = some (.cells #[.slice A1 m c1, .int .i64 (a : Int), .slice A3 n c3] 95 (0, 0))
  lists : OwnV 1 70 B w (.slice A1 m c1) m (sgF D)
  now : Own .i64 3 B w (.slice A3 n c3) n (fun i => ((l + i : Nat) : Int))
  elts : ∀ i, i < m → Rd2 w0 (D i).A (D i).n (D i).c (D i).f (D i).g ∧ (D i).n ≤ 1000
  lm : l + n = m + 1
  hp : B ≤ pr
  d1 : (Value.slice A1 m c1).ownBlock ≠ some pr
  d3 : (Value.slice A3 n c3).ownBlock ≠ some pr
def rfp (pr : Nat) (v1 v3 : Value) : Nat → Prop := fun i => i = pr ∨ v1.ownBlock = some i ∨ v3.ownBlock = some i
theorem ownV_at32 {s : Nat} {e : TypeId} {B : Nat} {w w' : World} {v : Value} {n : Nat} {F : Nat → Value} (h : OwnV s e B w v n F) (hb : ∀ i, v.ownBlock = some i → w'.heap[i]? = w.heap[i]?) : OwnV s e B w' v n F := by
  refine ⟨h.1, ?_⟩
  rcases h.2 with h2 | ⟨g, cap, cur, hv, hg, hh, r⟩
  · exact .inl h2
  · exact .inr ⟨g, cap, cur, hv, hg, (hb g (by rw [hv]; rfl)).trans hh, r⟩
theorem own_at32 {k : IntKind} {e : TypeId} {B : Nat} {w w' : World} {v : Value} {n : Nat} {f : Nat → Int} (h : Own k e B w v n f) (hb : ∀ i, v.ownBlock = some i → w'.heap[i]? = w.heap[i]?) : Own k e B w' v n f := by
  refine ⟨h.1, ?_⟩
  rcases h.2 with h2 | ⟨g, cap, cur, hv, hg, hh, r⟩
  · exact .inl h2
  · exact .inr ⟨g, cap, cur, hv, hg, (hb g (by rw [hv]; rfl)).trans hh, r⟩
section
variable {w0 : World} {B : Nat} {w w' : World} {pr a l n m : Nat} {A1 : Option Addr} {c1 : Nat} {A3 : Option Addr} {c3 : Nat} {D : Nat → Sg}
theorem PrS.lt (h : PrS w0 B w pr a l n m A1 c1 A3 c3 D) : ∀ i, rfp pr (.slice A1 m c1) (.slice A3 n c3) i → i < w.heap.size := by
  rintro i (rfl | hi | hi)
  · exact rowLt h.row
  · exact (World.ownsRow.lt h.lists i hi).2
  · exact (World.ownsRow.lt h.now i hi).2
theorem PrS.at_ (h : PrS w0 B w pr a l n m A1 c1 A3 c3 D) (hb : ∀ i, rfp pr (.slice A1 m c1) (.slice A3 n c3) i → w'.heap[i]? = w.heap[i]?) : PrS w0 B w' pr a l n m A1 c1 A3 c3 D :=
  ⟨(hb pr (.inl rfl)).trans h.row, ownV_at32 h.lists fun i hi => hb i (.inr (.inl hi)), own_at32 h.now fun i hi => hb i (.inr (.inr hi)), h.elts, h.lm, h.hp, h.d1, h.d3⟩
theorem PrS.below (h : PrS w0 B w pr a l n m A1 c1 A3 c3 D) (hb : Below w.heap.size w w') : PrS w0 B w' pr a l n m A1 c1 A3 c3 D := h.at_ fun i hi => hb.block i (h.lt i hi)
theorem PrS.fr {S : Nat → Prop} {B' : Nat} (h : PrS w0 B w pr a l n m A1 c1 A3 c3 D) (hf : FrO B' S w w') (hs : ∀ i, rfp pr (.slice A1 m c1) (.slice A3 n c3) i → ¬ S i) : PrS w0 B w' pr a l n m A1 c1 A3 c3 D := h.at_ fun i hi => hf.keep i (h.lt i hi) (hs i hi)
end
theorem set3o {w : World} {p q : Nat} (hne : q ≠ p) (b0 b1 b2 : Value) : (((w.setCell ⟨p, 0, none⟩ b0).setCell ⟨p, 1, none⟩ b1).setCell ⟨p, 2, none⟩ b2).heap[q]? = w.heap[q]? := by
  rw [Below.heap_setCell _ ⟨p, 2, none⟩ _ _ hne, Below.heap_setCell _ ⟨p, 1, none⟩ _ _ hne, Below.heap_setCell _ ⟨p, 0, none⟩ _ _ hne]
/-- A new queue is put into the variable. -/
theorem PrS.store {w0 : World} {B : Nat} {w : World} {pr a l n m : Nat} {A1 : Option Addr} {c1 : Nat} {A3 : Option Addr} {c3 : Nat} {D : Nat → Sg} {x0 x1 x2 : Value} (hr : w.heap[pr]? = some (.cells #[x0, x1, x2] 95 (0, 0)))
    (hl : OwnV 1 70 B w (.slice A1 m c1) m (sgF D)) (hn : Own .i64 3 B w (.slice A3 n c3) n (fun i => ((l + i : Nat) : Int))) (he : ∀ i, i < m → Rd2 w0 (D i).A (D i).n (D i).c (D i).f (D i).g ∧ (D i).n ≤ 1000) (hlm : l + n = m + 1) (hp : B ≤ pr)
    (d1 : (Value.slice A1 m c1).ownBlock ≠ some pr) (d3 : (Value.slice A3 n c3).ownBlock ≠ some pr) :
    PrS w0 B (((w.setCell ⟨pr, 0, none⟩ (.slice A1 m c1)).setCell ⟨pr, 1, none⟩ (.int .i64 (a : Int))).setCell ⟨pr, 2, none⟩ (.slice A3 n c3)) pr a l n m A1 c1 A3 c3 D :=
  ⟨set3 hr _ _ _, ownV_at32 hl fun i hi => set3o (fun e => d1 (by rw [hi, e])) _ _ _, own_at32 hn fun i hi => set3o (fun e => d3 (by rw [hi, e])) _ _ _, he, hlm, hp, d1, d3⟩
/-- Both sides say the same. -/
structure PqS (w0 : World) (B : Nat) (w : World) (pq pr : Nat) (g : Option Nat) (a l n m : Nat) (V : Nat → Nat → Int) (A1 : Option Addr) (c1 : Nat) (A3 : Option Addr) (c3 : Nat) (D : Nat → Sg) : Prop where
  q : QOk B w pq g a l n V
  r : PrS w0 B w pr a l n m A1 c1 A3 c3 D
  al : a ≤ l
  v : ∀ i, i < n → ∀ j, j < 6 → V i j = vq D (l + i) j
  ap : ∀ i, rfp pr (.slice A1 m c1) (.slice A3 n c3) i → ¬ qfp pq g i
theorem PqS.below {w0 : World} {B : Nat} {w w' : World} {pq pr : Nat} {g : Option Nat} {a l n m : Nat} {V : Nat → Nat → Int} {A1 : Option Addr} {c1 : Nat} {A3 : Option Addr} {c3 : Nat} {D : Nat → Sg} (h : PqS w0 B w pq pr g a l n m V A1 c1 A3 c3 D) (hb : Below w.heap.size w w') : PqS w0 B w' pq pr g a l n m V A1 c1 A3 c3 D :=
  ⟨h.q.below hb, h.r.below hb, h.al, h.v, h.ap⟩
theorem QOk.set3 {B : Nat} {w : World} {p : Nat} {g : Option Nat} {a l n : Nat} {V : Nat → Nat → Int} (h : QOk B w p g a l n V) {pr : Nat} (hpr : ¬ qfp p g pr) (b0 b1 b2 : Value) : QOk B (((w.setCell ⟨pr, 0, none⟩ b0).setCell ⟨pr, 1, none⟩ b1).setCell ⟨pr, 2, none⟩ b2) p g a l n V :=
  h.at_ fun i hi => set3o (fun e => hpr (by rw [← e]; exact hi)) _ _ _
theorem vq_app (m : Nat) (D : Nat → Sg) (s : Sg) (k : Nat) (hk : k ≤ m) : vq (appD m D s) k = vq D k := by
  induction k with
  | zero => rfl
  | succ k ih =>
    show apv (appD m D s k).f (appD m D s k).g (appD m D s k).n (vq (appD m D s) k) = _
    rw [ih (by omega), show appD m D s k = D k by unfold appD; rw [if_pos (by omega)]]
    rfl
theorem vq_last (m : Nat) (D : Nat → Sg) (s : Sg) : vq (appD m D s) (m + 1) = apv s.f s.g s.n (vq D m) := by
  show apv (appD m D s m).f (appD m D s m).g (appD m D s m).n (vq (appD m D s) m) = _
  rw [vq_app m D s m (Nat.le_refl _), show appD m D s m = s by unfold appD; rw [if_neg (Nat.lt_irrefl _)]]
theorem alikeS32 {w0 : World} {B : Nat} {w : World} {pq pr : Nat} {g : Option Nat} {a l n m : Nat} {V : Nat → Nat → Int} {A1 : Option Addr} {c1 : Nat} {A3 : Option Addr} {c3 : Nat} {D : Nat → Sg} (h : PqS w0 B w pq pr g a l n m V A1 c1 A3 c3 D) (hB : B ≤ w.heap.size) (hm : m ≤ 100) (hw : Below w0.heap.size w0 w) :
    Calls Try.prog 56 #[.pointer (some ⟨pq, 0, none⟩), .agg #[.slice A1 m c1, .int .i64 (a : Int), .slice A3 n c3]] w fun e w' => e = .returned (.bool true) ∧ Below w.heap.size w w' :=
  alike32 h.q hB h.r.lists.rdS2 (fun i hi => ⟨(h.r.elts i hi).1.below hw, (h.r.elts i hi).2⟩) hm h.r.now.rdS (fun _ _ => rfl) h.r.lm h.v
theorem rkeepW32 {w : World} {A1 : Option Addr} {m c1 : Nat} {a : Int} {A : Option Addr} {n c l : Nat} (ho : Rd .i64 w A n c (fun i => ((l + i : Nat) : Int))) (hn : n = m + 1 - l) (hlm : l ≤ m) (hm : m ≤ 60) {A2 : Option Addr} {ks c2 : Nat} {h : Nat → Int} (hs : Rd .i64 w A2 ks c2 h)
    {n2 : Nat} {bb : Nat → Bool} (hiff : ∀ x : Int, (∃ t, t < ks ∧ h t = x) ↔ ∃ i, i < n2 ∧ bb i = true ∧ x = ((l + i : Nat) : Int)) :
    Calls Try.prog 54 #[.agg #[.slice A1 m c1, .int .i64 a, .slice A n c], .slice A2 ks c2] w fun e w' => ∃ A' n' c' r, e = .returned (.tuple #[.agg #[.slice A1 m c1, .int .i64 a, .slice A' n' c'], .bool r]) ∧ Below w.heap.size w w' ∧
      Hid ((r = false ∧ (∀ i, i < n → ¬ (i < n2 ∧ bb i = true)) ∧ A' = A ∧ n' = n ∧ c' = c) ∨ (r = true ∧ ∃ i, i < n ∧ (i < n2 ∧ bb i = true) ∧ (∀ j, j < i → ¬ (j < n2 ∧ bb j = true)) ∧ n' = m + 1 - (l + i) ∧ Own .i64 3 w.heap.size w' (.slice A' n' c') n' (fun j => ((l + i + j : Nat) : Int)))) := by
  have key : ∀ i, Pk h ks l i ↔ (i < n2 ∧ bb i = true) := fun i => by
    unfold Pk
    rw [hiff]
    exact ⟨fun ⟨j, h1, h2, h3⟩ => by (obtain rfl : i = j := by omega); exact ⟨h1, h2⟩, fun ⟨h1, h2⟩ => ⟨i, h1, h2, rfl⟩⟩
  refine (rkeep32 (l := l) ho (fun _ _ => rfl) hn hlm hm hs).mono ?_
  rintro e w' ⟨hb, ⟨hno, rfl⟩ | ⟨i, hi, hp, hf, vn, rfl, hown⟩⟩
  · exact ⟨_, _, _, _, rfl, hb, .inl ⟨rfl, fun i hi hq => hno i hi ((key i).2 hq), rfl, rfl, rfl⟩⟩
  · obtain ⟨A', c', rfl, _, _⟩ := hown.rd
    exact ⟨_, _, _, _, rfl, hb, .inr ⟨rfl, i, hi, (key i).1 hp, fun j hj hq => hf j hj ((key j).2 hq), rfl, hown⟩⟩
end Go.Proofs.Yteikpdolickkaaa
