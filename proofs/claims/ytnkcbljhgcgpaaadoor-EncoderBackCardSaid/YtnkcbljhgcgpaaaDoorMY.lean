/- OwO, Dy1, Dy2, Dy3, Dy4, Dy5, Dy6, Dy7 in one text. -/
import Derived.Test.YtnkcbljhgcgpaaaDoorMA
import Derived.Test.YtnkcbljhgcgpaaaDoorVal
import Derived.ArgAppend
import Derived.Test.YtnkcbljhgcgpaaaDoorMG
import Derived.StillTailTactics
import Derived.Deep.RegionHeld3
import Derived.Deep.RegionLaw
import Derived.Deep.LoopGhost
import Derived.BigRegion
import Derived.Deep.Slices
namespace Go.Proofs.YtnkcbljhgcgpaaaDoor
set_option linter.unusedVariables false
set_option linter.unusedSimpArgs false
section
open Go.RowKit Go.ChangeShapes Go.WideShapes Go.Deep

/-- A row of the call's own, at an offset in its block. -/
def OwnO (s : Nat) (e : TypeId) (B : Nat) (w : World) (v : Value) (n : Nat) (F : Nat → Value) : Prop :=
  (v = .slice none 0 0 ∧ n = 0) ∨ ∃ (g off cap : Nat) (cur : Array Value), v = .slice (some ⟨g, off, none⟩) n cap ∧ B ≤ g ∧ w.heap[g]? = some (.cells cur e (0, 0)) ∧ n ≤ cap ∧ cap ≤ maxLen ∧ off + cap * s ≤ cur.size ∧ ∀ i, i < n * s → cur[off + i]? = some (F i)
section
variable {s : Nat} {e : TypeId} {B : Nat} {w w' : World} {v : Value} {n : Nat} {F G : Nat → Value}
theorem OwnO.nil (s : Nat) (e : TypeId) (B : Nat) (w : World) (F : Nat → Value) : OwnO s e B w (.slice none 0 0) 0 F := .inl ⟨rfl, rfl⟩
theorem OwnV.toO (h : OwnV s e B w v n F) : OwnO s e B w v n F := by
  have h0 := h
  unfold OwnV at h0
  rcases h0.2 with h2 | ⟨g, cap, cur, rfl, hB, hh, hnc, hcm, hsz, htake⟩
  · exact .inl h2
  · refine .inr ⟨g, 0, cap, cur, rfl, hB, hh, hnc, hcm, by omega, fun i hi => ?_⟩
    have h1 : (rowV (n * s) F)[i]? = some (F i) := rowV_get _ _ _ hi
    rw [← htake, List.getElem?_take, if_pos hi] at h1
    rw [Nat.zero_add]
    simpa using h1
theorem OwnO.at_ (h : OwnO s e B w v n F) (hb : ∀ b, v.ownBlock = some b → w'.heap[b]? = w.heap[b]?) : OwnO s e B w' v n F := by
  rcases h with h | ⟨g, off, cap, cur, rfl, hB, hh, r⟩
  · exact .inl h
  · exact .inr ⟨g, off, cap, cur, rfl, hB, (hb g rfl).trans hh, r⟩
theorem OwnO.lt (h : OwnO s e B w v n F) (b : Nat) (hb : v.ownBlock = some b) : B ≤ b ∧ b < w.heap.size := by
  rcases h with ⟨rfl, _⟩ | ⟨g, off, cap, cur, rfl, hB, hh, r⟩
  · cases hb
  · cases hb
    exact ⟨hB, rowLt hh⟩
theorem OwnO.below (h : OwnO s e B w v n F) (hb : Below w.heap.size w w') : OwnO s e B w' v n F := h.at_ fun b hv => hb.block b (h.lt b hv).2
theorem OwnO.alloc (h : OwnO s e B w v n F) (o : Obj) : OwnO s e B (w.alloc o) v n F := h.below ((Below.refl _ _).alloc (Nat.le_refl _) _)
theorem OwnO.base (h : OwnO s e B w v n F) {B' : Nat} (hB : B' ≤ B) : OwnO s e B' w v n F := by
  rcases h with h | ⟨g, off, cap, cur, rfl, h1, r⟩
  · exact .inl h
  · exact .inr ⟨g, off, cap, cur, rfl, Nat.le_trans hB h1, r⟩
theorem OwnO.congr (h : OwnO s e B w v n F) (hfg : ∀ i, i < n * s → F i = G i) : OwnO s e B w v n G := by
  rcases h with h | ⟨g, off, cap, cur, rfl, h1, h2, h3, h4, h5, h6⟩
  · exact .inl h
  · exact .inr ⟨g, off, cap, cur, rfl, h1, h2, h3, h4, h5, fun i hi => by rw [h6 i hi, hfg i hi]⟩
theorem OwnO.setCell (h : OwnO s e B w v n F) {p : Nat} (hp : v.ownBlock ≠ some p) (j : Nat) (u : Value) : OwnO s e B (w.setCell ⟨p, j, none⟩ u) v n F := h.at_ fun b hv => Below.heap_setCell _ _ _ _ (fun e => hp (by rw [hv, e]))
theorem OwnO.grown (h : OwnO s e B w v n F) {g : Nat} (hg : w.grownBy w' (some g)) (hne : v.ownBlock ≠ some g) : OwnO s e B w' v n F := h.at_ fun b hv => hg.block b (h.lt b hv).2 (fun e => hne (by rw [hv, e]))
theorem OwnO.rd (h : OwnO s e B w v n F) : ∃ A c, v = .slice A n c ∧ RdV s w A n c F ∧ ∀ a, A = some a → B ≤ a.block ∧ a.block < w.heap.size := by
  rcases h with ⟨rfl, rfl⟩ | ⟨g, off, cap, cur, rfl, h1, h2, h3, h4, h5, h6⟩
  · exact ⟨none, 0, rfl, ⟨Nat.le_refl _, by simp [maxLen], fun _ => rfl, fun h => absurd h (by omega)⟩, fun a ha => by cases ha⟩
  · refine ⟨_, _, rfl, ⟨h3, h4, fun e => (by cases e), fun hn => ⟨g, off, rfl, fun i hi => ?_⟩⟩, fun a ha => by cases ha; exact ⟨h1, rowLt h2⟩⟩
    rw [cell_of_row w g (off + i) _ _ _ h2]
    exact h6 i hi
theorem OwnO.rdS {A : Option Addr} {c : Nat} (h : OwnO s e B w (.slice A n c) n F) : RdV s w A n c F := by
  obtain ⟨A', c', e', h4, _⟩ := h.rd
  injection e' with e1 _ e2
  subst e1
  subst e2
  exact h4
/-- v[lo:]. -/
theorem OwnO.cut {g off cap : Nat} (h : OwnO s e B w (.slice (some ⟨g, off, none⟩) n cap) n F) {lo : Nat} (hlo : lo ≤ n) : OwnO s e B w (.slice (if cap = lo then some ⟨g, off, none⟩ else some ⟨g, off + lo * s, none⟩) (n - lo) (cap - lo)) (n - lo) (fun i => F (lo * s + i)) := by
  rcases h with ⟨h, _⟩ | ⟨g', off', cap', cur, e1, h1, h2, h3, h4, h5, h6⟩
  · cases h
  · cases e1
    by_cases hc : cap = lo
    · rw [if_pos hc]
      refine .inr ⟨g, off, cap - lo, cur, rfl, h1, h2, by omega, by omega, ?_, fun i hi => ?_⟩
      · rw [show cap - lo = 0 by omega, Nat.zero_mul]; omega
      · rw [show n - lo = 0 by omega, Nat.zero_mul] at hi; omega
    · rw [if_neg hc]
      refine .inr ⟨g, off + lo * s, cap - lo, cur, rfl, h1, h2, by omega, by omega, ?_, fun i hi => ?_⟩
      · have : lo * s + (cap - lo) * s = cap * s := by rw [← Nat.add_mul]; congr 1; omega
        omega
      · rw [Nat.add_assoc]
        refine h6 (lo * s + i) ?_
        have : lo * s + (n - lo) * s = n * s := by rw [← Nat.add_mul]; congr 1; omega
        omega
/-- A store to one of its cells. -/
theorem OwnO.set {g off cap : Nat} (h : OwnO s e B w (.slice (some ⟨g, off, none⟩) n cap) n F) (j : Nat) (x : Value) : OwnO s e B (w.setCell ⟨g, off + j, none⟩ x) (.slice (some ⟨g, off, none⟩) n cap) n (setV F j x) := by
  rcases h with ⟨h, _⟩ | ⟨g', off', cap', cur, e1, h1, h2, h3, h4, h5, h6⟩
  · cases h
  · cases e1
    refine .inr ⟨g, off, cap, _, rfl, h1, setRow w g (off + j) x h2, h3, h4, by simpa using h5, fun i hi => ?_⟩
    have h7 := h6 i hi
    have h8 : off + i < cur.size := (Array.getElem?_eq_some_iff.1 h7).1
    unfold setV
    rw [Array.getElem?_setIfInBounds]
    by_cases hij : i = j
    · subst hij
      rw [if_pos rfl, if_pos rfl, if_pos h8]
    · rw [if_neg (by omega), if_neg hij]
      exact h7
end
theorem setCells_blk (g : Nat) (e : TypeId) : ∀ (vs : List Value) (o : Nat) (w : World) (cur : Array Value), w.heap[g]? = some (.cells cur e (0, 0)) →
    (∃ cur', (w.setCells g o vs).heap[g]? = some (.cells cur' e (0, 0)) ∧ cur'.size = cur.size) ∧ w.grownBy (w.setCells g o vs) (some g)
  | [], o, w, cur, h => ⟨⟨cur, h, rfl⟩, World.grownBy.refl _ _⟩
  | v :: r, o, w, cur, h => by
    obtain ⟨⟨cur', h1, h2⟩, h3⟩ := setCells_blk g e r (o + 1) (w.setCell ⟨g, o, none⟩ v) _ (setRow w g o v h)
    exact ⟨⟨cur', h1, h2.trans (by simp)⟩, (grown_set w g o v).trans h3⟩
section
variable {P : Program} {e : TypeId} {w : World}
/-- append(v, x...): v a row of the call's own at any offset, x not nil. -/
theorem run_appO (s : Nat) (t ty : TypeId) (i : TypeInfo) (z : Value) (bytes : Nat) (ht : P.underlying t = some (.slice e)) (hi : P.info? e = some i) (hz : i.zero = some z) (hsize : i.size = s) (hby : i.bytes = bytes) (hzs : z.cells.size = s) (hs : 0 < s)
    (B : Nat) (v : Value) (n : Nat) (F : Nat → Value) (hown : OwnO s e B w v n F) (b0 o0 m c : Nat) (G : Nat → Value) (hr : RdV s w (some ⟨b0, o0, none⟩) m c G) (hm : 0 < m) (hG : ∀ i, i < m * s → (G i).oneCell' = true)
    (h63 : n + m ≤ maxLen) (hbytes : (n + m) * bytes ≤ 140737488355328) (hbase : B ≤ w.heap.size) :
    ∃ v' w', (Builtin.append_ #[t, t] ty #[v, .slice (some ⟨b0, o0, none⟩) m c]).run P w = .ok v' w' ∧ OwnO s e B w' v' (n + m) (catV (n * s) F G) ∧ w.grownBy w' v.ownBlock ∧ (v'.ownBlock = v.ownBlock ∨ ∀ b, v'.ownBlock = some b → w.heap.size ≤ b) := by
  rcases hown with ⟨rfl, rfl⟩ | ⟨g, off, cap, cur, rfl, h1, h2, h3, h4, h5, h6⟩
  · obtain ⟨v', w', r1, r2, r3, r4⟩ := run_appV (P := P) (w := w) s t ty i z bytes ht hi hz hsize hby hzs hs B _ 0 F (OwnV.nil s e B w F) _ m c G hr hG h63 hbytes hbase
    exact ⟨v', w', r1, r2.toO, r3, r4.imp id fun h b hb => by rw [h] at hb; cases hb; exact Nat.le_refl _⟩
  · subst hsize
    have hcells : ∀ j u, (rowV (m * i.size) G)[j]? = some u → w.cell? ((⟨b0, o0, none⟩ : Addr).add j) = some u := by
      intro j u hu
      obtain ⟨hj, rfl⟩ := rowV_get_some hu
      obtain ⟨b, o, hA, hc⟩ := hr.2.2.2 hm
      cases hA
      rw [Addr.add_lit]
      exact hc j hj
    have hcur : ∀ j, w.cell? ⟨g, j, none⟩ = cur[j]? := fun j => cell_of_row w g j _ _ _ h2
    by_cases hroom : n + m ≤ cap
    · have hmul : n * i.size + m * i.size ≤ cap * i.size := by rw [← Nat.add_mul]; exact Nat.mul_le_mul_right _ hroom
      have hin : ∀ j, j < (rowV (m * i.size) G).length → (w.cell? ⟨g, off + n * i.size + j, none⟩).isSome = true := fun j hj => by
        rw [rowV_len] at hj
        rw [hcur, Array.getElem?_eq_getElem (by omega)]
        rfl
      have hrun := run_append_room_cells (P := P) w t ty e i ht hi g off n cap ⟨b0, o0, none⟩ m c _ (rowV_len _ _) hcells (rowV_one hG) hroom hin (fun j _ => frozenRow h2 _)
      obtain ⟨⟨cur', k1, k2⟩, k3⟩ := setCells_blk g e (rowV (m * i.size) G) (off + n * i.size) w cur h2
      refine ⟨_, _, hrun, .inr ⟨g, off, cap, cur', rfl, h1, k1, hroom, h4, by omega, fun j hj => ?_⟩, k3, .inl rfl⟩
      have hcur' : ∀ j, (w.setCells g (off + n * i.size) (rowV (m * i.size) G)).cell? ⟨g, j, none⟩ = cur'[j]? := fun j => cell_of_row _ g j _ _ _ k1
      rw [Nat.add_mul] at hj
      rw [← hcur' (off + j)]
      unfold catV
      by_cases hjn : j < n * i.size
      · rw [if_pos hjn, World.cell?_setCells_out g _ _ _ _ (fun _ _ => .inl (by simp only; omega)), hcur]
        exact h6 j hjn
      · rw [if_neg hjn]
        have := World.cell?_setCells_in g (rowV (m * i.size) G) (off + n * i.size) w hin (j - n * i.size) (by rw [rowV_len]; omega)
        rw [show off + n * i.size + (j - n * i.size) = off + j by omega] at this
        rw [this]
        have h8 := rowV_get (m * i.size) G (j - n * i.size) (by omega)
        rw [List.getElem?_eq_getElem (by rw [rowV_len]; omega)] at h8
        exact h8
    · have holds : ∀ j u, (rowV (n * i.size) F)[j]? = some u → w.cell? ((⟨g, off, none⟩ : Addr).add j) = some u := fun j u hu => by
        obtain ⟨hj, rfl⟩ := rowV_get_some hu
        rw [Addr.add_lit, hcur]
        exact h6 j hj
      obtain ⟨v', w', r1, r2, r3⟩ := run_append_arg_grows (P := P) w t ty e i z i.size bytes ht hi hz rfl hby hzs hs ⟨g, off, none⟩ n cap (rowV (n * i.size) F) (rowV_len _ _) holds ⟨b0, o0, none⟩ m c _ (rowV_len _ _) hcells (by omega) h63 hbytes
      rw [rowV_cat, ← Nat.add_mul] at r2
      have r4 : OwnV i.size e w.heap.size w' v' (n + m) (catV (n * i.size) F G) := r2
      refine ⟨v', w', r1, r4.toO.base hbase, ⟨r3.os, r3.tape, r3.output, r3.size, fun k hk _ => r3.block k hk (by simp)⟩, .inr fun b hb => (World.ownsRow.lt r2 b hb).1⟩
theorem wp_appO {ops : Array Oper} {rest : List Oper} {o : Oper} {a : Act} {Q : Exit → Act → World → Prop} (hgd : o.guard = none) (s x : Operand) (t : TypeId) (ho : o.op = .call { callee := .builtin .append, args := #[s, x], argTypes := #[t, t] })
    (sz : Nat) (i : TypeInfo) (z : Value) (bytes : Nat) (ht : P.underlying t = some (.slice e)) (hi : P.info? e = some i) (hz : i.zero = some z) (hsize : i.size = sz) (hby : i.bytes = bytes) (hzs : z.cells.size = sz) (hs0 : 0 < sz)
    (B : Nat) (v : Value) (n : Nat) (F : Nat → Value) (hs : a.eval s = v) (hown : OwnO sz e B w v n F) (b0 o0 m c : Nat) (G : Nat → Value) (hx : a.eval x = .slice (some ⟨b0, o0, none⟩) m c) (hr : RdV sz w (some ⟨b0, o0, none⟩) m c G) (hm : 0 < m) (hG : ∀ i, i < m * sz → (G i).oneCell' = true)
    (h63 : n + m ≤ maxLen) (hbytes : (n + m) * bytes ≤ 140737488355328) (hbase : B ≤ w.heap.size)
    (h : ∀ v' w', OwnO sz e B w' v' (n + m) (catV (n * sz) F G) → w.grownBy w' v.ownBlock → (v'.ownBlock = v.ownBlock ∨ ∀ b, v'.ownBlock = some b → w.heap.size ≤ b) → wpList P ops Q rest (a.put o.dst v') w') : wpList P ops Q (o :: rest) a w := by
  refine wpList_plain hgd fun K hK => ?_
  obtain ⟨v', w', hrun, h2, h3, h4⟩ := run_appO (P := P) sz t o.type i z bytes ht hi hz hsize hby hzs hs0 B v n F hown b0 o0 m c G hr hm hG h63 hbytes hbase
  unfold Oper.wp execOp
  simp only [ho, resolve, invoke, builtin, Sem.run_bind, Sem.run_pure, Result.andThen_ok, List.map_toArray, List.map_cons, List.map_nil, hs, hx, hrun]
  exact hK _ _ (h v' w' h2 h3 h4)
end
theorem RdV.below36O {s : Nat} {w w' : World} {A : Option Addr} {n c : Nat} {F : Nat → Value} (h : RdV s w A n c F) (hb : Below w.heap.size w w') : RdV s w' A n c F :=
  ⟨h.1, h.2.1, h.2.2.1, fun hn => by
    obtain ⟨b, off, hA, hc⟩ := h.2.2.2 hn
    exact ⟨b, off, hA, fun i hi => by
      have h1 := hc i hi
      rw [hb.cell (World.block_lt_of_cell? w _ h1)]
      exact h1⟩⟩
theorem OwnV.base36O {s : Nat} {e : TypeId} {B B' : Nat} {w : World} {v : Value} {n : Nat} {F : Nat → Value} (h : OwnV s e B w v n F) (hB : B' ≤ B) : OwnV s e B' w v n F := by
  refine ⟨h.1, ?_⟩
  rcases h.2 with h2 | ⟨g, cap, cur, hv, hg, hh, r⟩
  · exact .inl h2
  · exact .inr ⟨g, cap, cur, hv, Nat.le_trans hB hg, hh, r⟩
/-- Of the old blocks only those of a set turn. -/
structure FrO (B : Nat) (S : Nat → Prop) (w w' : World) : Prop where
  below : Below B w w'
  keep : ∀ i, i < w.heap.size → ¬ S i → w'.heap[i]? = w.heap[i]?
section
variable {B : Nat} {S T : Nat → Prop} {w w1 w' : World}
theorem FrO.of (h : Below w.heap.size w w') (hB : B ≤ w.heap.size) : FrO B S w w' := ⟨⟨h.os, h.tape, h.output, h.size, fun i hi => h.block i (Nat.lt_of_lt_of_le hi hB)⟩, fun i hi _ => h.block i hi⟩
theorem FrO.step (h : FrO B S w w1) (k : FrO B T w1 w') (hT : ∀ i, T i → S i ∨ w.heap.size ≤ i) : FrO B S w w' :=
  ⟨h.below.trans k.below, fun i hi hs => (k.keep i (Nat.lt_of_lt_of_le hi h.below.size) (fun ht => (hT i ht).elim hs (fun h1 => by omega))).trans (h.keep i hi hs)⟩
theorem FrO.grown {g : Option Nat} (hg : w.grownBy w' g) (hB : B ≤ w.heap.size) (h : ∀ b, g = some b → B ≤ b ∧ S b) : FrO B S w w' :=
  ⟨(Below.refl _ _).grown hg hB (fun b e => (h b e).1), fun i hi hs => hg.block i hi (fun e => hs (h i e.symm).2)⟩
theorem FrO.set (w : World) (p j : Nat) (u : Value) (hp : B ≤ p) (hS : S p) : FrO B S w (w.setCell ⟨p, j, none⟩ u) :=
  ⟨(Below.refl _ _).setCell hp _, fun i _ hs => Below.heap_setCell _ _ _ _ (fun e => hs (by rw [e]; exact hS))⟩
theorem FrO.drew (h : FrO B S w w') : FrO B S w w'.drew := ⟨h.below.drew, h.keep⟩
theorem FrO.row {o : Obj} {p : Nat} (h : FrO B S w w') (hr : w.heap[p]? = some o) (hp : ¬ S p) : w'.heap[p]? = some o := (h.keep p (rowLt hr) hp).trans hr
theorem FrO.mono (h : FrO B S w w') (hST : ∀ i, S i → T i) : FrO B T w w' := ⟨h.below, fun i hi ht => h.keep i hi fun hs => ht (hST i hs)⟩
end
end

section
open Go.RowKit Go.Deep

def wt (f : Fd) : Nat := f.name.size + f.val.size + 32
def sumW (F : Nat → Fd) : Nat → Nat
  | 0 => 0
  | n + 1 => sumW F n + wt (F n)
def shF (j : Nat) (F : Nat → Fd) : Nat → Fd := fun i => F (j + i)
theorem sumW_first (F : Nat → Fd) (n : Nat) : sumW F (n + 1) = wt (F 0) + sumW (shF 1 F) n := by
  induction n with
  | zero => show 0 + wt (F 0) = wt (F 0) + 0; omega
  | succ n ih =>
    show sumW F (n + 1) + wt (F (n + 1)) = wt (F 0) + (sumW (shF 1 F) n + wt (shF 1 F n))
    rw [ih]
    unfold shF
    rw [show 1 + n = n + 1 by omega]
    omega
theorem sumW_le {F : Nat → Fd} {n : Nat} (h : ∀ i, i < n → wt (F i) ≤ 1000000) : sumW F n ≤ 1000000 * n := by
  induction n with
  | zero => exact Nat.le_refl _
  | succ n ih =>
    have h1 := ih fun i hi => h i (by omega)
    have h2 := h n (by omega)
    show sumW F n + wt (F n) ≤ _
    omega
theorem sumW_congr {F G : Nat → Fd} {n : Nat} (h : ∀ i, i < n → F i = G i) : sumW F n = sumW G n := by
  induction n with
  | zero => rfl
  | succ n ih =>
    show sumW F n + wt (F n) = sumW G n + wt (G n)
    rw [ih fun i hi => h i (by omega), h n (by omega)]
theorem shF_shF (i j : Nat) (F : Nat → Fd) : shF i (shF j F) = shF (j + i) F := by
  funext k
  unfold shF
  rw [Nat.add_assoc]
theorem shF_zero (F : Nat → Fd) : shF 0 F = F := by
  funext k
  unfold shF
  rw [Nat.zero_add]
theorem field_info : (Tryd.prog.info? 51).map (fun i => (i.zero, i.size, i.bytes)) = some (some (.agg #[.string ⟨#[]⟩, .string ⟨#[]⟩, .bool false]), 3, 40) := by kernel_rfl
/-- A table: its n fields, the oldest first; g: the block of its slice. -/
structure TOk (B : Nat) (w : World) (p : Nat) (g : Option Nat) (n max : Nat) (F : Nat → Fd) : Prop where
  ex : ∃ v, (∃ T : TypeId, w.heap[p]? = some (.cells #[v, .int .i64 (sumW F n : Int), .int .i64 (max : Int)] T (0, 0))) ∧ v.ownBlock = g ∧ OwnO 3 51 B w v n (fdV F)
  hp : B ≤ p
  ne : g ≠ some p
  mx : max ≤ 2147483647
  wl : ∀ i, i < n → wt (F i) ≤ 1000000
def tfp (p : Nat) (g : Option Nat) : Nat → Prop := fun i => i = p ∨ g = some i
section
variable {B : Nat} {w w' : World} {p : Nat} {g : Option Nat} {n max : Nat} {F : Nat → Fd}
theorem TOk.lt (h : TOk B w p g n max F) : ∀ i, tfp p g i → B ≤ i ∧ i < w.heap.size := by
  obtain ⟨⟨v, ⟨T, h1⟩, h2, h3⟩, h4, _⟩ := h
  rintro i (rfl | hi)
  · exact ⟨h4, rowLt h1⟩
  · exact h3.lt i (h2.trans hi)
theorem TOk.at_ (h : TOk B w p g n max F) (hb : ∀ i, tfp p g i → w'.heap[i]? = w.heap[i]?) : TOk B w' p g n max F := by
  obtain ⟨⟨v, ⟨T, h1⟩, h2, h3⟩, h4, h5, h6, h7⟩ := h
  exact ⟨⟨v, ⟨T, (hb p (.inl rfl)).trans h1⟩, h2, h3.at_ fun b hv => hb b (.inr (h2 ▸ hv))⟩, h4, h5, h6, h7⟩
theorem TOk.below (h : TOk B w p g n max F) (hb : Below w.heap.size w w') : TOk B w' p g n max F := h.at_ fun i hi => hb.block i (h.lt i hi).2
theorem TOk.drew (h : TOk B w p g n max F) : TOk B w.drew p g n max F := h.at_ fun _ _ => rfl
theorem TOk.sum (h : TOk B w p g n max F) : sumW F n ≤ 1000000 * n := sumW_le h.wl
theorem TOk.row (h : TOk B w p g n max F) : ∃ A c T, w.heap[p]? = some (.cells #[.slice A n c, .int .i64 (sumW F n : Int), .int .i64 (max : Int)] T (0, 0)) ∧ (Value.slice A n c).ownBlock = g ∧ OwnO 3 51 B w (.slice A n c) n (fdV F) := by
  obtain ⟨⟨v, ⟨T, h1⟩, h2, h3⟩, _⟩ := h
  obtain ⟨A, c, rfl, _, _⟩ := h3.rd
  exact ⟨A, c, T, h1, h2, h3⟩
end
theorem rowT {w : World} {p : Nat} {T : TypeId} {a b c : Value} (h : w.heap[p]? = some (.cells #[a, b, c] T (0, 0))) : w.cell? ⟨p, 0, none⟩ = some a ∧ w.cell? ⟨p, 1, none⟩ = some b ∧ w.cell? ⟨p, 2, none⟩ = some c := by
  refine ⟨?_, ?_, ?_⟩ <;> simp [World.cell?, h]
theorem isMax21 (x : Int) (w : World) : Calls Tryd.prog 63 #[.int .i64 x] w fun e w' => e = .returned (.bool (decide (0 ≤ x ∧ x ≤ 2147483647))) ∧ w = w' := by
  by_cases h0 : 0 ≤ x
  · have d0 : decide (0 ≤ x) = true := decide_eq_true h0
    by_cases h1 : x ≤ 2147483647
    · have d1 : decide (x ≤ 2147483647) = true := decide_eq_true h1
      have e : decide (0 ≤ x ∧ x ≤ 2147483647) = true := decide_eq_true ⟨h0, h1⟩
      rw [e]
      clear h0 h1
      go_enter Tryd.func63, Tryd.ntmps63
      go_wp2
      go_ret
      exact ⟨rfl, rfl⟩
    · have d1 : decide (x ≤ 2147483647) = false := decide_eq_false h1
      have e : decide (0 ≤ x ∧ x ≤ 2147483647) = false := decide_eq_false (fun h => h1 h.2)
      rw [e]
      clear h0 h1
      go_enter Tryd.func63, Tryd.ntmps63
      go_wp2
      go_ret
      exact ⟨rfl, rfl⟩
  · have d0 : decide (0 ≤ x) = false := decide_eq_false h0
    have e : decide (0 ≤ x ∧ x ≤ 2147483647) = false := decide_eq_false (fun h => h0 h.1)
    rw [e]
    clear h0
    go_enter Tryd.func63, Tryd.ntmps63
    go_wp2
    go_ret
    exact ⟨rfl, rfl⟩
theorem newNo21 (x : Int) (h : ¬ (0 ≤ x ∧ x ≤ 2147483647)) (w : World) : Calls Tryd.prog 41 #[.int .i64 x] w fun e w' => e = .returned (.tuple #[.pointer none, .int .i64 1]) ∧ w = w' := by
  go_enter Tryd.func41, Tryd.ntmps41
  go_wp2_with fail
  refine (isMax21 x w).mono ?_
  rintro e w0 ⟨rfl, rfl⟩
  rw [decide_eq_false h]
  go_wp2_with fail
  go_ret2
  exact ⟨rfl, rfl⟩
theorem new21 (x : Int) (h : 0 ≤ x ∧ x ≤ 2147483647) (w : World) : Calls Tryd.prog 41 #[.int .i64 x] w fun e w' => e = .returned (.tuple #[.pointer (some ⟨w.heap.size, 0, none⟩), .int .i64 0]) ∧ w' = w.alloc (.cells #[.slice none 0 0, .int .i64 0, .int .i64 x] 27) := by
  go_enter Tryd.func41, Tryd.ntmps41
  go_wp2_with fail
  refine (isMax21 x w).mono ?_
  rintro e w0 ⟨rfl, rfl⟩
  rw [decide_eq_true h]
  go_wp2_with fail
  go_ret2
  exact ⟨rfl, rfl⟩
theorem TOk.new {B : Nat} (w : World) (x : Nat) (hB : B ≤ w.heap.size) (hx : x ≤ 2147483647) (F : Nat → Fd) (T : TypeId := 27) : TOk B (w.alloc (.cells #[.slice none 0 0, .int .i64 0, .int .i64 (x : Int)] T)) w.heap.size none 0 x F :=
  ⟨⟨.slice none 0 0, ⟨_, heap_alloc_new _ _⟩, rfl, OwnO.nil _ _ _ _ _⟩, hB, by simp, hx, fun i hi => absurd hi (by omega)⟩
theorem weight21 (a b : ByteArray) (c : Bool) (ha : a.size ≤ 1000000) (hb : b.size ≤ 1000000) (w : World) : Calls Tryd.prog 78 #[.agg #[.string a, .string b, .bool c]] w fun e w' => e = .returned (.int .i64 ((a.size + b.size + 32 : Nat) : Int)) ∧ w' = w.alloc (.cells #[.string a, .string b, .bool c] 51) := by
  have hw1 : IntKind.i64.wrap ((a.size : Int) + (b.size : Int)) = (a.size : Int) + (b.size : Int) := IntWalk.i64_in _ (by omega)
  have hw2 : IntKind.i64.wrap ((a.size : Int) + (b.size : Int) + 32) = (a.size : Int) + (b.size : Int) + 32 := IntWalk.i64_in _ (by omega)
  have e : ((a.size + b.size + 32 : Nat) : Int) = (a.size : Int) + (b.size : Int) + 32 := by omega
  rw [e]
  go_enter Tryd.func78, Tryd.ntmps78
  go_wp2
  go_ret
  exact ⟨rfl, rfl⟩
theorem len21 {B : Nat} {w : World} {p : Nat} {g : Option Nat} {n max : Nat} {F : Nat → Fd} (h : TOk B w p g n max F) : Calls Tryd.prog 88 #[.pointer (some ⟨p, 0, none⟩)] w fun e w' => e = .returned (.int .i64 (n : Int)) ∧ w = w' := by
  obtain ⟨A, c, T, h1, _, _⟩ := h.row
  obtain ⟨c0, c1, c2⟩ := rowT h1
  clear h1
  go_enter Tryd.func88, Tryd.ntmps88
  go_wp2
  go_ret
  exact ⟨rfl, rfl⟩
theorem size21 {B : Nat} {w : World} {p : Nat} {g : Option Nat} {n max : Nat} {F : Nat → Fd} (h : TOk B w p g n max F) : Calls Tryd.prog 39 #[.pointer (some ⟨p, 0, none⟩)] w fun e w' => e = .returned (.int .i64 (sumW F n : Int)) ∧ w = w' := by
  obtain ⟨A, c, T, h1, _, _⟩ := h.row
  obtain ⟨c0, c1, c2⟩ := rowT h1
  clear h1
  go_enter Tryd.func39, Tryd.ntmps39
  go_wp2
  go_ret
  exact ⟨rfl, rfl⟩
theorem max21 {B : Nat} {w : World} {p : Nat} {g : Option Nat} {n max : Nat} {F : Nat → Fd} (h : TOk B w p g n max F) : Calls Tryd.prog 38 #[.pointer (some ⟨p, 0, none⟩)] w fun e w' => e = .returned (.int .i64 (max : Int)) ∧ w = w' := by
  obtain ⟨A, c, T, h1, _, _⟩ := h.row
  obtain ⟨c0, c1, c2⟩ := rowT h1
  clear h1
  go_enter Tryd.func38, Tryd.ntmps38
  go_wp2
  go_ret
  exact ⟨rfl, rfl⟩
end

section
open Go.RowKit Go.Deep

theorem absD {p : World → Prop} (W0 : World) (R : World → Prop) (h0 : R W0) (h : ∀ W, R W → p W) : p W0 := h W0 h0
theorem TOk.cutD {B : Nat} {w : World} {p : Nat} {g : Option Nat} {N max s : Nat} {v u : Value} {F : Nat → Fd} {F2 : Nat → Value} {T : TypeId} (hr : w.heap[p]? = some (.cells #[u, .int .i64 (s : Int), .int .i64 (max : Int)] T (0, 0))) (hg : v.ownBlock = g) (hne : g ≠ some p) (hp : B ≤ p) (hm : max ≤ 2147483647)
    (ho : OwnO 3 51 B w v (N - 1) F2) (hF : ∀ i, F2 i = fdV (shF 1 F) i) (hs : s = sumW (shF 1 F) (N - 1)) (hw : ∀ i, i < N → wt (F i) ≤ 1000000) :
    TOk B (w.setCell ⟨p, 0, none⟩ v) p g (N - 1) max (shF 1 F) := by
  subst hs
  refine ⟨⟨v, ⟨T, ?_⟩, hg, (ho.congr fun i _ => hF i).setCell (hg ▸ hne) 0 v⟩, hp, hne, hm, fun i hi => hw (1 + i) (by omega)⟩
  have h1 := setRow w p 0 v hr
  simp only [List.setIfInBounds_toArray, List.set_cons_zero, List.set_cons_succ] at h1
  exact h1
set_option maxRecDepth 20000 in
set_option maxHeartbeats 3200000 in
theorem shrink21 {B : Nat} {w : World} {p : Nat} {g : Option Nat} {n max : Nat} {F : Nat → Fd} (h : TOk B w p g n max F) (hB : B ≤ w.heap.size) (most : Int) (hn : n ≤ 1000000) :
    Calls Tryd.prog 64 #[.pointer (some ⟨p, 0, none⟩), .int .i64 most] w fun e w' => ∃ j, e = .returned (.tuple #[]) ∧ j ≤ n ∧ (∀ i, i < j → most < (sumW (shF i F) (n - i) : Int)) ∧ (j = n ∨ (sumW (shF j F) (n - j) : Int) ≤ most) ∧ TOk B w' p g (n - j) max (shF j F) ∧ FrO B (tfp p g) w w' := by
  have H := hide h
  have HB := hide hB
  clear h hB
  go_enter Tryd.func64, Tryd.ntmps64
  go_wp2_with fail
  go_loopg [] n (fun gk wr => ∃ j, j + gk = n ∧ (∀ i, i < j → most < (sumW (shF i F) (n - i) : Int)) ∧ TOk B wr p g (n - j) max (shF j F) ∧ FrO B (tfp p g) w wr)
  case atStart => exact ⟨0, by omega, fun i hi => absurd hi (by omega), by rw [shF_zero]; exact H.out, FrO.of (Below.refl _ _) HB.out⟩
  case round =>
    obtain ⟨j, hj, hmo, ht, hf⟩ := hrel
    obtain ⟨N, hN⟩ : ∃ N, N = n - j := ⟨_, rfl⟩
    rw [← hN] at ht
    obtain ⟨A, c, T, h1, h2, h3⟩ := ht.row
    have HT := hide ht
    have HF := hide hf
    have HM := hide hmo
    have HN := hide hN
    have hsum := ht.sum
    obtain ⟨c0, c1, c2⟩ := rowT h1
    clear ht hf hmo hN
    by_cases hN0 : N = 0
    · subst hN0
      have e0 : j = n := by have := HN.out; omega
      go_wp2_with fail
      first | go_end0 | (refine bodyPost_ret (results_none rfl _ _ _) rfl ?_)
      exact ⟨j, rfl, by omega, HM.out, .inl e0, by rw [← HN.out]; exact HT.out, HF.out⟩
    · have hd : decide ((0 : Int) < (N : Int)) = true := decide_eq_true (by omega)
      have hd' : decide (0 < N) = true := decide_eq_true (by omega)
      obtain ⟨S, hS⟩ : ∃ S, S = sumW (shF j F) N := ⟨_, rfl⟩
      rw [← hS] at h1 c1 hsum
      have HS := hide hS
      clear hS
      by_cases hbig : most < (S : Int)
      · have hd2 : decide (most < (S : Int)) = true := decide_eq_true hbig
        have Hbig := hide hbig
        clear hbig
        rcases h3 with ⟨_, h0⟩ | ⟨b, off, cap, cur, e1, k1, k2, k3, k4, k5, k6⟩
        · exact absurd h0 hN0
        cases e1
        have ho : Hid (OwnO 3 51 B wr (.slice (some ⟨b, off, none⟩) N c) N (fdV (shF j F))) := .inr ⟨b, off, c, cur, rfl, k1, k2, k3, k4, k5, k6⟩
        obtain ⟨b', o', e', hc⟩ := ho.out.rdS.2.2.2 (by omega)
        cases e'
        have q0 := hc 0 (by omega)
        have q1 := hc 1 (by omega)
        have q2 := hc 2 (by omega)
        rw [Nat.add_zero] at q0
        have hbp : b ≠ p := fun e => HT.out.ne (by rw [← h2, e]; rfl)
        have hw0 := HT.out.wl 0 (by omega)
        have hf0 : fdV (shF j F) 0 = .string (shF j F 0).name := fdV_0 (shF j F) 0
        have hf1 : fdV (shF j F) 1 = .string (shF j F 0).val := fdV_1 (shF j F) 0
        have hf2 : fdV (shF j F) 2 = .bool (shF j F 0).nev := fdV_2 (shF j F) 0
        rw [hf0] at q0
        rw [hf1] at q1
        rw [hf2] at q2
        obtain ⟨M, rfl⟩ : ∃ M, N = M + 1 := ⟨N - 1, by omega⟩
        have hfirst := sumW_first (shF j F) M
        obtain ⟨S1, hS1⟩ : ∃ S1, S1 = sumW (shF 1 (shF j F)) M := ⟨_, rfl⟩
        rw [← hS1, ← HS.out] at hfirst
        have HS1 := hide hS1
        clear hS1 hc hf0 hf1 hf2
        unfold wt at hw0 hfirst
        generalize (shF j F 0).name = nm at *
        generalize (shF j F 0).val = vl at *
        generalize (shF j F 0).nev = nv at *
        obtain ⟨xw, hxw⟩ : ∃ xw : Int, xw = ((nm.size + vl.size + 32 : Nat) : Int) := ⟨_, rfl⟩
        have hwr : IntKind.i64.wrap ((S : Int) - xw) = (S1 : Int) := by
          have hNM := HN.out
          rw [IntWalk.i64_in _ (by omega)]; omega
        have Hxw := hide hxw
        have hn1 : nm.size ≤ 1000000 := by omega
        have hv1 : vl.size ≤ 1000000 := by omega
        have alx := (Below.refl wr.heap.size wr).alloc (Nat.le_refl _) (.cells #[.string nm, .string vl, .bool nv] 51)
        have r1 := keepRow h1 alx
        obtain ⟨d0, d1, d2⟩ := rowT r1
        have f1 := frozenRow r1 1
        have H1 := hide r1
        have Halx := hide alx
        have hb0 := rowLt k2
        have kk2 := keepRow k2 alx
        have y0 := (alx.cell (World.block_lt_of_cell? wr _ q0)).trans q0
        have y1 := (alx.cell (World.block_lt_of_cell? wr _ q1)).trans q1
        have y2 := (alx.cell (World.block_lt_of_cell? wr _ q2)).trans q2
        have hpos1 : (0 : Int) < ((M + 1 : Nat) : Int) := by omega
        clear k5 k6 hxw hfirst hsum alx r1
        go_wp2_with fail
        go_region_law (first | (go_simp; go_at_call 78; refine (weight21 nm vl nv hn1 hv1 _).mono ?_; rintro e wx ⟨rfl, rfl⟩; rw [← Hxw.out]))
        all_goals
          have rowW := setRow _ p 1 (.int .i64 (S1 : Int)) H1.out
          simp only [List.setIfInBounds_toArray, List.set_cons_zero, List.set_cons_succ] at rowW
          have RW : Hid (((wr.alloc (.cells #[.string nm, .string vl, .bool nv] 51)).setCell ⟨p, 1, none⟩ (.int .i64 (S1 : Int))).drew.heap[p]? = some (.cells #[.slice (some ⟨b, off, none⟩) (M + 1) c, .int .i64 (S1 : Int), .int .i64 (max : Int)] T (0, 0))) := rowW
          have OW : Hid (OwnO 3 51 B ((wr.alloc (.cells #[.string nm, .string vl, .bool nv] 51)).setCell ⟨p, 1, none⟩ (.int .i64 (S1 : Int))).drew (.slice (some ⟨b, off, none⟩) (M + 1) c) (M + 1) (fdV (shF j F))) := ((ho.out.alloc _).setCell (show Value.ownBlock (.slice (some ⟨b, off, none⟩) (M + 1) c) ≠ some p by rw [h2]; exact HT.out.ne) 1 _).at_ (fun _ _ => rfl)
          have FW : Hid (FrO B (tfp p g) wr ((wr.alloc (.cells #[.string nm, .string vl, .bool nv] 51)).setCell ⟨p, 1, none⟩ (.int .i64 (S1 : Int))).drew) := ((FrO.of Halx.out (Nat.le_trans HB.out HF.out.below.size)).step (FrO.set (S := fun i => i = p) _ p 1 _ HT.out.hp rfl) (fun i hi => .inl (.inl hi))).drew
          clear rowW H1 Halx d0 d1 d2 f1 y0 y1 y2 c0 c1 c2 q0 q1 q2 kk2 k1 k2 k3 k4 h1 hwr
          generalize ((wr.alloc (.cells #[.string nm, .string vl, .bool nv] 51)).setCell ⟨p, 1, none⟩ (.int .i64 (S1 : Int))).drew = W1 at *
          obtain ⟨c0, c1, c2⟩ := rowT RW.out
          obtain ⟨b2, o2, e2, hc⟩ := OW.out.rdS.2.2.2 (by omega)
          cases e2
          have q0 := hc 0 (by omega)
          have q1 := hc 1 (by omega)
          have q2 := hc 2 (by omega)
          rw [Nat.add_zero] at q0
          have z : ∀ x, W1.frozen? ⟨b, x, none⟩ = false := fun x => by
            rcases OW.out with ⟨e, _⟩ | ⟨b3, o3, cap3, cur3, e3, _, m2, _⟩
            · cases e
            · cases e3
              exact frozenRow m2 x
          have z0 := z off
          have z1 := z (off + 1)
          have z2 := z (off + 2)
          have O2 := ((OW.out.set 0 (.string ⟨#[]⟩)).set 1 (.string ⟨#[]⟩)).set 2 (.bool false)
          rw [Nat.add_zero] at O2
          have OW2 := hide O2
          have RW2 : Hid ((((W1.setCell ⟨b, off, none⟩ (.string ⟨#[]⟩)).setCell ⟨b, off + 1, none⟩ (.string ⟨#[]⟩)).setCell ⟨b, off + 2, none⟩ (.bool false)).heap[p]? = some (.cells #[.slice (some ⟨b, off, none⟩) (M + 1) c, .int .i64 (S1 : Int), .int .i64 (max : Int)] T (0, 0))) := by
            show _ = _
            rw [Below.heap_setCell _ ⟨b, off + 2, none⟩ _ _ (Ne.symm hbp), Below.heap_setCell _ ⟨b, off + 1, none⟩ _ _ (Ne.symm hbp), Below.heap_setCell _ ⟨b, off, none⟩ _ _ (Ne.symm hbp)]
            exact RW.out
          have hBb : B ≤ b := (OW.out.lt b rfl).1
          have FW2 : Hid (FrO B (tfp p g) wr (((W1.setCell ⟨b, off, none⟩ (.string ⟨#[]⟩)).setCell ⟨b, off + 1, none⟩ (.string ⟨#[]⟩)).setCell ⟨b, off + 2, none⟩ (.bool false))) :=
            ((FW.out.step (FrO.set (S := fun i => i = b) _ b off _ hBb rfl) (fun i hi => .inl (.inr (by rw [← h2, hi]; rfl)))).step (FrO.set (S := fun i => i = b) _ b (off + 1) _ hBb rfl) (fun i hi => .inl (.inr (by rw [← h2, hi]; rfl)))).step (FrO.set (S := fun i => i = b) _ b (off + 2) _ hBb rfl) (fun i hi => .inl (.inr (by rw [← h2, hi]; rfl)))
          obtain ⟨x0, x1, x2⟩ := rowT RW2.out
          have fz := frozenRow RW2.out 0
          have hcm := OW.out.rdS.1
          have hb1 : (1 : Int) ≤ (M : Int) + 1 := by omega
          have hb2 : ((M + 1 : Nat) : Int) ≤ (c : Int) := by omega
          clear O2 z hc
          go_wp2_with fail
          all_goals
            go_roundg (gk - 1)
            case rel =>
              have hcut := OW2.out.cut (lo := 1) (by omega)
              have hF2 : ∀ i, (fun i => setV (setV (setV (fdV (shF j F)) 0 (.string ⟨#[]⟩)) 1 (.string ⟨#[]⟩)) 2 (.bool false) (1 * 3 + i)) i = fdV (shF 1 (shF j F)) i := fun i => by
                show setV _ 2 _ (1 * 3 + i) = _
                unfold setV
                rw [if_neg (by omega), if_neg (by omega), if_neg (by omega)]
                unfold fdV shF
                rw [show (1 * 3 + i) / 3 = 1 + i / 3 by omega, show (1 * 3 + i) % 3 = i % 3 by omega]
              have hNM := HN.out
              have hpick : n - (j + 1) = M := by omega
              have key : ∀ v : Value, v.ownBlock = g → OwnO 3 51 B (((W1.setCell ⟨b, off, none⟩ (.string ⟨#[]⟩)).setCell ⟨b, off + 1, none⟩ (.string ⟨#[]⟩)).setCell ⟨b, off + 2, none⟩ (.bool false)) v (M + 1 - 1) (fun i => setV (setV (setV (fdV (shF j F)) 0 (.string ⟨#[]⟩)) 1 (.string ⟨#[]⟩)) 2 (.bool false) (1 * 3 + i)) →
                  (∃ j', j' + (gk - 1) = n ∧ (∀ i, i < j' → most < (sumW (shF i F) (n - i) : Int)) ∧ TOk B ((((W1.setCell ⟨b, off, none⟩ (.string ⟨#[]⟩)).setCell ⟨b, off + 1, none⟩ (.string ⟨#[]⟩)).setCell ⟨b, off + 2, none⟩ (.bool false)).setCell ⟨p, 0, none⟩ v) p g (n - j') max (shF j' F) ∧ FrO B (tfp p g) w ((((W1.setCell ⟨b, off, none⟩ (.string ⟨#[]⟩)).setCell ⟨b, off + 1, none⟩ (.string ⟨#[]⟩)).setCell ⟨b, off + 2, none⟩ (.bool false)).setCell ⟨p, 0, none⟩ v)) := fun v hv hov => by
                have ht := TOk.cutD (F := shF j F) (N := M + 1) RW2.out hv HT.out.ne HT.out.hp HT.out.mx hov hF2 HS1.out HT.out.wl
                rw [shF_shF, Nat.add_sub_cancel] at ht
                refine ⟨j + 1, by omega, fun i hi => ?_, by rw [hpick]; exact ht, (HF.out.step FW2.out fun i hi => .inl hi).step (FrO.set (S := fun i => i = p) _ p 0 _ HT.out.hp rfl) fun i hi => .inl (.inl hi)⟩
                rcases Nat.lt_or_ge i j with h | h
                · exact HM.out i h
                · obtain rfl : i = j := by omega
                  rw [← hNM, ← HS.out]
                  exact Hbig.out
              first
                | (rw [if_pos ‹c = 1›] at hcut
                   refine key _ ?_ (by simpa [‹c = 1›] using hcut)
                   rw [← h2]
                   rfl)
                | (rw [if_neg ‹¬ c = 1›] at hcut
                   refine key _ ?_ hcut
                   rw [← h2]
                   rfl)
            case measure => have := HN.out; omega
      · have hd2 : decide (most < (S : Int)) = false := decide_eq_false hbig
        have Hbig : Hid ((S : Int) ≤ most) := by show _ ≤ _; omega
        clear hbig
        go_wp2_with fail
        first | go_end0 | (refine bodyPost_ret (results_none rfl _ _ _) rfl ?_)
        exact ⟨j, rfl, by omega, HM.out, .inr (by rw [← HN.out, ← HS.out]; exact Hbig.out), by rw [← HN.out]; exact HT.out, HF.out⟩
end

section
open Go.RowKit Go.Deep

theorem TOk.setMax {B : Nat} {w : World} {p : Nat} {g : Option Nat} {n max : Nat} {F : Nat → Fd} (h : TOk B w p g n max F) (x : Nat) (hx : x ≤ 2147483647) : TOk B (w.setCell ⟨p, 2, none⟩ (.int .i64 (x : Int))) p g n x F := by
  obtain ⟨⟨v, ⟨T, h1⟩, h2, h3⟩, h4, h5, h6, h7⟩ := h
  refine ⟨⟨v, ⟨T, ?_⟩, h2, h3.setCell (h2 ▸ h5) 2 _⟩, h4, h5, hx, h7⟩
  have := setRow w p 2 (.int .i64 (x : Int)) h1
  simpa using this
theorem resizeNo21 {w : World} {p : Nat} (x : Int) (hx : ¬ (0 ≤ x ∧ x ≤ 2147483647)) :
    Calls Tryd.prog 43 #[.pointer (some ⟨p, 0, none⟩), .int .i64 x] w fun e w' => e = .returned (.int .i64 1) ∧ w = w' := by
  go_enter Tryd.func43, Tryd.ntmps43
  go_wp2_with fail
  refine (isMax21 x w).mono ?_
  rintro e w0 ⟨rfl, rfl⟩
  rw [decide_eq_false hx]
  go_wp2_with fail
  go_ret
  exact ⟨rfl, rfl⟩
set_option maxRecDepth 20000 in
theorem resize21 {B : Nat} {w : World} {p : Nat} {g : Option Nat} {n max : Nat} {F : Nat → Fd} (h : TOk B w p g n max F) (hB : B ≤ w.heap.size) (hn : n ≤ 1000000) (x : Nat) (hx : x ≤ 2147483647) :
    Calls Tryd.prog 43 #[.pointer (some ⟨p, 0, none⟩), .int .i64 (x : Int)] w fun e w' => ∃ j, e = .returned (.int .i64 0) ∧ j ≤ n ∧ (∀ i, i < j → (x : Int) < (sumW (shF i F) (n - i) : Int)) ∧ (j = n ∨ (sumW (shF j F) (n - j) : Int) ≤ (x : Int)) ∧ TOk B w' p g (n - j) x (shF j F) ∧ FrO B (tfp p g) w w' := by
  have H1 := hide (h.setMax x hx)
  obtain ⟨A, c, T, h1, _, _⟩ := h.row
  have f2 := frozenRow h1 2
  obtain ⟨c0, c1, c2⟩ := rowT h1
  have hp := h.hp
  have HB := hide hB
  clear h h1 hB
  go_enter Tryd.func43, Tryd.ntmps43
  go_wp2_with fail
  refine (isMax21 (x : Int) w).mono ?_
  rintro e w0 ⟨rfl, rfl⟩
  rw [decide_eq_true (show (0 : Int) ≤ (x : Int) ∧ (x : Int) ≤ 2147483647 by omega)]
  go_wp2_with fail
  refine (shrink21 H1.out (by have := HB.out; simpa [World.setCell] using this) (x : Int) hn).mono ?_
  rintro e w2 ⟨j, rfl, hj, h2, h3, h4, h5⟩
  go_wp2_with fail
  go_ret
  exact ⟨j, rfl, hj, h2, h3, h4, (FrO.set (S := tfp p g) _ p 2 _ hp (.inl rfl)).step h5 fun i hi => .inl hi⟩
def fd0 : Fd := ⟨⟨#[]⟩, ⟨#[]⟩, false⟩
set_option maxRecDepth 20000 in
set_option maxHeartbeats 800000 in
theorem atNo21 {B : Nat} {w : World} {p : Nat} {g : Option Nat} {n max : Nat} {F : Nat → Fd} (h : TOk B w p g n max F) (i : Int) (hi : i < 1 ∨ (n : Int) < i) :
    Calls Tryd.prog 77 #[.pointer (some ⟨p, 0, none⟩), .int .i64 i] w fun e w' => e = .returned (.tuple #[.agg #[.string ⟨#[]⟩, .string ⟨#[]⟩, .bool false], .bool false]) ∧ Below w.heap.size w w' := by
  have al := (Below.refl w.heap.size w).alloc (Nat.le_refl _) (.cells #[.string ⟨#[]⟩, .string ⟨#[]⟩, .bool false] 51)
  have R := heap_alloc_new w (.cells #[.string ⟨#[]⟩, .string ⟨#[]⟩, .bool false] 51)
  have H := hide (h.below al)
  obtain ⟨c0, c1, c2⟩ := rowT R
  have E := hide al
  clear h al R
  by_cases h1 : i < 1
  · have hd : decide (i < 1) = true := decide_eq_true h1
    clear h1 hi
    go_enter Tryd.func77, Tryd.ntmps77
    go_wp2_with fail
    refine bodyPost_ret (v := .tuple #[.agg #[.string ⟨#[]⟩, .string ⟨#[]⟩, .bool false], .bool false]) ?_ rfl ⟨rfl, ?_⟩
    · rw [results_cell_tmp rfl]
      go_simp
    · go_grown
  · have hd : decide (i < 1) = false := decide_eq_false h1
    have hd2 : decide ((n : Int) < i) = true := decide_eq_true (by omega)
    clear h1 hi
    go_enter Tryd.func77, Tryd.ntmps77
    go_wp2_with fail
    refine (len21 H.out).mono ?_
    rintro e w0 ⟨rfl, rfl⟩
    go_wp2_with fail
    refine bodyPost_ret (v := .tuple #[.agg #[.string ⟨#[]⟩, .string ⟨#[]⟩, .bool false], .bool false]) ?_ rfl ⟨rfl, ?_⟩
    · rw [results_cell_tmp rfl]
      go_simp
    · go_grown
set_option maxRecDepth 20000 in
set_option maxHeartbeats 1600000 in
theorem at21 {B : Nat} {w : World} {p : Nat} {g : Option Nat} {n max : Nat} {F : Nat → Fd} (h : TOk B w p g n max F) (hn : n ≤ 1000000) (k : Nat) (hk : k < n) (i : Int) (hi : i = (n : Int) - (k : Int)) :
    Calls Tryd.prog 77 #[.pointer (some ⟨p, 0, none⟩), .int .i64 i] w fun e w' => e = .returned (.tuple #[.agg #[.string (F k).name, .string (F k).val, .bool (F k).nev], .bool true]) ∧ Below w.heap.size w w' := by
  have al := (Below.refl w.heap.size w).alloc (Nat.le_refl _) (.cells #[.string ⟨#[]⟩, .string ⟨#[]⟩, .bool false] 51)
  have R := heap_alloc_new w (.cells #[.string ⟨#[]⟩, .string ⟨#[]⟩, .bool false] 51)
  have H := hide (h.below al)
  obtain ⟨A, c, T, h1, h2, h3⟩ := h.row
  obtain ⟨b, off, rfl, hc⟩ := h3.rdS.2.2.2 (by omega)
  have q0 := hc (k * 3) (by omega)
  have q1 := hc (k * 3 + 1) (by omega)
  have q2 := hc (k * 3 + 2) (by omega)
  rw [fdV_0] at q0
  rw [fdV_1, ← Nat.add_assoc] at q1
  rw [fdV_2, ← Nat.add_assoc] at q2
  have s0 := (al.cell (World.block_lt_of_cell? w _ q0)).trans q0
  have s1 := (al.cell (World.block_lt_of_cell? w _ q1)).trans q1
  have s2 := (al.cell (World.block_lt_of_cell? w _ q2)).trans q2
  obtain ⟨t0, t1, t2⟩ := rowT (keepRow h1 al)
  obtain ⟨c0, c1, c2⟩ := rowT R
  have z0 := frozenRow R 0
  have z1 := frozenRow R 1
  have z2 := frozenRow R 2
  have hd : decide (i < 1) = false := decide_eq_false (by omega)
  have hd2 : decide ((n : Int) < i) = false := decide_eq_false (by omega)
  have hw : IntKind.i64.wrap ((n : Int) - i) = (k : Int) := by rw [IntWalk.i64_in _ (by omega)]; omega
  have hkn : (k : Int) < (n : Int) := by omega
  have hcn := h3.rdS.1
  have E := hide al
  generalize F k = fk at *
  obtain ⟨nm, vl, nv⟩ := fk
  simp only at q0 q1 q2 s0 s1 s2
  clear h al R hc h1 h3 hi
  have hp0 := Nat.le_refl w.heap.size
  go_enter Tryd.func77, Tryd.ntmps77
  go_wp2_with fail
  generalize w.alloc (.cells #[.string ⟨#[]⟩, .string ⟨#[]⟩, .bool false] 51) = W0 at *
  refine (len21 H.out).mono ?_
  rintro e w0 ⟨rfl, rfl⟩
  go_wp2_with fail
  go_still_tail 13, (by kernel_rfl)
  change wpList _ _ _ _ _ W0.drew
  go_wp2_with fail
  refine bodyPost_ret (v := .tuple #[.agg #[.string nm, .string vl, .bool nv], .bool true]) ?_ rfl ⟨rfl, (((E.out.drew.setCell hp0 _).setCell hp0 _).setCell hp0 _)⟩
  rw [results_cell_tmp rfl]
  go_simp
end

section
open Go.RowKit Go.Deep

def appFd (n : Nat) (F : Nat → Fd) (f : Fd) : Nat → Fd := fun i => if i < n then F i else f
theorem fdV_app (n : Nat) (F : Nat → Fd) (f : Fd) : catV (n * 3) (fdV F) (fdV fun _ => f) = fdV (appFd n F f) := by
  rw [fdV_cat]
  rfl
theorem sumW_app (n : Nat) (F : Nat → Fd) (f : Fd) : sumW (appFd n F f) (n + 1) = sumW F n + wt f := by
  show sumW (appFd n F f) n + wt (appFd n F f n) = _
  rw [sumW_congr (F := appFd n F f) (G := F) fun i hi => by unfold appFd; rw [if_pos hi], show appFd n F f n = f by unfold appFd; rw [if_neg (Nat.lt_irrefl _)]]
section
variable {P : Program} {e : TypeId} {w : World} {ops : Array Oper} {o : Oper} {a : Act} {K : Act → World → Prop} {Q : Exit → Act → World → Prop} {E : Prop}
theorem step_appO (hgd : o.guard = none) (s x : Operand) (t : TypeId) (ho : o.op = .call { callee := .builtin .append, args := #[s, x], argTypes := #[t, t] })
    (sz : Nat) (i : TypeInfo) (z : Value) (bytes : Nat) (ht : P.underlying t = some (.slice e)) (hi : P.info? e = some i) (hz : i.zero = some z) (hsize : i.size = sz) (hby : i.bytes = bytes) (hzs : z.cells.size = sz) (hs0 : 0 < sz)
    (B : Nat) (v : Value) (n : Nat) (F : Nat → Value) (hs : a.eval s = v) (hown : OwnO sz e B w v n F) (b0 o0 m c : Nat) (G : Nat → Value) (hx : a.eval x = .slice (some ⟨b0, o0, none⟩) m c) (hr : RdV sz w (some ⟨b0, o0, none⟩) m c G) (hm : 0 < m) (hG : ∀ i, i < m * sz → (G i).oneCell' = true)
    (h63 : n + m ≤ maxLen) (hbytes : (n + m) * bytes ≤ 140737488355328) (hbase : B ≤ w.heap.size)
    (h : ∀ v' w', OwnO sz e B w' v' (n + m) (catV (n * sz) F G) → w.grownBy w' v.ownBlock → (v'.ownBlock = v.ownBlock ∨ ∀ b, v'.ownBlock = some b → w.heap.size ≤ b) → K (a.put o.dst v') w') :
    if Region.wanted o (yielded ops a.tmps) = true then Oper.wp P o a w K Q else E := by
  rw [if_pos (by simp [Region.wanted, hgd])]
  obtain ⟨v', w', hrun, h2, h3, h4⟩ := run_appO (P := P) sz t o.type i z bytes ht hi hz hsize hby hzs hs0 B v n F hown b0 o0 m c G hr hm hG h63 hbytes hbase
  unfold Oper.wp execOp
  simp only [ho, resolve, invoke, builtin, Sem.run_bind, Sem.run_pure, Result.andThen_ok, List.map_toArray, List.map_cons, List.map_nil, hs, hx, hrun]
  exact h v' w' h2 h3 h4
end
set_option maxRecDepth 20000 in
set_option maxHeartbeats 3200000 in
theorem add21 {B : Nat} {w : World} {p : Nat} {g : Option Nat} {n max : Nat} {F : Nat → Fd} (h : TOk B w p g n max F) (hB : B ≤ w.heap.size) (hn : n ≤ 900000) (f : Fd) (hf : wt f ≤ 1000000) :
    Calls Tryd.prog 54 #[.pointer (some ⟨p, 0, none⟩), .agg #[.string f.name, .string f.val, .bool f.nev]] w fun e w' => ∃ j g', e = .returned (.tuple #[]) ∧ j ≤ n ∧ (∀ i, i < j → (max : Int) - (wt f : Int) < (sumW (shF i F) (n - i) : Int)) ∧ (j = n ∨ (sumW (shF j F) (n - j) : Int) ≤ (max : Int) - (wt f : Int)) ∧ FrO B (tfp p g) w w' ∧ (g' = g ∨ ∀ b, g' = some b → w.heap.size ≤ b) ∧
      ((max < wt f ∧ TOk B w' p g' (n - j) max (shF j F)) ∨ (wt f ≤ max ∧ TOk B w' p g' (n - j + 1) max (appFd (n - j) (shF j F) ⟨f.name, f.val, false⟩))) := by
  obtain ⟨nm, vl, nv⟩ := f
  have hw0 : nm.size + vl.size + 32 ≤ 1000000 := hf
  show Calls _ _ #[_, .agg #[.string nm, .string vl, .bool nv]] _ _
  obtain ⟨X, hX⟩ : ∃ X, X = nm.size + vl.size + 32 := ⟨_, rfl⟩
  have hwt : wt ⟨nm, vl, nv⟩ = X := hX.symm
  rw [hwt]
  obtain ⟨xw, hxw⟩ : ∃ xw : Int, xw = ((nm.size + vl.size + 32 : Nat) : Int) := ⟨_, rfl⟩
  have hxX : xw = (X : Int) := by rw [hxw, hX]
  have Hxw := hide hxw
  have HxX := hide hxX
  have HX := hide hX
  have al := (Below.refl w.heap.size w).alloc (Nat.le_refl _) (.cells #[.string nm, .string vl, .bool nv] 51)
  have R0 := hide (heap_alloc_new w (.cells #[.string nm, .string vl, .bool nv] 51))
  have T0 := hide (h.below al)
  have E0 := hide al
  have HB := hide hB
  have Hlt := hide h.lt
  have hmx := h.mx
  have hn1 : nm.size ≤ 1000000 := by omega
  have hv1 : vl.size ≤ 1000000 := by omega
  clear h al hB hxw hxX hX hwt hf
  go_enter Tryd.func54, Tryd.ntmps54
  obtain ⟨a0, a1, a2⟩ := rowT R0.out
  go_wp2_with fail
  generalize hw1 : w.alloc (.cells #[.string nm, .string vl, .bool nv] 51) = W1 at *
  clear hw1
  refine (weight21 nm vl nv hn1 hv1 _).mono ?_
  rintro e w2 ⟨rfl, hw2⟩
  rw [← Hxw.out]
  have b2 : Below W1.heap.size W1 w2 := by rw [hw2]; exact (Below.refl _ _).alloc (Nat.le_refl _) _
  have T2 := hide (T0.out.below b2)
  have R2 := hide (keepRow R0.out b2)
  have E2 := hide (E0.out.of b2)
  clear hw2 b2 a0 a1 a2 T0 R0 E0
  obtain ⟨A2, c2', Ty2, k1, k2, _⟩ := T2.out.row
  obtain ⟨t0, t1, t2⟩ := rowT k1
  have hmost : IntKind.i64.wrap ((max : Int) - xw) = (max : Int) - xw := IntWalk.i64_in _ (by have := HxX.out; have := HX.out; omega)
  clear k1 k2
  go_wp2_with fail
  refine (shrink21 T2.out (Nat.le_trans HB.out E2.out.size) ((max : Int) - xw) (by omega)).mono ?_
  rintro e w3 ⟨j, rfl, hj, hmo, hen, ht3, hf3⟩
  rw [HxX.out] at hmo hen
  have Hmo := hide hmo
  have Hen := hide hen
  have T3 := hide ht3
  have F3 : Hid (FrO B (tfp p g) w w3) := (FrO.of (S := tfp p g) E2.out HB.out).step hf3 (fun i hi => .inl hi)
  have E3 := hide F3.out.below
  have R3 := hide (hf3.row R2.out (fun h => by have := (Hlt.out _ h).2; omega))
  clear hmo hen ht3 hf3 t0 t1 t2 T2 R2 E2 hmost
  obtain ⟨N, hN⟩ : ∃ N, N = n - j := ⟨_, rfl⟩
  rw [← hN] at T3 Hen
  have HN := hide hN
  clear hN
  obtain ⟨A3, c3, Ty3, k1, k2, k3⟩ := T3.out.row
  have K1 := hide k1
  obtain ⟨t0, t1, t2⟩ := rowT k1
  obtain ⟨a0, a1, a2⟩ := rowT R3.out
  by_cases hbig : max < X
  · have hd : decide ((max : Int) < xw) = true := decide_eq_true (by have := HxX.out; omega)
    have Hbig := hide hbig
    clear hbig
    go_wp2_with fail
    refine bodyPost_ret (results_none rfl _ _ _) rfl ?_
    exact ⟨j, g, rfl, hj, Hmo.out, by rw [← HN.out]; exact Hen.out, F3.out, .inl rfl, .inl ⟨Hbig.out, by rw [← HN.out]; exact T3.out⟩⟩
  · have hd : decide ((max : Int) < xw) = false := decide_eq_false (by have := HxX.out; omega)
    have Hbig : Hid (X ≤ max) := by show _ ≤ _; omega
    clear hbig
    obtain ⟨i0, hi, hz0, hz1, hz2⟩ := info_parts field_info
    have alx := (Below.refl w3.heap.size w3).alloc (Nat.le_refl _) (.cells #[.string nm, .string vl, .bool false] 51)
    obtain ⟨u0, u1, u2⟩ := rowT (keepRow k1 alx)
    obtain ⟨v0, v1, v2⟩ := rowT (keepRow R3.out alx)
    have O3 := hide k3
    have Kx := keepRow k1 alx
    have hpl := rowLt Kx
    have hN90 : N ≤ 900000 := by have := HN.out; omega
    have hB3 : B ≤ w3.heap.size := Nat.le_trans HB.out E3.out.size
    have hsz : w3.heap.size < (w3.alloc (.cells #[.string nm, .string vl, .bool false] 51)).heap.size := by simp
    have Lx : Hid (RdV 3 (w3.alloc (.cells #[.string nm, .string vl, .bool false] 51)) (some ⟨w3.heap.size, 0, none⟩) 1 1 (fdV fun _ => ⟨nm, vl, false⟩)) := (OwnV.lit 3 51 0 w3 (fdV fun _ => ⟨nm, vl, false⟩) #[.string nm, .string vl, .bool false] 1 (Nat.zero_le _) (by simp [maxLen]) rfl).rdS2
    clear k3 k1 alx
    go_wp2_with fail
    go_region_law (first | (refine step_appO rfl (.tmp 27) (.tmp 33) _ rfl 3 i0 _ 40 Tryd.underlying25 hi hz0 hz1 hz2 rfl (by omega) B _ N (fdV (shF j F)) rfl (by first | exact O3.out.alloc _ | exact (O3.out.alloc _).at_ (fun _ _ => rfl)) _ 0 1 1 (fdV fun _ => ⟨nm, vl, false⟩) rfl (by first | exact Lx.out | exact Lx.out.below36O (Below.refl _ _).drew) (by omega) (fdV_one _ _) (by simp only [maxLen]; omega) (by omega) (Nat.le_trans hB3 (Nat.le_of_lt hsz)) ?_; intro v4 w4 hown4 hg4 hob4; obtain ⟨A4, c4, rfl, _, _⟩ := hown4.rd; have K4 : w4.heap[p]? = some (.cells #[.slice A3 N c3, .int .i64 (sumW (shF j F) N : Int), .int .i64 (max : Int)] Ty3 (0, 0)) := (hg4.block p hpl (fun e => T3.out.ne (k2.symm.trans e.symm))).trans Kx; obtain ⟨x0, x1, x2⟩ := rowT K4; have fz0 := frozenRow K4 0; have fz1 := frozenRow K4 1))
    all_goals
      have hg5 : (w3.alloc (.cells #[.string nm, .string vl, .bool false] 51)).grownBy w4 (Value.slice A3 N c3).ownBlock := ⟨hg4.os, hg4.tape, hg4.output, hg4.size, hg4.block⟩
      have hB4 : B ≤ (w3.alloc (.cells #[.string nm, .string vl, .bool false] 51)).heap.size := Nat.le_trans hB3 (Nat.le_of_lt hsz)
      have F4 : Hid (FrO B (tfp p g) w w4) := (F3.out.step (FrO.of (S := tfp p g) ((Below.refl w3.heap.size w3).alloc (Nat.le_refl _) (.cells #[.string nm, .string vl, .bool false] 51)) hB3) fun i hi => .inl hi).step (FrO.grown (S := tfp p g) hg5 hB4 (fun b e => ⟨(O3.out.lt b e).1, .inr (k2.symm.trans e)⟩)) fun i hi => .inl hi
      have hnew : ∀ b, (Value.slice A4 (N + 1) c4).ownBlock = some b → g = some b ∨ w3.heap.size < b := fun b e => by
        rcases hob4 with h | h
        · exact .inl (k2.symm.trans ((show (Value.slice A3 N c3).ownBlock = (Value.slice A4 (N + 1) c4).ownBlock from h.symm).trans e))
        · have h9 : (w3.alloc (.cells #[.string nm, .string vl, .bool false] 51)).heap.size ≤ b := h b e
          exact .inr (Nat.lt_of_lt_of_le hsz h9)
      have hp3 : p < w3.heap.size := rowLt K1.out
      have hne4 : (Value.slice A4 (N + 1) c4).ownBlock ≠ some p := fun e => by
        rcases hnew p e with h | h
        · exact T3.out.ne h
        · omega
      have HO4 : Hid (OwnO 3 51 B w4 (.slice A4 (N + 1) c4) (N + 1) (fdV (appFd N (shF j F) ⟨nm, vl, false⟩))) := by
        rw [fdV_app] at hown4
        exact hown4
      have Hgn : Hid ((Value.slice A4 (N + 1) c4).ownBlock = g ∨ ∀ b, (Value.slice A4 (N + 1) c4).ownBlock = some b → w.heap.size ≤ b) := by
        rcases hob4 with h | h
        · exact .inl (h.trans k2)
        · refine .inr fun b e => ?_
          have h9 : (w3.alloc (.cells #[.string nm, .string vl, .bool false] 51)).heap.size ≤ b := h b e
          have h8 := F3.out.below.size
          omega
      obtain ⟨S2, hS2⟩ : ∃ S2, S2 = sumW (appFd N (shF j F) ⟨nm, vl, false⟩) (N + 1) := ⟨_, rfl⟩
      have hS3 : S2 = sumW (shF j F) N + X := by rw [hS2, sumW_app]; show _ = sumW (shF j F) N + X; rw [HX.out]; rfl
      have hsum := T3.out.sum
      have K5 := setRow w4 p 0 (.slice A4 (N + 1) c4) K4
      simp only [List.setIfInBounds_toArray, List.set_cons_zero, List.set_cons_succ] at K5
      have hwx : IntKind.i64.wrap ((sumW (shF j F) N : Int) + xw) = (S2 : Int) := by
        have h1 := HxX.out
        have h2 := HX.out
        rw [IntWalk.i64_in _ (by omega)]
        omega
      have K6 := setRow _ p 1 (.int .i64 (S2 : Int)) K5
      simp only [List.setIfInBounds_toArray, List.set_cons_zero, List.set_cons_succ] at K6
      have HK6 := hide K6
      obtain ⟨y0, y1, y2⟩ := rowT K5
      have z1 := frozenRow K5 1
      have HS2 := hide hS2
      clear hS2 hS3 hsum K5 K6 hg4 hg5 hob4 hown4 hnew u0 u1 u2 v0 v1 v2 t0 t1 t2 a0 a1 a2 Kx hpl Lx
      go_wp2_with fail
      first | go_end0 | (refine bodyPost_ret (results_none rfl _ _ _) rfl ?_)
      refine ⟨j, _, rfl, hj, Hmo.out, by rw [← HN.out]; exact Hen.out, (F4.out.step (FrO.set (S := tfp p g) _ p 0 _ T3.out.hp (.inl rfl)) fun i hi => .inl hi).step (FrO.set (S := tfp p g) _ p 1 _ T3.out.hp (.inl rfl)) fun i hi => .inl hi, Hgn.out, .inr ⟨Hbig.out, ?_⟩⟩
      rw [← HN.out]
      have hk6 := HK6.out
      rw [HS2.out] at hk6 ⊢
      refine ⟨⟨_, ⟨_, hk6⟩, rfl, (HO4.out.setCell hne4 0 _).setCell hne4 1 _⟩, T3.out.hp, hne4, hmx, fun i hi => ?_⟩
      unfold appFd
      by_cases h : i < N
      · rw [if_pos h]; exact T3.out.wl i h
      · rw [if_neg h]; exact hw0
end

section
open Go.RowKit Go.Deep

set_option maxHeartbeats 400000 in
theorem cloneF21 (A : Option Addr) (n c : Nat) (F : Nat → Fd) (w : World) (ha : RdV 3 w A n c (fdV F)) (hn : n ≤ 1000000) :
    Calls Tryd.prog 48 #[.slice A n c] w fun e w' => ∃ v, e = .returned v ∧ OwnV 3 51 w.heap.size w' v n (fdV F) ∧ Below w.heap.size w w' := by
  have hnil := fun (a : Option Addr) (W : World) => Lib.run_eql_slice_nil (P := Tryd.prog) W 25 51 a n c 0 0 Tryd.underlying25
  rcases A with _ | ad
  · obtain rfl : c = 0 := ha.2.2.1 rfl
    obtain rfl : n = 0 := by have := ha.1; omega
    clear ha
    go_enter Tryd.func48, Tryd.ntmps48
    go_wp2
    go_ret
    exact ⟨_, rfl, OwnV.nil _ _ _ _ _, Below.refl _ _⟩
  · obtain ⟨i0, hi, hz0, hz1, hz2⟩ := info_parts field_info
    have Ha := hide ha
    clear ha
    go_enter Tryd.func48, Tryd.ntmps48
    go_wp2_with (at_builtin; refine wp_appV rfl (.tmp 5) (.tmp 6) _ rfl 3 i0 _ 40 Tryd.underlying25 hi hz0 hz1 hz2 rfl (by omega) w.heap.size _ 0 (fdV F) rfl (OwnV.lit 3 51 w.heap.size w (fdV F) #[] 0 (Nat.le_refl _) (by simp [maxLen]) rfl) _ n c (fdV F) rfl (Ha.out.below36O ((Below.refl _ _).alloc (Nat.le_refl _) _)) (fdV_one _ _) (by simp only [maxLen]; omega) (by omega) (by simp) ?_; intro v1 w1 hown1 hg1 hob1)
    have hb1 : Below w.heap.size w w1 := ((Below.refl _ _).alloc (Nat.le_refl _) _).grown hg1 (by simp) (fun _ e => by cases e; exact Nat.le_refl _)
    go_ret
    exact ⟨_, rfl, OwnV.congr (n := n) (F := catV (0 * 3) (fdV F) (fdV F)) (by simpa using hown1) (fun i _ => by simp [catV]), hb1⟩
def updFd (G : Nat → Fd) (a : Nat) (f : Fd) : Nat → Fd := fun i => if i = a then f else G i
theorem fdV_set3 (G : Nat → Fd) (a : Nat) (f : Fd) : setV (setV (setV (fdV G) (a * 3) (.string f.name)) (a * 3 + 1) (.string f.val)) (a * 3 + 2) (.bool f.nev) = fdV (updFd G a f) := by
  funext i
  unfold setV fdV updFd
  by_cases h2 : i = a * 3 + 2
  · subst h2
    rw [if_pos rfl, show (a * 3 + 2) / 3 = a by omega, if_neg (by omega), if_neg (by omega), if_pos rfl]
  · rw [if_neg h2]
    by_cases h1 : i = a * 3 + 1
    · subst h1
      rw [if_pos rfl, show (a * 3 + 1) / 3 = a by omega, if_neg (by omega), if_pos (by omega), if_pos rfl]
    · rw [if_neg h1]
      by_cases h0 : i = a * 3
      · subst h0
        rw [if_pos rfl, show (a * 3) / 3 = a by omega, if_pos (by omega), if_pos rfl]
      · rw [if_neg h0, if_neg (show ¬ i / 3 = a by omega)]
def swF (n k : Nat) (F : Nat → Fd) : Nat → Fd := fun i => if i < k ∨ n ≤ i + k then F (n - 1 - i) else F i
theorem swF_step (n k : Nat) (F : Nat → Fd) (h : k < n - 1 - k) : ∀ i, i < n → updFd (updFd (swF n k F) k (F (n - 1 - k))) (n - 1 - k) (F k) i = swF n (k + 1) F i := by
  intro i hi
  unfold updFd swF
  by_cases h1 : i = n - 1 - k
  · rw [if_pos h1, if_pos (by omega), h1, show n - 1 - (n - 1 - k) = k by omega]
  · rw [if_neg h1]
    by_cases h2 : i = k
    · rw [if_pos h2, if_pos (by omega), h2]
    · rw [if_neg h2]
      by_cases h3 : i < k ∨ n ≤ i + k
      · rw [if_pos h3, if_pos (by omega)]
      · rw [if_neg h3, if_neg (by omega)]
theorem swF_mid (n k : Nat) (F : Nat → Fd) (h : k < n - 1 - k) : swF n k F k = F k ∧ swF n k F (n - 1 - k) = F (n - 1 - k) := by
  unfold swF
  exact ⟨if_neg (by omega), if_neg (by omega)⟩
theorem swF_end (n k : Nat) (F : Nat → Fd) (h : n - 1 ≤ k + k) : ∀ i, i < n → swF n k F i = F (n - 1 - i) := by
  intro i hi
  unfold swF
  by_cases h3 : i < k ∨ n ≤ i + k
  · rw [if_pos h3]
  · rw [if_neg h3, show n - 1 - i = i by omega]
theorem swap_own {B b n c k jn : Nat} {W : World} {F : Nat → Fd} (e1 : jn = n - 1 - k) (h : k < n - 1 - k)
    (hW : OwnV 3 51 B W (.slice (some ⟨b, 0, none⟩) n c) n (setV (setV (setV (setV (setV (setV (fdV (swF n k F)) (k * 3) (.string (F jn).name)) (k * 3 + 1) (.string (F jn).val)) (k * 3 + 2) (.bool (F jn).nev)) (jn * 3) (.string (F k).name)) (jn * 3 + 1) (.string (F k).val)) (jn * 3 + 2) (.bool (F k).nev))) :
    OwnV 3 51 B W (.slice (some ⟨b, 0, none⟩) n c) n (fdV (swF n (k + 1) F)) := by
  rw [fdV_set3, fdV_set3] at hW
  refine hW.congr (fdV_congr fun i hi => ?_)
  rw [← swF_step n k F h i hi, e1]
theorem swap_own2 {B b n c k jn : Nat} {W : World} {F : Nat → Fd} {G0 : Nat → Value} {f1 f2 : Fd} (e1 : jn = n - 1 - k) (h : k < n - 1 - k) (hG : fdV (swF n k F) = G0) (h1 : F jn = f1) (h2 : F k = f2)
    (hW : OwnV 3 51 B W (.slice (some ⟨b, 0, none⟩) n c) n (setV (setV (setV (setV (setV (setV G0 (k * 3) (.string f1.name)) (k * 3 + 1) (.string f1.val)) (k * 3 + 2) (.bool f1.nev)) (jn * 3) (.string f2.name)) (jn * 3 + 1) (.string f2.val)) (jn * 3 + 2) (.bool f2.nev))) :
    OwnV 3 51 B W (.slice (some ⟨b, 0, none⟩) n c) n (fdV (swF n (k + 1) F)) := by
  subst hG
  subst h1
  subst h2
  exact swap_own e1 h hW
set_option maxRecDepth 20000 in
set_option maxHeartbeats 3200000 in
theorem reverse21 {B : Nat} {w : World} {A : Option Addr} {n c : Nat} {F : Nat → Fd} (h : OwnV 3 51 B w (.slice A n c) n (fdV F)) (hn : n ≤ 1000000) :
    Calls Tryd.prog 62 #[.slice A n c] w fun e w' => e = .returned (.tuple #[]) ∧ OwnV 3 51 B w' (.slice A n c) n (fdV fun i => F (n - 1 - i)) ∧ Below B w w' := by
  have H := hide h
  clear h
  have hw0 : IntKind.i64.wrap ((n : Int) - 1) = (n : Int) - 1 := IntWalk.i64_in _ (by omega)
  go_enter Tryd.func62, Tryd.ntmps62
  go_wp2_with fail
  go_loopw [2, 3] (fun i j wr => ∃ (k : Nat) (jv : Int), k ≤ n ∧ i = .int .i64 k ∧ j = .int .i64 jv ∧ jv = (n : Int) - 1 - (k : Int) ∧ OwnV 3 51 B wr (.slice A n c) n (fdV (swF n k F)) ∧ Below B w wr) (fun i _ _ => n - (intOf i).toNat)
  case atStart =>
    refine ⟨0, (n : Int) - 1, Nat.zero_le _, rfl, rfl, by omega, H.out.congr (fdV_congr fun i hi => ?_), Below.refl _ _⟩
    unfold swF
    rw [if_neg (by omega)]
  case round =>
    obtain ⟨k, jv, hk, rfl, rfl, hjv, ho, hbl⟩ := hrel
    have HO := hide ho
    have HE := hide hbl
    have HJ := hide hjv
    clear ho hbl
    by_cases hlt : (k : Int) < jv
    · obtain ⟨jn, hjn⟩ : ∃ jn : Nat, jv = (jn : Int) := ⟨jv.toNat, by omega⟩
      have e1 : jn = n - 1 - k := by omega
      have hkj : k < n - 1 - k := by omega
      clear hjv
      subst hjn
      have hi1 : (k : Int) < (n : Int) := by omega
      have hi2 : (jn : Int) < (n : Int) := by omega
      have hd : decide ((k : Int) < (jn : Int)) = true := decide_eq_true hlt
      have hd' : decide (k < jn) = true := decide_eq_true (by omega)
      obtain ⟨b, hA⟩ : ∃ b, A = some ⟨b, 0, none⟩ := by
        rcases HO.out.2 with ⟨h1, h0⟩ | ⟨b, cap, cur, h1, _⟩
        · omega
        · injection h1 with h1 _ _
          exact ⟨b, h1⟩
      subst hA
      obtain ⟨m1, m2⟩ := swF_mid n k F hkj
      rw [← e1] at m2
      have g : ∀ (W : World) (G : Nat → Fd), OwnV 3 51 B W (.slice (some ⟨b, 0, none⟩) n c) n (fdV G) → ∀ a, a < n → W.cell? ⟨b, a * 3, none⟩ = some (.string (G a).name) ∧ W.cell? ⟨b, a * 3 + 1, none⟩ = some (.string (G a).val) ∧ W.cell? ⟨b, a * 3 + 2, none⟩ = some (.bool (G a).nev) := fun W G hW a ha => by
        rw [← fdV_0 G a, ← fdV_1 G a, ← fdV_2 G a]
        exact ⟨hW.cell (by omega), hW.cell (by omega), hW.cell (by omega)⟩
      obtain ⟨p0, p1, p2⟩ := g _ _ HO.out k (by omega)
      obtain ⟨q0, q1, q2⟩ := g _ _ HO.out jn (by omega)
      rw [m1] at p0 p1 p2
      rw [m2] at q0 q1 q2
      have O1 := HO.out.set (k * 3) (.string (F jn).name)
      have O2 := O1.set (k * 3 + 1) (.string (F jn).val)
      have O3 := O2.set (k * 3 + 2) (.bool (F jn).nev)
      have z1 := HO.out.frozen (k * 3)
      have z2 := O1.frozen (k * 3 + 1)
      have z3 := O2.frozen (k * 3 + 2)
      have y2 : _ = some (setV (fdV (swF n k F)) (k * 3) (.string (F jn).name) (k * 3 + 1)) := O1.cell (j := k * 3 + 1) (by omega)
      have y3 : _ = some (setV (setV (fdV (swF n k F)) (k * 3) (.string (F jn).name)) (k * 3 + 1) (.string (F jn).val) (k * 3 + 2)) := O2.cell (j := k * 3 + 2) (by omega)
      have O3' := O3
      rw [fdV_set3] at O3'
      obtain ⟨x0, _, _⟩ := g _ _ O3' jn (by omega)
      have O4 := O3.set (jn * 3) (.string (F k).name)
      have O5 := O4.set (jn * 3 + 1) (.string (F k).val)
      have O6 := O5.set (jn * 3 + 2) (.bool (F k).nev)
      have z4 := O3.frozen (jn * 3)
      have z5 := O4.frozen (jn * 3 + 1)
      have z6 := O5.frozen (jn * 3 + 2)
      have y5 := O4.cell (j := jn * 3 + 1) (by omega)
      have y6 := O5.cell (j := jn * 3 + 2) (by omega)
      have HO6 := hide O6
      have hBb : B ≤ b := by
        have := World.ownsRow.lt HO.out b rfl
        exact this.1
      have hw1 : IntKind.i64.wrap ((jn : Int) - 1) = (jn : Int) - 1 := IntWalk.i64_in _ (by omega)
      have He1 := hide e1
      have Hkj := hide hkj
      clear O1 O2 O3 O4 O5 O6 O3' g m1 m2 e1 hkj hlt
      generalize hG0 : fdV (swF n k F) = G0 at *
      generalize hf1 : F jn = f1 at *
      generalize hf2 : F k = f2 at *
      have HG := hide (And.intro hG0 (And.intro hf1 hf2))
      clear hG0 hf1 hf2
      go_wp2_with fail
      go_region
      all_goals
        have OD : Hid (OwnV 3 51 B ((((((wr.setCell ⟨b, k * 3, none⟩ (.string f1.name)).setCell ⟨b, k * 3 + 1, none⟩ (.string f1.val)).setCell ⟨b, k * 3 + 2, none⟩ (.bool f1.nev)).setCell ⟨b, jn * 3, none⟩ (.string f2.name)).setCell ⟨b, jn * 3 + 1, none⟩ (.string f2.val)).setCell ⟨b, jn * 3 + 2, none⟩ (.bool f2.nev)).drew (.slice (some ⟨b, 0, none⟩) n c) n (setV (setV (setV (setV (setV (setV G0 (k * 3) (.string f1.name)) (k * 3 + 1) (.string f1.val)) (k * 3 + 2) (.bool f1.nev)) (jn * 3) (.string f2.name)) (jn * 3 + 1) (.string f2.val)) (jn * 3 + 2) (.bool f2.nev))) := HO6.out
        have ED : Hid (Below B w ((((((wr.setCell ⟨b, k * 3, none⟩ (.string f1.name)).setCell ⟨b, k * 3 + 1, none⟩ (.string f1.val)).setCell ⟨b, k * 3 + 2, none⟩ (.bool f1.nev)).setCell ⟨b, jn * 3, none⟩ (.string f2.name)).setCell ⟨b, jn * 3 + 1, none⟩ (.string f2.val)).setCell ⟨b, jn * 3 + 2, none⟩ (.bool f2.nev)).drew) := ((((((HE.out.setCell hBb _).setCell hBb _).setCell hBb _).setCell hBb _).setCell hBb _).setCell hBb _).drew
        clear p0 p1 p2 q0 q1 q2 z1 z2 z3 z4 z5 z6 x0 y2 y3 y5 y6
        go_wp2_with fail
        go_roundw
        case rel => exact ⟨k + 1, (jn : Int) - 1, by omega, by go_num, rfl, by have h1 := He1.out; have h2 := Hkj.out; omega, swap_own2 He1.out Hkj.out HG.out.1 HG.out.2.1 HG.out.2.2 OD.out, ED.out⟩
        case measure => simp [intOf]; omega
    · have hd : decide ((k : Int) < jv) = false := decide_eq_false hlt
      have Hlt := hide hlt
      clear hlt hjv
      go_wp2_with fail
      first | go_end0 | (refine bodyPost_ret (results_none rfl _ _ _) rfl ?_)
      have hend := swF_end n k F (by have h1 := HJ.out; have h2 := Hlt.out; omega)
      exact ⟨rfl, HO.out.congr (fdV_congr hend), HE.out⟩
end

section
open Go.RowKit Go.Deep Go.ChangeShapes Go.WideShapes

theorem sumW_rev (F : Nat → Fd) (n : Nat) : sumW (fun i => F (n - 1 - i)) n = sumW F n := by
  induction n generalizing F with
  | zero => rfl
  | succ n ih =>
    rw [sumW_first]
    show wt (F (n + 1 - 1 - 0)) + sumW (shF 1 fun i => F (n + 1 - 1 - i)) n = sumW F n + wt (F n)
    rw [sumW_congr (F := shF 1 fun i => F (n + 1 - 1 - i)) (G := fun i => F (n - 1 - i)) fun i hi => by show F (n + 1 - 1 - (1 + i)) = F (n - 1 - i); congr 1; omega, ih]
    rw [show n + 1 - 1 - 0 = n by omega]
    omega
set_option maxRecDepth 20000 in
theorem all21 {B : Nat} {w : World} {p : Nat} {g : Option Nat} {n max : Nat} {F : Nat → Fd} (h : TOk B w p g n max F) (hn : n ≤ 1000000) :
    Calls Tryd.prog 40 #[.pointer (some ⟨p, 0, none⟩)] w fun e w' => ∃ v, e = .returned v ∧ OwnV 3 51 w.heap.size w' v n (fdV fun i => F (n - 1 - i)) ∧ Below w.heap.size w w' := by
  obtain ⟨A, c, T, h1, h2, h3⟩ := h.row
  obtain ⟨c0, c1, c2⟩ := rowT h1
  have Hr := hide h3.rdS
  clear h1 h2 h3 h
  go_enter Tryd.func40, Tryd.ntmps40
  go_wp2_with fail
  refine (cloneF21 A n c F w Hr.out hn).mono ?_
  rintro e w1 ⟨v, rfl, ho, hb1⟩
  obtain ⟨A1, c1', rfl, _, _⟩ := ho.rd
  have HO := hide ho
  have Hb := hide hb1
  clear ho hb1
  go_wp2_with fail
  refine (reverse21 HO.out hn).mono ?_
  rintro e w2 ⟨rfl, ho2, hb2⟩
  go_wp2_with fail
  go_ret
  exact ⟨_, rfl, ho2, Hb.out.trans hb2⟩
/-- A deed: a field and a number. -/
structure Td where
  f : Fd
  s : Int
instance : Inhabited Td := ⟨⟨default, 0⟩⟩
def RdTd (w : World) (A : Option Addr) (n c : Nat) (F : Nat → Td) : Prop :=
  n ≤ c ∧ c ≤ maxLen ∧ (A = none → c = 0) ∧ (0 < n → ∃ b off, A = some ⟨b, off, none⟩ ∧ ∀ i, i < n → w.cell? ⟨b, off + i * 4, none⟩ = some (.string (F i).f.name) ∧ w.cell? ⟨b, off + i * 4 + 1, none⟩ = some (.string (F i).f.val) ∧ w.cell? ⟨b, off + i * 4 + 2, none⟩ = some (.bool (F i).f.nev) ∧ w.cell? ⟨b, off + i * 4 + 3, none⟩ = some (.int .i64 (F i).s)) ∧
    ∀ i, i < n → (F i).f.name.size ≤ maxLen ∧ (F i).f.val.size ≤ maxLen ∧ (Lit.int .i64 (F i).s).wf = true
theorem RdTd.at_ {w : World} {A : Option Addr} {n c : Nat} {F : Nat → Td} (r : RdTd w A n c F) {i : Nat} (hi : i < n) :
    ∃ b off, A = some ⟨b, off, none⟩ ∧ w.cell? ⟨b, off + i * 4, none⟩ = some (.string (F i).f.name) ∧ w.cell? ⟨b, off + i * 4 + 1, none⟩ = some (.string (F i).f.val) ∧ w.cell? ⟨b, off + i * 4 + 2, none⟩ = some (.bool (F i).f.nev) ∧ w.cell? ⟨b, off + i * 4 + 3, none⟩ = some (.int .i64 (F i).s) := by
  obtain ⟨b, off, hA, hc⟩ := r.2.2.2.1 (by omega)
  exact ⟨b, off, hA, hc i hi⟩
theorem RdTd.below {w w' : World} {A : Option Addr} {n c : Nat} {F : Nat → Td} (r : RdTd w A n c F) (hb : Below w.heap.size w w') : RdTd w' A n c F :=
  ⟨r.1, r.2.1, r.2.2.1, fun hn => by
    obtain ⟨b, off, hA, hc⟩ := r.2.2.2.1 hn
    exact ⟨b, off, hA, fun i hi => by
      obtain ⟨h1, h2, h3, h4⟩ := hc i hi
      rw [hb.cell (World.block_lt_of_cell? w _ h1), hb.cell (World.block_lt_of_cell? w _ h2), hb.cell (World.block_lt_of_cell? w _ h3), hb.cell (World.block_lt_of_cell? w _ h4)]
      exact ⟨h1, h2, h3, h4⟩⟩, r.2.2.2.2⟩
section
variable {H : Type} {enc : TypeId × Value → H} {P : Program} {w : World} {base : Nat} {spare : Nat → Bool} {held : Bool}
theorem rdtd_of {t e : TypeId} {f0 f1 : Field} {g0 g1 g2 : Field} {fuel : Nat} {a : Option Addr} {len cap : Nat} {x : DataW H × List MemPlace} (ht : P.underlying t = some (.slice e)) (he : P.underlying e = some (.struct #[f0, f1]))
    (hC : P.cellsOf e = 4) (o0 : f0.offset = 0) (o1 : f1.offset = 3) (k0 : P.cellsOf f0.type = 3) (k1 : P.cellsOf f1.type = 1) (u0 : P.underlying f0.type = some (.struct #[g0, g1, g2])) (u1 : P.underlying f1.type = some (.int .i64))
    (p0 : g0.offset = 0) (p1 : g1.offset = 1) (p2 : g2.offset = 2) (m0 : P.cellsOf g0.type = 1) (m1 : P.cellsOf g1.type = 1) (m2 : P.cellsOf g2.type = 1) (v0 : P.underlying g0.type = some .string) (v1 : P.underlying g1.type = some .string) (v2 : P.underlying g2.type = some .bool)
    (h : DataW.trod enc P w base spare held fuel t [.slice a len cap] = some x) : ∃ F, RdTd w a len cap F := by
  rcases open_slice ht h with ⟨hcs, _⟩ | ⟨ad, l, c, m, n, D, Pl, hcs, _, hl, hm, hmm, _, hi⟩
  · simp at hcs
    obtain ⟨rfl, rfl, rfl⟩ := hcs
    exact ⟨fun _ => default, Nat.le_refl _, by simp [maxLen], fun _ => rfl, fun h => absurd h (by omega), fun i hi => absurd hi (by omega)⟩
  · simp at hcs
    obtain ⟨rfl, rfl, rfl⟩ := hcs
    have hlm : len ≤ m := by rw [hmm]; split <;> omega
    have key : ∀ i, i < len → ∃ p : Td, (w.cell? (ad.add (i * 4)) = some (.string p.f.name) ∧ w.cell? ((ad.add (i * 4)).add 1) = some (.string p.f.val) ∧ w.cell? ((ad.add (i * 4)).add 2) = some (.bool p.f.nev) ∧ w.cell? ((ad.add (i * 4)).add 3) = some (.int .i64 p.s)) ∧ p.f.name.size ≤ maxLen ∧ p.f.val.size ≤ maxLen ∧ (Lit.int .i64 p.s).wf = true := by
      intro i him
      obtain ⟨cs', hc, ht'⟩ := hi i (by omega)
      rw [hC] at hc
      obtain ⟨_, hcl, hat⟩ := World.cells?_some hc
      obtain ⟨ys, n', _, _, _, hyl, hf⟩ := DataW.trod_struct he ht'
      match cs', hcl, hat, ys, hyl, hf with
      | [q0, q1, q2, q3], _, hat, [ya, yb], _, hf =>
        have a0 := hf 0 f0 rfl
        have a1 := hf 1 f1 rfl
        rw [o0, k0] at a0
        rw [o1, k1] at a1
        have b0 : DataW.trod enc P w base spare held n' f0.type [q0, q1, q2] = some ya := a0
        obtain ⟨x3, e3, _, w3⟩ := DataW.trod_int u1 (show DataW.trod enc P w base spare held n' f1.type [q3] = some yb from a1)
        obtain ⟨zs, n2, _, _, _, hzl, hg⟩ := DataW.trod_struct u0 b0
        match zs, hzl, hg with
        | [za, zb, zc], _, hg =>
          have c0 := hg 0 g0 rfl
          have c1 := hg 1 g1 rfl
          have c2 := hg 2 g2 rfl
          rw [p0, m0] at c0
          rw [p1, m1] at c1
          rw [p2, m2] at c2
          obtain ⟨x0, e0, _, w0⟩ := DataW.trod_string v0 (show DataW.trod enc P w base spare held n2 g0.type [q0] = some za from c0)
          obtain ⟨x1, e1, _, w1⟩ := DataW.trod_string v1 (show DataW.trod enc P w base spare held n2 g1.type [q1] = some zb from c1)
          obtain ⟨x2, e2, _⟩ := DataW.trod_bool v2 (show DataW.trod enc P w base spare held n2 g2.type [q2] = some zc from c2)
          simp at e0 e1 e2 e3
          subst e0
          subst e1
          subst e2
          subst e3
          have h0 := hat 0 (by omega)
          have h1 := hat 1 (by omega)
          have h2 := hat 2 (by omega)
          have h3 := hat 3 (by omega)
          refine ⟨⟨⟨x0, x1, x2⟩, x3⟩, ⟨?_, by simpa using h1, by simpa using h2, by simpa using h3⟩, w0, w1, w3⟩
          have e : (ad.add (i * 4)).add 0 = ad.add (i * 4) := by simp [Addr.add]
          rw [e] at h0
          simpa using h0
    obtain ⟨F, hF⟩ := choose_lt key
    refine ⟨F, hl, hm, fun e => (by cases e), fun hn => ?_, fun i hi => (hF i hi).2⟩
    obtain ⟨b, off, spot⟩ := ad
    have h0 := (hF 0 hn).1.1
    have hs : spot = none := by simpa [Addr.add] using World.cell?_spot h0
    subst hs
    refine ⟨b, off, rfl, fun i hi => ?_⟩
    have := (hF i hi).1
    rw [Addr.add_lit, Addr.add_lit, Addr.add_lit, Addr.add_lit] at this
    exact this
end
end

section
open Go.RowKit Go.Deep Go.ChangeShapes Go.WideShapes

def fda : Fd := ⟨⟨#[97]⟩, ⟨#[98]⟩, false⟩
def fdc : Fd := ⟨⟨#[99]⟩, ⟨#[100]⟩, false⟩
def fde : Fd := ⟨⟨#[101]⟩, ⟨#[102]⟩, false⟩
def fdac : Nat → Fd := fun i => if i = 0 then fda else fdc
def fdce : Nat → Fd := fun i => if i = 0 then fdc else fde
theorem TOk.congr {B : Nat} {w : World} {p : Nat} {g : Option Nat} {n max : Nat} {F G : Nat → Fd} (h : TOk B w p g n max F) (e : ∀ i, i < n → F i = G i) : TOk B w p g n max G := by
  obtain ⟨⟨v, h1, h2, h3⟩, h4, h5, h6, h7⟩ := h
  refine ⟨⟨v, ?_, h2, h3.congr (fdV_congr e)⟩, h4, h5, h6, fun i hi => by rw [← e i hi]; exact h7 i hi⟩
  rw [← sumW_congr e]
  exact h1
end
end Go.Proofs.YtnkcbljhgcgpaaaDoor
