/- Words for a row of elements of s cells in a block of the call's own, that begins anywhere in it ('OwnO'): what 'l = l[1:]' leaves; and append onto it. Plain theorems; no program is named. -/
import Derived.Test.YteikpdolickkaaaMA
import Derived.Test.YteikpdolickkaaaVal
import Derived.ArgAppend
namespace Go.Proofs.Yteikpdolickkaaa
open Go.RowKit Go.ChangeShapes Go.WideShapes Go.Deep

/-- A row of the call's own, at an offset in its block. -/
def OwnO (s : Nat) (e : TypeId) (B : Nat) (w : World) (v : Value) (n : Nat) (F : Nat → Value) : Prop :=
  (v = .slice none 0 0 ∧ n = 0) ∨ ∃ (g off cap : Nat) (cur : Array Value), v = .slice (some ⟨g, off, none⟩) n cap ∧ B ≤ g ∧ w.heap[g]? = some (.cells cur e (0, 0)) ∧ n ≤ cap ∧ cap ≤ maxLen ∧ off + cap * s ≤ cur.size ∧ ∀ i, i < n * s → cur[off + i]? = some (F i)
section
variable {s : Nat} {e : TypeId} {B : Nat} {w w' : World} {v : Value} {n : Nat} {F G : Nat → Value}
theorem OwnO.nil (s : Nat) (e : TypeId) (B : Nat) (w : World) (F : Nat → Value) : OwnO s e B w (.slice none 0 0) 0 F := .inl ⟨rfl, rfl⟩
theorem OwnV.toO (h : OwnV s e B w v n F) : OwnO s e B w v n F := by
  have h0 := h
  unfold OwnV at h0
  rcases h0.2 with h2 | ⟨g, cap, cur, rfl, hB, hh, hnc, hcm, hsz, htake⟩
  · exact .inl h2
  · refine .inr ⟨g, 0, cap, cur, rfl, hB, hh, hnc, hcm, by omega, fun i hi => ?_⟩
    have h1 : (rowV (n * s) F)[i]? = some (F i) := rowV_get _ _ _ hi
    rw [← htake, List.getElem?_take, if_pos hi] at h1
    rw [Nat.zero_add]
    simpa using h1
theorem OwnO.at_ (h : OwnO s e B w v n F) (hb : ∀ b, v.ownBlock = some b → w'.heap[b]? = w.heap[b]?) : OwnO s e B w' v n F := by
  rcases h with h | ⟨g, off, cap, cur, rfl, hB, hh, r⟩
  · exact .inl h
  · exact .inr ⟨g, off, cap, cur, rfl, hB, (hb g rfl).trans hh, r⟩
theorem OwnO.lt (h : OwnO s e B w v n F) (b : Nat) (hb : v.ownBlock = some b) : B ≤ b ∧ b < w.heap.size := by
  rcases h with ⟨rfl, _⟩ | ⟨g, off, cap, cur, rfl, hB, hh, r⟩
  · cases hb
  · cases hb
    exact ⟨hB, rowLt hh⟩
theorem OwnO.below (h : OwnO s e B w v n F) (hb : Below w.heap.size w w') : OwnO s e B w' v n F := h.at_ fun b hv => hb.block b (h.lt b hv).2
theorem OwnO.alloc (h : OwnO s e B w v n F) (o : Obj) : OwnO s e B (w.alloc o) v n F := h.below ((Below.refl _ _).alloc (Nat.le_refl _) _)
theorem OwnO.base (h : OwnO s e B w v n F) {B' : Nat} (hB : B' ≤ B) : OwnO s e B' w v n F := by
  rcases h with h | ⟨g, off, cap, cur, rfl, h1, r⟩
  · exact .inl h
  · exact .inr ⟨g, off, cap, cur, rfl, Nat.le_trans hB h1, r⟩
theorem OwnO.congr (h : OwnO s e B w v n F) (hfg : ∀ i, i < n * s → F i = G i) : OwnO s e B w v n G := by
  rcases h with h | ⟨g, off, cap, cur, rfl, h1, h2, h3, h4, h5, h6⟩
  · exact .inl h
  · exact .inr ⟨g, off, cap, cur, rfl, h1, h2, h3, h4, h5, fun i hi => by rw [h6 i hi, hfg i hi]⟩
theorem OwnO.setCell (h : OwnO s e B w v n F) {p : Nat} (hp : v.ownBlock ≠ some p) (j : Nat) (u : Value) : OwnO s e B (w.setCell ⟨p, j, none⟩ u) v n F := h.at_ fun b hv => Below.heap_setCell _ _ _ _ (fun e => hp (by rw [hv, e]))
theorem OwnO.grown (h : OwnO s e B w v n F) {g : Nat} (hg : w.grownBy w' (some g)) (hne : v.ownBlock ≠ some g) : OwnO s e B w' v n F := h.at_ fun b hv => hg.block b (h.lt b hv).2 (fun e => hne (by rw [hv, e]))
theorem OwnO.rd (h : OwnO s e B w v n F) : ∃ A c, v = .slice A n c ∧ RdV s w A n c F ∧ ∀ a, A = some a → B ≤ a.block ∧ a.block < w.heap.size := by
  rcases h with ⟨rfl, rfl⟩ | ⟨g, off, cap, cur, rfl, h1, h2, h3, h4, h5, h6⟩
  · exact ⟨none, 0, rfl, ⟨Nat.le_refl _, by simp [maxLen], fun _ => rfl, fun h => absurd h (by omega)⟩, fun a ha => by cases ha⟩
  · refine ⟨_, _, rfl, ⟨h3, h4, fun e => (by cases e), fun hn => ⟨g, off, rfl, fun i hi => ?_⟩⟩, fun a ha => by cases ha; exact ⟨h1, rowLt h2⟩⟩
    rw [cell_of_row w g (off + i) _ _ _ h2]
    exact h6 i hi
theorem OwnO.rdS {A : Option Addr} {c : Nat} (h : OwnO s e B w (.slice A n c) n F) : RdV s w A n c F := by
  obtain ⟨A', c', e', h4, _⟩ := h.rd
  injection e' with e1 _ e2
  subst e1
  subst e2
  exact h4
/-- v[lo:]. -/
theorem OwnO.cut {g off cap : Nat} (h : OwnO s e B w (.slice (some ⟨g, off, none⟩) n cap) n F) {lo : Nat} (hlo : lo ≤ n) : OwnO s e B w (.slice (if cap = lo then some ⟨g, off, none⟩ else some ⟨g, off + lo * s, none⟩) (n - lo) (cap - lo)) (n - lo) (fun i => F (lo * s + i)) := by
  rcases h with ⟨h, _⟩ | ⟨g', off', cap', cur, e1, h1, h2, h3, h4, h5, h6⟩
  · cases h
  · cases e1
    by_cases hc : cap = lo
    · rw [if_pos hc]
      refine .inr ⟨g, off, cap - lo, cur, rfl, h1, h2, by omega, by omega, ?_, fun i hi => ?_⟩
      · rw [show cap - lo = 0 by omega, Nat.zero_mul]; omega
      · rw [show n - lo = 0 by omega, Nat.zero_mul] at hi; omega
    · rw [if_neg hc]
      refine .inr ⟨g, off + lo * s, cap - lo, cur, rfl, h1, h2, by omega, by omega, ?_, fun i hi => ?_⟩
      · have : lo * s + (cap - lo) * s = cap * s := by rw [← Nat.add_mul]; congr 1; omega
        omega
      · rw [Nat.add_assoc]
        refine h6 (lo * s + i) ?_
        have : lo * s + (n - lo) * s = n * s := by rw [← Nat.add_mul]; congr 1; omega
        omega
/-- A store to one of its cells. -/
theorem OwnO.set {g off cap : Nat} (h : OwnO s e B w (.slice (some ⟨g, off, none⟩) n cap) n F) (j : Nat) (x : Value) : OwnO s e B (w.setCell ⟨g, off + j, none⟩ x) (.slice (some ⟨g, off, none⟩) n cap) n (setV F j x) := by
  rcases h with ⟨h, _⟩ | ⟨g', off', cap', cur, e1, h1, h2, h3, h4, h5, h6⟩
  · cases h
  · cases e1
    refine .inr ⟨g, off, cap, _, rfl, h1, setRow w g (off + j) x h2, h3, h4, by simpa using h5, fun i hi => ?_⟩
    have h7 := h6 i hi
    have h8 : off + i < cur.size := (Array.getElem?_eq_some_iff.1 h7).1
    unfold setV
    rw [Array.getElem?_setIfInBounds]
    by_cases hij : i = j
    · subst hij
      rw [if_pos rfl, if_pos rfl, if_pos h8]
    · rw [if_neg (by omega), if_neg hij]
      exact h7
end
theorem setCells_blk (g : Nat) (e : TypeId) : ∀ (vs : List Value) (o : Nat) (w : World) (cur : Array Value), w.heap[g]? = some (.cells cur e (0, 0)) →
    (∃ cur', (w.setCells g o vs).heap[g]? = some (.cells cur' e (0, 0)) ∧ cur'.size = cur.size) ∧ w.grownBy (w.setCells g o vs) (some g)
  | [], o, w, cur, h => ⟨⟨cur, h, rfl⟩, World.grownBy.refl _ _⟩
  | v :: r, o, w, cur, h => by
    obtain ⟨⟨cur', h1, h2⟩, h3⟩ := setCells_blk g e r (o + 1) (w.setCell ⟨g, o, none⟩ v) _ (setRow w g o v h)
    exact ⟨⟨cur', h1, h2.trans (by simp)⟩, (grown_set w g o v).trans h3⟩
section
variable {P : Program} {e : TypeId} {w : World}
/-- append(v, x...): v a row of the call's own at any offset, x not nil. -/
theorem run_appO (s : Nat) (t ty : TypeId) (i : TypeInfo) (z : Value) (bytes : Nat) (ht : P.underlying t = some (.slice e)) (hi : P.info? e = some i) (hz : i.zero = some z) (hsize : i.size = s) (hby : i.bytes = bytes) (hzs : z.cells.size = s) (hs : 0 < s)
    (B : Nat) (v : Value) (n : Nat) (F : Nat → Value) (hown : OwnO s e B w v n F) (b0 o0 m c : Nat) (G : Nat → Value) (hr : RdV s w (some ⟨b0, o0, none⟩) m c G) (hm : 0 < m) (hG : ∀ i, i < m * s → (G i).oneCell' = true)
    (h63 : n + m ≤ maxLen) (hbytes : (n + m) * bytes ≤ 140737488355328) (hbase : B ≤ w.heap.size) :
    ∃ v' w', (Builtin.append_ #[t, t] ty #[v, .slice (some ⟨b0, o0, none⟩) m c]).run P w = .ok v' w' ∧ OwnO s e B w' v' (n + m) (catV (n * s) F G) ∧ w.grownBy w' v.ownBlock ∧ (v'.ownBlock = v.ownBlock ∨ ∀ b, v'.ownBlock = some b → w.heap.size ≤ b) := by
  rcases hown with ⟨rfl, rfl⟩ | ⟨g, off, cap, cur, rfl, h1, h2, h3, h4, h5, h6⟩
  · obtain ⟨v', w', r1, r2, r3, r4⟩ := run_appV (P := P) (w := w) s t ty i z bytes ht hi hz hsize hby hzs hs B _ 0 F (OwnV.nil s e B w F) _ m c G hr hG h63 hbytes hbase
    exact ⟨v', w', r1, r2.toO, r3, r4.imp id fun h b hb => by rw [h] at hb; cases hb; exact Nat.le_refl _⟩
  · subst hsize
    have hcells : ∀ j u, (rowV (m * i.size) G)[j]? = some u → w.cell? ((⟨b0, o0, none⟩ : Addr).add j) = some u := by
      intro j u hu
      obtain ⟨hj, rfl⟩ := rowV_get_some hu
      obtain ⟨b, o, hA, hc⟩ := hr.2.2.2 hm
      cases hA
      rw [Addr.add_lit]
      exact hc j hj
    have hcur : ∀ j, w.cell? ⟨g, j, none⟩ = cur[j]? := fun j => cell_of_row w g j _ _ _ h2
    by_cases hroom : n + m ≤ cap
    · have hmul : n * i.size + m * i.size ≤ cap * i.size := by rw [← Nat.add_mul]; exact Nat.mul_le_mul_right _ hroom
      have hin : ∀ j, j < (rowV (m * i.size) G).length → (w.cell? ⟨g, off + n * i.size + j, none⟩).isSome = true := fun j hj => by
        rw [rowV_len] at hj
        rw [hcur, Array.getElem?_eq_getElem (by omega)]
        rfl
      have hrun := run_append_room_cells (P := P) w t ty e i ht hi g off n cap ⟨b0, o0, none⟩ m c _ (rowV_len _ _) hcells (rowV_one hG) hroom hin (fun j _ => frozenRow h2 _)
      obtain ⟨⟨cur', k1, k2⟩, k3⟩ := setCells_blk g e (rowV (m * i.size) G) (off + n * i.size) w cur h2
      refine ⟨_, _, hrun, .inr ⟨g, off, cap, cur', rfl, h1, k1, hroom, h4, by omega, fun j hj => ?_⟩, k3, .inl rfl⟩
      have hcur' : ∀ j, (w.setCells g (off + n * i.size) (rowV (m * i.size) G)).cell? ⟨g, j, none⟩ = cur'[j]? := fun j => cell_of_row _ g j _ _ _ k1
      rw [Nat.add_mul] at hj
      rw [← hcur' (off + j)]
      unfold catV
      by_cases hjn : j < n * i.size
      · rw [if_pos hjn, World.cell?_setCells_out g _ _ _ _ (fun _ _ => .inl (by simp only; omega)), hcur]
        exact h6 j hjn
      · rw [if_neg hjn]
        have := World.cell?_setCells_in g (rowV (m * i.size) G) (off + n * i.size) w hin (j - n * i.size) (by rw [rowV_len]; omega)
        rw [show off + n * i.size + (j - n * i.size) = off + j by omega] at this
        rw [this]
        have h8 := rowV_get (m * i.size) G (j - n * i.size) (by omega)
        rw [List.getElem?_eq_getElem (by rw [rowV_len]; omega)] at h8
        exact h8
    · have holds : ∀ j u, (rowV (n * i.size) F)[j]? = some u → w.cell? ((⟨g, off, none⟩ : Addr).add j) = some u := fun j u hu => by
        obtain ⟨hj, rfl⟩ := rowV_get_some hu
        rw [Addr.add_lit, hcur]
        exact h6 j hj
      obtain ⟨v', w', r1, r2, r3⟩ := run_append_arg_grows (P := P) w t ty e i z i.size bytes ht hi hz rfl hby hzs hs ⟨g, off, none⟩ n cap (rowV (n * i.size) F) (rowV_len _ _) holds ⟨b0, o0, none⟩ m c _ (rowV_len _ _) hcells (by omega) h63 hbytes
      rw [rowV_cat, ← Nat.add_mul] at r2
      have r4 : OwnV i.size e w.heap.size w' v' (n + m) (catV (n * i.size) F G) := r2
      refine ⟨v', w', r1, r4.toO.base hbase, ⟨r3.os, r3.tape, r3.output, r3.size, fun k hk _ => r3.block k hk (by simp)⟩, .inr fun b hb => (World.ownsRow.lt r2 b hb).1⟩
theorem wp_appO {ops : Array Oper} {rest : List Oper} {o : Oper} {a : Act} {Q : Exit → Act → World → Prop} (hgd : o.guard = none) (s x : Operand) (t : TypeId) (ho : o.op = .call { callee := .builtin .append, args := #[s, x], argTypes := #[t, t] })
    (sz : Nat) (i : TypeInfo) (z : Value) (bytes : Nat) (ht : P.underlying t = some (.slice e)) (hi : P.info? e = some i) (hz : i.zero = some z) (hsize : i.size = sz) (hby : i.bytes = bytes) (hzs : z.cells.size = sz) (hs0 : 0 < sz)
    (B : Nat) (v : Value) (n : Nat) (F : Nat → Value) (hs : a.eval s = v) (hown : OwnO sz e B w v n F) (b0 o0 m c : Nat) (G : Nat → Value) (hx : a.eval x = .slice (some ⟨b0, o0, none⟩) m c) (hr : RdV sz w (some ⟨b0, o0, none⟩) m c G) (hm : 0 < m) (hG : ∀ i, i < m * sz → (G i).oneCell' = true)
    (h63 : n + m ≤ maxLen) (hbytes : (n + m) * bytes ≤ 140737488355328) (hbase : B ≤ w.heap.size)
    (h : ∀ v' w', OwnO sz e B w' v' (n + m) (catV (n * sz) F G) → w.grownBy w' v.ownBlock → (v'.ownBlock = v.ownBlock ∨ ∀ b, v'.ownBlock = some b → w.heap.size ≤ b) → wpList P ops Q rest (a.put o.dst v') w') : wpList P ops Q (o :: rest) a w := by
  refine wpList_plain hgd fun K hK => ?_
  obtain ⟨v', w', hrun, h2, h3, h4⟩ := run_appO (P := P) sz t o.type i z bytes ht hi hz hsize hby hzs hs0 B v n F hown b0 o0 m c G hr hm hG h63 hbytes hbase
  unfold Oper.wp execOp
  simp only [ho, resolve, invoke, builtin, Sem.run_bind, Sem.run_pure, Result.andThen_ok, List.map_toArray, List.map_cons, List.map_nil, hs, hx, hrun]
  exact hK _ _ (h v' w' h2 h3 h4)
end
theorem RdV.below36O {s : Nat} {w w' : World} {A : Option Addr} {n c : Nat} {F : Nat → Value} (h : RdV s w A n c F) (hb : Below w.heap.size w w') : RdV s w' A n c F :=
  ⟨h.1, h.2.1, h.2.2.1, fun hn => by
    obtain ⟨b, off, hA, hc⟩ := h.2.2.2 hn
    exact ⟨b, off, hA, fun i hi => by
      have h1 := hc i hi
      rw [hb.cell (World.block_lt_of_cell? w _ h1)]
      exact h1⟩⟩
theorem OwnV.base36O {s : Nat} {e : TypeId} {B B' : Nat} {w : World} {v : Value} {n : Nat} {F : Nat → Value} (h : OwnV s e B w v n F) (hB : B' ≤ B) : OwnV s e B' w v n F := by
  refine ⟨h.1, ?_⟩
  rcases h.2 with h2 | ⟨g, cap, cur, hv, hg, hh, r⟩
  · exact .inl h2
  · exact .inr ⟨g, cap, cur, hv, Nat.le_trans hB hg, hh, r⟩
/-- Of the old blocks only those of a set turn. -/
structure FrO (B : Nat) (S : Nat → Prop) (w w' : World) : Prop where
  below : Below B w w'
  keep : ∀ i, i < w.heap.size → ¬ S i → w'.heap[i]? = w.heap[i]?
section
variable {B : Nat} {S T : Nat → Prop} {w w1 w' : World}
theorem FrO.of (h : Below w.heap.size w w') (hB : B ≤ w.heap.size) : FrO B S w w' := ⟨⟨h.os, h.tape, h.output, h.size, fun i hi => h.block i (Nat.lt_of_lt_of_le hi hB)⟩, fun i hi _ => h.block i hi⟩
theorem FrO.step (h : FrO B S w w1) (k : FrO B T w1 w') (hT : ∀ i, T i → S i ∨ w.heap.size ≤ i) : FrO B S w w' :=
  ⟨h.below.trans k.below, fun i hi hs => (k.keep i (Nat.lt_of_lt_of_le hi h.below.size) (fun ht => (hT i ht).elim hs (fun h1 => by omega))).trans (h.keep i hi hs)⟩
theorem FrO.grown {g : Option Nat} (hg : w.grownBy w' g) (hB : B ≤ w.heap.size) (h : ∀ b, g = some b → B ≤ b ∧ S b) : FrO B S w w' :=
  ⟨(Below.refl _ _).grown hg hB (fun b e => (h b e).1), fun i hi hs => hg.block i hi (fun e => hs (h i e.symm).2)⟩
theorem FrO.set (w : World) (p j : Nat) (u : Value) (hp : B ≤ p) (hS : S p) : FrO B S w (w.setCell ⟨p, j, none⟩ u) :=
  ⟨(Below.refl _ _).setCell hp _, fun i _ hs => Below.heap_setCell _ _ _ _ (fun e => hs (by rw [e]; exact hS))⟩
theorem FrO.drew (h : FrO B S w w') : FrO B S w w'.drew := ⟨h.below.drew, h.keep⟩
theorem FrO.row {o : Obj} {p : Nat} (h : FrO B S w w') (hr : w.heap[p]? = some o) (hp : ¬ S p) : w'.heap[p]? = some o := (h.keep p (rowLt hr) hp).trans hr
theorem FrO.mono (h : FrO B S w w') (hST : ∀ i, S i → T i) : FrO B T w w' := ⟨h.below, fun i hi ht => h.keep i hi fun hs => ht (hST i hs)⟩
end
end Go.Proofs.Yteikpdolickkaaa
