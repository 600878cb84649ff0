/- Layer 36: rows of eight bytes in the memory; a law's parameter of that kind. -/
import Derived.Test.YteikpdolickkaaaPi6
import Derived.Deep.Slices
import Derived.PlainAid
namespace Go.Proofs.Yteikpdolickkaaa
open Go.RowKit Go.Maps Go.Deep Go.ChangeShapes Go.WideShapes

theorem ownV_at36 {s : Nat} {e : TypeId} {B : Nat} {w w' : World} {v : Value} {n : Nat} {F : Nat → Value} (h : OwnV s e B w v n F) (hb : ∀ i, v.ownBlock = some i → w'.heap[i]? = w.heap[i]?) : OwnV s e B w' v n F := by
  refine ⟨h.1, ?_⟩
  rcases h.2 with h2 | ⟨g, cap, cur, hv, hg, hh, r⟩
  · exact .inl h2
  · exact .inr ⟨g, cap, cur, hv, hg, (hb g (by rw [hv]; rfl)).trans hh, r⟩
theorem RdV.below36 {s : Nat} {w w' : World} {A : Option Addr} {n c : Nat} {F : Nat → Value} (h : RdV s w A n c F) (hb : Below w.heap.size w w') : RdV s w' A n c F :=
  ⟨h.1, h.2.1, h.2.2.1, fun hn => by
    obtain ⟨b, off, hA, hc⟩ := h.2.2.2 hn
    exact ⟨b, off, hA, fun i hi => by
      have h1 := hc i hi
      rw [hb.cell (World.block_lt_of_cell? w _ h1)]
      exact h1⟩⟩
theorem arr36_info : (Try.prog.info? 216).map (fun i => (i.zero, i.size, i.bytes)) = some (some (.agg #[.int .u8 0, .int .u8 0, .int .u8 0, .int .u8 0, .int .u8 0, .int .u8 0, .int .u8 0, .int .u8 0]), 8, 8) := by kernel_rfl
theorem RdV.lit8 (w : World) (F : Nat → Int) : RdV 8 (w.alloc (.cells #[.int .u8 (F 0), .int .u8 (F 1), .int .u8 (F 2), .int .u8 (F 3), .int .u8 (F 4), .int .u8 (F 5), .int .u8 (F 6), .int .u8 (F 7)] 216)) (some ⟨w.heap.size, 0, none⟩) 1 1 (fun j => .int .u8 (F j)) :=
  (OwnV.lit 8 216 0 w (fun j => .int .u8 (F j)) #[.int .u8 (F 0), .int .u8 (F 1), .int .u8 (F 2), .int .u8 (F 3), .int .u8 (F 4), .int .u8 (F 5), .int .u8 (F 6), .int .u8 (F 7)] 1 (Nat.zero_le _) (by simp [maxLen]) rfl).rdS2
/-- The eight cells of an element, by the walk's addresses. -/
theorem RdV.at8 {w : World} {A : Option Addr} {n c : Nat} {L : Nat → Nat → Int} (h : RdV 8 w A n c (celA L)) {k : Nat} (hk : k < n) : ∃ b off, A = some ⟨b, off, none⟩ ∧ w.cell? ⟨b, off + k * 8, none⟩ = some (.int .u8 (L k 0)) ∧ w.cell? ⟨b, off + k * 8 + 1, none⟩ = some (.int .u8 (L k 1)) ∧ w.cell? ⟨b, off + k * 8 + 2, none⟩ = some (.int .u8 (L k 2)) ∧ w.cell? ⟨b, off + k * 8 + 3, none⟩ = some (.int .u8 (L k 3)) ∧ w.cell? ⟨b, off + k * 8 + 4, none⟩ = some (.int .u8 (L k 4)) ∧ w.cell? ⟨b, off + k * 8 + 5, none⟩ = some (.int .u8 (L k 5)) ∧ w.cell? ⟨b, off + k * 8 + 6, none⟩ = some (.int .u8 (L k 6)) ∧ w.cell? ⟨b, off + k * 8 + 7, none⟩ = some (.int .u8 (L k 7)) := by
  obtain ⟨b, off, hA, hc⟩ := h.2.2.2 (by omega)
  have g : ∀ j, j < 8 → w.cell? ⟨b, off + k * 8 + j, none⟩ = some (.int .u8 (L k j)) := fun j hj => by
    have := hc (k * 8 + j) (by omega)
    rw [celA_at _ _ _ hj, ← Nat.add_assoc] at this
    exact this
  exact ⟨b, off, hA, g 0 (by omega), g 1 (by omega), g 2 (by omega), g 3 (by omega), g 4 (by omega), g 5 (by omega), g 6 (by omega), g 7 (by omega)⟩
section
variable {H : Type} {enc : TypeId × Value → H} {P : Program} {w : World} {base : Nat} {spare : Nat → Bool} {held : Bool}
theorem rda_of {t e e1 : TypeId} {fuel : Nat} {a : Option Addr} {len cap : Nat} {x : DataW H × List MemPlace} (ht : P.underlying t = some (.slice e)) (he : P.underlying e = some (.array 8 e1))
    (hC : P.cellsOf e = 8) (hC1 : P.cellsOf e1 = 1) (u1 : P.underlying e1 = some (.int .u8))
    (h : DataW.trod enc P w base spare held fuel t [.slice a len cap] = some x) : ∃ L, RdV 8 w a len cap (celA L) ∧ ∀ i, i < len → Byt 8 (L i) := by
  rcases open_slice ht h with ⟨hcs, _⟩ | ⟨ad, l, c, m, n, D, Pl, hcs, _, hl, hm, hmm, _, hi⟩
  · simp at hcs
    obtain ⟨rfl, rfl, rfl⟩ := hcs
    exact ⟨fun _ _ => 0, ⟨Nat.le_refl _, by simp [maxLen], fun _ => rfl, fun h => absurd h (by omega)⟩, fun i hi => by omega⟩
  · simp at hcs
    obtain ⟨rfl, rfl, rfl⟩ := hcs
    have hlm : len ≤ m := by rw [hmm]; split <;> omega
    have key : ∀ i, i < len → ∃ g : Nat → Int, (∀ j, j < 8 → w.cell? ((ad.add (i * 8)).add j) = some (.int .u8 (g j))) ∧ Byt 8 g := by
      intro i him
      obtain ⟨cs', hc, ht'⟩ := hi i (by omega)
      rw [hC] at hc
      obtain ⟨_, hcl, hat⟩ := World.cells?_some hc
      obtain ⟨ys, n', _, _, _, hyl, hf⟩ := DataW.trod_array he ht'
      have inner : ∀ j, j < 8 → ∃ v : Int, w.cell? ((ad.add (i * 8)).add j) = some (.int .u8 v) ∧ (0 ≤ v ∧ v ≤ 255) := by
        intro j hj
        have h1 := hf j hj
        rw [hC1, Nat.mul_one] at h1
        have hjl : j < cs'.length := by omega
        have h2 : (cs'.drop j).take 1 = [cs'[j]] := by
          rw [List.drop_eq_getElem_cons hjl]
          rfl
        rw [h2, List.getElem?_eq_getElem (by omega)] at h1
        obtain ⟨v, e, _, wv⟩ := DataW.trod_int u1 h1
        simp at e
        refine ⟨v, ?_, ?_⟩
        · rw [hat j hj, List.getElem?_eq_getElem hjl, e]
        · have := bounds_u8 wv
          omega
      obtain ⟨g, hg⟩ := choose_lt inner
      exact ⟨g, fun j hj => (hg j hj).1, fun j hj => (hg j hj).2⟩
    obtain ⟨L, hL⟩ := choose_lt key
    refine ⟨L, ⟨hl, hm, fun e => (by cases e), fun hn => ?_⟩, fun i hi => (hL i hi).2⟩
    obtain ⟨b, off, spot⟩ := ad
    have h0 := (hL 0 hn).1 0 (by omega)
    have hs : spot = none := by simpa [Addr.add] using World.cell?_spot h0
    subst hs
    refine ⟨b, off, rfl, fun i hi => ?_⟩
    have := (hL (i / 8) (by omega)).1 (i % 8) (by omega)
    rw [Addr.add_lit, Addr.add_lit, Nat.add_assoc, show i / 8 * 8 + i % 8 = i by omega] at this
    exact this
end
/-- Those that wait, and those that are left. -/
structure OrS (B p bm : Nat) (w : World) (v : Value) (k ns : Nat) (L : Nat → Nat → Int) : Prop where
  pg : PgOk B w p bm ns 40 (k : Int) (cntA L k)
  own : OwnV 8 216 B w v k (celA L)
  byt : ∀ i, i < k → Byt 8 (L i)
  n1 : v.ownBlock ≠ some p
  n2 : v.ownBlock ≠ some bm
theorem OwnV.frP {s : Nat} {e : TypeId} {B p bm : Nat} {w w' : World} {v : Value} {n : Nat} {F : Nat → Value} (h : OwnV s e B w v n F) (n1 : v.ownBlock ≠ some p) (n2 : v.ownBlock ≠ some bm) (hf : FrP B p bm w w') : OwnV s e B w' v n F :=
  ownV_at36 h fun i hi => hf.keep i (World.ownsRow.lt h i hi).2 (fun e => n1 (by rw [hi, e])) (fun e => n2 (by rw [hi, e]))
theorem PgOk.grownV {B : Nat} {w w' : World} {p bm n : Nat} {most cnt : Int} {f : List Int → Int} {v : Value} (h : PgOk B w p bm n most cnt f) (hg : w.grownBy w' v.ownBlock) (n1 : v.ownBlock ≠ some p) (n2 : v.ownBlock ≠ some bm) : PgOk B w' p bm n most cnt f :=
  ⟨keepGrown h.row hg n1, h.hp, h.hm, h.ne, h.map.at_block (hg.block bm h.map.lt (fun e => n2 e.symm))⟩
section
variable {P : Program} {e : TypeId} {w : World} {ops : Array Oper} {o : Oper} {a : Act} {K : Act → World → Prop} {Q : Exit → Act → World → Prop} {E : Prop}
theorem step_appV36 (hgd : o.guard = none) (s x : Operand) (t : TypeId) (ho : o.op = .call { callee := .builtin .append, args := #[s, x], argTypes := #[t, t] })
    (sz : Nat) (i : TypeInfo) (z : Value) (bytes : Nat) (ht : P.underlying t = some (.slice e)) (hi : P.info? e = some i) (hz : i.zero = some z) (hsize : i.size = sz) (hby : i.bytes = bytes) (hzs : z.cells.size = sz) (hs0 : 0 < sz)
    (B : Nat) (v : Value) (n : Nat) (F : Nat → Value) (hs : a.eval s = v) (hown : OwnV sz e B w v n F) (A : Option Addr) (m c : Nat) (G : Nat → Value) (hx : a.eval x = .slice A m c) (hr : RdV sz w A m c G) (hG : ∀ i, i < m * sz → (G i).oneCell' = true)
    (h63 : n + m ≤ maxLen) (hbytes : (n + m) * bytes ≤ 140737488355328) (hbase : B ≤ w.heap.size)
    (h : ∀ v' w', OwnV sz e B w' v' (n + m) (catV (n * sz) F G) → w.grownBy w' v.ownBlock → (v'.ownBlock = v.ownBlock ∨ v'.ownBlock = some w.heap.size) → K (a.put o.dst v') w') :
    if Region.wanted o (yielded ops a.tmps) = true then Oper.wp P o a w K Q else E := by
  rw [if_pos (by simp [Region.wanted, hgd])]
  obtain ⟨v', w', hrun, h2, h3, h4⟩ := run_appV (P := P) sz t o.type i z bytes ht hi hz hsize hby hzs hs0 B v n F hown A m c G hr hG h63 hbytes hbase
  unfold Oper.wp execOp
  simp only [ho, resolve, invoke, builtin, Sem.run_bind, Sem.run_pure, Result.andThen_ok, List.map_toArray, List.map_cons, List.map_nil, hs, hx, hrun]
  exact h v' w' h2 h3 h4
end
theorem RdV.take36 {s : Nat} {w : World} {A : Option Addr} {n c : Nat} {F : Nat → Value} (h : RdV s w A n c F) {m : Nat} (hm : m ≤ n) : RdV s w A m c F :=
  ⟨by have := h.1; omega, h.2.1, h.2.2.1, fun hn => by
    obtain ⟨b, off, hA, hc⟩ := h.2.2.2 (by omega)
    exact ⟨b, off, hA, fun i hi => hc i (Nat.lt_of_lt_of_le hi (Nat.mul_le_mul_right s hm))⟩⟩
theorem RdV.cut36 {s : Nat} {w : World} {b off n c : Nat} {F : Nat → Value} (h : RdV s w (some ⟨b, off, none⟩) n c F) {lo : Nat} (h1 : lo ≤ n) : RdV s w (if c = lo then some ⟨b, off, none⟩ else some ⟨b, off + lo * s, none⟩) (n - lo) (c - lo) (fun i => F (lo * s + i)) := by
  have h2 := h.1
  refine ⟨by omega, by have := h.2.1; omega, fun e => (by split at e <;> cases e), fun hn => ?_⟩
  obtain ⟨b', off', hA, hc⟩ := h.2.2.2 (by omega)
  cases hA
  rw [if_neg (by omega)]
  refine ⟨b, _, rfl, fun i hi => ?_⟩
  rw [Nat.add_assoc]
  refine hc (lo * s + i) ?_
  have : lo * s + (n - lo) * s = n * s := by rw [← Nat.add_mul]; congr 1; omega
  omega
end Go.Proofs.Yteikpdolickkaaa
