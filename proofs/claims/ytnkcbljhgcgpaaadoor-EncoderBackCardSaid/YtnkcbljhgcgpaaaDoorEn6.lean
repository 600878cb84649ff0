/- Layer 24: what an encoder comes to; its state. -/
import Derived.Test.YtnkcbljhgcgpaaaDoorEn5
namespace Go.Proofs.YtnkcbljhgcgpaaaDoor
set_option linter.unusedVariables false
set_option linter.unusedSimpArgs false
open Go.RowKit Go.Deep Go.ChangeShapes Go.WideShapes

/-- A way in which a field is written. -/
structure Op4 where
  way : Int
  nn : Bool
  sn : Bool
  sv : Bool
instance : Inhabited Op4 := ⟨⟨0, false, false, false⟩⟩
def op0 : Op4 := ⟨0, false, false, false⟩
def opV (O : Nat → Op4) : Nat → Value := fun i => if i % 4 = 0 then .int .i64 (O (i / 4)).way else if i % 4 = 1 then .bool (O (i / 4)).nn else if i % 4 = 2 then .bool (O (i / 4)).sn else .bool (O (i / 4)).sv
theorem opV_0 (O : Nat → Op4) (i : Nat) : opV O (i * 4) = .int .i64 (O i).way := by unfold opV; rw [if_pos (by omega), show i * 4 / 4 = i by omega]
theorem opV_1 (O : Nat → Op4) (i : Nat) : opV O (i * 4 + 1) = .bool (O i).nn := by unfold opV; rw [if_neg (by omega), if_pos (by omega), show (i * 4 + 1) / 4 = i by omega]
theorem opV_2 (O : Nat → Op4) (i : Nat) : opV O (i * 4 + 2) = .bool (O i).sn := by unfold opV; rw [if_neg (by omega), if_neg (by omega), if_pos (by omega), show (i * 4 + 2) / 4 = i by omega]
theorem opV_3 (O : Nat → Op4) (i : Nat) : opV O (i * 4 + 3) = .bool (O i).sv := by unfold opV; rw [if_neg (by omega), if_neg (by omega), if_neg (by omega), show (i * 4 + 3) / 4 = i by omega]
theorem opV_one (O : Nat → Op4) (n : Nat) : ∀ i, i < n → (opV O i).oneCell' = true := fun i _ => by
  unfold opV
  split
  · rfl
  · split
    · rfl
    · split <;> rfl
theorem opV_congr {O P : Nat → Op4} {n : Nat} (h : ∀ i, i < n → O i = P i) : ∀ i, i < n * 4 → opV O i = opV P i := fun i hi => by
  unfold opV
  rw [h (i / 4) (by omega)]
def optAt (O : Nat → Op4) (m : Nat) : Nat → Op4 := fun i => if 0 < m then O (i % m) else op0
def izV (z : Nat → Int) : Nat → Value := fun i => .int .i64 (z i)
/-- Where an encoder stands: its table's max and fields, the newest first, and what was written. -/
structure Es where
  mx : Nat
  tb : List Fd
  rs : List Rpv
def rz5 (z : Int) : Rpv := ⟨5, 0, ⟨#[]⟩, false, ⟨#[]⟩, false, z⟩
def ezN (z : Nat → Int) : Nat → Es → Es
  | 0, σ => σ
  | k + 1, σ => ⟨(z k).toNat, fitL (z k) (ezN z k σ).tb, (ezN z k σ).rs ++ [rz5 (z k)]⟩
inductive EnR (G : Nat → Fd) (O : Nat → Op4) (σ : Es) : Nat → Es → Prop
  | zero : EnR G O σ 0 σ
  | succ {j : Nat} {τ : Es} {k i : Int} {ns vs : ByteArray} {a b : Bool} {l' : List Fd} : EnR G O σ j τ → WrR τ.mx τ.tb (G j) (O j).way (O j).nn (O j).sn (O j).sv k i ns a vs b l' → EnR G O σ (j + 1) ⟨τ.mx, l', τ.rs ++ [⟨k, i, ns, a, vs, b, 0⟩]⟩
theorem EnR.same {G : Nat → Fd} {O : Nat → Op4} {σ τ τ' : Es} {k : Nat} (h : EnR G O σ k τ) (h' : EnR G O σ k τ') : τ = τ' := by
  induction h generalizing τ' with
  | zero => cases h'; rfl
  | succ _ hw ih =>
    cases h' with
    | succ h2 hw2 =>
      obtain rfl := ih h2
      obtain ⟨rfl, rfl, rfl, rfl, rfl, rfl, rfl⟩ := hw.same hw2
      rfl
def Sm4 (f : Fd) : Prop := f.name.size ≤ 400 ∧ f.val.size ≤ 400
theorem Sm4.wt {f : Fd} (h : Sm4 f) : wt f ≤ 1000000 := by
  have h1 := h.1
  have h2 := h.2
  unfold Go.Proofs.YtnkcbljhgcgpaaaDoor.wt
  omega
/-- All is small; the table has at most so many. -/
structure EsOk (T : Nat) (σ : Es) : Prop where
  tb : ∀ f ∈ σ.tb, Sm4 f
  nv : ∀ f ∈ σ.tb, f.nev = false
  len : σ.tb.length ≤ T
  mx : σ.mx ≤ 2147483647
  rs : ∀ r ∈ σ.rs, r.Ok
theorem rz5_ok {z : Int} (h0 : 0 ≤ z) (h1 : z ≤ 2147483647) : (rz5 z).Ok := by
  refine ⟨?_, Nat.zero_le _, Nat.zero_le _⟩
  show rpB 5 0 ⟨#[]⟩ false ⟨#[]⟩ false z = true
  unfold rpB
  rw [if_neg (by omega), if_neg (by omega), if_pos rfl]
  simp [isN, noT, h0, h1]
theorem EsOk.size {T : Nat} {σ : Es} (h : EsOk T σ) {z : Int} (h0 : 0 ≤ z) (h1 : z ≤ 2147483647) : EsOk T ⟨z.toNat, fitL z σ.tb, σ.rs ++ [rz5 z]⟩ :=
  ⟨fun f hf => h.tb f (fitL_mem hf), fun f hf => h.nv f (fitL_mem hf), Nat.le_trans (fitL_len _ _) h.len, by show z.toNat ≤ _; omega, fun r hr => by
    rcases List.mem_append.1 hr with hr | hr
    · exact h.rs r hr
    · obtain rfl := List.mem_singleton.1 hr
      exact rz5_ok h0 h1⟩
theorem ez_ok {T : Nat} {σ : Es} {z : Nat → Int} (h : EsOk T σ) : ∀ k, (∀ j, j < k → 0 ≤ z j ∧ z j ≤ 2147483647) → EsOk T (ezN z k σ)
  | 0, _ => h
  | k + 1, hz => (ez_ok h k fun j hj => hz j (by omega)).size (hz k (by omega)).1 (hz k (by omega)).2
theorem ez_len (z : Nat → Int) (σ : Es) : ∀ k, (ezN z k σ).rs.length = σ.rs.length + k
  | 0 => rfl
  | k + 1 => by
    show ((ezN z k σ).rs ++ [rz5 (z k)]).length = _
    rw [List.length_append, ez_len z σ k]
    simp
    omega
theorem kd24_cases (nv : Bool) (way : Int) : kd24 nv way = 1 ∨ kd24 nv way = 2 ∨ kd24 nv way = 3 ∨ kd24 nv way = 4 := by
  unfold kd24
  by_cases h : nv = true
  · rw [if_pos h]; exact .inr (.inr (.inr rfl))
  · rw [if_neg h]
    by_cases h1 : way = 1
    · rw [if_pos h1]; exact .inr (.inl rfl)
    · rw [if_neg h1]
      by_cases h2 : way = 2
      · rw [if_pos h2]; exact .inr (.inr (.inl rfl))
      · rw [if_neg h2]; exact .inl rfl
theorem wr_ok {mx : Nat} {l : List Fd} {f : Fd} {way : Int} {nn sn sv : Bool} {k i : Int} {ns vs : ByteArray} {a b : Bool} {l' : List Fd} (h : WrR mx l f way nn sn sv k i ns a vs b l') (hl : l.length ≤ 1000000) (hf : Sm4 f) : Rpv.Ok ⟨k, i, ns, a, vs, b, 0⟩ := by
  obtain ⟨p, m, h1, h2, h3⟩ := h
  have r1 := h1.rng
  have r2 := h2.rng
  have z0 : (⟨#[]⟩ : ByteArray).size ≤ 400 := Nat.zero_le _
  rcases h3 with ⟨e1, e2, rfl, rfl, rfl, rfl, rfl, rfl, rfl⟩ | ⟨e1, rfl, hi, hn, ha, rfl, rfl, rfl⟩
  · refine ⟨?_, z0, z0⟩
    show rpB 1 _ ⟨#[]⟩ false ⟨#[]⟩ false 0 = true
    unfold rpB
    rw [if_pos rfl]
    have i1 : isN i = true := by unfold isN; simp; omega
    rw [i1, noT_e]
    simp [e2]
  · have hk : (if kd24 f.nev way = 1 then (2 : Int) else kd24 f.nev way) = 2 ∨ (if kd24 f.nev way = 1 then (2 : Int) else kd24 f.nev way) = 3 ∨ (if kd24 f.nev way = 1 then (2 : Int) else kd24 f.nev way) = 4 := by
      rcases kd24_cases f.nev way with e | e | e | e <;> rw [e]
      · exact .inl rfl
      · exact .inl rfl
      · exact .inr (.inl rfl)
      · exact .inr (.inr rfl)
    have hir : 0 ≤ i ∧ i ≤ 61 + l.length := by
      rw [hi]
      split <;> omega
    refine ⟨?_, ?_, hf.2⟩
    · show rpB _ i ns a f.val b 0 = true
      generalize (if kd24 f.nev way = 1 then (2 : Int) else kd24 f.nev way) = K at *
      have hK1 : ¬ K = 1 := by omega
      unfold rpB
      rw [if_neg hK1, if_pos hk]
      have i1 : isN i = true := by unfold isN; simp; omega
      rw [i1]
      by_cases h0 : i = 0
      · subst h0; simp
      · rw [if_neg h0] at hn ha
        subst hn ha
        rw [noT_e]
        simp
    · show ns.size ≤ 400
      rw [hn]
      split
      · exact hf.1
      · exact z0
theorem EsOk.next {T : Nat} {τ : Es} {f : Fd} {way : Int} {nn sn sv : Bool} {k i : Int} {ns vs : ByteArray} {a b : Bool} {l' : List Fd} (h : EsOk T τ) (hT : T ≤ 900000) (hw : WrR τ.mx τ.tb f way nn sn sv k i ns a vs b l') (hf : Sm4 f) : EsOk (T + 1) ⟨τ.mx, l', τ.rs ++ [⟨k, i, ns, a, vs, b, 0⟩]⟩ := by
  have hl := h.len
  have hok := wr_ok hw (by omega) hf
  have hl' : l' = τ.tb ∨ l' = addL τ.mx f τ.tb := by
    obtain ⟨p, m, _, _, h3⟩ := hw
    rcases h3 with ⟨_, _, _, _, _, _, _, _, rfl⟩ | ⟨_, _, _, _, _, _, _, rfl⟩
    · exact .inl rfl
    · split
      · exact .inr rfl
      · exact .inl rfl
  refine ⟨fun g hg => ?_, fun g hg => ?_, ?_, h.mx, fun r hr => ?_⟩
  · simp only at hg
    rcases hl' with rfl | rfl
    · exact h.tb g hg
    · rcases addL_mem hg with rfl | hg
      · exact hf
      · exact h.tb g hg
  · simp only at hg
    rcases hl' with rfl | rfl
    · exact h.nv g hg
    · rcases addL_mem hg with rfl | hg
      · rfl
      · exact h.nv g hg
  · show l'.length ≤ T + 1
    rcases hl' with rfl | rfl
    · omega
    · have := addL_len τ.mx f τ.tb; omega
  · rcases List.mem_append.1 hr with hr | hr
    · exact h.rs r hr
    · obtain rfl := List.mem_singleton.1 hr
      exact hok
theorem en_ok {T : Nat} {G : Nat → Fd} {O : Nat → Op4} {σ τ : Es} {k : Nat} (h : EnR G O σ k τ) (hs : EsOk T σ) (hT : T + k ≤ 900000) (hG : ∀ j, j < k → Sm4 (G j)) : EsOk (T + k) τ := by
  induction h with
  | zero => exact hs
  | @succ j τ K I ns vs a b l' _ hw ih => exact (ih (by omega) fun i hi => hG i (by omega)).next (by omega) hw (hG j (by omega))
theorem en_len {G : Nat → Fd} {O : Nat → Op4} {σ τ : Es} {k : Nat} (h : EnR G O σ k τ) : τ.rs.length = σ.rs.length + k := by
  induction h with
  | zero => rfl
  | succ _ _ ih => simp [ih]; omega
theorem RdV.frO {s B : Nat} {S : Nat → Prop} {w w' : World} {A : Option Addr} {n c : Nat} {F : Nat → Value} (h : RdV s w A n c F) (hs : 0 < s) (hf : FrO B S w w') (hS : ∀ a, A = some a → ¬ S a.block) : RdV s w' A n c F :=
  ⟨h.1, h.2.1, h.2.2.1, fun hn => by
    obtain ⟨b, off, hA, hc⟩ := h.2.2.2 hn
    refine ⟨b, off, hA, fun i hi => ?_⟩
    have h0 := hc i hi
    have hk := hf.keep b (World.block_lt_of_cell? w _ h0) (hS _ hA)
    rw [← h0]
    unfold World.cell?
    simp only
    rw [hk]⟩
theorem FrO.base {B B' : Nat} {S : Nat → Prop} {w w' : World} (h : FrO B' S w w') (hB : B ≤ B') : FrO B S w w' := ⟨h.below.mono hB, h.keep⟩
/-- What lies behind a block that is being written. -/
structure EcS (B : Nat) (w : World) (p : Nat) (g : Option Nat) (wr : World) (v : Value) (g1 : Option Nat) (σ : Es) : Prop where
  tl : TL B wr p g1 σ.mx σ.tb
  ov : OwnV 1 5 w.heap.size wr v (bN σ.rs) (byV (bF σ.rs))
  fr : FrO B (tfp p g) w wr
  hg : g1 = g ∨ ∀ b, g1 = some b → w.heap.size ≤ b
  sep : ∀ i, v.ownBlock = some i → ¬ tfp p g1 i
section
variable {B : Nat} {w wr w2 : World} {p : Nat} {g g1 g2 : Option Nat} {v v' : Value} {σ : Es}
theorem EcS.tfpS (h : EcS B w p g wr v g1 σ) : ∀ i, tfp p g1 i → tfp p g i ∨ w.heap.size ≤ i := fun i hi => by
  rcases hi with hi | hi
  · exact .inl (.inl hi)
  · rcases h.hg with e | e
    · exact .inl (.inr (e ▸ hi))
    · exact .inr (e i hi)
theorem ownV_frO {s : Nat} {e : TypeId} {B0 B1 : Nat} {S : Nat → Prop} {w w' : World} {v : Value} {n : Nat} {F : Nat → Value} (h : OwnV s e B0 w v n F) (hf : FrO B1 S w w') (hS : ∀ i, v.ownBlock = some i → ¬ S i) : OwnV s e B0 w' v n F :=
  ownV_at21 h fun i hi => hf.keep i (World.ownsRow.lt h i hi).2 (hS i hi)
/-- The table has turned. -/
theorem EcS.table (h : EcS B w p g wr v g1 σ) (hB : B ≤ w.heap.size) {mx' : Nat} {tb' : List Fd} (ht : TL B w2 p g2 mx' tb') (hf : FrO B (tfp p g1) wr w2) (hg : g2 = g1 ∨ ∀ b, g2 = some b → wr.heap.size ≤ b) : EcS B w p g w2 v g2 ⟨mx', tb', σ.rs⟩ := by
  refine ⟨ht, ownV_frO h.ov hf h.sep, h.fr.step hf h.tfpS, ?_, fun i hi hq => ?_⟩
  · rcases hg with e | e
    · rw [e]; exact h.hg
    · exact .inr fun b hb => Nat.le_trans h.fr.below.size (e b hb)
  · rcases hq with hq | hq
    · exact h.sep i hi (.inl hq)
    · rcases hg with e | e
      · exact h.sep i hi (.inr (e ▸ hq))
      · have := e i hq
        have := (World.ownsRow.lt h.ov i hi).2
        omega
/-- Nothing old has turned. -/
theorem EcS.below (h : EcS B w p g wr v g1 σ) (hb : Below wr.heap.size wr w2) (hB : B ≤ w.heap.size) : EcS B w p g w2 v g1 σ :=
  ⟨h.tl.below hb, h.ov.below hb, h.fr.step (FrO.of (S := tfp p g) hb (Nat.le_trans hB h.fr.below.size)) fun i hi => .inl hi, h.hg, h.sep⟩
/-- One is put behind. -/
theorem EcS.put (h : EcS B w p g wr v g1 σ) (hB : B ≤ w.heap.size) {r : Rpv} (ho : OwnV 1 5 w.heap.size w2 v' (bN σ.rs + r.N) (byV (catF (bN σ.rs) (bF σ.rs) r.F))) (hf : FrO w.heap.size (fun i => v.ownBlock = some i) wr w2) (hv : v'.ownBlock = v.ownBlock ∨ ∀ i, v'.ownBlock = some i → wr.heap.size ≤ i) : EcS B w p g w2 v' g1 ⟨σ.mx, σ.tb, σ.rs ++ [r]⟩ := by
  refine ⟨h.tl.at_ fun i hi => hf.keep i (h.tl.lt i hi).2 fun hq => h.sep i hq hi, ?_, h.fr.step (hf.base hB) fun i hi => .inr (World.ownsRow.lt h.ov i hi).1, h.hg, fun i hi hq => ?_⟩
  · show OwnV 1 _ _ _ _ (bN (σ.rs ++ [r])) (byV (bF (σ.rs ++ [r])))
    rw [bN_app]
    exact ho.congr fun i hi => by unfold byV; rw [bF_app r σ.rs i (by omega)]
  · rcases hv with e | e
    · exact h.sep i (e ▸ hi) hq
    · have := e i hi
      have := (h.tl.lt i hq).2
      omega
end
end Go.Proofs.YtnkcbljhgcgpaaaDoor
