/- Layer 24: the document's Encode, for any sizes, fields and ways. -/
import Derived.Test.YtnkcbljhgcgpaaaDoorEn8
import Derived.Deep.CutRange
namespace Go.Proofs.YtnkcbljhgcgpaaaDoor
set_option linter.unusedVariables false
set_option linter.unusedSimpArgs false
open Go.RowKit Go.Deep Go.ChangeShapes Go.WideShapes

theorem heapsz4 {w : World} {p : Nat} (b0 b1 b2 b3 : Value) : ((((w.setCell ⟨p, 0, none⟩ b0).setCell ⟨p, 1, none⟩ b1).setCell ⟨p, 2, none⟩ b2).setCell ⟨p, 3, none⟩ b3).heap.size = w.heap.size := by simp [World.setCell]
theorem RcK.free {w W W' : World} {A0 : Option Addr} {n0 c0 mx0 : Nat} {v : Value} {An : Option Addr} {cn p : Nat} {σ : Es} (h : RcK w A0 n0 c0 mx0 W v An cn σ) (hp : w.heap.size + 3 ≤ p) (ho : ∀ i, v.ownBlock = some i → i < p) (ha : ∀ a, An = some a → a.block < p) (hk : ∀ i, i ≠ p → W'.heap[i]? = W.heap[i]?) (hz : W'.heap.size = W.heap.size) (he : Below w.heap.size w W') : RcK w A0 n0 c0 mx0 W' v An cn σ :=
  ⟨ownV_at21 h.ov fun i hi => hk i (by have := ho i hi; omega), (hk _ (by omega)).trans h.now, h.rd.at21 fun a h1 => hk _ (by have := ha a h1; omega), fun a h1 => ⟨by rw [hz]; exact (h.al a h1).1, (h.al a h1).2⟩, (hk _ (by omega)).trans h.q2, (hk _ (by omega)).trans h.q6, he⟩
/-- Another table, that lies there already. -/
theorem RcK.setT2 {w W : World} {A0 : Option Addr} {n0 c0 mx0 : Nat} {v : Value} {An : Option Addr} {cn : Nat} {σ : Es} (h : RcK w A0 n0 c0 mx0 W v An cn σ) {A' : Option Addr} {c' mx' : Nat} {tb' : List Fd} (hr : RdV 3 W A' tb'.length c' (fdV (fn tb')))
    (hal : ∀ a, A' = some a → a.block < W.heap.size ∧ ((∃ a0, A0 = some a0 ∧ a0.block = a.block ∧ a0.block < w.heap.size) ∨ w.heap.size + 3 ≤ a.block) ∧ v.ownBlock ≠ some a.block) :
    RcK w A0 n0 c0 mx0 ((W.setCell ⟨w.heap.size + 1 + 1, 0, none⟩ (.slice A' tb'.length c')).setCell ⟨w.heap.size + 1 + 1, 1, none⟩ (.int .i64 (mx' : Int))) v A' c' ⟨mx', tb', σ.rs⟩ := by
  have hk : ∀ i, i ≠ w.heap.size + 1 + 1 → ((W.setCell ⟨w.heap.size + 1 + 1, 0, none⟩ (.slice A' tb'.length c')).setCell ⟨w.heap.size + 1 + 1, 1, none⟩ (.int .i64 (mx' : Int))).heap[i]? = W.heap[i]? := fun i hi => heap2d hi _ _
  have hne : ∀ a, A' = some a → a.block ≠ w.heap.size + 1 + 1 := fun a hA => by
    rcases (hal a hA).2.1 with ⟨a0, _, e, l⟩ | l <;> omega
  refine ⟨ownV_at21 h.ov fun i hi => hk i ?_, set2t h.now _ _, (hr.set21 hne 0 _).set21 hne 1 _, fun a hA => ?_, (hk _ (by omega)).trans h.q2, (hk _ (by omega)).trans h.q6, ?_⟩
  · have := (World.ownsRow.lt h.ov i hi).1; omega
  · rw [heapsz2]
    exact hal a hA
  · exact (h.e.setCell (p := ⟨w.heap.size + 1 + 1, 0, none⟩) (by show _ ≤ w.heap.size + 1 + 1; omega) _).setCell (p := ⟨w.heap.size + 1 + 1, 1, none⟩) (by show _ ≤ w.heap.size + 1 + 1; omega) _
theorem ka1 {w : World} {b j : Nat} {o : Obj} (h : b < w.heap.size) : (w.alloc o).cell? ⟨b, j, none⟩ = w.cell? ⟨b, j, none⟩ := ((Below.refl w.heap.size w).alloc (Nat.le_refl _) o).cell (p := ⟨b, j, none⟩) h
theorem ka2 {w : World} {b j : Nat} {o o' : Obj} (h : b < w.heap.size) : ((w.alloc o).alloc o').cell? ⟨b, j, none⟩ = w.cell? ⟨b, j, none⟩ := (ka1 (by simp; omega)).trans (ka1 h)
/-- Both of One's answers lie in blocks of their own. -/
def FinO (w : World) (A0 : Option Addr) (n0 c0 mx0 : Nat) (v : Value) (An : Option Addr) (cn : Nat) (σ : Es) (q : Nat) (K I : Int) (ns : ByteArray) (a : Bool) (vs : ByteArray) (bb : Bool) (A8 : Option Addr) (c8 : Nat) (l' : List Fd) (pr pn : Nat) (W : World) : Prop :=
  W.heap[pr]? = some (.cells #[.int .i64 K, .int .i64 I, .string ns, .bool a, .string vs, .bool bb, .int .i64 0] 86 (0, 0)) ∧ W.heap[pn]? = some (.cells #[.slice A8 l'.length c8, .int .i64 (σ.mx : Int)] 37 (0, 0)) ∧ RcK w A0 n0 c0 mx0 W v An cn σ ∧ RdV 3 W A8 l'.length c8 (fdV (fn l')) ∧
    (∀ x, A8 = some x → x.block < W.heap.size ∧ ((∃ a0, An = some a0 ∧ a0.block = x.block) ∨ q < x.block) ∧ v.ownBlock ≠ some x.block) ∧ v.ownBlock ≠ some pn
structure FinC (w : World) (A0 : Option Addr) (n0 c0 mx0 : Nat) (v : Value) (An : Option Addr) (cn : Nat) (σ : Es) (q : Nat) (A8 : Option Addr) (c8 : Nat) (l' : List Fd) (N M : Nat) (W : World) : Prop where
  k : RcK w A0 n0 c0 mx0 W v An cn σ
  r : RdV 3 W A8 l'.length c8 (fdV (fn l'))
  x : ∀ x, A8 = some x → x.block < W.heap.size ∧ ((∃ a0, An = some a0 ∧ a0.block = x.block) ∨ q < x.block) ∧ v.ownBlock ≠ some x.block ∧ (x.block < N ∨ M ≤ x.block)
  o : ∀ i, v.ownBlock = some i → i < N
  a : ∀ a, An = some a → a.block < N
  z : M ≤ W.heap.size
  hm : N ≤ M
  h3 : w.heap.size + 3 ≤ N
theorem RcK.fc {w : World} {A0 : Option Addr} {n0 c0 mx0 : Nat} {v : Value} {An : Option Addr} {cn : Nat} {σ : Es} {q : Nat} {A8 : Option Addr} {c8 : Nat} {l' : List Fd} {M : Nat} {W : World} {w6 : World} (k6 : RcK w A0 n0 c0 mx0 w6 v An cn σ) (k8 : RcK w A0 n0 c0 mx0 W v An cn σ) (hq : q < w6.heap.size) (hr : RdV 3 W A8 l'.length c8 (fdV (fn l'))) {S : Nat}
    (ha : ∀ x, A8 = some x → x.block < W.heap.size ∧ ((∃ a0, An = some a0 ∧ a0.block = x.block) ∨ S ≤ x.block)) (hS : S = M) (hm : w6.heap.size ≤ M) (hz : S ≤ W.heap.size) : FinC w A0 n0 c0 mx0 v An cn σ q A8 c8 l' w6.heap.size M W := by
  subst hS
  refine ⟨k8, hr, fun x hx => ?_, fun i hi => (World.ownsRow.lt k6.ov i hi).2, fun x hx => (k6.al x hx).1, hz, hm, k6.sz⟩
  obtain ⟨x1, x2⟩ := ha x hx
  rcases x2 with ⟨a0, x3, x4⟩ | x2
  · have x5 := k6.al a0 x3
    rw [x4] at x5
    exact ⟨x1, .inl ⟨a0, x3, x4⟩, x5.2.2, .inl x5.1⟩
  · refine ⟨x1, .inr (by omega), fun e => ?_, .inr x2⟩
    have := (World.ownsRow.lt k6.ov _ e).2
    omega
theorem FinC.below {w : World} {A0 : Option Addr} {n0 c0 mx0 : Nat} {v : Value} {An : Option Addr} {cn : Nat} {σ : Es} {q : Nat} {A8 : Option Addr} {c8 : Nat} {l' : List Fd} {N M : Nat} {W : World} {W' : World} (h : FinC w A0 n0 c0 mx0 v An cn σ q A8 c8 l' N M W) (hb : Below W.heap.size W W') : FinC w A0 n0 c0 mx0 v An cn σ q A8 c8 l' N M W' :=
  ⟨h.k.below hb, h.r.below36O hb, fun x hx => ⟨Nat.lt_of_lt_of_le (h.x x hx).1 hb.size, (h.x x hx).2⟩, h.o, h.a, Nat.le_trans h.z hb.size, h.hm, h.h3⟩
theorem FinC.set {w : World} {A0 : Option Addr} {n0 c0 mx0 : Nat} {v : Value} {An : Option Addr} {cn : Nat} {σ : Es} {q : Nat} {A8 : Option Addr} {c8 : Nat} {l' : List Fd} {N M : Nat} {W : World} {W' : World} {p : Nat} (h : FinC w A0 n0 c0 mx0 v An cn σ q A8 c8 l' N M W) (hp : N ≤ p) (hpM : p < M) (hk : ∀ i, i ≠ p → W'.heap[i]? = W.heap[i]?) (hz : W'.heap.size = W.heap.size) (he : Below w.heap.size w W') : FinC w A0 n0 c0 mx0 v An cn σ q A8 c8 l' N M W' :=
  ⟨h.k.free (Nat.le_trans h.h3 hp) (fun i hi => Nat.lt_of_lt_of_le (h.o i hi) hp) (fun x hx => Nat.lt_of_lt_of_le (h.a x hx) hp) hk hz he,
    h.r.at21 fun x hx => hk _ (by have := (h.x x hx).2.2.2; omega), fun x hx => ⟨by rw [hz]; exact (h.x x hx).1, (h.x x hx).2⟩, h.o, h.a, by rw [hz]; exact h.z, h.hm, h.h3⟩
theorem FinC.fin {w : World} {A0 : Option Addr} {n0 c0 mx0 : Nat} {v : Value} {An : Option Addr} {cn : Nat} {σ : Es} {q : Nat} {A8 : Option Addr} {c8 : Nat} {l' : List Fd} {N M : Nat} {W : World} {K I : Int} {ns : ByteArray} {a : Bool} {vs : ByteArray} {bb : Bool} {pr pn : Nat} (h : FinC w A0 n0 c0 mx0 v An cn σ q A8 c8 l' N M W) (hr : W.heap[pr]? = some (.cells #[.int .i64 K, .int .i64 I, .string ns, .bool a, .string vs, .bool bb, .int .i64 0] 86 (0, 0))) (hn : W.heap[pn]? = some (.cells #[.slice A8 l'.length c8, .int .i64 (σ.mx : Int)] 37 (0, 0))) (hp : N ≤ pn) : FinO w A0 n0 c0 mx0 v An cn σ q K I ns a vs bb A8 c8 l' pr pn W :=
  ⟨hr, hn, h.k, h.r, fun x hx => ⟨(h.x x hx).1, (h.x x hx).2.1, (h.x x hx).2.2.1⟩, fun e => by have := h.o _ e; omega⟩
theorem FinC.set7 {w : World} {A0 : Option Addr} {n0 c0 mx0 : Nat} {v : Value} {An : Option Addr} {cn : Nat} {σ : Es} {q : Nat} {A8 : Option Addr} {c8 : Nat} {l' : List Fd} {N M : Nat} {W : World} {K I : Int} {ns : ByteArray} {a : Bool} {vs : ByteArray} {bb : Bool} {p : Nat} (h : FinC w A0 n0 c0 mx0 v An cn σ q A8 c8 l' N M W) (hp : N ≤ p) (hpM : p < M) : FinC w A0 n0 c0 mx0 v An cn σ q A8 c8 l' N M (((((((W.setCell ⟨p, 0, none⟩ (.int .i64 K)).setCell ⟨p, 1, none⟩ (.int .i64 I)).setCell ⟨p, 2, none⟩ (.string ns)).setCell ⟨p, 3, none⟩ (.bool a)).setCell ⟨p, 4, none⟩ (.string vs)).setCell ⟨p, 5, none⟩ (.bool bb)).setCell ⟨p, 6, none⟩ (.int .i64 0)) :=
  h.set hp hpM (fun i hi => heap7n hi _ _ _ _ _ _ _) (heapsz7 _ _ _ _ _ _ _) (below7 h.k.e (by have := h.h3; omega) _ _ _ _ _ _ _)
theorem FinC.set2 {w : World} {A0 : Option Addr} {n0 c0 mx0 : Nat} {v : Value} {An : Option Addr} {cn : Nat} {σ : Es} {q : Nat} {A8 : Option Addr} {c8 : Nat} {l' : List Fd} {N M : Nat} {W : World} {p : Nat} (h : FinC w A0 n0 c0 mx0 v An cn σ q A8 c8 l' N M W) (hp : N ≤ p) (hpM : p < M) : FinC w A0 n0 c0 mx0 v An cn σ q A8 c8 l' N M ((W.setCell ⟨p, 0, none⟩ (.slice A8 l'.length c8)).setCell ⟨p, 1, none⟩ (.int .i64 (σ.mx : Int))) :=
  h.set hp hpM (fun i hi => heap2d hi _ _) (heapsz2 _ _) ((h.k.e.setCell (p := ⟨p, 0, none⟩) (by have := h.h3; show _ ≤ p; omega) _).setCell (p := ⟨p, 1, none⟩) (by have := h.h3; show _ ≤ p; omega) _)
/-- Called first. -/
theorem fin_aa {w : World} {A0 : Option Addr} {n0 c0 mx0 : Nat} {v : Value} {An : Option Addr} {cn : Nat} {σ : Es} {q : Nat} {A8 : Option Addr} {c8 : Nat} {l' : List Fd} {N M : Nat} {W : World} {K I : Int} {ns : ByteArray} {a : Bool} {vs : ByteArray} {bb : Bool} (h : FinC w A0 n0 c0 mx0 v An cn σ q A8 c8 l' N M W) : FinO w A0 n0 c0 mx0 v An cn σ q K I ns a vs bb A8 c8 l' W.heap.size (W.heap.size + 1) ((W.alloc (.cells #[.int .i64 K, .int .i64 I, .string ns, .bool a, .string vs, .bool bb, .int .i64 0] 86)).alloc (.cells #[.slice A8 l'.length c8, .int .i64 (σ.mx : Int)] 37)) ∧ FinO w A0 n0 c0 mx0 v An cn σ q K I ns a vs bb A8 c8 l' (W.heap.size + 1) W.heap.size ((W.alloc (.cells #[.slice A8 l'.length c8, .int .i64 (σ.mx : Int)] 37)).alloc (.cells #[.int .i64 K, .int .i64 I, .string ns, .bool a, .string vs, .bool bb, .int .i64 0] 86)) := by
  have hN := Nat.le_trans h.hm h.z
  constructor
  · obtain ⟨a1, a2, a3⟩ := allocR W #[.int .i64 K, .int .i64 I, .string ns, .bool a, .string vs, .bool bb, .int .i64 0] 86
    obtain ⟨b1, b2, b3⟩ := allocN _ #[.slice A8 l'.length c8, .int .i64 (σ.mx : Int)] 37 a3
    exact (h.below (a2.trans (b2.mono (Nat.le_succ _)))).fin (keepN a1 b2 a3) b1 (Nat.le_succ_of_le hN)
  · obtain ⟨a1, a2, a3⟩ := allocR W #[.slice A8 l'.length c8, .int .i64 (σ.mx : Int)] 37
    obtain ⟨b1, b2, b3⟩ := allocN _ #[.int .i64 K, .int .i64 I, .string ns, .bool a, .string vs, .bool bb, .int .i64 0] 86 a3
    exact (h.below (a2.trans (b2.mono (Nat.le_succ _)))).fin b1 (keepN a1 b2 a3) hN
theorem fin_7a {w : World} {A0 : Option Addr} {n0 c0 mx0 : Nat} {v : Value} {An : Option Addr} {cn : Nat} {σ : Es} {q : Nat} {A8 : Option Addr} {c8 : Nat} {l' : List Fd} {N M : Nat} {W : World} {K I : Int} {ns : ByteArray} {a : Bool} {vs : ByteArray} {bb : Bool} {p : Nat} {a0 a1 a2 a3 a4 a5 a6 : Value} (h : FinC w A0 n0 c0 mx0 v An cn σ q A8 c8 l' N M W) (hr : W.heap[p]? = some (.cells #[a0, a1, a2, a3, a4, a5, a6] 86 (0, 0))) (hp : N ≤ p) (hpM : p < M) : FinO w A0 n0 c0 mx0 v An cn σ q K I ns a vs bb A8 c8 l' p W.heap.size ((((((((W.setCell ⟨p, 0, none⟩ (.int .i64 K)).setCell ⟨p, 1, none⟩ (.int .i64 I)).setCell ⟨p, 2, none⟩ (.string ns)).setCell ⟨p, 3, none⟩ (.bool a)).setCell ⟨p, 4, none⟩ (.string vs)).setCell ⟨p, 5, none⟩ (.bool bb)).setCell ⟨p, 6, none⟩ (.int .i64 0)).alloc (.cells #[.slice A8 l'.length c8, .int .i64 (σ.mx : Int)] 37)) := by
  have hN := Nat.le_trans h.hm h.z
  have h7 := h.set7 (K := K) (I := I) (ns := ns) (a := a) (vs := vs) (bb := bb) hp hpM
  obtain ⟨_, _, _, _, _, _, _, rz⟩ := store7 hr (.int .i64 K) (.int .i64 I) (.string ns) (.bool a) (.string vs) (.bool bb) (.int .i64 0)
  obtain ⟨a1, a2, a3⟩ := allocN (((((((W.setCell ⟨p, 0, none⟩ (.int .i64 K)).setCell ⟨p, 1, none⟩ (.int .i64 I)).setCell ⟨p, 2, none⟩ (.string ns)).setCell ⟨p, 3, none⟩ (.bool a)).setCell ⟨p, 4, none⟩ (.string vs)).setCell ⟨p, 5, none⟩ (.bool bb)).setCell ⟨p, 6, none⟩ (.int .i64 0)) #[.slice A8 l'.length c8, .int .i64 (σ.mx : Int)] 37 (heapsz7 _ _ _ _ _ _ _)
  have a2' := a2
  rw [← heapsz7 (w := W) (p := p) (.int .i64 K) (.int .i64 I) (.string ns) (.bool a) (.string vs) (.bool bb) (.int .i64 0)] at a2'
  exact (h7.below a2').fin (keepRow rz a2') a1 hN
theorem fin_2a {w : World} {A0 : Option Addr} {n0 c0 mx0 : Nat} {v : Value} {An : Option Addr} {cn : Nat} {σ : Es} {q : Nat} {A8 : Option Addr} {c8 : Nat} {l' : List Fd} {N M : Nat} {W : World} {K I : Int} {ns : ByteArray} {a : Bool} {vs : ByteArray} {bb : Bool} {p : Nat} {a0 a1 : Value} (h : FinC w A0 n0 c0 mx0 v An cn σ q A8 c8 l' N M W) (hr : W.heap[p]? = some (.cells #[a0, a1] 37 (0, 0))) (hp : N ≤ p) (hpM : p < M) : FinO w A0 n0 c0 mx0 v An cn σ q K I ns a vs bb A8 c8 l' W.heap.size p (((W.setCell ⟨p, 0, none⟩ (.slice A8 l'.length c8)).setCell ⟨p, 1, none⟩ (.int .i64 (σ.mx : Int))).alloc (.cells #[.int .i64 K, .int .i64 I, .string ns, .bool a, .string vs, .bool bb, .int .i64 0] 86)) := by
  have h7 := h.set2 hp hpM
  obtain ⟨_, _, rz⟩ := store2z hr (.slice A8 l'.length c8) (.int .i64 (σ.mx : Int))
  obtain ⟨a1, a2, a3⟩ := allocN ((W.setCell ⟨p, 0, none⟩ (.slice A8 l'.length c8)).setCell ⟨p, 1, none⟩ (.int .i64 (σ.mx : Int))) #[.int .i64 K, .int .i64 I, .string ns, .bool a, .string vs, .bool bb, .int .i64 0] 86 (heapsz2 _ _)
  have a2' := a2
  rw [← heapsz2 (w := W) (p := p) (.slice A8 l'.length c8) (.int .i64 (σ.mx : Int))] at a2'
  exact (h7.below a2').fin a1 (keepRow rz a2') hp
theorem fin_72 {w : World} {A0 : Option Addr} {n0 c0 mx0 : Nat} {v : Value} {An : Option Addr} {cn : Nat} {σ : Es} {q : Nat} {A8 : Option Addr} {c8 : Nat} {l' : List Fd} {N M : Nat} {W : World} {K I : Int} {ns : ByteArray} {a : Bool} {vs : ByteArray} {bb : Bool} {p r : Nat} {a0 a1 a2 a3 a4 a5 a6 x0 x1 : Value} (h : FinC w A0 n0 c0 mx0 v An cn σ q A8 c8 l' N M W) (hr : W.heap[p]? = some (.cells #[a0, a1, a2, a3, a4, a5, a6] 86 (0, 0))) (ht : W.heap[r]? = some (.cells #[x0, x1] 37 (0, 0))) (hp : N ≤ p) (hpM : p < M) (hr0 : N ≤ r) (hrM : r < M) (hne : p ≠ r) :
    FinO w A0 n0 c0 mx0 v An cn σ q K I ns a vs bb A8 c8 l' p r (((((((((W.setCell ⟨p, 0, none⟩ (.int .i64 K)).setCell ⟨p, 1, none⟩ (.int .i64 I)).setCell ⟨p, 2, none⟩ (.string ns)).setCell ⟨p, 3, none⟩ (.bool a)).setCell ⟨p, 4, none⟩ (.string vs)).setCell ⟨p, 5, none⟩ (.bool bb)).setCell ⟨p, 6, none⟩ (.int .i64 0)).setCell ⟨r, 0, none⟩ (.slice A8 l'.length c8)).setCell ⟨r, 1, none⟩ (.int .i64 (σ.mx : Int))) ∧ FinO w A0 n0 c0 mx0 v An cn σ q K I ns a vs bb A8 c8 l' p r (((((((((W.setCell ⟨r, 0, none⟩ (.slice A8 l'.length c8)).setCell ⟨r, 1, none⟩ (.int .i64 (σ.mx : Int))).setCell ⟨p, 0, none⟩ (.int .i64 K)).setCell ⟨p, 1, none⟩ (.int .i64 I)).setCell ⟨p, 2, none⟩ (.string ns)).setCell ⟨p, 3, none⟩ (.bool a)).setCell ⟨p, 4, none⟩ (.string vs)).setCell ⟨p, 5, none⟩ (.bool bb)).setCell ⟨p, 6, none⟩ (.int .i64 0)) := by
  constructor
  · obtain ⟨_, _, _, _, _, _, _, rz⟩ := store7 hr (.int .i64 K) (.int .i64 I) (.string ns) (.bool a) (.string vs) (.bool bb) (.int .i64 0)
    obtain ⟨_, _, rt⟩ := store2z ((heap7n (w := W) (p := p) (q := r) hne.symm (.int .i64 K) (.int .i64 I) (.string ns) (.bool a) (.string vs) (.bool bb) (.int .i64 0)).trans ht) (.slice A8 l'.length c8) (.int .i64 (σ.mx : Int))
    exact ((h.set7 hp hpM).set2 hr0 hrM).fin ((heap2d hne _ _).trans rz) rt hr0
  · obtain ⟨_, _, rt⟩ := store2z ht (.slice A8 l'.length c8) (.int .i64 (σ.mx : Int))
    obtain ⟨_, _, _, _, _, _, _, rz⟩ := store7 ((heap2d (w := W) (p := r) (q := p) hne (.slice A8 l'.length c8) (.int .i64 (σ.mx : Int))).trans hr) (.int .i64 K) (.int .i64 I) (.string ns) (.bool a) (.string vs) (.bool bb) (.int .i64 0)
    exact ((h.set2 hr0 hrM).set7 hp hpM).fin rz ((heap7n hne.symm _ _ _ _ _ _ _).trans rt) hr0
theorem pre1 {w w8 : World} {a : Array Value} {T : TypeId} (hb : Below (w.alloc (.cells a T)).drew.heap.size (w.alloc (.cells a T)).drew w8) : w8.heap[w.heap.size]? = some (.cells a T (0, 0)) := by
  have h : (w.alloc (.cells a T)).drew.heap[w.heap.size]? = some (.cells a T (0, 0)) := (allocR w a T).1
  exact (hb.block _ (rowLt h)).trans h
theorem pre2 {w w8 : World} {a a' : Array Value} {T T' : TypeId} (hb : Below ((w.alloc (.cells a T)).alloc (.cells a' T')).drew.heap.size ((w.alloc (.cells a T)).alloc (.cells a' T')).drew w8) :
    w8.heap[w.heap.size]? = some (.cells a T (0, 0)) ∧ w8.heap[w.heap.size + 1]? = some (.cells a' T' (0, 0)) := by
  obtain ⟨a1, a2, a3⟩ := allocR w a T
  obtain ⟨b1, b2, b3⟩ := allocN (w.alloc (.cells a T)) a' T' a3
  have h1 : ((w.alloc (.cells a T)).alloc (.cells a' T')).drew.heap[w.heap.size]? = some (.cells a T (0, 0)) := by rw [drewH]; exact keepN a1 b2 a3
  have h2 : ((w.alloc (.cells a T)).alloc (.cells a' T')).drew.heap[w.heap.size + 1]? = some (.cells a' T' (0, 0)) := b1
  exact ⟨(hb.block _ (rowLt h1)).trans h1, (hb.block _ (rowLt h2)).trans h2⟩
theorem pre1z {w w8 : World} {o : Obj} (hb : Below (w.alloc o).drew.heap.size (w.alloc o).drew w8) : w.heap.size + 1 ≤ w8.heap.size := by
  have h := hb.size
  have e : (w.alloc o).drew.heap.size = w.heap.size + 1 := by rw [drewH]; simp
  rw [e] at h
  exact h
theorem pre2z {w w8 : World} {o o' : Obj} (hb : Below ((w.alloc o).alloc o').drew.heap.size ((w.alloc o).alloc o').drew w8) : w.heap.size + 1 + 1 ≤ w8.heap.size := by
  have h := hb.size
  have e : ((w.alloc o).alloc o').drew.heap.size = w.heap.size + 1 + 1 := by rw [drewH]; simp
  rw [e] at h
  exact h
theorem own_rdV {e : TypeId} {B : Nat} {w : World} {A : Option Addr} {n c : Nat} {F : Nat → Value} {s : Nat} (h : OwnV s e B w (.slice A n c) n F) : RdV s w A n c F := h.rdS2
set_option maxRecDepth 20000 in
set_option maxHeartbeats 12800000 in
theorem rencode24 {w : World} {A : Option Addr} {c mx : Nat} {tb : List Fd} {T : Nat} (hd : RdV 3 w A tb.length c (fdV (fn tb))) (hA : ∀ a, A = some a → a.block < w.heap.size) (hok : EsOk T ⟨mx, tb, []⟩) (hT : T ≤ 700000)
    (A1 : Option Addr) (n1 c1 : Nat) (z : Nat → Int) (h1 : RdV 1 w A1 n1 c1 (izV z)) (hn1 : n1 ≤ 1000)
    (A2 : Option Addr) (n2 c2 : Nat) (G : Nat → Fd) (h2 : RdV 3 w A2 n2 c2 (fdV G)) (hn2 : n2 ≤ 1000) (hG : ∀ j, j < n2 → Sm4 (G j))
    (A3 : Option Addr) (n3 c3 : Nat) (O : Nat → Op4) (h3 : RdV 4 w A3 n3 c3 (opV O)) (hn3 : n3 ≤ 1000) :
    Calls Tryd.prog 26 #[.agg #[.slice A tb.length c, .int .i64 (mx : Int)], .slice A1 n1 c1, .slice A2 n2 c2, .slice A3 n3 c3] w (RcP mx tb A c z n1 G n2 O n3 w) := by
  obtain ⟨iB, hiB, hB2, hB3, hB4⟩ := info_parts u8_infoE
  have K0 : Hid (RcK w A tb.length c mx (((w.alloc (.cells #[.slice A tb.length c, .int .i64 (mx : Int)] 37)).alloc (.cells #[.slice none 0 0, .int .i64 0] 37)).alloc (.cells #[.slice A tb.length c, .int .i64 (mx : Int)] 37)) (.slice none 0 0) A c ⟨mx, tb, []⟩) := by
    obtain ⟨r0, r1, r2, e0⟩ := heap3_21 w #[.slice A tb.length c, .int .i64 (mx : Int)] #[.slice none 0 0, .int .i64 0] #[.slice A tb.length c, .int .i64 (mx : Int)] 37 37 37
    exact ⟨OwnV.nil _ _ _ _ _, r2, hd.below36O e0, fun a h => ⟨Nat.lt_of_lt_of_le (hA a h) e0.size, .inl ⟨a, h, rfl, hA a h⟩, fun e => (by cases e)⟩, r0, r1, e0⟩
  have Hok := hide hok
  have H1 := hide h1
  have H2 := hide h2
  have H3 := hide h3
  have HG := hide hG
  clear hd hA hok h1 h2 h3 hG
  go_enter Tryd.func26, Tryd.ntmps26
  go_upto_region 4 with (fail)
  generalize hW : (((w.alloc (.cells #[.slice A tb.length c, .int .i64 (mx : Int)] 37)).alloc (.cells #[.slice none 0 0, .int .i64 0] 37)).alloc (.cells #[.slice A tb.length c, .int .i64 (mx : Int)] 37)) = W3 at *
  clear hW
  go_loopw [11, 13] (fun v i wr => ∃ k : Nat, k ≤ n1 ∧ i = .int .i64 k ∧ (∀ j, j < k → 0 ≤ z j ∧ z j ≤ 2147483647) ∧ ∃ An cn, RcK w A tb.length c mx wr v An cn (ezN z k ⟨mx, tb, []⟩)) (fun _ i _ => n1 - (intOf i).toNat)
  case atStart => exact ⟨0, Nat.zero_le _, rfl, fun j hj => absurd hj (Nat.not_lt_zero _), A, c, K0.out⟩
  case round =>
    obtain ⟨k, hk, rfl, hz, An, cn, hK⟩ := hrel
    obtain ⟨Av, cv, hv', _, _⟩ := hK.ov.rd
    subst hv'
    have hok := ez_ok Hok.out k hz
    have hlen := ez_len z ⟨mx, tb, []⟩ k
    have HZ := hide hz
    have KR := hide hK
    clear hz hK K0
    generalize hσ : ezN z k ⟨mx, tb, []⟩ = σ at *
    have Hσ := hide hσ
    have HOk := hide hok
    have htop := bN_top hok.rs
    have htl := hok.len
    simp only [List.length_nil, Nat.zero_add] at hlen
    have hN9 : bN σ.rs ≤ 1000000000 := by omega
    clear hσ hok htop
    by_cases hlt : k < n1
    · have hkn : (k : Int) < (n1 : Int) := by omega
      have H1w := hide (H1.out.below36O KR.out.e)
      obtain ⟨b, off, rfl, hc⟩ := iz_row H1w.out hlt
      by_cases hv : 0 ≤ z k ∧ z k ≤ 2147483647
      · have hdv : decide (0 ≤ z k ∧ z k ≤ 2147483647) = true := decide_eq_true hv
        obtain ⟨zn, hzn⟩ : ∃ zn : Nat, z k = (zn : Int) := ⟨(z k).toNat, by omega⟩
        have hzb : (zn : Int) ≤ 2147483647 := by rw [← hzn]; exact hv.2
        have Hv := hide hv
        rw [hzn] at hc hdv
        have Hzn := hide hzn
        clear hzn hv
        go_wp2_with fail
        refine (rmay21 (zn : Int) _).mono ?_
        rintro e wl ⟨rfl, rfl⟩
        rw [hdv]
        have C := hide (fun W => rput22 5 0 ⟨#[]⟩ false ⟨#[]⟩ false (zn : Int) (Nat.zero_le _) (Nat.zero_le _) W (rz5_ok (z := (zn : Int)) (by omega) hzb).b)
        go_wp2_with fail
        refine (C.out _).mono ?_
        rintro e w5 ⟨v5, rfl, ho5, hb5⟩
        obtain ⟨A5, c5, rfl, hrd5, _⟩ := ho5.rd
        have K5 := hide (KR.out.below hb5)
        have RD5 := hide (rd_V hrd5)
        have htop5 := (rz5_ok (z := (zn : Int)) (by omega) hzb).top
        obtain ⟨M, hM⟩ : ∃ M, M = (rz5 (zn : Int)).N := ⟨_, rfl⟩
        have HM := hide hM
        rw [← hM] at htop5
        have hMM : rpN 5 0 ⟨#[]⟩ false ⟨#[]⟩ false (zn : Int) = M := hM.symm
        rw [hMM] at RD5 ⊢
        have B5 := hide K5.out.sz
        clear ho5 hb5 hrd5 C hMM hM KR H1w hc hdv
        go_wp2_with (at_builtin; refine wp_appV rfl (.tmp 32) (.tmp 38) _ rfl 1 iB _ 1 Tryd.underlying22 hiB hB2 hB3 hB4 rfl (by omega) (w.heap.size + 3) _ (bN σ.rs) (byV (bF σ.rs)) rfl K5.out.ov A5 M c5 (byV (rpF 5 0 ⟨#[]⟩ false ⟨#[]⟩ false (zn : Int))) rfl RD5.out (fun _ _ => rfl) (by simp only [maxLen]; omega) (by omega) (Nat.le_trans (by omega) B5.out) ?_; intro v6 w6 hown6 hg6 hob6; have K6 := hide (K5.out.put hg6 (rz5 (zn : Int)) (by rw [← HM.out]; rw [byV_cat] at hown6; exact hown6) hob6); obtain ⟨A6, c6, rfl, _, _⟩ := hown6.rd; clear hown6 hg6 hob6)
        clear RD5
        obtain ⟨n0, n1_⟩ := row2 K6.out.now
        have H1x := hide (H1.out.below36O K6.out.e)
        obtain ⟨b, off, e9, hc⟩ := iz_row H1x.out hlt
        cases e9
        rw [Hzn.out] at hc
        have hwl : ∀ f ∈ σ.tb, wt f ≤ 1000000 := fun f hf => (HOk.out.tb f hf).wt
        have KD := hide K6.out.drew
        have C7 := hide (rresizeL (mx := (σ.mx : Int)) KD.out.rd (fun a ha => (KD.out.al a ha).1) (by show σ.tb.length ≤ _; omega) hwl (zn : Int))
        go_region_law (first | (go_simp; go_at_call 35; refine C7.out.mono ?_; rintro e w7 ⟨A7, c7, rfl, hr7, ha7, hb7⟩; have K8 := hide (KD.out.setT hb7 (mx' := zn) hr7 (fun a ha => by obtain ⟨a0, x1, x2⟩ := ha7 a ha; have x3 := (KD.out.al a0 x1).1; rw [x2] at x3; exact ⟨Nat.lt_of_lt_of_le x3 hb7.size, .inl ⟨a0, x1, x2⟩⟩)); obtain ⟨⟨u0, y0⟩, ⟨u1, y1⟩, _⟩ := store2z (keepRow (w := w6.drew) KD.out.now hb7) (.slice A7 (fitL (zn : Int) σ.tb).length c7) (.int .i64 (zn : Int)); clear hr7 ha7 hb7))
        all_goals
          go_wp2_with fail
          go_roundw
          case rel =>
            refine ⟨k + 1, by omega, by go_num, fun j hj => ?_, A7, c7, ?_⟩
            · rcases Nat.lt_or_ge j k with h | h
              · exact HZ.out j h
              · obtain rfl : j = k := by omega
                exact Hv.out
            · have h := K8.out
              show RcK w A tb.length c mx _ (.slice A6 (bN σ.rs + M) c6) A7 c7 ⟨(z k).toNat, fitL (z k) (ezN z k ⟨mx, tb, []⟩).tb, (ezN z k ⟨mx, tb, []⟩).rs ++ [rz5 (z k)]⟩
              rw [Hσ.out, Hzn.out]
              exact h
          case measure => simp [intOf]; omega
      · have hdv : decide (0 ≤ z k ∧ z k ≤ 2147483647) = false := decide_eq_false hv
        have HN : Hid (¬ szok z n1) := fun h => hv (h k hlt)
        clear hv
        go_wp2_with fail
        refine (rmay21 (z k) _).mono ?_
        rintro e wl ⟨rfl, rfl⟩
        rw [hdv]
        obtain ⟨⟨v0, v1⟩, ⟨u0, y0⟩, ⟨u1, y1⟩, rr2⟩ := step2q KR.out.q2 KR.out.q6 (.slice A tb.length c) (.int .i64 (mx : Int))
        have RQ2 := hide rr2
        have EW := hide KR.out.e
        clear rr2 hdv hc
        go_upto_region 7 with (fail)
        go_region
        all_goals
          go_wp2_with fail
          obtain ⟨n0, n1_⟩ := row2 RQ2.out
          refine bodyPost_ret (v := .tuple #[.slice none 0 0, .agg #[.slice A tb.length c, .int .i64 (mx : Int)], .bool false]) ?_ rfl (.inl ⟨HN.out, rfl, (EW.out.drew.setCell (p := ⟨w.heap.size + 1, 0, none⟩) (Nat.le_succ _) _).setCell (p := ⟨w.heap.size + 1, 1, none⟩) (Nat.le_succ _) _⟩)
          rw [results_tct rfl]
          go_simp
    · obtain rfl : n1 = k := by omega
      have HS : Hid (szok z n1) := HZ.out
      clear HZ hlt
      go_wp2_with fail
      go_loopw [11, 14] (fun v i wr => ∃ k : Nat, k ≤ n2 ∧ i = .int .i64 k ∧ ∃ τ An cn, EnR G (optAt O n3) σ k τ ∧ RcK w A tb.length c mx wr v An cn τ) (fun _ i _ => n2 - (intOf i).toNat)
      case atStart => exact ⟨0, Nat.zero_le _, rfl, σ, An, cn, .zero, KR.out⟩
      case round =>
        obtain ⟨k, hk, rfl, τ, Am, cm, hen, hK2⟩ := hrel
        obtain ⟨Av2, cv2, hv2, _, _⟩ := hK2.ov.rd
        subst hv2
        have HEn := hide hen
        have KT := hide hK2
        have hok2 := en_ok hen HOk.out (by omega) fun j hj => HG.out j (by omega)
        have hl2 := en_len hen
        have htop2 := bN_top hok2.rs
        have htl2 := hok2.len
        have HOk2 := hide hok2
        have hmx2 := hok2.mx
        have hN9 : bN τ.rs ≤ 1000000000 := by omega
        clear hen hK2 hok2 htop2 KR
        by_cases hlt : k < n2
        · have hkn : (k : Int) < (n2 : Int) := by omega
          have al1 := (Below.refl wr.heap.size wr).alloc (Nat.le_refl _) (.cells #[.int .i64 0, .bool false, .bool false, .bool false] 101)
          have RO0 := hide (heap_alloc_new wr (.cells #[.int .i64 0, .bool false, .bool false, .bool false] 101))
          have K3 := hide (KT.out.below al1)
          have hszq : Hid (w.heap.size + 3 ≤ wr.heap.size) := KT.out.sz
          have Hlq : Hid ((∀ i, (Value.slice Av2 (bN τ.rs) cv2).ownBlock = some i → i < wr.heap.size) ∧ ∀ a, Am = some a → a.block < wr.heap.size) := ⟨fun i hi => (World.ownsRow.lt KT.out.ov i hi).2, fun a ha => (KT.out.al a ha).1⟩
          clear al1
          go_upto_region 14 with (fail)
          generalize wr.alloc (.cells #[.int .i64 0, .bool false, .bool false, .bool false] 101) = W3 at *
          generalize wr.heap.size = q at *
          rcases Nat.eq_zero_or_pos n3 with h30 | h30
          · subst h30
            have e0 : decide ((0 : Int) < ((0 : Nat) : Int)) = false := rfl
            obtain ⟨way, hway⟩ : ∃ way : Int, way = 0 := ⟨_, rfl⟩
            obtain ⟨nn, hnn⟩ : ∃ nn : Bool, nn = false := ⟨_, rfl⟩
            obtain ⟨sn, hsn⟩ : ∃ sn : Bool, sn = false := ⟨_, rfl⟩
            obtain ⟨sv, hsv⟩ : ∃ sv : Bool, sv = false := ⟨_, rfl⟩
            have RO : Hid (W3.heap[q]? = some (.cells #[.int .i64 way, .bool nn, .bool sn, .bool sv] 101 (0, 0))) := by rw [hway, hnn, hsn, hsv]; exact RO0.out
            have HO : Hid (optAt O 0 k = ⟨way, nn, sn, sv⟩) := by rw [hway, hnn, hsn, hsv]; exact optAt_zero
            have K6 := hide K3.out
            clear K3 RO0 hway hnn hsn hsv
            generalize W3 = W6 at *
            have H2w := hide (H2.out.below36O K6.out.e)
            have hgk := hide (HG.out k hlt)
            obtain ⟨b, off, rfl, d0, d1, d2⟩ := row_at21 H2w.out hlt
            generalize hGk : G k = Gk at *
            obtain ⟨nm, vl, nv⟩ := Gk
            have HGk := hide hGk
            simp only at d0 d1 d2
            obtain ⟨n0, n1_⟩ := row2 K6.out.now
            obtain ⟨o0, o1, o2, o3⟩ := row4e RO.out
            have C := hide (fun (W : World) (hb : Below W6.heap.size W6 W) => one24 (w := W) (mx := τ.mx) (K6.out.rd.below36O hb) (fun a ha => Nat.lt_of_lt_of_le (K6.out.al a ha).1 hb.size) (by omega) (fun f hf => (HOk2.out.tb f hf).wt) hmx2 nm vl nv (Sm4.wt hgk.out) way nn sn sv)
            have B0 := hide (show Below W6.heap.size W6 (W6.drew) from (Below.refl W6.heap.size W6).drew)
            have B1 := hide (show Below W6.heap.size W6 ((W6.alloc (.cells #[.int .i64 0, .int .i64 0, .string ⟨#[]⟩, .bool false, .string ⟨#[]⟩, .bool false, .int .i64 0] 86)).drew) from ((Below.refl W6.heap.size W6).alloc (Nat.le_refl _) (.cells #[.int .i64 0, .int .i64 0, .string ⟨#[]⟩, .bool false, .string ⟨#[]⟩, .bool false, .int .i64 0] 86)).drew)
            have B2 := hide (show Below W6.heap.size W6 ((W6.alloc (.cells #[.slice none 0 0, .int .i64 0] 37)).drew) from ((Below.refl W6.heap.size W6).alloc (Nat.le_refl _) (.cells #[.slice none 0 0, .int .i64 0] 37)).drew)
            have B3 := hide (show Below W6.heap.size W6 (((W6.alloc (.cells #[.int .i64 0, .int .i64 0, .string ⟨#[]⟩, .bool false, .string ⟨#[]⟩, .bool false, .int .i64 0] 86)).alloc (.cells #[.slice none 0 0, .int .i64 0] 37)).drew) from (((Below.refl W6.heap.size W6).alloc (Nat.le_refl _) (.cells #[.int .i64 0, .int .i64 0, .string ⟨#[]⟩, .bool false, .string ⟨#[]⟩, .bool false, .int .i64 0] 86)).alloc (by simp) (.cells #[.slice none 0 0, .int .i64 0] 37)).drew)
            have B4 := hide (show Below W6.heap.size W6 (((W6.alloc (.cells #[.slice none 0 0, .int .i64 0] 37)).alloc (.cells #[.int .i64 0, .int .i64 0, .string ⟨#[]⟩, .bool false, .string ⟨#[]⟩, .bool false, .int .i64 0] 86)).drew) from (((Below.refl W6.heap.size W6).alloc (Nat.le_refl _) (.cells #[.slice none 0 0, .int .i64 0] 37)).alloc (by simp) (.cells #[.int .i64 0, .int .i64 0, .string ⟨#[]⟩, .bool false, .string ⟨#[]⟩, .bool false, .int .i64 0] 86)).drew)
            have hq6 : q < W6.heap.size := rowLt RO.out
            have hw6 : w.heap.size + 1 + 1 < W6.heap.size := rowLt K6.out.now
            have hb6 : b < W6.heap.size := World.block_lt_of_cell? W6 _ d0
            have ne1 : W6.heap.size ≠ w.heap.size + 1 + 1 := Nat.ne_of_gt hw6
            have ne2 : W6.heap.size ≠ b := Nat.ne_of_gt hb6
            have ne3 : W6.heap.size ≠ q := Nat.ne_of_gt hq6
            have ne4 : W6.heap.size + 1 ≠ w.heap.size + 1 + 1 := by omega
            have ne5 : W6.heap.size + 1 ≠ b := by omega
            have ne6 : W6.heap.size + 1 ≠ q := by omega
            have ne7 : W6.heap.size ≠ w.heap.size + 1 := by omega
            clear hGk
            go_upto_region 16 with (fail)
            go_cut [16, 17] from 46 to 77 (fun x y W => ∃ pr pn K I ns a vs bb l' A8 c8, x = .pointer (some ⟨pr, 0, none⟩) ∧ y = .pointer (some ⟨pn, 0, none⟩) ∧ FinO w A tb.length c mx (.slice Av2 (bN τ.rs) cv2) Am cm τ q K I ns a vs bb A8 c8 l' pr pn W ∧ WrR τ.mx τ.tb ⟨nm, vl, nv⟩ way nn sn sv K I ns a vs bb l')
            case first =>
              go_region_held3 (fun W => (W.cell? ⟨w.heap.size + 1 + 1, 0, none⟩ = some (.slice Am τ.tb.length cm) ∧ W.cell? ⟨w.heap.size + 1 + 1, 1, none⟩ = some (.int .i64 (τ.mx : Int))) ∧ (W.cell? ⟨b, off + k * 3, none⟩ = some (.string nm) ∧ W.cell? ⟨b, off + k * 3 + 1, none⟩ = some (.string vl) ∧ W.cell? ⟨b, off + k * 3 + 2, none⟩ = some (.bool nv)) ∧ W.cell? ⟨q, 0, none⟩ = some (.int .i64 way) ∧ W.cell? ⟨q, 1, none⟩ = some (.bool nn) ∧ W.cell? ⟨q, 2, none⟩ = some (.bool sn) ∧ W.cell? ⟨q, 3, none⟩ = some (.bool sv))
                ((first | (simp [n0, n1_, d0, d1, d2, o0, o1, o2, o3, World.cell?_drew, World.cell?_alloc_some, World.cell?_setCell_far]; done) | (simp [p0_, p1_, p2_, p3_, p4_, p5_, p6_, p7_, p8_, ne1, ne2, ne3, ne4, ne5, ne6, ne7, World.cell?_drew, World.cell?_alloc_some, World.cell?_setCell_far]; done)))
                ((first
                  | (go_at_call 47; (with_reducible refine (C.out (W6.drew) B0.out).mono ?_); rintro e W8 ⟨K, I, ns, a, vs, bb, l', A8, c8, rfl, hwr, hr8, ha8, hb8⟩; have HWr := hide hwr; have hrok := hide (wr_ok hwr (by omega) hgk.out); have BB := hide (B0.out.of hb8); have K8 := hide (K6.out.below BB.out); have FC := hide (K6.out.fc (M := W6.heap.size) K8.out hq6 hr8 ha8 rfl (Nat.le_refl _) hb8.size); have kc := fun {a : Addr} {v : Value} (h : W6.cell? a = some v) => (BB.out.cell (World.block_lt_of_cell? W6 _ h)).trans h; have p0_ := kc n0; have p1_ := kc n1_; have p2_ := kc d0; have p3_ := kc d1; have p4_ := kc d2; have p5_ := kc o0; have p6_ := kc o1; have p7_ := kc o2; have p8_ := kc o3; have hb8z : W6.heap.size ≤ W8.heap.size := hb8.size; skip; clear kc hwr hr8 ha8 hb8)
                  | (go_at_call 47; (with_reducible refine (C.out ((W6.alloc (.cells #[.int .i64 0, .int .i64 0, .string ⟨#[]⟩, .bool false, .string ⟨#[]⟩, .bool false, .int .i64 0] 86)).drew) B1.out).mono ?_); rintro e W8 ⟨K, I, ns, a, vs, bb, l', A8, c8, rfl, hwr, hr8, ha8, hb8⟩; have HWr := hide hwr; have hrok := hide (wr_ok hwr (by omega) hgk.out); have BB := hide (B1.out.of hb8); have K8 := hide (K6.out.below BB.out); have FC := hide (K6.out.fc (M := W6.heap.size + 1) K8.out hq6 hr8 ha8 (by rw [drewH]; simp) (Nat.le_succ _) hb8.size); have kc := fun {a : Addr} {v : Value} (h : W6.cell? a = some v) => (BB.out.cell (World.block_lt_of_cell? W6 _ h)).trans h; have p0_ := kc n0; have p1_ := kc n1_; have p2_ := kc d0; have p3_ := kc d1; have p4_ := kc d2; have p5_ := kc o0; have p6_ := kc o1; have p7_ := kc o2; have p8_ := kc o3; have hb8z : W6.heap.size + 1 ≤ W8.heap.size := pre1z hb8; have hl0 : W6.heap.size < W8.heap.size := hb8z; have rR := hide (pre1 hb8); obtain ⟨⟨xk0, xz0⟩, ⟨xk1, xz1⟩, ⟨xk2, xz2⟩, ⟨xk3, xz3⟩, ⟨xk4, xz4⟩, ⟨xk5, xz5⟩, ⟨xk6, xz6⟩, _⟩ := store7 rR.out (.int .i64 K) (.int .i64 I) (.string ns) (.bool a) (.string vs) (.bool bb) (.int .i64 0); clear kc hwr hr8 ha8 hb8)
                  | (go_at_call 47; (with_reducible refine (C.out ((W6.alloc (.cells #[.slice none 0 0, .int .i64 0] 37)).drew) B2.out).mono ?_); rintro e W8 ⟨K, I, ns, a, vs, bb, l', A8, c8, rfl, hwr, hr8, ha8, hb8⟩; have HWr := hide hwr; have hrok := hide (wr_ok hwr (by omega) hgk.out); have BB := hide (B2.out.of hb8); have K8 := hide (K6.out.below BB.out); have FC := hide (K6.out.fc (M := W6.heap.size + 1) K8.out hq6 hr8 ha8 (by rw [drewH]; simp) (Nat.le_succ _) hb8.size); have kc := fun {a : Addr} {v : Value} (h : W6.cell? a = some v) => (BB.out.cell (World.block_lt_of_cell? W6 _ h)).trans h; have p0_ := kc n0; have p1_ := kc n1_; have p2_ := kc d0; have p3_ := kc d1; have p4_ := kc d2; have p5_ := kc o0; have p6_ := kc o1; have p7_ := kc o2; have p8_ := kc o3; have hb8z : W6.heap.size + 1 ≤ W8.heap.size := pre1z hb8; have hl0 : W6.heap.size < W8.heap.size := hb8z; have rT := hide (pre1 hb8); obtain ⟨⟨xk0, xz0⟩, ⟨xk1, xz1⟩, _⟩ := store2z rT.out (.slice A8 l'.length c8) (.int .i64 (τ.mx : Int)); clear kc hwr hr8 ha8 hb8)
                  | (go_at_call 47; (with_reducible refine (C.out (((W6.alloc (.cells #[.int .i64 0, .int .i64 0, .string ⟨#[]⟩, .bool false, .string ⟨#[]⟩, .bool false, .int .i64 0] 86)).alloc (.cells #[.slice none 0 0, .int .i64 0] 37)).drew) B3.out).mono ?_); rintro e W8 ⟨K, I, ns, a, vs, bb, l', A8, c8, rfl, hwr, hr8, ha8, hb8⟩; have HWr := hide hwr; have hrok := hide (wr_ok hwr (by omega) hgk.out); have BB := hide (B3.out.of hb8); have K8 := hide (K6.out.below BB.out); have FC := hide (K6.out.fc (M := W6.heap.size + 1 + 1) K8.out hq6 hr8 ha8 (by rw [drewH]; simp) (Nat.le_succ_of_le (Nat.le_succ _)) hb8.size); have kc := fun {a : Addr} {v : Value} (h : W6.cell? a = some v) => (BB.out.cell (World.block_lt_of_cell? W6 _ h)).trans h; have p0_ := kc n0; have p1_ := kc n1_; have p2_ := kc d0; have p3_ := kc d1; have p4_ := kc d2; have p5_ := kc o0; have p6_ := kc o1; have p7_ := kc o2; have p8_ := kc o3; have hb8z : W6.heap.size + 1 + 1 ≤ W8.heap.size := pre2z hb8; have hl0 : W6.heap.size < W8.heap.size := Nat.lt_of_succ_lt hb8z; have hl1 : W6.heap.size + 1 < W8.heap.size := hb8z; have rR := hide (pre2 hb8).1; have rT := hide (pre2 hb8).2; obtain ⟨⟨xk0, xz0⟩, ⟨xk1, xz1⟩, ⟨xk2, xz2⟩, ⟨xk3, xz3⟩, ⟨xk4, xz4⟩, ⟨xk5, xz5⟩, ⟨xk6, xz6⟩, _⟩ := store7 rR.out (.int .i64 K) (.int .i64 I) (.string ns) (.bool a) (.string vs) (.bool bb) (.int .i64 0); obtain ⟨⟨yk0, yz0⟩, ⟨yk1, yz1⟩, _⟩ := store2z rT.out (.slice A8 l'.length c8) (.int .i64 (τ.mx : Int)); have rT2 := (heap7n (w := W8) (p := W6.heap.size) (q := (W6.heap.size + 1)) (Nat.succ_ne_self _) (.int .i64 K) (.int .i64 I) (.string ns) (.bool a) (.string vs) (.bool bb) (.int .i64 0)).trans rT.out; have rR2 := (heap2d (w := W8) (p := (W6.heap.size + 1)) (q := W6.heap.size) (Nat.ne_of_lt (Nat.lt_succ_self _)) (.slice A8 l'.length c8) (.int .i64 (τ.mx : Int))).trans rR.out; obtain ⟨⟨uk0, uz0⟩, ⟨uk1, uz1⟩, _⟩ := store2z rT2 (.slice A8 l'.length c8) (.int .i64 (τ.mx : Int)); obtain ⟨⟨vk0, vz0⟩, ⟨vk1, vz1⟩, ⟨vk2, vz2⟩, ⟨vk3, vz3⟩, ⟨vk4, vz4⟩, ⟨vk5, vz5⟩, ⟨vk6, vz6⟩, _⟩ := store7 rR2 (.int .i64 K) (.int .i64 I) (.string ns) (.bool a) (.string vs) (.bool bb) (.int .i64 0); clear rT2 rR2; clear kc hwr hr8 ha8 hb8)
                  | (go_at_call 47; (with_reducible refine (C.out (((W6.alloc (.cells #[.slice none 0 0, .int .i64 0] 37)).alloc (.cells #[.int .i64 0, .int .i64 0, .string ⟨#[]⟩, .bool false, .string ⟨#[]⟩, .bool false, .int .i64 0] 86)).drew) B4.out).mono ?_); rintro e W8 ⟨K, I, ns, a, vs, bb, l', A8, c8, rfl, hwr, hr8, ha8, hb8⟩; have HWr := hide hwr; have hrok := hide (wr_ok hwr (by omega) hgk.out); have BB := hide (B4.out.of hb8); have K8 := hide (K6.out.below BB.out); have FC := hide (K6.out.fc (M := W6.heap.size + 1 + 1) K8.out hq6 hr8 ha8 (by rw [drewH]; simp) (Nat.le_succ_of_le (Nat.le_succ _)) hb8.size); have kc := fun {a : Addr} {v : Value} (h : W6.cell? a = some v) => (BB.out.cell (World.block_lt_of_cell? W6 _ h)).trans h; have p0_ := kc n0; have p1_ := kc n1_; have p2_ := kc d0; have p3_ := kc d1; have p4_ := kc d2; have p5_ := kc o0; have p6_ := kc o1; have p7_ := kc o2; have p8_ := kc o3; have hb8z : W6.heap.size + 1 + 1 ≤ W8.heap.size := pre2z hb8; have hl0 : W6.heap.size < W8.heap.size := Nat.lt_of_succ_lt hb8z; have hl1 : W6.heap.size + 1 < W8.heap.size := hb8z; have rT := hide (pre2 hb8).1; have rR := hide (pre2 hb8).2; obtain ⟨⟨xk0, xz0⟩, ⟨xk1, xz1⟩, ⟨xk2, xz2⟩, ⟨xk3, xz3⟩, ⟨xk4, xz4⟩, ⟨xk5, xz5⟩, ⟨xk6, xz6⟩, _⟩ := store7 rR.out (.int .i64 K) (.int .i64 I) (.string ns) (.bool a) (.string vs) (.bool bb) (.int .i64 0); obtain ⟨⟨yk0, yz0⟩, ⟨yk1, yz1⟩, _⟩ := store2z rT.out (.slice A8 l'.length c8) (.int .i64 (τ.mx : Int)); have rT2 := (heap7n (w := W8) (p := (W6.heap.size + 1)) (q := W6.heap.size) (Nat.ne_of_lt (Nat.lt_succ_self _)) (.int .i64 K) (.int .i64 I) (.string ns) (.bool a) (.string vs) (.bool bb) (.int .i64 0)).trans rT.out; have rR2 := (heap2d (w := W8) (p := W6.heap.size) (q := (W6.heap.size + 1)) (Nat.succ_ne_self _) (.slice A8 l'.length c8) (.int .i64 (τ.mx : Int))).trans rR.out; obtain ⟨⟨uk0, uz0⟩, ⟨uk1, uz1⟩, _⟩ := store2z rT2 (.slice A8 l'.length c8) (.int .i64 (τ.mx : Int)); obtain ⟨⟨vk0, vz0⟩, ⟨vk1, vz1⟩, ⟨vk2, vz2⟩, ⟨vk3, vz3⟩, ⟨vk4, vz4⟩, ⟨vk5, vz5⟩, ⟨vk6, vz6⟩, _⟩ := store7 rR2 (.int .i64 K) (.int .i64 I) (.string ns) (.bool a) (.string vs) (.bool bb) (.int .i64 0); clear rT2 rR2; clear kc hwr hr8 ha8 hb8)))
              all_goals
                go_wp2_with fail
                go_meet
                refine ⟨_, _, K, I, ns, a, vs, bb, l', A8, c8, rfl, rfl, ?_, HWr.out⟩
                first
                  | (have f := (fin_aa (K := K) (I := I) (ns := ns) (a := a) (vs := vs) (bb := bb) FC.out).1; with_reducible exact f)
                  | (have f := (fin_aa (K := K) (I := I) (ns := ns) (a := a) (vs := vs) (bb := bb) FC.out).2; with_reducible exact f)
                  | (have f := fin_7a (K := K) (I := I) (ns := ns) (a := a) (vs := vs) (bb := bb) FC.out rR.out (Nat.le_refl _) (Nat.lt_succ_self _); with_reducible exact f)
                  | (have f := fin_2a (K := K) (I := I) (ns := ns) (a := a) (vs := vs) (bb := bb) FC.out rT.out (Nat.le_refl _) (Nat.lt_succ_self _); with_reducible exact f)
                  | (have f := (fin_72 (K := K) (I := I) (ns := ns) (a := a) (vs := vs) (bb := bb) FC.out rR.out rT.out (by omega) (by omega) (by omega) (by omega) (by omega)).1; with_reducible exact f)
                  | (have f := (fin_72 (K := K) (I := I) (ns := ns) (a := a) (vs := vs) (bb := bb) FC.out rR.out rT.out (by omega) (by omega) (by omega) (by omega) (by omega)).2; with_reducible exact f)
            case rest =>
              obtain ⟨pr, pn, K, I, ns, a, vs, bb, l', A8, c8, rfl, rfl, ⟨xr, xn, kf, xd, xa, xo⟩, hwr⟩ := hcut
              have HWr := hide hwr
              have hrok := hide (wr_ok hwr (by omega) hgk.out)
              have HNown : Hid ((Value.slice Av2 (bN τ.rs) cv2).ownBlock ≠ some pn) := xo
              clear hwr xo n0 n1_ d0 d1 d2 o0 o1 o2 o3 C H2w B0 B1 B2 B3 B4 K6
              obtain ⟨r0, r1, r2, r3, r4, r5, r6⟩ := row7D xr
              obtain ⟨s0, s1⟩ := row2 xn
              have KF := hide kf
              have HR8 := hide xd
              have HA8 := hide xa
              have XR := hide xr
              have XN := hide xn
              have C9 := hide (fun W => rput22 K I ns a vs bb 0 (by have := hrok.out.n; simp only at this; omega) (by have := hrok.out.v; simp only at this; omega) W hrok.out.b)
              clear kf xd xa xr xn
              go_wp2_with fail
              refine (C9.out _).mono ?_
              rintro e w5 ⟨v5, rfl, ho5, hb5⟩
              obtain ⟨A5, c5, rfl, hrd5, _⟩ := ho5.rd
              have K5 := hide (KF.out.below hb5)
              have RD5 := hide (rd_V hrd5)
              have XN5 := hide (keepRow XN.out hb5)
              have R85 := hide (HR8.out.below36O hb5)
              have A85 : Hid (∀ a, A8 = some a → a.block < w5.heap.size ∧ ((∃ a0, Am = some a0 ∧ a0.block = a.block) ∨ q < a.block) ∧ (Value.slice Av2 (bN τ.rs) cv2).ownBlock ≠ some a.block) := fun a ha => ⟨Nat.lt_of_lt_of_le (HA8.out a ha).1 hb5.size, (HA8.out a ha).2⟩
              have htop5 := hrok.out.top
              obtain ⟨M, hM⟩ : ∃ M, M = Rpv.N ⟨K, I, ns, a, vs, bb, 0⟩ := ⟨_, rfl⟩
              have HM := hide hM
              rw [← hM] at htop5
              have hMM : rpN K I ns a vs bb 0 = M := hM.symm
              rw [hMM] at RD5 ⊢
              have B5 := hide K5.out.sz
              clear ho5 hb5 hrd5 C9 hMM hM KF HR8 HA8 r0 r1 r2 r3 r4 r5 r6 s0 s1 XN XR
              go_wp2_with (at_builtin; refine wp_appV rfl (.tmp 73) (.tmp 75) _ rfl 1 iB _ 1 Tryd.underlying22 hiB hB2 hB3 hB4 rfl (by omega) (w.heap.size + 3) _ (bN τ.rs) (byV (bF τ.rs)) rfl K5.out.ov A5 M c5 (byV (rpF K I ns a vs bb 0)) rfl RD5.out (fun _ _ => rfl) (by simp only [maxLen]; omega) (by omega) (Nat.le_trans (by omega) B5.out) ?_; intro v6 w6 hown6 hg6 hob6; have K9 := hide (K5.out.put hg6 ⟨K, I, ns, a, vs, bb, 0⟩ (by rw [← HM.out]; rw [byV_cat] at hown6; exact hown6) hob6); have XN6 := hide ((hg6.block _ (rowLt XN5.out) (fun e => HNown.out e.symm)).trans XN5.out); have R86 := hide (R85.out.at21 fun x hx => hg6.block _ (A85.out x hx).1 (fun e => (A85.out x hx).2.2 e.symm)); have A86 : Hid (∀ x, A8 = some x → x.block < w6.heap.size ∧ ((∃ a0, Am = some a0 ∧ a0.block = x.block) ∨ q < x.block)) := (fun x hx => ⟨Nat.lt_of_lt_of_le (A85.out x hx).1 hg6.size, (A85.out x hx).2.1⟩); have HFr : Hid (∀ x, A8 = some x → v6.ownBlock ≠ some x.block) := (fun x hx e => by rcases hob6 with h | h; exact (A85.out x hx).2.2 (h ▸ e); have h9 : w5.heap.size = x.block := Option.some.inj (h.symm.trans e); have := (A85.out x hx).1; omega); obtain ⟨r0, r1⟩ := row2 XN6.out; obtain ⟨⟨u0, y0⟩, ⟨u1, y1⟩, _⟩ := store2z K9.out.now (.slice A8 l'.length c8) (.int .i64 (τ.mx : Int)); obtain ⟨A6, c6, rfl, _, _⟩ := hown6.rd; clear hown6 hg6 hob6)
              clear RD5 R85 A85 XN5 HNown
              have hszq2 := hszq.out
              have K11 := hide (K9.out.setT2 (mx' := τ.mx) R86.out (fun x hx => by
                obtain ⟨x1, x2⟩ := A86.out x hx
                have hfr := HFr.out x hx
                refine ⟨x1, ?_, hfr⟩
                rcases x2 with ⟨a0, x3, x4⟩ | x2
                · have x5 := (K9.out.al a0 x3).2.1
                  rw [x4] at x5
                  rcases x5 with ⟨b0, h1, h2, h3⟩ | x5
                  · exact .inl ⟨b0, h1, h2, by omega⟩
                  · exact .inr x5
                · exact .inr (by omega)))
              go_wp2_with fail
              go_roundw
              case rel => exact ⟨k + 1, by omega, by go_num, ⟨τ.mx, l', τ.rs ++ [⟨K, I, ns, a, vs, bb, 0⟩]⟩, A8, c8, .succ HEn.out (by rw [HGk.out, HO.out]; exact HWr.out), K11.out⟩
              case measure => simp [intOf]; omega
          · have e0 : decide ((0 : Int) < (n3 : Int)) = true := decide_eq_true (by omega)
            have e0' : decide (0 < n3) = true := decide_eq_true h30
            have hmod : k % n3 < n3 := Nat.mod_lt _ h30
            have hz3 : ((n3 : Int) == 0) = false := by simp; omega
            have hrem : (k : Int) % (n3 : Int) = ((k % n3 : Nat) : Int) := (Int.natCast_emod k n3).symm
            have hrem2 : Int.tmod (k : Int) (n3 : Int) = ((k % n3 : Nat) : Int) := (Int.ofNat_tmod k n3).symm
            have hmi : ((k % n3 : Nat) : Int) < (n3 : Int) := by omega
            have H3y := hide (H3.out.below36O K3.out.e)
            obtain ⟨b3, off3, rfl, y0, y1, y2, y3⟩ := opt_row H3y.out hmod
            have HO : Hid (optAt O n3 k = O (k % n3)) := optAt_pos h30
            generalize hOo : O (k % n3) = Oo at *
            obtain ⟨way, nn, sn, sv⟩ := Oo
            simp only at y0 y1 y2 y3
            obtain ⟨kk, hkk⟩ : ∃ kk, kk = k % n3 := ⟨_, rfl⟩
            rw [← hkk] at hrem hrem2 hmod hmi y0 y1 y2 y3
            have Hkk := hide hkk
            obtain ⟨⟨k0, z0⟩, ⟨k1, z1⟩, ⟨k2, z2⟩, ⟨k3, z3⟩, rr⟩ := store4e RO0.out (.int .i64 way) (.bool nn) (.bool sn) (.bool sv)
            have RO := hide rr
            have K6 := hide (K3.out.free hszq.out Hlq.out.1 Hlq.out.2 (fun i hi => heap4e hi (.int .i64 way) (.bool nn) (.bool sn) (.bool sv)) (heapsz4 _ _ _ _) (below4e K3.out.e (by have := hszq.out; omega) _ _ _ _))
            clear rr hOo hkk K3 RO0 H3y
            go_upto_region 16 with (fail)
            clear k0 z0 k1 z1 k2 z2 k3 z3 y0 y1 y2 y3 hrem hrem2
            generalize (((W3.setCell ⟨q, 0, none⟩ (.int .i64 way)).setCell ⟨q, 1, none⟩ (.bool nn)).setCell ⟨q, 2, none⟩ (.bool sn)).setCell ⟨q, 3, none⟩ (.bool sv) = W6 at *
            have H2w := hide (H2.out.below36O K6.out.e)
            have hgk := hide (HG.out k hlt)
            obtain ⟨b, off, rfl, d0, d1, d2⟩ := row_at21 H2w.out hlt
            generalize hGk : G k = Gk at *
            obtain ⟨nm, vl, nv⟩ := Gk
            have HGk := hide hGk
            simp only at d0 d1 d2
            obtain ⟨n0, n1_⟩ := row2 K6.out.now
            obtain ⟨o0, o1, o2, o3⟩ := row4e RO.out
            have C := hide (fun (W : World) (hb : Below W6.heap.size W6 W) => one24 (w := W) (mx := τ.mx) (K6.out.rd.below36O hb) (fun a ha => Nat.lt_of_lt_of_le (K6.out.al a ha).1 hb.size) (by omega) (fun f hf => (HOk2.out.tb f hf).wt) hmx2 nm vl nv (Sm4.wt hgk.out) way nn sn sv)
            have B0 := hide (show Below W6.heap.size W6 (W6.drew) from (Below.refl W6.heap.size W6).drew)
            have B1 := hide (show Below W6.heap.size W6 ((W6.alloc (.cells #[.int .i64 0, .int .i64 0, .string ⟨#[]⟩, .bool false, .string ⟨#[]⟩, .bool false, .int .i64 0] 86)).drew) from ((Below.refl W6.heap.size W6).alloc (Nat.le_refl _) (.cells #[.int .i64 0, .int .i64 0, .string ⟨#[]⟩, .bool false, .string ⟨#[]⟩, .bool false, .int .i64 0] 86)).drew)
            have B2 := hide (show Below W6.heap.size W6 ((W6.alloc (.cells #[.slice none 0 0, .int .i64 0] 37)).drew) from ((Below.refl W6.heap.size W6).alloc (Nat.le_refl _) (.cells #[.slice none 0 0, .int .i64 0] 37)).drew)
            have B3 := hide (show Below W6.heap.size W6 (((W6.alloc (.cells #[.int .i64 0, .int .i64 0, .string ⟨#[]⟩, .bool false, .string ⟨#[]⟩, .bool false, .int .i64 0] 86)).alloc (.cells #[.slice none 0 0, .int .i64 0] 37)).drew) from (((Below.refl W6.heap.size W6).alloc (Nat.le_refl _) (.cells #[.int .i64 0, .int .i64 0, .string ⟨#[]⟩, .bool false, .string ⟨#[]⟩, .bool false, .int .i64 0] 86)).alloc (by simp) (.cells #[.slice none 0 0, .int .i64 0] 37)).drew)
            have B4 := hide (show Below W6.heap.size W6 (((W6.alloc (.cells #[.slice none 0 0, .int .i64 0] 37)).alloc (.cells #[.int .i64 0, .int .i64 0, .string ⟨#[]⟩, .bool false, .string ⟨#[]⟩, .bool false, .int .i64 0] 86)).drew) from (((Below.refl W6.heap.size W6).alloc (Nat.le_refl _) (.cells #[.slice none 0 0, .int .i64 0] 37)).alloc (by simp) (.cells #[.int .i64 0, .int .i64 0, .string ⟨#[]⟩, .bool false, .string ⟨#[]⟩, .bool false, .int .i64 0] 86)).drew)
            have hq6 : q < W6.heap.size := rowLt RO.out
            have hw6 : w.heap.size + 1 + 1 < W6.heap.size := rowLt K6.out.now
            have hb6 : b < W6.heap.size := World.block_lt_of_cell? W6 _ d0
            have ne1 : W6.heap.size ≠ w.heap.size + 1 + 1 := Nat.ne_of_gt hw6
            have ne2 : W6.heap.size ≠ b := Nat.ne_of_gt hb6
            have ne3 : W6.heap.size ≠ q := Nat.ne_of_gt hq6
            have ne4 : W6.heap.size + 1 ≠ w.heap.size + 1 + 1 := by omega
            have ne5 : W6.heap.size + 1 ≠ b := by omega
            have ne6 : W6.heap.size + 1 ≠ q := by omega
            have ne7 : W6.heap.size ≠ w.heap.size + 1 := by omega
            clear hGk
            go_upto_region 16 with (fail)
            go_cut [16, 17] from 46 to 77 (fun x y W => ∃ pr pn K I ns a vs bb l' A8 c8, x = .pointer (some ⟨pr, 0, none⟩) ∧ y = .pointer (some ⟨pn, 0, none⟩) ∧ FinO w A tb.length c mx (.slice Av2 (bN τ.rs) cv2) Am cm τ q K I ns a vs bb A8 c8 l' pr pn W ∧ WrR τ.mx τ.tb ⟨nm, vl, nv⟩ way nn sn sv K I ns a vs bb l')
            case first =>
              go_region_held3 (fun W => (W.cell? ⟨w.heap.size + 1 + 1, 0, none⟩ = some (.slice Am τ.tb.length cm) ∧ W.cell? ⟨w.heap.size + 1 + 1, 1, none⟩ = some (.int .i64 (τ.mx : Int))) ∧ (W.cell? ⟨b, off + k * 3, none⟩ = some (.string nm) ∧ W.cell? ⟨b, off + k * 3 + 1, none⟩ = some (.string vl) ∧ W.cell? ⟨b, off + k * 3 + 2, none⟩ = some (.bool nv)) ∧ W.cell? ⟨q, 0, none⟩ = some (.int .i64 way) ∧ W.cell? ⟨q, 1, none⟩ = some (.bool nn) ∧ W.cell? ⟨q, 2, none⟩ = some (.bool sn) ∧ W.cell? ⟨q, 3, none⟩ = some (.bool sv))
                ((first | (simp [n0, n1_, d0, d1, d2, o0, o1, o2, o3, World.cell?_drew, World.cell?_alloc_some, World.cell?_setCell_far]; done) | (simp [p0_, p1_, p2_, p3_, p4_, p5_, p6_, p7_, p8_, ne1, ne2, ne3, ne4, ne5, ne6, ne7, World.cell?_drew, World.cell?_alloc_some, World.cell?_setCell_far]; done)))
                ((first
                  | (go_at_call 47; (with_reducible refine (C.out (W6.drew) B0.out).mono ?_); rintro e W8 ⟨K, I, ns, a, vs, bb, l', A8, c8, rfl, hwr, hr8, ha8, hb8⟩; have HWr := hide hwr; have hrok := hide (wr_ok hwr (by omega) hgk.out); have BB := hide (B0.out.of hb8); have K8 := hide (K6.out.below BB.out); have FC := hide (K6.out.fc (M := W6.heap.size) K8.out hq6 hr8 ha8 rfl (Nat.le_refl _) hb8.size); have kc := fun {a : Addr} {v : Value} (h : W6.cell? a = some v) => (BB.out.cell (World.block_lt_of_cell? W6 _ h)).trans h; have p0_ := kc n0; have p1_ := kc n1_; have p2_ := kc d0; have p3_ := kc d1; have p4_ := kc d2; have p5_ := kc o0; have p6_ := kc o1; have p7_ := kc o2; have p8_ := kc o3; have hb8z : W6.heap.size ≤ W8.heap.size := hb8.size; skip; clear kc hwr hr8 ha8 hb8)
                  | (go_at_call 47; (with_reducible refine (C.out ((W6.alloc (.cells #[.int .i64 0, .int .i64 0, .string ⟨#[]⟩, .bool false, .string ⟨#[]⟩, .bool false, .int .i64 0] 86)).drew) B1.out).mono ?_); rintro e W8 ⟨K, I, ns, a, vs, bb, l', A8, c8, rfl, hwr, hr8, ha8, hb8⟩; have HWr := hide hwr; have hrok := hide (wr_ok hwr (by omega) hgk.out); have BB := hide (B1.out.of hb8); have K8 := hide (K6.out.below BB.out); have FC := hide (K6.out.fc (M := W6.heap.size + 1) K8.out hq6 hr8 ha8 (by rw [drewH]; simp) (Nat.le_succ _) hb8.size); have kc := fun {a : Addr} {v : Value} (h : W6.cell? a = some v) => (BB.out.cell (World.block_lt_of_cell? W6 _ h)).trans h; have p0_ := kc n0; have p1_ := kc n1_; have p2_ := kc d0; have p3_ := kc d1; have p4_ := kc d2; have p5_ := kc o0; have p6_ := kc o1; have p7_ := kc o2; have p8_ := kc o3; have hb8z : W6.heap.size + 1 ≤ W8.heap.size := pre1z hb8; have hl0 : W6.heap.size < W8.heap.size := hb8z; have rR := hide (pre1 hb8); obtain ⟨⟨xk0, xz0⟩, ⟨xk1, xz1⟩, ⟨xk2, xz2⟩, ⟨xk3, xz3⟩, ⟨xk4, xz4⟩, ⟨xk5, xz5⟩, ⟨xk6, xz6⟩, _⟩ := store7 rR.out (.int .i64 K) (.int .i64 I) (.string ns) (.bool a) (.string vs) (.bool bb) (.int .i64 0); clear kc hwr hr8 ha8 hb8)
                  | (go_at_call 47; (with_reducible refine (C.out ((W6.alloc (.cells #[.slice none 0 0, .int .i64 0] 37)).drew) B2.out).mono ?_); rintro e W8 ⟨K, I, ns, a, vs, bb, l', A8, c8, rfl, hwr, hr8, ha8, hb8⟩; have HWr := hide hwr; have hrok := hide (wr_ok hwr (by omega) hgk.out); have BB := hide (B2.out.of hb8); have K8 := hide (K6.out.below BB.out); have FC := hide (K6.out.fc (M := W6.heap.size + 1) K8.out hq6 hr8 ha8 (by rw [drewH]; simp) (Nat.le_succ _) hb8.size); have kc := fun {a : Addr} {v : Value} (h : W6.cell? a = some v) => (BB.out.cell (World.block_lt_of_cell? W6 _ h)).trans h; have p0_ := kc n0; have p1_ := kc n1_; have p2_ := kc d0; have p3_ := kc d1; have p4_ := kc d2; have p5_ := kc o0; have p6_ := kc o1; have p7_ := kc o2; have p8_ := kc o3; have hb8z : W6.heap.size + 1 ≤ W8.heap.size := pre1z hb8; have hl0 : W6.heap.size < W8.heap.size := hb8z; have rT := hide (pre1 hb8); obtain ⟨⟨xk0, xz0⟩, ⟨xk1, xz1⟩, _⟩ := store2z rT.out (.slice A8 l'.length c8) (.int .i64 (τ.mx : Int)); clear kc hwr hr8 ha8 hb8)
                  | (go_at_call 47; (with_reducible refine (C.out (((W6.alloc (.cells #[.int .i64 0, .int .i64 0, .string ⟨#[]⟩, .bool false, .string ⟨#[]⟩, .bool false, .int .i64 0] 86)).alloc (.cells #[.slice none 0 0, .int .i64 0] 37)).drew) B3.out).mono ?_); rintro e W8 ⟨K, I, ns, a, vs, bb, l', A8, c8, rfl, hwr, hr8, ha8, hb8⟩; have HWr := hide hwr; have hrok := hide (wr_ok hwr (by omega) hgk.out); have BB := hide (B3.out.of hb8); have K8 := hide (K6.out.below BB.out); have FC := hide (K6.out.fc (M := W6.heap.size + 1 + 1) K8.out hq6 hr8 ha8 (by rw [drewH]; simp) (Nat.le_succ_of_le (Nat.le_succ _)) hb8.size); have kc := fun {a : Addr} {v : Value} (h : W6.cell? a = some v) => (BB.out.cell (World.block_lt_of_cell? W6 _ h)).trans h; have p0_ := kc n0; have p1_ := kc n1_; have p2_ := kc d0; have p3_ := kc d1; have p4_ := kc d2; have p5_ := kc o0; have p6_ := kc o1; have p7_ := kc o2; have p8_ := kc o3; have hb8z : W6.heap.size + 1 + 1 ≤ W8.heap.size := pre2z hb8; have hl0 : W6.heap.size < W8.heap.size := Nat.lt_of_succ_lt hb8z; have hl1 : W6.heap.size + 1 < W8.heap.size := hb8z; have rR := hide (pre2 hb8).1; have rT := hide (pre2 hb8).2; obtain ⟨⟨xk0, xz0⟩, ⟨xk1, xz1⟩, ⟨xk2, xz2⟩, ⟨xk3, xz3⟩, ⟨xk4, xz4⟩, ⟨xk5, xz5⟩, ⟨xk6, xz6⟩, _⟩ := store7 rR.out (.int .i64 K) (.int .i64 I) (.string ns) (.bool a) (.string vs) (.bool bb) (.int .i64 0); obtain ⟨⟨yk0, yz0⟩, ⟨yk1, yz1⟩, _⟩ := store2z rT.out (.slice A8 l'.length c8) (.int .i64 (τ.mx : Int)); have rT2 := (heap7n (w := W8) (p := W6.heap.size) (q := (W6.heap.size + 1)) (Nat.succ_ne_self _) (.int .i64 K) (.int .i64 I) (.string ns) (.bool a) (.string vs) (.bool bb) (.int .i64 0)).trans rT.out; have rR2 := (heap2d (w := W8) (p := (W6.heap.size + 1)) (q := W6.heap.size) (Nat.ne_of_lt (Nat.lt_succ_self _)) (.slice A8 l'.length c8) (.int .i64 (τ.mx : Int))).trans rR.out; obtain ⟨⟨uk0, uz0⟩, ⟨uk1, uz1⟩, _⟩ := store2z rT2 (.slice A8 l'.length c8) (.int .i64 (τ.mx : Int)); obtain ⟨⟨vk0, vz0⟩, ⟨vk1, vz1⟩, ⟨vk2, vz2⟩, ⟨vk3, vz3⟩, ⟨vk4, vz4⟩, ⟨vk5, vz5⟩, ⟨vk6, vz6⟩, _⟩ := store7 rR2 (.int .i64 K) (.int .i64 I) (.string ns) (.bool a) (.string vs) (.bool bb) (.int .i64 0); clear rT2 rR2; clear kc hwr hr8 ha8 hb8)
                  | (go_at_call 47; (with_reducible refine (C.out (((W6.alloc (.cells #[.slice none 0 0, .int .i64 0] 37)).alloc (.cells #[.int .i64 0, .int .i64 0, .string ⟨#[]⟩, .bool false, .string ⟨#[]⟩, .bool false, .int .i64 0] 86)).drew) B4.out).mono ?_); rintro e W8 ⟨K, I, ns, a, vs, bb, l', A8, c8, rfl, hwr, hr8, ha8, hb8⟩; have HWr := hide hwr; have hrok := hide (wr_ok hwr (by omega) hgk.out); have BB := hide (B4.out.of hb8); have K8 := hide (K6.out.below BB.out); have FC := hide (K6.out.fc (M := W6.heap.size + 1 + 1) K8.out hq6 hr8 ha8 (by rw [drewH]; simp) (Nat.le_succ_of_le (Nat.le_succ _)) hb8.size); have kc := fun {a : Addr} {v : Value} (h : W6.cell? a = some v) => (BB.out.cell (World.block_lt_of_cell? W6 _ h)).trans h; have p0_ := kc n0; have p1_ := kc n1_; have p2_ := kc d0; have p3_ := kc d1; have p4_ := kc d2; have p5_ := kc o0; have p6_ := kc o1; have p7_ := kc o2; have p8_ := kc o3; have hb8z : W6.heap.size + 1 + 1 ≤ W8.heap.size := pre2z hb8; have hl0 : W6.heap.size < W8.heap.size := Nat.lt_of_succ_lt hb8z; have hl1 : W6.heap.size + 1 < W8.heap.size := hb8z; have rT := hide (pre2 hb8).1; have rR := hide (pre2 hb8).2; obtain ⟨⟨xk0, xz0⟩, ⟨xk1, xz1⟩, ⟨xk2, xz2⟩, ⟨xk3, xz3⟩, ⟨xk4, xz4⟩, ⟨xk5, xz5⟩, ⟨xk6, xz6⟩, _⟩ := store7 rR.out (.int .i64 K) (.int .i64 I) (.string ns) (.bool a) (.string vs) (.bool bb) (.int .i64 0); obtain ⟨⟨yk0, yz0⟩, ⟨yk1, yz1⟩, _⟩ := store2z rT.out (.slice A8 l'.length c8) (.int .i64 (τ.mx : Int)); have rT2 := (heap7n (w := W8) (p := (W6.heap.size + 1)) (q := W6.heap.size) (Nat.ne_of_lt (Nat.lt_succ_self _)) (.int .i64 K) (.int .i64 I) (.string ns) (.bool a) (.string vs) (.bool bb) (.int .i64 0)).trans rT.out; have rR2 := (heap2d (w := W8) (p := W6.heap.size) (q := (W6.heap.size + 1)) (Nat.succ_ne_self _) (.slice A8 l'.length c8) (.int .i64 (τ.mx : Int))).trans rR.out; obtain ⟨⟨uk0, uz0⟩, ⟨uk1, uz1⟩, _⟩ := store2z rT2 (.slice A8 l'.length c8) (.int .i64 (τ.mx : Int)); obtain ⟨⟨vk0, vz0⟩, ⟨vk1, vz1⟩, ⟨vk2, vz2⟩, ⟨vk3, vz3⟩, ⟨vk4, vz4⟩, ⟨vk5, vz5⟩, ⟨vk6, vz6⟩, _⟩ := store7 rR2 (.int .i64 K) (.int .i64 I) (.string ns) (.bool a) (.string vs) (.bool bb) (.int .i64 0); clear rT2 rR2; clear kc hwr hr8 ha8 hb8)))
              all_goals
                go_wp2_with fail
                go_meet
                refine ⟨_, _, K, I, ns, a, vs, bb, l', A8, c8, rfl, rfl, ?_, HWr.out⟩
                first
                  | (have f := (fin_aa (K := K) (I := I) (ns := ns) (a := a) (vs := vs) (bb := bb) FC.out).1; with_reducible exact f)
                  | (have f := (fin_aa (K := K) (I := I) (ns := ns) (a := a) (vs := vs) (bb := bb) FC.out).2; with_reducible exact f)
                  | (have f := fin_7a (K := K) (I := I) (ns := ns) (a := a) (vs := vs) (bb := bb) FC.out rR.out (Nat.le_refl _) (Nat.lt_succ_self _); with_reducible exact f)
                  | (have f := fin_2a (K := K) (I := I) (ns := ns) (a := a) (vs := vs) (bb := bb) FC.out rT.out (Nat.le_refl _) (Nat.lt_succ_self _); with_reducible exact f)
                  | (have f := (fin_72 (K := K) (I := I) (ns := ns) (a := a) (vs := vs) (bb := bb) FC.out rR.out rT.out (by omega) (by omega) (by omega) (by omega) (by omega)).1; with_reducible exact f)
                  | (have f := (fin_72 (K := K) (I := I) (ns := ns) (a := a) (vs := vs) (bb := bb) FC.out rR.out rT.out (by omega) (by omega) (by omega) (by omega) (by omega)).2; with_reducible exact f)
            case rest =>
              obtain ⟨pr, pn, K, I, ns, a, vs, bb, l', A8, c8, rfl, rfl, ⟨xr, xn, kf, xd, xa, xo⟩, hwr⟩ := hcut
              have HWr := hide hwr
              have hrok := hide (wr_ok hwr (by omega) hgk.out)
              have HNown : Hid ((Value.slice Av2 (bN τ.rs) cv2).ownBlock ≠ some pn) := xo
              clear hwr xo n0 n1_ d0 d1 d2 o0 o1 o2 o3 C H2w B0 B1 B2 B3 B4 K6
              obtain ⟨r0, r1, r2, r3, r4, r5, r6⟩ := row7D xr
              obtain ⟨s0, s1⟩ := row2 xn
              have KF := hide kf
              have HR8 := hide xd
              have HA8 := hide xa
              have XR := hide xr
              have XN := hide xn
              have C9 := hide (fun W => rput22 K I ns a vs bb 0 (by have := hrok.out.n; simp only at this; omega) (by have := hrok.out.v; simp only at this; omega) W hrok.out.b)
              clear kf xd xa xr xn
              go_wp2_with fail
              refine (C9.out _).mono ?_
              rintro e w5 ⟨v5, rfl, ho5, hb5⟩
              obtain ⟨A5, c5, rfl, hrd5, _⟩ := ho5.rd
              have K5 := hide (KF.out.below hb5)
              have RD5 := hide (rd_V hrd5)
              have XN5 := hide (keepRow XN.out hb5)
              have R85 := hide (HR8.out.below36O hb5)
              have A85 : Hid (∀ a, A8 = some a → a.block < w5.heap.size ∧ ((∃ a0, Am = some a0 ∧ a0.block = a.block) ∨ q < a.block) ∧ (Value.slice Av2 (bN τ.rs) cv2).ownBlock ≠ some a.block) := fun a ha => ⟨Nat.lt_of_lt_of_le (HA8.out a ha).1 hb5.size, (HA8.out a ha).2⟩
              have htop5 := hrok.out.top
              obtain ⟨M, hM⟩ : ∃ M, M = Rpv.N ⟨K, I, ns, a, vs, bb, 0⟩ := ⟨_, rfl⟩
              have HM := hide hM
              rw [← hM] at htop5
              have hMM : rpN K I ns a vs bb 0 = M := hM.symm
              rw [hMM] at RD5 ⊢
              have B5 := hide K5.out.sz
              clear ho5 hb5 hrd5 C9 hMM hM KF HR8 HA8 r0 r1 r2 r3 r4 r5 r6 s0 s1 XN XR
              go_wp2_with (at_builtin; refine wp_appV rfl (.tmp 73) (.tmp 75) _ rfl 1 iB _ 1 Tryd.underlying22 hiB hB2 hB3 hB4 rfl (by omega) (w.heap.size + 3) _ (bN τ.rs) (byV (bF τ.rs)) rfl K5.out.ov A5 M c5 (byV (rpF K I ns a vs bb 0)) rfl RD5.out (fun _ _ => rfl) (by simp only [maxLen]; omega) (by omega) (Nat.le_trans (by omega) B5.out) ?_; intro v6 w6 hown6 hg6 hob6; have K9 := hide (K5.out.put hg6 ⟨K, I, ns, a, vs, bb, 0⟩ (by rw [← HM.out]; rw [byV_cat] at hown6; exact hown6) hob6); have XN6 := hide ((hg6.block _ (rowLt XN5.out) (fun e => HNown.out e.symm)).trans XN5.out); have R86 := hide (R85.out.at21 fun x hx => hg6.block _ (A85.out x hx).1 (fun e => (A85.out x hx).2.2 e.symm)); have A86 : Hid (∀ x, A8 = some x → x.block < w6.heap.size ∧ ((∃ a0, Am = some a0 ∧ a0.block = x.block) ∨ q < x.block)) := (fun x hx => ⟨Nat.lt_of_lt_of_le (A85.out x hx).1 hg6.size, (A85.out x hx).2.1⟩); have HFr : Hid (∀ x, A8 = some x → v6.ownBlock ≠ some x.block) := (fun x hx e => by rcases hob6 with h | h; exact (A85.out x hx).2.2 (h ▸ e); have h9 : w5.heap.size = x.block := Option.some.inj (h.symm.trans e); have := (A85.out x hx).1; omega); obtain ⟨r0, r1⟩ := row2 XN6.out; obtain ⟨⟨u0, y0⟩, ⟨u1, y1⟩, _⟩ := store2z K9.out.now (.slice A8 l'.length c8) (.int .i64 (τ.mx : Int)); obtain ⟨A6, c6, rfl, _, _⟩ := hown6.rd; clear hown6 hg6 hob6)
              clear RD5 R85 A85 XN5 HNown
              have hszq2 := hszq.out
              have K11 := hide (K9.out.setT2 (mx' := τ.mx) R86.out (fun x hx => by
                obtain ⟨x1, x2⟩ := A86.out x hx
                have hfr := HFr.out x hx
                refine ⟨x1, ?_, hfr⟩
                rcases x2 with ⟨a0, x3, x4⟩ | x2
                · have x5 := (K9.out.al a0 x3).2.1
                  rw [x4] at x5
                  rcases x5 with ⟨b0, h1, h2, h3⟩ | x5
                  · exact .inl ⟨b0, h1, h2, by omega⟩
                  · exact .inr x5
                · exact .inr (by omega)))
              go_wp2_with fail
              go_roundw
              case rel => exact ⟨k + 1, by omega, by go_num, ⟨τ.mx, l', τ.rs ++ [⟨K, I, ns, a, vs, bb, 0⟩]⟩, A8, c8, .succ HEn.out (by rw [HGk.out, HO.out]; exact HWr.out), K11.out⟩
              case measure => simp [intOf]; omega
        · obtain rfl : n2 = k := by omega
          obtain ⟨⟨v0, v1⟩, ⟨u0, y0⟩, ⟨u1, y1⟩, rr2⟩ := step2q KT.out.now KT.out.q6 (.slice Am τ.tb.length cm) (.int .i64 (τ.mx : Int))
          have RQ2 := hide rr2
          clear rr2
          go_wp2_with fail
          go_region
          all_goals
            go_wp2_with fail
            obtain ⟨n0, n1_⟩ := row2 RQ2.out
            have hne : ∀ a, Am = some a → a.block ≠ w.heap.size + 1 := fun a ha => by
              rcases (KT.out.al a ha).2.1 with ⟨a0, _, e, l⟩ | l <;> omega
            have hov : ∀ a, Av2 = some a → a.block ≠ w.heap.size + 1 := fun a ha => by
              subst ha
              have := (World.ownsRow.lt KT.out.ov a.block rfl).1; omega
            refine bodyPost_ret (v := .tuple #[.slice Av2 (bN τ.rs) cv2, .agg #[.slice Am τ.tb.length cm, .int .i64 (τ.mx : Int)], .bool true]) ?_ rfl (.inr ⟨HS.out, τ, Av2, cv2, Am, cm, rfl, by rw [Hσ.out]; exact HEn.out, ?_, ?_, ?_, (KT.out.e.drew.setCell (p := ⟨w.heap.size + 1, 0, none⟩) (Nat.le_succ _) _).setCell (p := ⟨w.heap.size + 1, 1, none⟩) (Nat.le_succ _) _⟩)
            · rw [results_tct rfl]
              go_simp
            · exact (RdV.set21 (w := wr.drew) KT.out.ov.rdS2 hov 0 _).set21 hov 1 _
            · exact (RdV.set21 (w := wr.drew) KT.out.rd hne 0 _).set21 hne 1 _
            · intro a ha
              have := KT.out.al a ha
              refine ⟨by simpa [World.setCell] using this.1, ?_⟩
              rcases this.2.1 with ⟨a0, h1, h2, _⟩ | h
              · exact .inl ⟨a0, h1, h2⟩
              · exact .inr (by omega)
end Go.Proofs.YtnkcbljhgcgpaaaDoor
