/- Layer 28: a field more. -/
import Derived.Test.YtpohgehojmeodaaDoorMg5
import Derived.Deep.Cut
import Derived.Deep.RegionHeld3
namespace Go.Proofs.YtpohgehojmeodaaDoor
set_option linter.unusedVariables false
set_option linter.unusedSimpArgs false
open Go.RowKit Go.PlainAid

section
variable {P : Program} {e : TypeId} {w : World} {ops : Array Oper} {o : Oper} {a : Act} {K : Act → World → Prop} {Q : Exit → Act → World → Prop} {E : Prop}
theorem step_appM (hgd : o.guard = none) (s x : Operand) (t : TypeId) (ho : o.op = .call { callee := .builtin .append, args := #[s, x], argTypes := #[t, t] })
    (sz : Nat) (i : TypeInfo) (z : Value) (bytes : Nat) (ht : P.underlying t = some (.slice e)) (hi : P.info? e = some i) (hz : i.zero = some z) (hsize : i.size = sz) (hby : i.bytes = bytes) (hzs : z.cells.size = sz) (hs0 : 0 < sz)
    (B : Nat) (v : Value) (n : Nat) (F : Nat → Value) (hs : a.eval s = v) (hown : OwnV sz e B w v n F) (A : Option Addr) (m c : Nat) (G : Nat → Value) (hx : a.eval x = .slice A m c) (hr : RdV sz w A m c G) (hG : ∀ i, i < m * sz → (G i).oneCell' = true)
    (h63 : n + m ≤ maxLen) (hbytes : (n + m) * bytes ≤ 140737488355328) (hbase : B ≤ w.heap.size)
    (h : ∀ v' w', OwnV sz e B w' v' (n + m) (catV (n * sz) F G) → w.grownBy w' v.ownBlock → (v'.ownBlock = v.ownBlock ∨ v'.ownBlock = some w.heap.size) → K (a.put o.dst v') w') :
    if Region.wanted o (yielded ops a.tmps) = true then Oper.wp P o a w K Q else E := by
  rw [if_pos (by simp [Region.wanted, hgd])]
  obtain ⟨v', w', hrun, h2, h3, h4⟩ := run_appV (P := P) sz t o.type i z bytes ht hi hz hsize hby hzs hs0 B v n F hown A m c G hr hG h63 hbytes hbase
  unfold Oper.wp execOp
  simp only [ho, resolve, invoke, builtin, Sem.run_bind, Sem.run_pure, Result.andThen_ok, List.map_toArray, List.map_cons, List.map_nil, hs, hx, hrun]
  exact h v' w' h2 h3 h4
end
theorem RdV.at28 {s : Nat} {w w' : World} {A : Option Addr} {n c : Nat} {F : Nat → Value} (h : RdV s w A n c F) (hk : ∀ a, A = some a → w'.heap[a.block]? = w.heap[a.block]?) : RdV s w' A n c F :=
  ⟨h.1, h.2.1, h.2.2.1, fun hn => by
    obtain ⟨b, off, hA, hc⟩ := h.2.2.2 hn
    refine ⟨b, off, hA, fun i hi => ?_⟩
    have h1 := hk _ hA
    have h2 := hc i hi
    rw [← h2]
    unfold World.cell?
    simp only at h1 ⊢
    rw [h1]⟩
theorem hd_more {F K : Nat → Fd} {n c : Nat} (h : ∀ i, i < n → K i = F i) (hc : ∀ i, n ≤ i → i < n + c → colB (K i).name = false) (kind : Int) : hdB kind K (n + c) = hdB kind F n ∧ hdM kind K (n + c) = hdM kind F n ∧ hdN kind K (n + c) = hdN kind F n := by
  have hv : ∀ x, colB x = true → valF K x (n + c) = valF F x n := fun x hx => (valF_more hx hc).trans (valF_congr h)
  have ho : ∀ NM, okF NM K (n + c) = okF NM F n := fun NM => (okF_more hc).trans (okF_congr h)
  have c1 := hv nMethod (by decide +kernel)
  have c2 := hv nScheme (by decide +kernel)
  have c3 := hv nAuth (by decide +kernel)
  have c4 := hv nPath (by decide +kernel)
  have c5 := hv nStatus (by decide +kernel)
  have hr : reqB K (n + c) = reqB F n := by unfold reqB; rw [ho, c1, c2, c3, c4]
  have hs : resB K (n + c) = resB F n := by unfold resB; rw [ho, c5]
  refine ⟨?_, ?_, ?_⟩
  · unfold hdB; rw [hr, hs, ho]
  · unfold hdM reqS; rw [hr, c1]
  · unfold hdN resN; rw [hs, c5]
def addF (F : Nat → Fd) (n : Nat) (f : Fd) : Nat → Fd := catFd n F fun _ => f
theorem addF_old {F : Nat → Fd} {n : Nat} {f : Fd} {i : Nat} (h : i < n) : addF F n f i = F i := by unfold addF catFd; rw [if_pos h]
theorem addF_new {F : Nat → Fd} {n : Nat} {f : Fd} {i : Nat} (h : ¬ i < n) : addF F n f i = f := by unfold addF catFd; rw [if_neg h]
theorem addF_ins (F : Nat → Fd) (n : Nat) (f : Fd) : Ins F n (addF F n f) f :=
  ⟨fun i hi => ⟨i, by omega, addF_old hi⟩, fun j hj => by
    by_cases h : j < n
    · exact .inr ⟨j, h, addF_old h⟩
    · exact .inl (addF_new h), ⟨n, by omega, addF_new (Nat.lt_irrefl n)⟩⟩
theorem anyB_add (p : Fd → Bool) (F : Nat → Fd) (n : Nat) (f : Fd) : anyB p (addF F n f) (n + 1) = (anyB p F n || p f) := by
  have key : (∃ i, i < n + 1 ∧ p (addF F n f i) = true) ↔ ((∃ i, i < n ∧ p (F i) = true) ∨ p f = true) := by
    constructor
    · rintro ⟨i, hi, e⟩
      by_cases h : i < n
      · rw [addF_old h] at e
        exact .inl ⟨i, h, e⟩
      · rw [addF_new h] at e
        exact .inr e
    · rintro (⟨i, hi, e⟩ | e)
      · exact ⟨i, by omega, by rw [addF_old hi]; exact e⟩
      · exact ⟨n, by omega, by rw [addF_new (Nat.lt_irrefl n)]; exact e⟩
  unfold anyB
  rw [decide_eq_decide.2 key, Bool.decide_or]
  congr 1
  cases p f <;> simp
theorem anyB_one (p : Fd → Bool) (f : Fd) : anyB p (fun _ => f) 1 = p f := by
  have h := anyB_add p (fun _ => f) 0 f
  have e : addF (fun _ => f) 0 f = fun _ => f := by funext i; exact addF_new (Nat.not_lt_zero _)
  rw [e] at h
  rw [h]
  have : anyB p (fun _ => f) 0 = false := decide_eq_false fun ⟨i, hi, _⟩ => absurd hi (Nat.not_lt_zero _)
  rw [this]
  rfl
theorem okF_one {f : Fd} (h : colB f.name = false) : okF [] (fun _ => f) 1 = true := okF_nil.2 fun _ _ => h
theorem own_r {f : Fd} {m : ByteArray} {st N rule : Int} {T : Bool} (hf : colB f.name = false) (hc : f.name ≠ CL) (h : ChkR 2 (fun _ => f) 1 m st N T rule) : (wrgB f = true ∧ rule = 28) ∨ (wrgB f = false ∧ brdB f = true ∧ rule = 29) ∨ (wrgB f = false ∧ brdB f = false ∧ rule = 0) := by
  have e3 : hdB 2 (fun _ => f) 1 = true := by
    unfold hdB
    rw [if_neg (by decide), if_neg (by decide)]
    exact okF_one hf
  have hl : LenR (fun _ => f) 1 0 false true := .inl ⟨rfl, none, ⟨fun i _ e => absurd e hc, fun hh => absurd rfl hh⟩, by first | trivial | exact ⟨rfl, rfl⟩ | simp⟩
  unfold ChkR at h
  rw [anyB_one, anyB_one, e3] at h
  rcases h with ⟨a1, rfl, _⟩ | ⟨a1, a2, rfl, _⟩ | ⟨a1, a2, a3, _⟩ | ⟨a1, a2, a3, ⟨x, y, a4⟩, _⟩ | ⟨a1, a2, a3, _, ⟨a5, _⟩, _⟩ | ⟨a1, a2, a3, a4, a5, rfl, _⟩
  · exact .inl ⟨a1, rfl⟩
  · exact .inr (.inl ⟨a1, a2, rfl⟩)
  · cases a3
  · exact absurd (a4.same hl).2.2 (by decide)
  · exact absurd a5 (by decide)
  · exact .inr (.inr ⟨a1, a2, rfl⟩)
theorem more_r {kind : Int} {F : Nat → Fd} {n : Nat} {f : Fd} {m m2 m3 : ByteArray} {st N st2 N2 st3 N3 rule rule2 own : Int} {T T2 T3 : Bool} (hf : colB f.name = false) (hc : f.name ≠ CL)
    (h : ChkR kind F n m st N T rule) (k : ChkR kind (addF F n f) (n + 1) m2 st2 N2 T2 rule2) (l : ChkR 2 (fun _ => f) 1 m3 st3 N3 T3 own) :
    (own = 0 ∧ rule2 = rule ∧ m2 = m ∧ st2 = st ∧ N2 = N ∧ T2 = T) ∨ (own ≠ 0 ∧ rule2 ≠ 0 ∧ (rule = 0 → rule2 = own ∧ m2 = ⟨#[]⟩ ∧ st2 = 0 ∧ N2 = 0 ∧ T2 = false)) := by
  obtain ⟨e1, e2, e3⟩ := hd_more (F := F) (K := addF F n f) (n := n) (c := 1) (fun i hi => addF_old hi) (fun i hi _ => by rw [addF_new (by omega)]; exact hf) kind
  unfold ChkR at k
  rw [anyB_add, anyB_add, e1, e2, e3] at k
  have hI := addF_ins F n f
  rcases own_r hf hc l with ⟨w1, rfl⟩ | ⟨w1, w2, rfl⟩ | ⟨w1, w2, rfl⟩
  · rw [w1, Bool.or_true] at k
    refine .inr ⟨by decide, ?_⟩
    rcases k with ⟨_, rfl, rfl, rfl, rfl, rfl⟩ | ⟨a, _⟩ | ⟨a, _⟩ | ⟨a, _⟩ | ⟨a, _⟩ | ⟨a, _⟩
    · exact ⟨by decide, fun _ => ⟨rfl, rfl, rfl, rfl, rfl⟩⟩
    all_goals exact absurd a (by decide)
  · rw [w1, w2, Bool.or_false, Bool.or_true] at k
    refine .inr ⟨by decide, ?_⟩
    rcases k with ⟨a, rfl, rfl, rfl, rfl, rfl⟩ | ⟨a, _, rfl, rfl, rfl, rfl, rfl⟩ | ⟨_, a, _⟩ | ⟨_, a, _⟩ | ⟨_, a, _⟩ | ⟨_, a, _⟩
    · refine ⟨by decide, fun hr => ?_⟩
      rcases h with ⟨b, hh, _⟩ | ⟨b, _⟩ | ⟨b, _⟩ | ⟨b, _⟩ | ⟨b, _⟩ | ⟨b, _⟩
      · omega
      all_goals exact absurd (a.symm.trans b) (by decide)
    · exact ⟨by decide, fun _ => ⟨rfl, rfl, rfl, rfl, rfl⟩⟩
    all_goals exact absurd a (by decide)
  · rw [w1, w2, Bool.or_false, Bool.or_false] at k
    refine .inl ⟨rfl, ?_⟩
    rcases h with ⟨a1, rfl, rfl, rfl, rfl, rfl⟩ | ⟨a1, a2, rfl, rfl, rfl, rfl, rfl⟩ | ⟨a1, a2, a3, rfl, rfl, rfl, rfl, rfl⟩ | ⟨a1, a2, a3, ⟨x, y, a4⟩, rfl, rfl, rfl, rfl, rfl⟩ | ⟨a1, a2, a3, ⟨x, y, a4⟩, ⟨a5, a6⟩, rfl, rfl, rfl, rfl, rfl⟩ | ⟨a1, a2, a3, a4, a5, rfl, rfl, rfl⟩
    all_goals
      rcases k with ⟨b1, rfl, rfl, rfl, rfl, rfl⟩ | ⟨b1, b2, rfl, rfl, rfl, rfl, rfl⟩ | ⟨b1, b2, b3, rfl, rfl, rfl, rfl, rfl⟩ | ⟨b1, b2, b3, ⟨x', y', b4⟩, rfl, rfl, rfl, rfl, rfl⟩ | ⟨b1, b2, b3, ⟨x', y', b4⟩, ⟨b5, b6⟩, rfl, rfl, rfl, rfl, rfl⟩ | ⟨b1, b2, b3, b4, b5, rfl, rfl, rfl⟩
      all_goals first
        | exact ⟨rfl, rfl, rfl, rfl, rfl⟩
        | exact ⟨rfl, rfl, rfl, (hI.othersR hc a4 b4).1.symm, (hI.othersR hc a4 b4).2.1.symm⟩
        | exact absurd (hI.othersR hc a4 b4).2.2 (by decide)
        | exact absurd (a1.symm.trans b1) (by decide)
        | exact absurd (a2.symm.trans b2) (by decide)
        | exact absurd (a3.symm.trans b3) (by decide)
        | exact absurd ((a5 b5).symm.trans b6) (by decide)
        | exact absurd ((b5 a5).symm.trans a6) (by decide)
theorem field_info28 : (Tryd.prog.info? 60).map (fun i => (i.zero, i.size, i.bytes)) = some (some (.agg #[.string ⟨#[]⟩, .string ⟨#[]⟩, .bool false]), 3, 40) := by kernel_rfl
/-- The guard of MessageMore, told: whether the law goes on. -/
def goB (nm vl : ByteArray) : Prop := nm.size ≤ 200 ∧ vl.size ≤ 200 ∧ 0 < nm.size ∧ bt nm 0 ≠ 58 ∧ nm ≠ CL
end Go.Proofs.YtpohgehojmeodaaDoor
