/- A range over an iterator that turns a variable of its own (strings.SplitSeq): what the caller owes. -/
import Derived.RangeFuncNested
import Derived.RangeFuncBox
namespace Go.Proofs.YtminoofghdpomaaDoor
set_option linter.unusedVariables false
set_option linter.unusedSimpArgs false
open Go Go.RowKit

/-- the blocks from lo up to hi lie as they lay -/
structure KMid (lo hi : Nat) (A B : World) : Prop where
  size : A.heap.size ≤ B.heap.size
  same : ∀ k, lo ≤ k → k < hi → B.heap[k]? = A.heap[k]?
theorem KMid.refl (lo hi : Nat) (A : World) : KMid lo hi A A := ⟨Nat.le_refl _, fun _ _ _ => rfl⟩
theorem KMid.trans {lo hi : Nat} {A B C : World} (h : KMid lo hi A B) (k : KMid lo hi B C) : KMid lo hi A C :=
  ⟨Nat.le_trans h.size k.size, fun i h1 h2 => (k.same i h1 h2).trans (h.same i h1 h2)⟩
theorem KMid.of {lo hi : Nat} {A B : World} {row : Option Nat} (hg : A.grownBy B row) (hh : hi ≤ A.heap.size) (hr : ∀ r, row = some r → r < lo ∨ hi ≤ r) : KMid lo hi A B :=
  ⟨hg.size, fun k h1 h2 => hg.block k (by omega) fun e => by have := hr k e.symm; omega⟩
theorem KMid.alloc {lo hi : Nat} {A : World} (hh : hi ≤ A.heap.size) (o : Obj) : KMid lo hi A (A.alloc o) := KMid.of (World.grownBy_alloc A o none) hh (fun r e => by cases e)
theorem KMid.put {lo hi : Nat} {A : World} {l : Nat} (hl : hi ≤ l) (o : Obj) : KMid lo hi A (A.putObj l o) :=
  ⟨(grownBy_putObj' A l o).size, fun k h1 h2 => World.putObj_heap_other (by omega)⟩
theorem KMid.set {lo hi : Nat} {A : World} {b : Nat} (hb : b < lo ∨ hi ≤ b) (v : Value) : KMid lo hi A (A.setCell ⟨b, 0, none⟩ v) :=
  ⟨(grownBy_setCell' A b v).size, fun k h1 h2 => Below.heap_setCell A ⟨b, 0, none⟩ v k (by show k ≠ b; omega)⟩

/-- what abides the turn of the iterator's own variable, and of whatever is no cells from B on -/
def AbI {β : Type} (Bs B : Nat) (I : β → World → Prop) : Prop :=
  ∀ s X Y row, I s X → X.grownBy Y row → (∀ r, row = some r → r = Bs ∨ (B ≤ r ∧ ∃ o : Obj, X.heap[r]? = some o ∧ o.isCells = false)) → I s Y

/-- the iterator's word -/
def Itr {α : Type} (P : Program) (n gf : Nat) (lb : Array Value) (lo hi Bs : Nat) (enc : α → Value) (xs : List α) (w : World) : Prop :=
  ∀ (l : Nat) (J Jx : List α → World → Prop) (X : World), KMid lo hi w X →
    (∀ s A B, J s A → A.grownBy B (some Bs) → J s B) → (∀ s A B, Jx s A → A.grownBy B (some Bs) → Jx s B) →
    (∀ pre x A, J pre A → pre ++ [x] <+: xs → YieldAt Fence.wide (n - 1) P l #[enc x] A fun e B =>
      (e = .returned (.bool true) ∧ J (pre ++ [x]) B ∧ KMid lo hi A B) ∨ (e = .returned (.bool false) ∧ Jx (pre ++ [x]) B)) →
    J [] X →
    CallsIn Fence.wide n P gf (#[.func (.yield l) #[] #[]] ++ lb) X fun e B => (∃ v, e = .returned v) ∧ (J xs B ∨ ∃ pre, pre <+: xs ∧ Jx pre B)

/-- how a round may end -/
def rndE {α : Type} (lo hi : Nat) (I Ix : List α → World → Prop) (ys : List α) (A : World) : Exit → Act → World → Prop
  | .normal, _, B => KeepsOthers A B ∧ KMid lo hi A B ∧ I ys B
  | .ret, _, B => KeepsOthers A B ∧ Ix ys B
  | _, _, _ => False

theorem range_itr {α : Type} {P : Program} {n : Nat} {g : Operand} {ps : Array Tmp} {assign body : Code} {Q : Exit → Act → World → Prop} {a : Act} {w w0 : World}
    {gf : Nat} {lb : Array Value} (hg : a.eval g = .func (.func gf) #[] lb) (eg : ∀ args w, (callFunc gf args).run P w = .ok (.enter gf args) w)
    {enc : α → Value} {xs : List α} {lo hi Bs : Nat} (hlo : lo ≤ Bs) (hhi : Bs < hi) (hsz : hi ≤ w.heap.size)
    (hit : Itr P (n - 1) gf lb lo hi Bs enc xs w0) (hk0 : KMid lo hi w0 w) (hps : ps.size = 1)
    (I Ix : List α → World → Prop) (hI : AbI Bs w.heap.size I) (hIx : AbI Bs w.heap.size Ix) (h0 : I [] w) (a₁ : α → Act)
    (hassign : ∀ (l : Nat) (x : α) (A : World) (K : Act → World → Prop), K (a₁ x) A →
      assign.wpIn (Fence.wide.inRound l) (n - 1 - 1) P (Exit.then K (fun _ _ _ => False)) { tmps := (ps.zip #[enc x]).foldl (fun t (p, v) => t.setIfInBounds p v) a.tmps, defers := [] } A)
    (hbody : ∀ (l : Nat) (pre : List α) (x : α) (A : World), I pre A → pre ++ [x] <+: xs → w.heap.size ≤ A.heap.size → body.wpIn (Fence.wide.inRound l) (n - 1 - 1) P (rndE lo hi I Ix (pre ++ [x]) A) (a₁ x) A)
    (hdone : ∀ (D : Nat) (A : World), w.heap.size ≤ D → I xs A → A.heap[D]? = some (.deferred (some [])) → Q .normal { a with defers := { target := .collected D, args := #[] } :: a.defers } A)
    (hstop : ∀ (D : Nat) (pre : List α) (A : World), w.heap.size ≤ D → pre <+: xs → Ix pre A → A.heap[D]? = some (.deferred (some [])) → Code.ret.wpIn Fence.wide n P Q { a with defers := { target := .collected D, args := #[] } :: a.defers } A) :
    (Code.rangeFunc g ps assign body).wpIn Fence.wide n P Q a w := by
  refine wpIn_rangeFunc ?_
  intro fn hfn
  obtain ⟨N, hN⟩ : ∃ N, w.heap.size = N := ⟨_, rfl⟩
  obtain ⟨mk, hmk⟩ : ∃ mk : LoopState → Option Code → Loop, mk = fun st pe => { state := st, pending := pe, fn, tmps := a.tmps, params := ps, assign, body, defers := N } := ⟨_, rfl⟩
  obtain ⟨V, hV⟩ : ∃ V, (w.alloc (.deferred (some []))).alloc (.loop (mk .ready none)) = V := ⟨_, rfl⟩
  have hV1 : V.heap[N + 1]? = some (.loop (mk .ready none)) := by
    have h := World.alloc_heap_new (w.alloc (.deferred (some []))) (.loop (mk .ready none))
    rwa [World.size_alloc, hN, hV] at h
  have hV0 : V.heap[N]? = some (.deferred (some [])) := by
    rw [← hV, ← hN]
    exact (Below.heap_alloc _ _ _ (by simp)).trans (World.alloc_heap_new w _)
  have gg : w.grownBy V none := by
    rw [← hV]
    exact ⟨rfl, rfl, rfl, by simp; omega, fun k hk _ => (Below.heap_alloc _ _ k (by simp; omega)).trans (Below.heap_alloc _ _ k hk)⟩
  have hVI : I [] V := hI _ _ _ _ h0 gg (fun r e => by cases e)
  have hVs : N + 1 < V.heap.size := (Array.getElem?_eq_some_iff.1 hV1).1
  have old : ∀ {X Y : World} {k : Nat} {o : Obj}, X.grownBy Y (some Bs) → hi ≤ k → X.heap[k]? = some o → Y.heap[k]? = some o := by
    intro X Y k o g h1 h2
    exact (g.block k (Array.getElem?_eq_some_iff.1 h2).1 (fun e => by cases e; omega)).trans h2
  have putI : ∀ {s : List α} {X : World} {l : Nat} {o : Obj} (o' : Obj), I s X → N ≤ l → X.heap[l]? = some o → o.isCells = false → I s (X.putObj l o') := fun o' h1 h2 h3 h4 =>
    hI _ _ _ _ h1 (grownBy_putObj' _ _ o') (fun r e => by cases e; exact .inr ⟨by omega, _, h3, h4⟩)
  have putX : ∀ {s : List α} {X : World} {l : Nat} {o : Obj} (o' : Obj), Ix s X → N ≤ l → X.heap[l]? = some o → o.isCells = false → Ix s (X.putObj l o') := fun o' h1 h2 h3 h4 =>
    hIx _ _ _ _ h1 (grownBy_putObj' _ _ o') (fun r e => by cases e; exact .inr ⟨by omega, _, h3, h4⟩)
  refine ⟨N + 1, [{ target := .collected N, args := #[] }], V, { target := .fn (.func gf) lb, args := #[.func (.yield (N + 1)) #[] #[]] }, V, gf,
    #[.func (.yield (N + 1)) #[] #[]] ++ lb, V, ?_, ?_, fun _ _ => trivial, ?_, fun _ => by contradiction, ?_⟩
  · rw [← hV, hmk, ← hN]
    exact run_enterLoop_outer _ _ _ _ _
  · simp only [resolve, hg]
    simp [go_sem]
  · simp [invoke, go_sem, eg]
  refine (hit (N + 1)
    (fun pre A => (I pre A ∧ w.heap.size ≤ A.heap.size) ∧ A.heap[N + 1]? = some (.loop (mk .ready none)) ∧ A.heap[N]? = some (.deferred (some [])))
    (fun pre A => Ix pre A ∧ A.heap[N + 1]? = some (.loop (mk .done (some .ret))) ∧ A.heap[N]? = some (.deferred (some [])))
    V (hk0.trans (KMid.of gg hsz (fun r e => by cases e)))
    (fun s A B hs g => ⟨⟨hI _ _ _ _ hs.1.1 g (fun r e => by cases e; exact .inl rfl), Nat.le_trans hs.1.2 g.size⟩, old g (by omega) hs.2.1, old g (by omega) hs.2.2⟩)
    (fun s A B hs g => ⟨hIx _ _ _ _ hs.1 g (fun r e => by cases e; exact .inl rfl), old g (by omega) hs.2.1, old g (by omega) hs.2.2⟩)
    ?_ ⟨⟨hVI, gg.size⟩, hV1, hV0⟩).mono ?_
  · -- a round
    rintro pre x A ⟨⟨hi0, hge⟩, hl, hk⟩ hpre
    have hlt : N + 1 < A.heap.size := (Array.getElem?_eq_some_iff.1 hl).1
    have hy := run_yield (P := P) (args := #[enc x]) hl (by rw [hmk]; simpa using hps.symm)
    rw [hmk] at hy
    refine ⟨fn, _, assign, body, hy, roundIn_of_wpIn hfn (hassign _ x A _ ⟨_, run_beginRound hl (by rw [hmk]), ?_⟩)⟩
    obtain ⟨A2, hA2⟩ : ∃ A2, A.putObj (N + 1) (.loop { mk .ready none with state := .busy }) = A2 := ⟨_, rfl⟩
    have b1 : A2.heap[N + 1]? = some (.loop { mk .ready none with state := .busy }) := by rw [← hA2]; exact World.putObj_heap_same hlt
    have b0 : A2.heap[N]? = some (.deferred (some [])) := by rw [← hA2]; exact (World.putObj_heap_other (by omega)).trans hk
    have bI : I pre A2 := by rw [← hA2]; exact putI _ hi0 (by omega) hl rfl
    have bK : KMid lo hi A A2 := by rw [← hA2]; exact KMid.put (by omega) _
    rw [hA2]
    refine wpIn_mono (hbody _ pre x A2 bI hpre (Nat.le_trans hge bK.size)) ?_
    have fin : ∀ (jump : Option Code) (C : World), KeepsOthers A2 C →
        (Instr.endRound (N + 1) jump).run P C = .ok (.bool jump.isNone) (C.putObj (N + 1) (.loop (mk (if jump.isNone then .ready else .done) jump))) ∧
        (∃ o : Obj, C.heap[N + 1]? = some o ∧ o.isCells = false) ∧
        (C.putObj (N + 1) (.loop (mk (if jump.isNone then .ready else .done) jump))).heap[N + 1]? = some (.loop (mk (if jump.isNone then .ready else .done) jump)) ∧
        (C.putObj (N + 1) (.loop (mk (if jump.isNone then .ready else .done) jump))).heap[N]? = some (.deferred (some [])) := fun jump C hC => by
      have c1 := hC.same _ _ b1 rfl
      have hr := run_endRound (P := P) jump c1
      have c2 := (Array.getElem?_eq_some_iff.1 c1).1
      rw [hmk] at hr ⊢
      exact ⟨hr, ⟨_, c1, rfl⟩, World.putObj_heap_same c2, (World.putObj_heap_other (by omega)).trans (hC.same _ _ b0 rfl)⟩
    rintro e a3 C hp
    cases e with
    | normal =>
      obtain ⟨c1, c2, c3⟩ := hp
      obtain ⟨hr, ⟨o, ho, hoc⟩, d1, d0⟩ := fin none C c1
      exact ⟨_, _, hr, .inl ⟨rfl, ⟨⟨putI _ c3 (by omega) ho hoc, by have := bK.size; have := c1.size; simp; omega⟩, d1, d0⟩, (bK.trans c2).trans (KMid.put (by omega) _)⟩⟩
    | ret =>
      obtain ⟨c1, c3⟩ := hp
      obtain ⟨hr, ⟨o, ho, hoc⟩, d1, d0⟩ := fin (some .ret) C c1
      exact ⟨_, _, hr, .inr ⟨rfl, putX _ c3 (by omega) ho hoc, d1, d0⟩⟩
    | exit id => exact hp.elim
    | goto t => exact hp.elim
    | panic ch => exact hp.elim
    | outgrown => exact hp.elim
  · -- behind the iterator
    rintro e B ⟨⟨v, rfl⟩, ⟨⟨hi1, hge⟩, hl, hk⟩ | ⟨pre, hpre, hi1, hl, hk⟩⟩
    · have hr := run_endLoop (P := P) hl (by rw [hmk]; simp)
      rw [hmk] at hr
      exact ⟨none, _, hr, hdone _ _ (by omega) (putI _ hi1 (by omega) hl rfl) ((World.putObj_heap_other (by omega)).trans hk)⟩
    · have hr := run_endLoop (P := P) hl (by rw [hmk]; simp)
      rw [hmk] at hr
      exact ⟨some .ret, _, hr, hstop _ pre _ (by omega) hpre (putX _ hi1 (by omega) hl rfl) ((World.putObj_heap_other (by omega)).trans hk)⟩

end Go.Proofs.YtminoofghdpomaaDoor
