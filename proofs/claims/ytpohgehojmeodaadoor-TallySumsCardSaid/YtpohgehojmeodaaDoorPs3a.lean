/- Layer 27: the program's Request, Response, Trailer. -/
import Derived.Test.YtpohgehojmeodaaDoorPs2
import Derived.Test.YtpohgehojmeodaaDoorMN
import Derived.Laws.ResultCell
import Derived.RegionTactic
import Derived.ChangeAlike
import Derived.BigRegion
import Derived.StillTailTactics
import Derived.Deep.RegionHeld3
import Derived.Deep.Cut
import Derived.Deep.CutRange
namespace Go.Proofs.YtpohgehojmeodaaDoor
set_option linter.unusedVariables false
set_option linter.unusedSimpArgs false
open Go.RowKit Go.PlainAid

theorem rq_apart : ∀ i j, i < rqN.length → j < rqN.length → i ≠ j → rqN.getD i sE ≠ rqN.getD j sE := by
  have h : ∀ i : Fin 4, ∀ j : Fin 4, i ≠ j → eqN (rqN.getD i sE) (rqN.getD j sE) = false := by decide +kernel
  intro i j hi hj hij e
  have := h ⟨i, hi⟩ ⟨j, hj⟩ (fun h => hij (congrArg Fin.val h))
  rw [eqN_iff.2 e] at this
  cases this
theorem rq_col : ∀ i, i < rqN.length → colB (rqN.getD i sE) = true := by
  have h : ∀ i : Fin 4, colB (rqN.getD i sE) = true := by decide +kernel
  exact fun i hi => h ⟨i, hi⟩
theorem rs_apart : ∀ i j, i < rsN.length → j < rsN.length → i ≠ j → rsN.getD i sE ≠ rsN.getD j sE := by
  intro i j hi hj hij
  have h1 : i < 1 := hi
  have h2 : j < 1 := hj
  omega
theorem rs_col : ∀ i, i < rsN.length → colB (rsN.getD i sE) = true := by
  have h : ∀ i : Fin 1, colB (rsN.getD i sE) = true := by decide +kernel
  exact fun i hi => h ⟨i, hi⟩
theorem trailer_any (A : Option Addr) (n c : Nat) (F : Nat → Fd) (w : World) (ha : RdFd w A n c F) : Calls Tryd.prog 188 #[.slice A n c] w fun e w' => e = .returned (.bool (okF [] F n)) ∧ Below w.heap.size w w' := by
  have h := fun (W : World) (hw : RdFd W A n c F) => read_any A none n c 0 F [] W hw ⟨Nat.le_refl _, by simp [maxLen], fun _ => rfl, fun h => absurd h (by simp)⟩ (by simp) (fun i j hi => absurd hi (by simp)) (fun i hi => absurd hi (by simp))
  simp only [List.length_nil] at h
  go_enter Tryd.func188, Tryd.ntmps188
  go_wp2_with fail
  refine (h _ ha).mono ?_
  rintro e w1 ⟨h1 | h1, hb⟩
  · obtain ⟨ho, rfl⟩ := h1
    go_wp2_with fail
    go_ret
    exact ⟨by rw [ho]; rfl, hb⟩
  · obtain ⟨ho, rfl, _⟩ := h1
    go_wp2_with fail
    go_ret
    exact ⟨by rw [ho]; rfl, hb⟩
theorem store5p {w : World} {p : Nat} {T : TypeId} {a0 a1 a2 a3 a4 : Value} (h : w.heap[p]? = some (.cells #[a0, a1, a2, a3, a4] T (0, 0))) (b0 b1 b2 b3 b4 : Value) :
    (w.cell? ⟨p, 0, none⟩ = some a0 ∧ w.frozen? ⟨p, 0, none⟩ = false) ∧
    ((w.setCell ⟨p, 0, none⟩ b0).cell? ⟨p, 1, none⟩ = some a1 ∧ (w.setCell ⟨p, 0, none⟩ b0).frozen? ⟨p, 1, none⟩ = false) ∧
    (((w.setCell ⟨p, 0, none⟩ b0).setCell ⟨p, 1, none⟩ b1).cell? ⟨p, 2, none⟩ = some a2 ∧ ((w.setCell ⟨p, 0, none⟩ b0).setCell ⟨p, 1, none⟩ b1).frozen? ⟨p, 2, none⟩ = false) ∧
    ((((w.setCell ⟨p, 0, none⟩ b0).setCell ⟨p, 1, none⟩ b1).setCell ⟨p, 2, none⟩ b2).cell? ⟨p, 3, none⟩ = some a3 ∧ (((w.setCell ⟨p, 0, none⟩ b0).setCell ⟨p, 1, none⟩ b1).setCell ⟨p, 2, none⟩ b2).frozen? ⟨p, 3, none⟩ = false) ∧
    (((((w.setCell ⟨p, 0, none⟩ b0).setCell ⟨p, 1, none⟩ b1).setCell ⟨p, 2, none⟩ b2).setCell ⟨p, 3, none⟩ b3).cell? ⟨p, 4, none⟩ = some a4 ∧ ((((w.setCell ⟨p, 0, none⟩ b0).setCell ⟨p, 1, none⟩ b1).setCell ⟨p, 2, none⟩ b2).setCell ⟨p, 3, none⟩ b3).frozen? ⟨p, 4, none⟩ = false) ∧
    (((((w.setCell ⟨p, 0, none⟩ b0).setCell ⟨p, 1, none⟩ b1).setCell ⟨p, 2, none⟩ b2).setCell ⟨p, 3, none⟩ b3).setCell ⟨p, 4, none⟩ b4).heap[p]? = some (.cells #[b0, b1, b2, b3, b4] T (0, 0)) := by
  have h1 := setRow w p 0 b0 h
  have h2 := setRow _ p 1 b1 h1
  have h3 := setRow _ p 2 b2 h2
  have h4 := setRow _ p 3 b3 h3
  have h5 := setRow _ p 4 b4 h4
  simp only [List.setIfInBounds_toArray, List.set_cons_zero, List.set_cons_succ] at h1 h2 h3 h4 h5
  exact ⟨⟨(row5 h).1, frozenRow h 0⟩, ⟨(row5 h1).2.1, frozenRow h1 1⟩, ⟨(row5 h2).2.2.1, frozenRow h2 2⟩, ⟨(row5 h3).2.2.2.1, frozenRow h3 3⟩, ⟨(row5 h4).2.2.2.2, frozenRow h4 4⟩, h5⟩
theorem below5p {B : Nat} {w w' : World} {p : Nat} (h : Below B w w') (hp : B ≤ p) (b0 b1 b2 b3 b4 : Value) : Below B w (((((w'.setCell ⟨p, 0, none⟩ b0).setCell ⟨p, 1, none⟩ b1).setCell ⟨p, 2, none⟩ b2).setCell ⟨p, 3, none⟩ b3).setCell ⟨p, 4, none⟩ b4) :=
  ((((h.setCell hp _).setCell hp _).setCell hp _).setCell hp _).setCell hp _
def S8 (gb : Nat) (v0 v1 v2 v3 v4 v5 v6 v7 : Value) (z : Nat) (W : World) : Prop := (W.cell? ⟨gb, 0, none⟩ = some v0 ∧ W.cell? ⟨gb, 1, none⟩ = some v1 ∧ W.cell? ⟨gb, 2, none⟩ = some v2 ∧ W.cell? ⟨gb, 3, none⟩ = some v3 ∧ W.cell? ⟨gb, 4, none⟩ = some v4 ∧ W.cell? ⟨gb, 5, none⟩ = some v5 ∧ W.cell? ⟨gb, 6, none⟩ = some v6 ∧ W.cell? ⟨gb, 7, none⟩ = some v7) ∧ z ≤ W.heap.size
theorem heapKeep {w w' : World} {p : Nat} {o : Obj} (hb : Below w.heap.size w w') (h : w.heap[p]? = some o) : w'.heap[p]? = some o := (hb.block p (Array.getElem?_eq_some_iff.1 h).1).trans h
theorem heap4a (w : World) (o1 o2 o3 o4 : Obj) : ((((w.alloc o1).alloc o2).alloc o3).alloc o4).drew.heap[w.heap.size]? = some o1 :=
  heapKeep (w := w.alloc o1) ((((Below.refl _ _).alloc (Nat.le_refl _) o2).alloc (by simp) o3).alloc (by simp) o4).drew (heap_alloc_new w o1)
theorem heap4b (w : World) (o1 o2 o3 o4 : Obj) : ((((w.alloc o1).alloc o2).alloc o3).alloc o4).drew.heap[w.heap.size + 1]? = some o2 := by
  have h := heap_alloc_new (w.alloc o1) o2
  rw [show (w.alloc o1).heap.size = w.heap.size + 1 by simp] at h
  exact heapKeep (w := (w.alloc o1).alloc o2) (((Below.refl _ _).alloc (Nat.le_refl _) o3).alloc (by simp) o4).drew h
theorem heap4c (w : World) (o1 o2 o3 o4 : Obj) : ((((w.alloc o1).alloc o2).alloc o3).alloc o4).drew.heap[w.heap.size + 1 + 1]? = some o3 := by
  have h := heap_alloc_new ((w.alloc o1).alloc o2) o3
  rw [show ((w.alloc o1).alloc o2).heap.size = w.heap.size + 1 + 1 by simp] at h
  exact heapKeep (w := ((w.alloc o1).alloc o2).alloc o3) ((Below.refl _ _).alloc (Nat.le_refl _) o4).drew h
theorem heap4d (w : World) (o1 o2 o3 o4 : Obj) : ((((w.alloc o1).alloc o2).alloc o3).alloc o4).drew.heap[w.heap.size + 1 + 1 + 1]? = some o4 := by
  have h := heap_alloc_new (((w.alloc o1).alloc o2).alloc o3) o4
  rw [show (((w.alloc o1).alloc o2).alloc o3).heap.size = w.heap.size + 1 + 1 + 1 by simp] at h
  exact h
theorem isn (o : Option ByteArray) : o.isNone = !o.isSome := by cases o <;> rfl
theorem below4 {B : Nat} {w0 w : World} (h : Below B w0 w) (hB : B ≤ w.heap.size) (o1 o2 o3 o4 : Obj) : Below B w0 ((((w.alloc o1).alloc o2).alloc o3).alloc o4).drew :=
  ((((h.alloc hB o1).alloc (by simp; omega) o2).alloc (by simp; omega) o3).alloc (by simp; omega) o4).drew
theorem eq_connect (x : ByteArray) : eqN x sConnect = (x.toList == [67, 79, 78, 78, 69, 67, 84]) := by
  unfold eqN
  rw [show sConnect.toList = [67, 79, 78, 78, 69, 67, 84] by decide +kernel]
theorem eq_empty (x : ByteArray) : eqN x sE = x.toList.isEmpty := by
  unfold eqN
  rw [show sE.toList = [] by decide +kernel]
  cases x.toList <;> rfl
def Txt2 (w : World) (p : Nat) (o : Option ByteArray) : Prop := w.heap[p]? = some (.cells #[.string (txt o), .bool o.isSome] 194 (0, 0))
def HdZ : Obj := .cells #[.string ⟨#[]⟩, .string ⟨#[]⟩, .string ⟨#[]⟩, .string ⟨#[]⟩, .int .i64 0] 160
def reqV (F : Nat → Fd) (n : Nat) : Value := .tuple #[.agg #[.string (reqS F n nMethod), .string (reqS F n nScheme), .string (reqS F n nAuth), .string (reqS F n nPath), .int .i64 0], .bool (reqB F n)]
end Go.Proofs.YtpohgehojmeodaaDoor
