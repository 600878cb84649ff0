/- Layer 22: the text at a place; what bytes begin with. -/
import Derived.Test.YtdnfhddahpmnmabDoorRp6
namespace Go.Proofs.YtdnfhddahpmnmabDoor
open Go.RowKit Go.PlainAid

theorem store2r {w : World} {p : Nat} {T : TypeId} {a0 a1 : Value} (h : w.heap[p]? = some (.cells #[a0, a1] T (0, 0))) (b0 b1 : Value) :
    (w.cell? ⟨p, 0, none⟩ = some a0 ∧ w.frozen? ⟨p, 0, none⟩ = false) ∧ ((w.setCell ⟨p, 0, none⟩ b0).cell? ⟨p, 1, none⟩ = some a1 ∧ (w.setCell ⟨p, 0, none⟩ b0).frozen? ⟨p, 1, none⟩ = false) ∧
    ((w.setCell ⟨p, 0, none⟩ b0).setCell ⟨p, 1, none⟩ b1).heap[p]? = some (.cells #[b0, b1] T (0, 0)) := by
  have h1 := setRow w p 0 b0 h
  have h2 := setRow _ p 1 b1 h1
  simp only [List.setIfInBounds_toArray, List.set_cons_zero, List.set_cons_succ] at h1 h2
  exact ⟨⟨(row2 h).1, frozenRow h 0⟩, ⟨(row2 h1).2, frozenRow h1 1⟩, h2⟩
def TGot (f : Nat → Int) (n t : Nat) (w : World) (e : Ending) (w' : World) : Prop :=
  ∃ s sh q er, e = .returned (.tuple #[.agg #[.string s, .bool sh], .int .i64 ((t : Int) + q), .int .i64 er]) ∧ SlR (fun i => f (t + i)) (n - t) n s sh q er ∧ Below w.heap.size w w'
theorem slr_rng {f : Nat → Int} {n : Nat} {most : Int} {s : ByteArray} {sh : Bool} {q er : Int} (h : SlR f n most s sh q er) : 0 ≤ q ∧ q ≤ n := by
  obtain ⟨N, a, d, hp, h⟩ := h
  rcases h with ⟨_, _, _, rfl, _⟩ | ⟨_, _, _, _, rfl, _⟩ | ⟨_, _, _, _, _, rfl, _⟩ | ⟨hd, _, h3, _, _, _, rfl, _⟩ | ⟨hd, _, h3, _, m, h, x, _, hh⟩
  · omega
  · omega
  · omega
  · have := pg_bd7 (f := f) (n := n) (by rw [hp]; exact hd)
    rw [hp] at this
    simp only at this
    omega
  · have := pg_bd7 (f := f) (n := n) (by rw [hp]; exact hd)
    rw [hp] at this
    simp only at this
    rcases hh with ⟨_, _, _, rfl, _⟩ | ⟨_, _, _, rfl, _⟩ <;> omega
set_option maxRecDepth 20000 in
set_option maxHeartbeats 3200000 in
theorem text22 (A : Option Addr) (n c t : Nat) (f : Nat → Int) (w : World) (ha : Rd .u8 w A n c f) (hb : Byt n f) (ht : t ≤ n) (hn : n ≤ 5000) : Calls Tryd.prog 42 #[.slice A n c, .int .i64 (t : Int)] w (TGot f n t w) := by
  have R0 := hide (heap_alloc_new w (.cells #[.string ⟨#[]⟩, .bool false] 33))
  have al := (Below.refl w.heap.size w).alloc (Nat.le_refl _) (.cells #[.string ⟨#[]⟩, .bool false] 33)
  have E0 := hide al
  have hcut := bytes_cut A n c t ht
  have Hr := hide ((ha.below al).cutR (lo := t) (hi := n) ht (Nat.le_refl _))
  have Hb : Hid (Byt (n - t) (fun i => f (t + i))) := fun i hi => hb (t + i) (by omega)
  clear ha hb al
  generalize cutA A c t = A2 at *
  go_enter Tryd.func42, Tryd.ntmps42
  go_wp2_with fail
  refine (sget_any A2 (n - t) (c - t) _ n _ Hr.out Hb.out (by omega)).mono ?_
  rintro e w1 ⟨s, sh, q, er, rfl, hS, hb1⟩
  have hq := slr_rng hS
  have HS := hide hS
  have al := (Below.refl w1.heap.size w1).alloc (Nat.le_refl _) (.cells #[.string s, .bool sh] 33)
  have R2 := hide (keepRow R0.out (hb1.of al))
  have E2 := hide (E0.out.of (hb1.of al))
  have Q2 := hide (heap_alloc_new w1 (.cells #[.string s, .bool sh] 33))
  have hw : IntKind.i64.wrap ((t : Int) + q) = (t : Int) + q := IntWalk.i64_in _ (by omega)
  clear hS hb1 al R0 E0 hcut Hr
  obtain ⟨c0, c1⟩ := row2 Q2.out
  obtain ⟨⟨k0, f0⟩, ⟨k1, f1⟩, rr⟩ := store2r R2.out (.string s) (.bool sh)
  have RF := hide rr
  have EE := hide ((E2.out.setCell (p := ⟨w.heap.size, 0, none⟩) (Nat.le_refl _) (.string s)).setCell (p := ⟨w.heap.size, 1, none⟩) (Nat.le_refl _) (.bool sh))
  clear rr
  go_wp2_with fail
  obtain ⟨n0, n1⟩ := row2 RF.out
  refine bodyPost_ret (v := .tuple #[.agg #[.string s, .bool sh], .int .i64 ((t : Int) + q), .int .i64 er]) ?_ rfl ⟨s, sh, q, er, rfl, HS.out, EE.out⟩
  rw [results_cell_tmp2 rfl]
  go_simp
def zeroR (k i : Int) (ns : ByteArray) (a : Bool) (vs : ByteArray) (b : Bool) (z m : Int) : Prop := k = 0 ∧ i = 0 ∧ ns = ⟨#[]⟩ ∧ a = false ∧ vs = ⟨#[]⟩ ∧ b = false ∧ z = 0 ∧ m = 0
/-- What the bytes begin with, and how many it takes; or why there is none. -/
def GtR (f : Nat → Int) (n : Nat) (k i : Int) (ns : ByteArray) (a : Bool) (vs : ByteArray) (b : Bool) (z m er : Int) : Prop :=
  (n = 0 ∧ zeroR k i ns a vs b z m ∧ er = 3) ∨
  (0 < n ∧ ∃ (N : Int) (t : Nat) (d : Int), pg f n (bit22 (kd (f 0))) = (N, (t : Int), d) ∧
    ((d ≠ 0 ∧ zeroR k i ns a vs b z m ∧ er = d) ∨
     (d = 0 ∧ kd (f 0) = 1 ∧ N = 0 ∧ zeroR k i ns a vs b z m ∧ er = 12) ∨
     (d = 0 ∧ kd (f 0) = 1 ∧ N ≠ 0 ∧ k = 1 ∧ i = N ∧ ns = ⟨#[]⟩ ∧ a = false ∧ vs = ⟨#[]⟩ ∧ b = false ∧ z = 0 ∧ m = t ∧ er = 0) ∨
     (d = 0 ∧ kd (f 0) = 5 ∧ k = 5 ∧ i = 0 ∧ ns = ⟨#[]⟩ ∧ a = false ∧ vs = ⟨#[]⟩ ∧ b = false ∧ z = N ∧ m = t ∧ er = 0) ∨
     (d = 0 ∧ kd (f 0) ≠ 1 ∧ kd (f 0) ≠ 5 ∧ N ≠ 0 ∧ ∃ s sh q e2, SlR (fun j => f (t + j)) (n - t) n s sh q e2 ∧
       ((e2 ≠ 0 ∧ zeroR k i ns a vs b z m ∧ er = e2) ∨ (e2 = 0 ∧ k = kd (f 0) ∧ i = N ∧ ns = ⟨#[]⟩ ∧ a = false ∧ vs = s ∧ b = sh ∧ z = 0 ∧ m = t + q ∧ er = 0))) ∨
     (d = 0 ∧ kd (f 0) ≠ 1 ∧ kd (f 0) ≠ 5 ∧ N = 0 ∧ ∃ s sh q e1, SlR (fun j => f (t + j)) (n - t) n s sh q e1 ∧
       ((e1 ≠ 0 ∧ zeroR k i ns a vs b z m ∧ er = e1) ∨ (e1 = 0 ∧ ∃ s2 sh2 q2 e2, SlR (fun j => f (t + q.toNat + j)) (n - (t + q.toNat)) n s2 sh2 q2 e2 ∧
         ((e2 ≠ 0 ∧ zeroR k i ns a vs b z m ∧ er = e2) ∨ (e2 = 0 ∧ k = kd (f 0) ∧ i = 0 ∧ ns = s ∧ a = sh ∧ vs = s2 ∧ b = sh2 ∧ z = 0 ∧ m = t + q + q2 ∧ er = 0)))))))
end Go.Proofs.YtdnfhddahpmnmabDoor
