/- Layer 7: the reference's bytes; the walk of HeadBytes. -/
import Derived.Test.YtpnjamomkpkkeaaM3
namespace Go.Proofs.Ytpnjamomkpkkeaa
set_option linter.unusedVariables false
set_option linter.unusedSimpArgs false
open Go.RowKit

theorem S6keep {w1 w2 : World} (hb : Below w1.heap.size w1 w2) {a0 a1 a2 a3 a4 a5 : Addr} {v0 v1 v2 v3 v4 v5 : Value} (h : w1.cell? a0 = some v0 ∧ w1.cell? a1 = some v1 ∧ w1.cell? a2 = some v2 ∧ w1.cell? a3 = some v3 ∧ w1.cell? a4 = some v4 ∧ w1.cell? a5 = some v5) :
    w2.cell? a0 = some v0 ∧ w2.cell? a1 = some v1 ∧ w2.cell? a2 = some v2 ∧ w2.cell? a3 = some v3 ∧ w2.cell? a4 = some v4 ∧ w2.cell? a5 = some v5 :=
  ⟨cellKeep hb h.1, cellKeep hb h.2.1, cellKeep hb h.2.2.1, cellKeep hb h.2.2.2.1, cellKeep hb h.2.2.2.2.1, cellKeep hb h.2.2.2.2.2⟩
theorem S6grow {w1 w2 : World} {v : Value} (hg : w1.grownBy w2 v.ownBlock) {B : Nat} (hne : ∀ b, b < B → v.ownBlock ≠ some b) {a0 a1 a2 a3 a4 a5 : Addr} {v0 v1 v2 v3 v4 v5 : Value} (l0 : a0.block < B) (l1 : a1.block < B) (l2 : a2.block < B) (l3 : a3.block < B) (l4 : a4.block < B) (l5 : a5.block < B)
    (h : w1.cell? a0 = some v0 ∧ w1.cell? a1 = some v1 ∧ w1.cell? a2 = some v2 ∧ w1.cell? a3 = some v3 ∧ w1.cell? a4 = some v4 ∧ w1.cell? a5 = some v5) :
    w2.cell? a0 = some v0 ∧ w2.cell? a1 = some v1 ∧ w2.cell? a2 = some v2 ∧ w2.cell? a3 = some v3 ∧ w2.cell? a4 = some v4 ∧ w2.cell? a5 = some v5 :=
  ⟨hg.cell h.1 (fun e => hne _ l0 e.symm), hg.cell h.2.1 (fun e => hne _ l1 e.symm), hg.cell h.2.2.1 (fun e => hne _ l2 e.symm), hg.cell h.2.2.2.1 (fun e => hne _ l3 e.symm), hg.cell h.2.2.2.2.1 (fun e => hne _ l4 e.symm), hg.cell h.2.2.2.2.2 (fun e => hne _ l5 e.symm)⟩
set_option maxRecDepth 100000 in
set_option maxHeartbeats 3200000 in
theorem rhbytes_ok (fr t f s : Int) (r : Bool) (A : Option Addr) (n c : Nat) (g : Nat → Int) (w : World) (ha : Rd .u8 w A n c g) (hn : n ≤ 100000) (h : HdR n t f s) : Calls Try.prog 30 #[.agg #[.int .i64 fr, .int .i64 t, .int .i64 f, .int .i64 s, .bool r, .slice A n c]] w fun e w' =>
    ∃ A' c', e = .returned (.tuple #[.slice A' (9 + n) c', .bool true]) ∧ Rd .u8 w' A' (9 + n) c' (catF 9 (hdF n t f (hdX s r)) g) ∧ Below w.heap.size w w' := by
  obtain ⟨i0, hi, hz0, hz1, hz2⟩ := info_parts u8_info
  have hd : (t == -1) = false := by have := h.2.1.1; simp; omega
  have H := hide h
  have Ha := hide ha
  clear h ha
  obtain ⟨W, hW⟩ : ∃ W, W = ((w.alloc (.cells #[.int .i64 fr, .int .i64 t, .int .i64 f, .int .i64 s, .bool r, .slice A n c] 29)).alloc (.cells #[.int .i64 n, .int .i64 t, .int .i64 f, .int .i64 s, .bool r] 154)).alloc (.cells #[.int .i64 n, .int .i64 t, .int .i64 f, .int .i64 s, .bool r] 154) := ⟨_, rfl⟩
  have R0 : Hid (W.heap[w.heap.size]? = some (.cells #[.int .i64 fr, .int .i64 t, .int .i64 f, .int .i64 s, .bool r, .slice A n c] 29 (0, 0))) := by
    rw [hW]
    exact keepRow (keepRow (heap_alloc_new w _) ((Below.refl _ _).alloc (Nat.le_refl _) _)) ((Below.refl _ _).alloc (Nat.le_refl _) _)
  have R1 : Hid (W.heap[w.heap.size + 1]? = some (.cells #[.int .i64 n, .int .i64 t, .int .i64 f, .int .i64 s, .bool r] 154 (0, 0))) := by
    rw [hW]
    have := heap_alloc_new (w.alloc (.cells #[.int .i64 fr, .int .i64 t, .int .i64 f, .int .i64 s, .bool r, .slice A n c] 29)) (.cells #[.int .i64 n, .int .i64 t, .int .i64 f, .int .i64 s, .bool r] 154)
    rw [show (w.alloc (.cells #[.int .i64 fr, .int .i64 t, .int .i64 f, .int .i64 s, .bool r, .slice A n c] 29)).heap.size = w.heap.size + 1 by simp] at this
    exact keepRow this ((Below.refl _ _).alloc (Nat.le_refl _) _)
  have hB0 : Hid (Below w.heap.size w W) := by
    rw [hW]
    exact (((Below.refl w.heap.size w).alloc (Nat.le_refl _) _).alloc (by simp) _).alloc (by simp; omega) _
  have HW := hide hW
  clear hW
  go_enter Try.func30, Try.ntmps30
  go_wp2_with fail
  refine (rright_yesX n t f s r _ H.out).mono ?_
  rintro e w1 ⟨rfl, rfl⟩
  rw [← HW.out]
  obtain ⟨q0, q1, q2, q3, q4, q5⟩ := row6 R0.out
  obtain ⟨a0, a1, a2, a3, a4⟩ := row5 R1.out
  have hs : w.heap.size + 2 < W.heap.size := by rw [HW.out]; simp
  go_wp2_with fail
  go_region_held3 (fun w' : World => w'.cell? ⟨w.heap.size, 5, none⟩ = some (.slice A n c) ∧ w'.cell? ⟨w.heap.size + 1, 0, none⟩ = some (.int .i64 n) ∧ w'.cell? ⟨w.heap.size + 1, 1, none⟩ = some (.int .i64 t) ∧ w'.cell? ⟨w.heap.size + 1, 2, none⟩ = some (.int .i64 f) ∧ w'.cell? ⟨w.heap.size + 1, 3, none⟩ = some (.int .i64 s) ∧ w'.cell? ⟨w.heap.size + 1, 4, none⟩ = some (.bool r))
    ((first | (go_keep; done) | exact S6keep hb1 (by assumption) | exact S6grow hg2 Hne.out (by simp) (by simp) (by simp) (by simp) (by simp) (by simp) (by assumption)))
    ((first | (go_at_call 76; refine (hrput n t f s r _ H.out).mono ?_; rintro e w1 ⟨A1, k1, rfl, ho1, hb1⟩; have hs1 := hb1.size; (simp at hs1); have Hne : Hid (∀ b, b < w.heap.size + 2 → (Value.slice A1 9 k1).ownBlock ≠ some b) := (fun b hb => ho1.ne (by simp; omega)); have Ho1 := hide (ho1.baseB (B' := w.heap.size) (by simp; omega)); have hB1 := hide (hB0.out.drew.of hb1); have Ha1 := hide (Ha.out.below hB1.out)) | (refine step_app (by rfl) _ _ _ (by rfl) i0 0 1 Try.underlying22 hi hz0 hz1 hz2 w.heap.size (.slice A1 9 k1) 9 _ (by rfl) Ho1.out A n c g (by rfl) Ha1.out (by simp only [maxLen]; omega) (by omega) (by omega) ?_; intro v2 w2 hown2 hg2)))
  all_goals
    have hB2 := hide (hB1.out.grown hg2 hB1.out.size (fun j e => (World.ownsRow.lt Ho1.out j e).1))
    obtain ⟨A2, k2, rfl, hr2, _⟩ := hown2.rd
    have Hr2 := hide hr2
    clear hown2 hg2 hr2
    go_wp2_with fail
    go_ret2
    exact ⟨A2, k2, rfl, Hr2.out, hB2.out⟩

/-! ### the walk -/
end Go.Proofs.Ytpnjamomkpkkeaa
