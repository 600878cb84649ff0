/- Layer 32: the queue behind a pointer; possible, Sent, Acked, Least, New, All. -/
import Derived.Test.YteikpdolickkaaaOwO
import Derived.Test.YteikpdolickkaaaSetA
import Derived.StillTailTactics
import Derived.Deep.RegionHeld3
namespace Go.Proofs.Yteikpdolickkaaa
open Go.RowKit Go.Deep

def vlF (V : Nat → Nat → Int) : Nat → Value := fun i => .int .i64 (V (i / 6) (i % 6))
theorem vlF_at (V : Nat → Nat → Int) (k j : Nat) (h : j < 6) : vlF V (k * 6 + j) = .int .i64 (V k j) := by
  unfold vlF
  rw [show (k * 6 + j) / 6 = k by omega, show (k * 6 + j) % 6 = j by omega]
def initF : Nat → Int := fun j => if j = 0 then 4096 else if j = 1 then 1 else if j = 2 then 4294967296 else if j = 3 then 65535 else if j = 4 then 16384 else 4294967296
def vA (g : Nat → Int) : Value := .agg #[.int .i64 (g 0), .int .i64 (g 1), .int .i64 (g 2), .int .i64 (g 3), .int .i64 (g 4), .int .i64 (g 5)]
theorem vals_info : (Try.prog.info? 113).map (fun i => (i.zero, i.size, i.bytes)) = some (some (.agg #[.int .i64 0, .int .i64 0, .int .i64 0, .int .i64 0, .int .i64 0, .int .i64 0]), 6, 48) := by kernel_rfl
/-- A queue: a acknowledged, l the least possible number, n values from it on; g: the block of its slice. -/
structure QOk (B : Nat) (w : World) (p : Nat) (g : Option Nat) (a l n : Nat) (V : Nat → Nat → Int) : Prop where
  ex : ∃ v, w.heap[p]? = some (.cells #[.int .i64 (a : Int), .int .i64 (l : Int), v] 111 (0, 0)) ∧ v.ownBlock = g ∧ (OwnO 6 113 B w v n (vlF V) ∨ (v = .slice none 0 0 ∧ n = 1 ∧ ∀ j, j < 6 → V 0 j = initF j))
  hp : B ≤ p
  pos : 1 ≤ n
  ne : g ≠ some p
def qfp (p : Nat) (g : Option Nat) : Nat → Prop := fun i => i = p ∨ g = some i
theorem QOk.lt {B : Nat} {w : World} {p : Nat} {g : Option Nat} {a l n : Nat} {V : Nat → Nat → Int} (h : QOk B w p g a l n V) : ∀ i, qfp p g i → B ≤ i ∧ i < w.heap.size := by
  obtain ⟨⟨v, h1, h2, h3⟩, h4, _, _⟩ := h
  rintro i (rfl | hi)
  · exact ⟨h4, rowLt h1⟩
  · rcases h3 with h3 | ⟨rfl, _⟩
    · exact h3.lt i (h2.trans hi)
    · rw [← h2] at hi; cases hi
theorem QOk.at_ {B : Nat} {w w' : World} {p : Nat} {g : Option Nat} {a l n : Nat} {V : Nat → Nat → Int} (h : QOk B w p g a l n V) (hb : ∀ i, qfp p g i → w'.heap[i]? = w.heap[i]?) : QOk B w' p g a l n V := by
  obtain ⟨⟨v, h1, h2, h3⟩, h4, h5, h6⟩ := h
  exact ⟨⟨v, (hb p (.inl rfl)).trans h1, h2, h3.imp (fun h => h.at_ fun b hv => hb b (.inr (h2 ▸ hv))) id⟩, h4, h5, h6⟩
theorem QOk.below {B : Nat} {w w' : World} {p : Nat} {g : Option Nat} {a l n : Nat} {V : Nat → Nat → Int} (h : QOk B w p g a l n V) (hb : Below w.heap.size w w') : QOk B w' p g a l n V := h.at_ fun i hi => hb.block i (h.lt i hi).2
theorem QOk.fr {B : Nat} {w w' : World} {p : Nat} {g : Option Nat} {a l n : Nat} {V : Nat → Nat → Int} {S : Nat → Prop} {B' : Nat} (h : QOk B w p g a l n V) (hf : FrO B' S w w') (hs : ∀ i, qfp p g i → ¬ S i) : QOk B w' p g a l n V := h.at_ fun i hi => hf.keep i (h.lt i hi).2 (hs i hi)
theorem rowQ {w : World} {p : Nat} {T : TypeId} {a b c : Value} (h : w.heap[p]? = some (.cells #[a, b, c] T (0, 0))) : w.cell? ⟨p, 0, none⟩ = some a ∧ w.cell? ⟨p, 1, none⟩ = some b ∧ w.cell? ⟨p, 2, none⟩ = some c := by
  refine ⟨?_, ?_, ?_⟩ <;> simp [World.cell?, h]
set_option maxRecDepth 20000 in
theorem poss32 {B : Nat} {w : World} {p : Nat} {g : Option Nat} {a l n : Nat} {V : Nat → Nat → Int} (h : QOk B w p g a l n V) (hB : B ≤ w.heap.size) :
    Calls Try.prog 114 #[.pointer (some ⟨p, 0, none⟩)] w fun e w' => ∃ b off c, e = .returned (.slice (some ⟨b, off, none⟩) n c) ∧ OwnO 6 113 B w' (.slice (some ⟨b, off, none⟩) n c) n (vlF V) ∧ (g = some b ∨ w.heap.size ≤ b) ∧ Below w.heap.size w w' := by
  obtain ⟨⟨v, h1, h2, h3⟩, h4, h5, h6⟩ := h
  obtain ⟨c0, c1, c2⟩ := rowQ h1
  rcases h3 with h3 | ⟨rfl, rfl, h8⟩
  · rcases h3 with ⟨_, h0⟩ | ⟨b, off, cap, cur, rfl, k1, k2, k3, k4, k5, k6⟩
    · omega
    have ho : Hid (OwnO 6 113 B w (.slice (some ⟨b, off, none⟩) n cap) n (vlF V)) := .inr ⟨b, off, cap, cur, rfl, k1, k2, k3, k4, k5, k6⟩
    have hd : ((n : Int) == 0) = false := by
      simp only [beq_eq_false_iff_ne]
      omega
    have Hg := hide h2
    clear h1 h2 k1 k2 k3 k4 k5 k6
    go_enter Try.func114, Try.ntmps114
    go_wp2
    go_ret
    exact ⟨b, off, cap, rfl, ho.out, .inl Hg.out.symm, Below.refl _ _⟩
  · have H8 := hide h8
    clear h1 h8
    go_enter Try.func114, Try.ntmps114
    go_wp2_with fail
    refine (init_any _).mono ?_
    rintro e w1 ⟨rfl, hb1⟩
    have Hb := hide hb1
    clear hb1
    go_wp2_with fail
    go_ret
    refine ⟨_, _, _, rfl, (OwnV.lit 6 113 B w1 (vlF fun _ => initF) _ 1 (Nat.le_trans hB Hb.out.size) (by simp [maxLen]) (by kernel_rfl)).toO.congr (fun i hi => ?_), .inr Hb.out.size, Hb.out.alloc Hb.out.size _⟩
    unfold vlF
    have h9 := H8.out (i % 6) (by omega)
    rw [show i / 6 = 0 by omega, h9]
theorem acked32 {B : Nat} {w : World} {p : Nat} {g : Option Nat} {a l n : Nat} {V : Nat → Nat → Int} (h : QOk B w p g a l n V) : Calls Try.prog 59 #[.pointer (some ⟨p, 0, none⟩)] w fun e w' => e = .returned (.int .i64 (a : Int)) ∧ w = w' := by
  obtain ⟨⟨v, h1, _⟩, _⟩ := h
  obtain ⟨c0, c1, c2⟩ := rowQ h1
  clear h1
  go_enter Try.func59, Try.ntmps59
  go_wp2
  go_ret
  exact ⟨rfl, rfl⟩
theorem least32 {B : Nat} {w : World} {p : Nat} {g : Option Nat} {a l n : Nat} {V : Nat → Nat → Int} (h : QOk B w p g a l n V) : Calls Try.prog 60 #[.pointer (some ⟨p, 0, none⟩)] w fun e w' => e = .returned (.int .i64 (l : Int)) ∧ w = w' := by
  obtain ⟨⟨v, h1, _⟩, _⟩ := h
  obtain ⟨c0, c1, c2⟩ := rowQ h1
  clear h1
  go_enter Try.func60, Try.ntmps60
  go_wp2
  go_ret
  exact ⟨rfl, rfl⟩
theorem new32 (w : World) : Calls Try.prog 47 #[] w fun e w' => e = .returned (.pointer (some ⟨w.heap.size, 0, none⟩)) ∧ w' = w.alloc (.cells #[.int .i64 0, .int .i64 0, .slice none 0 0] 111) := by
  go_enter Try.func47, Try.ntmps47
  go_wp2
  go_ret
  exact ⟨rfl, rfl⟩
theorem QOk.new {B : Nat} (w : World) (hB : B ≤ w.heap.size) : QOk B (w.alloc (.cells #[.int .i64 0, .int .i64 0, .slice none 0 0] 111)) w.heap.size none 0 0 1 (fun _ => initF) :=
  ⟨⟨.slice none 0 0, heap_alloc_new _ _, rfl, .inr ⟨rfl, rfl, fun _ _ => rfl⟩⟩, hB, Nat.le_refl _, by simp⟩
theorem QOk.drew {B : Nat} {w : World} {p : Nat} {g : Option Nat} {a l n : Nat} {V : Nat → Nat → Int} (h : QOk B w p g a l n V) : QOk B w.drew p g a l n V := h.at_ fun _ _ => rfl
set_option maxRecDepth 20000 in
theorem sent32 {B : Nat} {w : World} {p : Nat} {g : Option Nat} {a l n : Nat} {V : Nat → Nat → Int} (h : QOk B w p g a l n V) (hB : B ≤ w.heap.size) (hl : l + n ≤ 1000) :
    Calls Try.prog 58 #[.pointer (some ⟨p, 0, none⟩)] w fun e w' => e = .returned (.int .i64 ((l + n - 1 : Nat) : Int)) ∧ Below w.heap.size w w' := by
  have H := hide h.drew
  have HB : Hid (B ≤ w.drew.heap.size) := hB
  have hpos := h.pos
  obtain ⟨⟨v, h1, _⟩, _⟩ := h
  obtain ⟨c0, c1, c2⟩ := rowQ h1
  have Hr := hide h1
  have hw1 : IntKind.i64.wrap ((l : Int) + (n : Int)) = (l : Int) + (n : Int) := IntWalk.i64_in _ (by omega)
  have hw2 : IntKind.i64.wrap ((l : Int) + (n : Int) - 1) = ((l + n - 1 : Nat) : Int) := by rw [IntWalk.i64_in _ (by omega)]; omega
  clear h1
  go_enter Try.func58, Try.ntmps58
  go_wp2_with fail
  go_region_held3 (fun W => W.cell? ⟨p, 1, none⟩ = some (.int .i64 (l : Int))) ((first | exact c1 | exact d1 | (go_keep; done)))
    ((first | (go_at_call 114; (with_reducible refine (poss32 H.out HB.out).mono ?_); rintro e w1 ⟨b, off, cp, rfl, _, _, hb1⟩; obtain ⟨d0, d1, d2⟩ := rowQ (keepRow (w := w.drew) Hr.out hb1))))
  all_goals
    go_wp2_with fail
    go_ret
    exact ⟨rfl, hb1.os, hb1.tape, hb1.output, hb1.size, hb1.block⟩
end Go.Proofs.Yteikpdolickkaaa
