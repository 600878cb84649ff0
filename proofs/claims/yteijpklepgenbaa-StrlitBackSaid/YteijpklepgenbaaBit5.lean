/- The contract of layer 5's row: a bit more. -/
import Derived.Test.YteijpklepgenbaaBit4
namespace Go.Proofs.Yteijpklepgenbaa
open Go.RowKit

/-- What is neither a row nor a row's bytes stays. -/
def KeepR (w w' : World) : Prop := ∀ T, T ≠ 5 → T ≠ 45 → KeepT T w w'
theorem KeepR.refl (w : World) : KeepR w w := fun _ _ _ => KeepT.refl _ _
theorem KeepR.trans {a b c : World} (h : KeepR a b) (k : KeepR b c) : KeepR a c := fun T h1 h2 => (h T h1 h2).trans (k T h1 h2)
/-- What a step of a row leaves. -/
def Stepped (B : Nat) (w : World) (p t : Nat) (g : Nat → Int) (e : Ending) (w' : World) : Prop :=
  e = .returned (.tuple #[]) ∧ Row B w' p t g ∧ Below B w w' ∧ KeepR w w'

theorem Row.lt {B : Nat} {w : World} {p t : Nat} {g : Nat → Int} (h : Row B w p t g) : p < w.heap.size := by
  obtain ⟨v, hh, _⟩ := h
  exact (Array.getElem?_eq_some_iff.1 hh).1
theorem Row.below {B : Nat} {w w' : World} {p t : Nat} {g : Nat → Int} (h : Row B w p t g) (hb : Below w.heap.size w w') : Row B w' p t g := by
  have hp := h.lt
  obtain ⟨v, hh, ho, h2⟩ := h
  exact ⟨v, (hb.block p hp).trans hh, ho.below hb, h2⟩
theorem bgrown_set (w : World) (p j : Nat) (u : Value) : w.grownBy (w.setCell ⟨p, j, none⟩ u) (some p) :=
  ⟨rfl, rfl, rfl, by simp [World.setCell], fun i _ hne => Below.heap_setCell w ⟨p, j, none⟩ u i (fun e => hne (by simp [e]))⟩
theorem set_pos {g : Nat → Int} {t : Nat} (hg : ∀ i, i < t → 0 ≤ g i ∧ g i ≤ 1) {x : Int} (hx : 0 ≤ x ∧ x ≤ 1) : ∀ i, i < t + 1 → 0 ≤ setF g t x i ∧ setF g t x i ≤ 1 := by
  intro i hi
  unfold setF
  by_cases h : i = t
  · rw [if_pos h]; exact hx
  · rw [if_neg h]; exact hg i (by omega)

/-- The row's last step: its number is one more. -/
theorem row_last {B : Nat} {w : World} {p t m c g : Nat} {f : Nat → Int} {cs : Array Value} (hh : w.heap[p]? = some (.cells #[.slice (some ⟨g, 0, none⟩) m c, .int .i64 (t : Int)] 45 (0, 0)))
    (hown : Own .u8 5 B w (.slice (some ⟨g, 0, none⟩) m c) m f) (hg : w.heap[g]? = some (.cells cs 5 (0, 0))) (g2 : Nat → Int) (hm : m = (t + 1 + 7) / 8) (hf : ∀ i, i < m → f i = byF g2 (t + 1) i) (ht : t + 1 ≤ 100000) :
    Row B (w.setCell ⟨p, 1, none⟩ (.int .i64 ((t : Int) + 1))) p (t + 1) g2 := by
  have hne : g ≠ p := by
    rintro rfl
    rw [hg] at hh
    injection hh with hh
    injection hh with _ h2
    exact absurd h2 (by decide)
  refine ⟨.slice (some ⟨g, 0, none⟩) m c, ?_, ?_, ht⟩
  · rw [heap_setCell_same w p 1 _ _ _ hh]
    simp
  · subst hm
    exact Own.congr (World.ownsRow.kept hown (bgrown_set w p 1 _) (.inr (by simp [Value.ownBlock]; exact hne))) hf

theorem pow_mod {t : Nat} : (2 : Int) ^ (7 - t % 8) % 256 = 2 ^ (7 - t % 8) := by
  have h : t % 8 = 0 ∨ t % 8 = 1 ∨ t % 8 = 2 ∨ t % 8 = 3 ∨ t % 8 = 4 ∨ t % 8 = 5 ∨ t % 8 = 6 ∨ t % 8 = 7 := by omega
  rcases h with h | h | h | h | h | h | h | h <;> rw [h] <;> decide
theorem byF_zero' (g : Nat → Int) (t : Nat) (hg : ∀ i, i < t → 0 ≤ g i ∧ g i ≤ 1) : bits .andNot .u8 (byF g t (t / 8)) (2 ^ (7 - t % 8) % 256) = byF (setF g t 0) (t + 1) (t / 8) := by
  rw [pow_mod]
  exact byF_zero g t hg
/-- Blocks of different element types differ. -/
theorem ne_of_types {w : World} {i j : Nat} {ci cj : Array Value} {ti tj : TypeId} (hi : w.heap[i]? = some (.cells ci ti (0, 0))) (hj : w.heap[j]? = some (.cells cj tj (0, 0))) (h : ti ≠ tj) : i ≠ j := by
  rintro rfl
  rw [hi] at hj
  injection hj with hj
  injection hj with _ h2
  exact h h2

/-- The end of a step that writes a nought. -/
theorem end_zero {B : Nat} {w : World} {p t m c gb : Nat} {g : Nat → Int} {cs : Array Value} (hh : w.heap[p]? = some (.cells #[.slice (some ⟨gb, 0, none⟩) m c, .int .i64 (t : Int)] 45 (0, 0)))
    (hown : Own .u8 5 B w (.slice (some ⟨gb, 0, none⟩) m c) m (byF g t)) (hg : w.heap[gb]? = some (.cells cs 5 (0, 0))) (hB : B ≤ p) (hBg : B ≤ gb) (hm : m = (t + 1 + 7) / 8) (ht : t + 1 ≤ 100000) :
    Row B ((w.setCell ⟨gb, t / 8, none⟩ (.int .u8 (byF (setF g t 0) (t + 1) (t / 8)))).setCell ⟨p, 1, none⟩ (.int .i64 ((t : Int) + 1))) p (t + 1) (setF g t 0) ∧
      Below B w ((w.setCell ⟨gb, t / 8, none⟩ (.int .u8 (byF (setF g t 0) (t + 1) (t / 8)))).setCell ⟨p, 1, none⟩ (.int .i64 ((t : Int) + 1))) ∧
      KeepR w ((w.setCell ⟨gb, t / 8, none⟩ (.int .u8 (byF (setF g t 0) (t + 1) (t / 8)))).setCell ⟨p, 1, none⟩ (.int .i64 ((t : Int) + 1))) := by
  have hne : gb ≠ p := ne_of_types hg hh (by decide)
  have hh2 : (w.setCell ⟨gb, t / 8, none⟩ (.int .u8 (byF (setF g t 0) (t + 1) (t / 8)))).heap[p]? = some (.cells #[.slice (some ⟨gb, 0, none⟩) m c, .int .i64 (t : Int)] 45 (0, 0)) :=
    (Below.heap_setCell w ⟨gb, t / 8, none⟩ _ p (fun e => hne e.symm)).trans hh
  have hg2 := heap_setCell_same w gb (t / 8) cs _ (.int .u8 (byF (setF g t 0) (t + 1) (t / 8))) hg
  refine ⟨row_last hh2 (hown.set (t / 8) _) hg2 (setF g t 0) hm (fun i hi => ?_) ht, ((Below.refl _ _).setCell hBg _).setCell hB _, fun T h1 h2 => (KeepT.set hg h1).trans (KeepT.set hh2 h2)⟩
  unfold setF
  by_cases h : i = t / 8
  · rw [if_pos h, h]
  · rw [if_neg h]
    exact (byF_zero_other g t i h).symm
/-- The end of a step that writes a one. -/
theorem end_one {B : Nat} {w : World} {p t m c gb : Nat} {g : Nat → Int} {cs : Array Value} (hh : w.heap[p]? = some (.cells #[.slice (some ⟨gb, 0, none⟩) m c, .int .i64 (t : Int)] 45 (0, 0)))
    (hown : Own .u8 5 B w (.slice (some ⟨gb, 0, none⟩) m c) m (byF g t)) (hg : w.heap[gb]? = some (.cells cs 5 (0, 0))) (hB : B ≤ p) (hm : m = (t + 1 + 7) / 8) (ht : t + 1 ≤ 100000) :
    Row B (w.setCell ⟨p, 1, none⟩ (.int .i64 ((t : Int) + 1))) p (t + 1) (setF g t 1) ∧ Below B w (w.setCell ⟨p, 1, none⟩ (.int .i64 ((t : Int) + 1))) ∧ KeepR w (w.setCell ⟨p, 1, none⟩ (.int .i64 ((t : Int) + 1))) :=
  ⟨row_last hh hown hg (setF g t 1) hm (fun i _ => by rw [byF_one]) ht, (Below.refl _ _).setCell hB _, fun T _ h2 => KeepT.set hh h2⟩

set_option maxHeartbeats 1000000 in
theorem add_old0 (B p t : Nat) (g : Nat → Int) (w : World) (h : Row B w p t g) (hB : B ≤ p) (hg : ∀ i, i < t → 0 ≤ g i ∧ g i ≤ 1) (h8 : t % 8 ≠ 0) (ht : t + 1 ≤ 100000) :
    Calls Try.prog 41 #[.pointer (some ⟨p, 0, none⟩), .int .i64 0] w (Stepped B w p (t + 1) (setF g t 0)) := by
  obtain ⟨v, hh, hown, h1⟩ := h
  obtain ⟨gb, c, cur, rfl, hBg, hgb, hmc⟩ := hown.form (by omega)
  have c0 := cell_of_row w p 0 _ _ _ hh
  have c1 := cell_of_row w p 1 _ _ _ hh
  simp at c0 c1
  have f1 := frozen_of_row w p 1 _ _ hh
  have fb := hown.frozen (t / 8)
  have cb := hown.cell (j := t / 8) (by omega)
  have hz := byF_zero' g t hg
  have hne : ¬ gb = p := ne_of_types hgb hh (by decide)
  have hne2 : ¬ p = gb := fun e => hne e.symm
  have hd9 : ((t : Int) % 8 == 0) = false := by simp; omega
  have He := hide (end_zero hh hown hgb hB hBg (by omega) ht)
  clear hh hown hgb hg
  go_enter Try.func41, Try.ntmps41
  go_wp2
  go_region
  go_wp2
  go_end0
  exact ⟨rfl, He.out.1, He.out.2.1.drew, He.out.2.2⟩

set_option maxHeartbeats 1000000 in
theorem add_old1 (B p t : Nat) (g : Nat → Int) (w : World) (h : Row B w p t g) (hB : B ≤ p) (h8 : t % 8 ≠ 0) (ht : t + 1 ≤ 100000) :
    Calls Try.prog 41 #[.pointer (some ⟨p, 0, none⟩), .int .i64 1] w (Stepped B w p (t + 1) (setF g t 1)) := by
  obtain ⟨v, hh, hown, h1⟩ := h
  obtain ⟨gb, c, cur, rfl, hBg, hgb, hmc⟩ := hown.form (by omega)
  have c0 := cell_of_row w p 0 _ _ _ hh
  have c1 := cell_of_row w p 1 _ _ _ hh
  simp at c0 c1
  have f1 := frozen_of_row w p 1 _ _ hh
  have hd9 : ((t : Int) % 8 == 0) = false := by simp; omega
  have He := hide (end_one hh hown hgb hB (by omega) ht)
  clear hh hown hgb
  go_enter Try.func41, Try.ntmps41
  go_wp2
  go_end0
  exact ⟨rfl, He.out.1, He.out.2.1, He.out.2.2⟩

/-- The state behind the append of a new byte and its store. -/
theorem new_byte {B : Nat} {w w2 : World} {p t c gb : Nat} {v : Value} {g : Nat → Int} (hh : w.heap[p]? = some (.cells #[v, .int .i64 (t : Int)] 45 (0, 0)))
    (hv : v.ownBlock ≠ some p) (hp : p < w.heap.size) (hg : (w.alloc (.cells #[.int .u8 255] 5)).grownBy w2 v.ownBlock)
    (hown : Own .u8 5 B w2 (.slice (some ⟨gb, 0, none⟩) ((t + 7) / 8 + 1) c) ((t + 7) / 8 + 1) (catF ((t + 7) / 8) (byF g t) (oneF 255))) (h8 : t % 8 = 0) {cs : Array Value} (hgb : w2.heap[gb]? = some (.cells cs 5 (0, 0))) :
    (w2.setCell ⟨p, 0, none⟩ (.slice (some ⟨gb, 0, none⟩) ((t + 7) / 8 + 1) c)).heap[p]? = some (.cells #[.slice (some ⟨gb, 0, none⟩) ((t + 7) / 8 + 1) c, .int .i64 (t : Int)] 45 (0, 0)) ∧
      Own .u8 5 B (w2.setCell ⟨p, 0, none⟩ (.slice (some ⟨gb, 0, none⟩) ((t + 7) / 8 + 1) c)) (.slice (some ⟨gb, 0, none⟩) ((t + 7) / 8 + 1) c) ((t + 7) / 8 + 1) (byF g t) ∧
      (w2.setCell ⟨p, 0, none⟩ (.slice (some ⟨gb, 0, none⟩) ((t + 7) / 8 + 1) c)).heap[gb]? = some (.cells cs 5 (0, 0)) ∧ w2.heap[p]? = some (.cells #[v, .int .i64 (t : Int)] 45 (0, 0)) := by
  have hh2 : w2.heap[p]? = some (.cells #[v, .int .i64 (t : Int)] 45 (0, 0)) :=
    (hg.block p (by simp; omega) (fun e => hv e.symm)).trans ((Below.heap_alloc w _ p hp).trans hh)
  have hne : gb ≠ p := ne_of_types hgb hh2 (by decide)
  refine ⟨?_, Own.congr (World.ownsRow.kept hown (bgrown_set w2 p 0 _) (.inr (by simp [Value.ownBlock]; exact hne))) fun i hi => ?_, (Below.heap_setCell w2 ⟨p, 0, none⟩ _ gb hne).trans hgb, hh2⟩
  · rw [heap_setCell_same w2 p 0 _ _ _ hh2]
    simp
  · unfold catF oneF
    by_cases h : i < (t + 7) / 8
    · rw [if_pos h]
    · rw [if_neg h, show i = t / 8 by omega]
      exact (byF_new g t h8).symm

theorem new_facts {B : Nat} {w2 : World} {p t c gb : Nat} {v : Value} {g : Nat → Int} {cs : Array Value}
    (hown : Own .u8 5 B w2 (.slice (some ⟨gb, 0, none⟩) ((t + 7) / 8 + 1) c) ((t + 7) / 8 + 1) (catF ((t + 7) / 8) (byF g t) (oneF 255))) (hgb : w2.heap[gb]? = some (.cells cs 5 (0, 0)))
    (hh : w2.heap[p]? = some (.cells #[v, .int .i64 (t : Int)] 45 (0, 0))) (h8 : t % 8 = 0)
    (hz : bits .andNot .u8 (byF g t (t / 8)) (2 ^ (7 - t % 8) % 256) = byF (setF g t 0) (t + 1) (t / 8)) :
    (¬ gb = p) ∧ (¬ p = gb) ∧ w2.cell? ⟨gb, t / 8, none⟩ = some (.int .u8 255) ∧ w2.frozen? ⟨gb, t / 8, none⟩ = false ∧ t / 8 < (t + 7) / 8 + 1 ∧
      bits .andNot .u8 255 (2 ^ (7 - t % 8) % 256) = byF (setF g t 0) (t + 1) (t / 8) := by
  have hne : gb ≠ p := ne_of_types hgb hh (by decide)
  refine ⟨hne, fun e => hne e.symm, ?_, hown.frozen _, by omega, ?_⟩
  · rw [hown.cell (j := t / 8) (by omega)]
    unfold catF oneF
    rw [if_neg (by omega)]
  · rw [byF_new g t h8] at hz
    exact hz

set_option maxHeartbeats 1000000 in
theorem add_new0 (B p t : Nat) (g : Nat → Int) (w : World) (h : Row B w p t g) (hB : B ≤ p) (hg : ∀ i, i < t → 0 ≤ g i ∧ g i ≤ 1) (h8 : t % 8 = 0) (ht : t + 1 ≤ 100000) :
    Calls Try.prog 41 #[.pointer (some ⟨p, 0, none⟩), .int .i64 0] w (Stepped B w p (t + 1) (setF g t 0)) := by
  obtain ⟨i0, hi, hz0, hz1, hz2⟩ := info_parts c8_info
  have hp := h.lt
  obtain ⟨v, hh, hown, h1⟩ := h
  have c0 := cell_of_row w p 0 _ _ _ hh
  have c1 := cell_of_row w p 1 _ _ _ hh
  simp at c0 c1
  have hf0 := frozen_of_row w p 0 _ _ hh
  have hf1 := frozen_of_row w p 1 _ _ hh
  have hv : v.ownBlock ≠ some p := by
    rcases hown.2 with ⟨rfl, _⟩ | ⟨g', cap, cur, rfl, _, hgh, _⟩
    · simp [Value.ownBlock]
    · simp [Value.ownBlock]
      exact ne_of_types hgh hh (by decide)
  have hvB : ∀ j, v.ownBlock = some j → B ≤ j := fun j e => (World.ownsRow.lt hown j e).1
  have hd9 : ((t : Int) % 8 == 0) = true := by simp; omega
  have hz := byF_zero' g t hg
  have Hh := hide hh
  have Hown := hide hown
  have Hv := hide hv
  have HvB := hide hvB
  have Hz := hide hz
  have H8 := hide h8
  obtain ⟨A0, d0, rfl, _, _⟩ := hown.rd
  clear hh hown hv hvB hg hz h8
  go_enter Try.func41, Try.ntmps41
  go_wp2_with (at_builtin; refine wp_app rfl (.tmp 14) (.tmp 15) _ rfl i0 0 1 Try.underlying24 hi hz0 hz1 hz2 B _ ((t + 7) / 8) (byF g t) rfl (Hown.out.alloc _) _ 1 1 _ rfl (Rd.one .u8 5 _ _) (by simp only [maxLen]; omega) (by omega) (by simp; omega) ?_; intro v2 w2 hown2 hg2; obtain ⟨gb, c, cur, rfl, hBg, hgb, hmc⟩ := hown2.form (by omega); obtain ⟨k1, k2, k3, k4⟩ := new_byte Hh.out Hv.out hp hg2 hown2 H8.out hgb; have e0 := cell_of_row w2 p 0 _ _ _ k4; have e1 := cell_of_row w2 p 1 _ _ _ k4; simp at e0 e1; have f0 := frozen_of_row w2 p 0 _ _ k4; have f1 := frozen_of_row w2 p 1 _ _ k4; have K1 := hide k1; have K2 := hide k2; have K3 := hide k3; have K4 := hide k4; have Hgb := hide hgb; have Hown2 := hide hown2; have Hg2 := hide hg2; obtain ⟨hne, hne2, cb, fb, hin, hz⟩ := new_facts hown2 hgb k4 H8.out Hz.out; clear k1 k2 k3 k4 hgb hown2 hg2)
  go_region
  go_wp2
  go_end0
  have He := end_zero K1.out K2.out K3.out hB hBg (by have := H8.out; omega) ht
  have hb2 : Below B w w2 := ((Below.refl B w).alloc (by omega) _).grown Hg2.out (by simp; omega) (fun j e => HvB.out j e)
  have hk2 : KeepR w w2 := fun T h1 h2 => (KeepT.alloc w _).trans (by
    rcases Hown.out.2 with ⟨e, _⟩ | ⟨g', cap, cur', e, _, hgh, _⟩
    · have hg3 := Hg2.out
      simp [e, Value.ownBlock, Act.eval] at hg3
      exact fun i cs h => (hg3.block i (Array.getElem?_eq_some_iff.1 h).1 (by simp)).trans h
    · have hg3 := Hg2.out
      simp [e, Value.ownBlock, Act.eval] at hg3
      exact KeepT.grown hg3 ((Below.heap_alloc w _ g' (Array.getElem?_eq_some_iff.1 hgh).1).trans hgh) h1)
  exact ⟨rfl, He.1, ((hb2.setCell hB _).trans He.2.1).drew, fun T h1 h2 => ((hk2 T h1 h2).trans (KeepT.set K4.out h2)).trans (He.2.2 T h1 h2)⟩

set_option maxHeartbeats 1000000 in
theorem add_new1 (B p t : Nat) (g : Nat → Int) (w : World) (h : Row B w p t g) (hB : B ≤ p) (hg : ∀ i, i < t → 0 ≤ g i ∧ g i ≤ 1) (h8 : t % 8 = 0) (ht : t + 1 ≤ 100000) :
    Calls Try.prog 41 #[.pointer (some ⟨p, 0, none⟩), .int .i64 1] w (Stepped B w p (t + 1) (setF g t 1)) := by
  obtain ⟨i0, hi, hz0, hz1, hz2⟩ := info_parts c8_info
  have hp := h.lt
  obtain ⟨v, hh, hown, h1⟩ := h
  have c0 := cell_of_row w p 0 _ _ _ hh
  have c1 := cell_of_row w p 1 _ _ _ hh
  simp at c0 c1
  have hf0 := frozen_of_row w p 0 _ _ hh
  have hf1 := frozen_of_row w p 1 _ _ hh
  have hv : v.ownBlock ≠ some p := by
    rcases hown.2 with ⟨rfl, _⟩ | ⟨g', cap, cur, rfl, _, hgh, _⟩
    · simp [Value.ownBlock]
    · simp [Value.ownBlock]
      exact ne_of_types hgh hh (by decide)
  have hvB : ∀ j, v.ownBlock = some j → B ≤ j := fun j e => (World.ownsRow.lt hown j e).1
  have hd9 : ((t : Int) % 8 == 0) = true := by simp; omega
  have hz := byF_zero' g t hg
  have Hh := hide hh
  have Hown := hide hown
  have Hv := hide hv
  have HvB := hide hvB
  have Hz := hide hz
  have H8 := hide h8
  obtain ⟨A0, d0, rfl, _, _⟩ := hown.rd
  clear hh hown hv hvB hg hz h8
  go_enter Try.func41, Try.ntmps41
  go_wp2_with (at_builtin; refine wp_app rfl (.tmp 14) (.tmp 15) _ rfl i0 0 1 Try.underlying24 hi hz0 hz1 hz2 B _ ((t + 7) / 8) (byF g t) rfl (Hown.out.alloc _) _ 1 1 _ rfl (Rd.one .u8 5 _ _) (by simp only [maxLen]; omega) (by omega) (by simp; omega) ?_; intro v2 w2 hown2 hg2; obtain ⟨gb, c, cur, rfl, hBg, hgb, hmc⟩ := hown2.form (by omega); obtain ⟨k1, k2, k3, k4⟩ := new_byte Hh.out Hv.out hp hg2 hown2 H8.out hgb; have e0 := cell_of_row w2 p 0 _ _ _ k4; have e1 := cell_of_row w2 p 1 _ _ _ k4; simp at e0 e1; have f0 := frozen_of_row w2 p 0 _ _ k4; have f1 := frozen_of_row w2 p 1 _ _ k4; have K1 := hide k1; have K2 := hide k2; have K3 := hide k3; have K4 := hide k4; have Hgb := hide hgb; have Hown2 := hide hown2; have Hg2 := hide hg2; clear k1 k2 k3 k4 hgb hown2 hg2)
  go_end0
  have He := end_one K1.out K2.out K3.out hB (by have := H8.out; omega) ht
  have hb2 : Below B w w2 := ((Below.refl B w).alloc (by omega) _).grown Hg2.out (by simp; omega) (fun j e => HvB.out j e)
  have hk2 : KeepR w w2 := fun T h1 h2 => (KeepT.alloc w _).trans (by
    rcases Hown.out.2 with ⟨e, _⟩ | ⟨g', cap, cur', e, _, hgh, _⟩
    · have hg3 := Hg2.out
      simp [e, Value.ownBlock, Act.eval] at hg3
      exact fun i cs h => (hg3.block i (Array.getElem?_eq_some_iff.1 h).1 (by simp)).trans h
    · have hg3 := Hg2.out
      simp [e, Value.ownBlock, Act.eval] at hg3
      exact KeepT.grown hg3 ((Below.heap_alloc w _ g' (Array.getElem?_eq_some_iff.1 hgh).1).trans hgh) h1)
  exact ⟨rfl, He.1, ((hb2.setCell hB _).trans He.2.1), fun T h1 h2 => ((hk2 T h1 h2).trans (KeepT.set K4.out h2)).trans (He.2.2 T h1 h2)⟩

/-- A bit more. -/
theorem add_any (B p t : Nat) (g : Nat → Int) (x : Int) (w : World) (h : Row B w p t g) (hB : B ≤ p) (hg : ∀ i, i < t → 0 ≤ g i ∧ g i ≤ 1) (hx : x = 0 ∨ x = 1) (ht : t + 1 ≤ 100000) :
    Calls Try.prog 41 #[.pointer (some ⟨p, 0, none⟩), .int .i64 x] w (Stepped B w p (t + 1) (setF g t x)) := by
  by_cases h8 : t % 8 = 0
  · rcases hx with rfl | rfl
    · exact add_new0 B p t g w h hB hg h8 ht
    · exact add_new1 B p t g w h hB hg h8 ht
  · rcases hx with rfl | rfl
    · exact add_old0 B p t g w h hB hg h8 ht
    · exact add_old1 B p t g w h hB h8 ht
end Go.Proofs.Yteijpklepgenbaa
