/- Layer 30: a frame is added: what is not taken, what is, what ends. -/
import Derived.Test.YtelcpfjifhobjaaBk4
import Derived.Test.YtelcpfjifhobjaaFm1
namespace Go.Proofs.Ytelcpfjifhobjaa
set_option linter.unusedVariables false
set_option linter.unusedSimpArgs false
open Go.RowKit

theorem heap2fZ (w : World) (a1 a2 : Array Value) (T1 T2 : TypeId) : ((w.alloc (.cells a1 T1)).alloc (.cells a2 T2)).heap[w.heap.size]? = some (.cells a1 T1 (0, 0)) ∧ ((w.alloc (.cells a1 T1)).alloc (.cells a2 T2)).heap[w.heap.size + 1]? = some (.cells a2 T2 (0, 0)) ∧ Below w.heap.size w ((w.alloc (.cells a1 T1)).alloc (.cells a2 T2)) := heap2f w a1 a2 T1 T2
theorem FrS.thenNew {B : Nat} {S T : Nat → Prop} {w w1 w2 : World} (h : FrS B S w w1) (k : FrS B T w1 w2) (hT : ∀ i, T i → S i ∨ w.heap.size ≤ i) : FrS B S w w2 :=
  ⟨h.bel.trans k.bel, fun i hi a => (k.keep i (Nat.lt_of_lt_of_le hi h.bel.size) (fun t => (hT i t).elim a (fun h => by omega))).trans (h.keep i hi a)⟩
theorem AsOk.frs {B B' : Nat} {S : Nat → Prop} {w w' : World} {p : Nat} {fp : Nat → Prop} {most : Int} {X : BS} (h : AsOk B w p fp most X) (hf : FrS B' S w w') (hB : B' ≤ B) (hne : ∀ i, fp i → ¬ S i) : AsOk B w' p fp most X := by
  obtain ⟨⟨v, A2, c2, h1, h2, h3, h4, h5⟩, hp, lo⟩ := h
  refine ⟨⟨v, A2, c2, hf.row h1 (hne p hp), ?_, h3.frs hf (fun b off _ e s => hne b (by have := (h5 _ e).1; simpa using this) s), h4, h5⟩, hp, fun i hi => ⟨(lo i hi).1, Nat.lt_of_lt_of_le (lo i hi).2 hf.bel.size⟩⟩
  refine ⟨h2.1, ?_⟩
  rcases h2.2 with h | ⟨g, cap, cur, hv, hg, hh, r⟩
  · exact .inl h
  · refine .inr ⟨g, cap, cur, hv, hg, ?_, r⟩
    have hg2 := h4 g (by rw [hv]; rfl)
    rw [hf.keep g (lo g hg2.1).2 (hne g hg2.1)]
    exact hh
def takeX (X : BS) (T fl st pd : Int) (n : Nat) (f : Nat → Int) (n2 : Nat) (s t : Nat → Int) (wt pa : Int) (al : Bool) (pm la co sp : Int) : BS :=
  if X.begun = true then { X with N := X.N + n, D := catF X.N X.D f } else ⟨true, T, fl, st, pd, n, f, n2, s, t, wt, pa, al, pm, la, co, sp⟩
theorem take30 (T fl st pd : Int) (A : Option Addr) (n c : Nat) (f : Nat → Int) (A2 : Option Addr) (n2 c2 : Nat) (s t : Nat → Int) (wt pa : Int) (al : Bool) (pm la co sp : Int) (B : Nat) (p : Nat) (fp : Nat → Prop) (most : Int) (X : BS) (w : World) (h : AsOk B w p fp most X) (ha : Rd .u8 w A n c f) (hs : Rd2 w A2 n2 c2 s t) (hn : X.N + n ≤ 100000) (hn2 : n2 ≤ 100000) (hAp : ∀ b off, 0 < n → A = some ⟨b, off, none⟩ → b ≠ p) (hSp : ∀ b off, 0 < n2 → A2 = some ⟨b, off, none⟩ → b ≠ p) :
    Calls Try.prog 66 #[.pointer (some ⟨p, 0, none⟩), .agg #[.int .i64 T, .int .i64 fl, .int .i64 st, .int .i64 pd, .slice A n c, .slice A2 n2 c2, .int .i64 wt, .int .i64 pa, .bool al, .int .i64 pm, .int .i64 la, .int .i64 co, .int .i64 sp]] w fun e w' => e = .returned (.tuple #[]) ∧ ∃ fp', AsOk B w' p fp' most (takeX X T fl st pd n f n2 s t wt pa al pm la co sp) ∧ (∀ i, fp' i → fp i ∨ w.heap.size ≤ i) ∧ FrS B fp w w' := by
  unfold takeX
  by_cases hX : X.begun = true
  · rw [if_pos hX]
    exact takeMore30 T fl st pd A n c f A2 n2 c2 s t wt pa al pm la co sp B p fp most X w h hX ha hn
  · rw [if_neg hX]
    exact takeNew30 T fl st pd A n c f A2 n2 c2 s t wt pa al pm la co sp B p fp most X w h (by simpa using hX) ha hs (by omega) hn2 hAp hSp
theorem results_ctt30 {fn : Func} {p u v : Tmp} {t1 : TypeId} (h : fn.results = #[.cell p t1, .tmp u, .tmp v]) (tmps : Array Value) (P : Program) (w : World) :
    (results fn tmps).run P w = ((asAddr (tmps.getD p undef)).run P w).andThen fun a w₁ => ((loadVar t1 a).run P w₁).andThen fun x w₂ => .ok (.tuple #[x, tmps.getD u undef, tmps.getD v undef]) w₂ := by
  simp only [results, h]
  simp [Sem.run_bind, Result.andThen]

set_option maxRecDepth 20000 in
theorem store14wf {w w1 w2 w3 w4 w5 w6 w7 w8 w9 w10 w11 w12 w13 w14 : World} {p : Nat} {T : TypeId} {a0 a1 a2 a3 a4 a5 a6 a7 a8 a9 a10 a11 a12 a13 a14 b0 b1 b2 b3 b4 b5 b6 b7 b8 b9 b10 b11 b12 : Value} (e1 : w1 = w.setCell ⟨p, 1, none⟩ (.bool false)) (e2 : w2 = w1.setCell ⟨p, 2, none⟩ b0) (e3 : w3 = w2.setCell ⟨p, 3, none⟩ b1) (e4 : w4 = w3.setCell ⟨p, 4, none⟩ b2) (e5 : w5 = w4.setCell ⟨p, 5, none⟩ b3) (e6 : w6 = w5.setCell ⟨p, 6, none⟩ b4) (e7 : w7 = w6.setCell ⟨p, 7, none⟩ b5) (e8 : w8 = w7.setCell ⟨p, 8, none⟩ b6) (e9 : w9 = w8.setCell ⟨p, 9, none⟩ b7) (e10 : w10 = w9.setCell ⟨p, 10, none⟩ b8) (e11 : w11 = w10.setCell ⟨p, 11, none⟩ b9) (e12 : w12 = w11.setCell ⟨p, 12, none⟩ b10) (e13 : w13 = w12.setCell ⟨p, 13, none⟩ b11) (e14 : w14 = w13.setCell ⟨p, 14, none⟩ b12) (h : w.heap[p]? = some (.cells #[a0, a1, a2, a3, a4, a5, a6, a7, a8, a9, a10, a11, a12, a13, a14] T (0, 0))) :
    (w.cell? ⟨p, 1, none⟩ = some a1 ∧ w.frozen? ⟨p, 1, none⟩ = false) ∧ (w1.cell? ⟨p, 2, none⟩ = some a2 ∧ w1.frozen? ⟨p, 2, none⟩ = false) ∧ (w2.cell? ⟨p, 3, none⟩ = some a3 ∧ w2.frozen? ⟨p, 3, none⟩ = false) ∧ (w3.cell? ⟨p, 4, none⟩ = some a4 ∧ w3.frozen? ⟨p, 4, none⟩ = false) ∧ (w4.cell? ⟨p, 5, none⟩ = some a5 ∧ w4.frozen? ⟨p, 5, none⟩ = false) ∧ (w5.cell? ⟨p, 6, none⟩ = some a6 ∧ w5.frozen? ⟨p, 6, none⟩ = false) ∧ (w6.cell? ⟨p, 7, none⟩ = some a7 ∧ w6.frozen? ⟨p, 7, none⟩ = false) ∧ (w7.cell? ⟨p, 8, none⟩ = some a8 ∧ w7.frozen? ⟨p, 8, none⟩ = false) ∧ (w8.cell? ⟨p, 9, none⟩ = some a9 ∧ w8.frozen? ⟨p, 9, none⟩ = false) ∧ (w9.cell? ⟨p, 10, none⟩ = some a10 ∧ w9.frozen? ⟨p, 10, none⟩ = false) ∧ (w10.cell? ⟨p, 11, none⟩ = some a11 ∧ w10.frozen? ⟨p, 11, none⟩ = false) ∧ (w11.cell? ⟨p, 12, none⟩ = some a12 ∧ w11.frozen? ⟨p, 12, none⟩ = false) ∧ (w12.cell? ⟨p, 13, none⟩ = some a13 ∧ w12.frozen? ⟨p, 13, none⟩ = false) ∧ (w13.cell? ⟨p, 14, none⟩ = some a14 ∧ w13.frozen? ⟨p, 14, none⟩ = false) ∧ w14.heap[p]? = some (.cells #[a0, .bool false, b0, b1, b2, b3, b4, b5, b6, b7, b8, b9, b10, b11, b12] T (0, 0)) := by
  have h1 := setRow w p 1 (.bool false) h
  simp only [List.setIfInBounds_toArray, List.set_cons_zero, List.set_cons_succ] at h1
  rw [← e1] at h1
  have h2 := setRow w1 p 2 b0 h1
  simp only [List.setIfInBounds_toArray, List.set_cons_zero, List.set_cons_succ] at h2
  rw [← e2] at h2
  have h3 := setRow w2 p 3 b1 h2
  simp only [List.setIfInBounds_toArray, List.set_cons_zero, List.set_cons_succ] at h3
  rw [← e3] at h3
  have h4 := setRow w3 p 4 b2 h3
  simp only [List.setIfInBounds_toArray, List.set_cons_zero, List.set_cons_succ] at h4
  rw [← e4] at h4
  have h5 := setRow w4 p 5 b3 h4
  simp only [List.setIfInBounds_toArray, List.set_cons_zero, List.set_cons_succ] at h5
  rw [← e5] at h5
  have h6 := setRow w5 p 6 b4 h5
  simp only [List.setIfInBounds_toArray, List.set_cons_zero, List.set_cons_succ] at h6
  rw [← e6] at h6
  have h7 := setRow w6 p 7 b5 h6
  simp only [List.setIfInBounds_toArray, List.set_cons_zero, List.set_cons_succ] at h7
  rw [← e7] at h7
  have h8 := setRow w7 p 8 b6 h7
  simp only [List.setIfInBounds_toArray, List.set_cons_zero, List.set_cons_succ] at h8
  rw [← e8] at h8
  have h9 := setRow w8 p 9 b7 h8
  simp only [List.setIfInBounds_toArray, List.set_cons_zero, List.set_cons_succ] at h9
  rw [← e9] at h9
  have h10 := setRow w9 p 10 b8 h9
  simp only [List.setIfInBounds_toArray, List.set_cons_zero, List.set_cons_succ] at h10
  rw [← e10] at h10
  have h11 := setRow w10 p 11 b9 h10
  simp only [List.setIfInBounds_toArray, List.set_cons_zero, List.set_cons_succ] at h11
  rw [← e11] at h11
  have h12 := setRow w11 p 12 b10 h11
  simp only [List.setIfInBounds_toArray, List.set_cons_zero, List.set_cons_succ] at h12
  rw [← e12] at h12
  have h13 := setRow w12 p 13 b11 h12
  simp only [List.setIfInBounds_toArray, List.set_cons_zero, List.set_cons_succ] at h13
  rw [← e13] at h13
  have h14 := setRow w13 p 14 b12 h13
  simp only [List.setIfInBounds_toArray, List.set_cons_zero, List.set_cons_succ] at h14
  rw [← e14] at h14
  exact ⟨⟨by rw [cell_of_row _ p _ _ _ _ h]; rfl, frozenRow h 1⟩, ⟨by rw [cell_of_row _ p _ _ _ _ h1]; rfl, frozenRow h1 2⟩, ⟨by rw [cell_of_row _ p _ _ _ _ h2]; rfl, frozenRow h2 3⟩, ⟨by rw [cell_of_row _ p _ _ _ _ h3]; rfl, frozenRow h3 4⟩, ⟨by rw [cell_of_row _ p _ _ _ _ h4]; rfl, frozenRow h4 5⟩, ⟨by rw [cell_of_row _ p _ _ _ _ h5]; rfl, frozenRow h5 6⟩, ⟨by rw [cell_of_row _ p _ _ _ _ h6]; rfl, frozenRow h6 7⟩, ⟨by rw [cell_of_row _ p _ _ _ _ h7]; rfl, frozenRow h7 8⟩, ⟨by rw [cell_of_row _ p _ _ _ _ h8]; rfl, frozenRow h8 9⟩, ⟨by rw [cell_of_row _ p _ _ _ _ h9]; rfl, frozenRow h9 10⟩, ⟨by rw [cell_of_row _ p _ _ _ _ h10]; rfl, frozenRow h10 11⟩, ⟨by rw [cell_of_row _ p _ _ _ _ h11]; rfl, frozenRow h11 12⟩, ⟨by rw [cell_of_row _ p _ _ _ _ h12]; rfl, frozenRow h12 13⟩, ⟨by rw [cell_of_row _ p _ _ _ _ h13]; rfl, frozenRow h13 14⟩, h14⟩
theorem store14f {w : World} {p : Nat} {T : TypeId} {a0 a1 a2 a3 a4 a5 a6 a7 a8 a9 a10 a11 a12 a13 a14 : Value} (h : w.heap[p]? = some (.cells #[a0, a1, a2, a3, a4, a5, a6, a7, a8, a9, a10, a11, a12, a13, a14] T (0, 0))) (b0 b1 b2 b3 b4 b5 b6 b7 b8 b9 b10 b11 b12 : Value) :
    (w.cell? ⟨p, 1, none⟩ = some a1 ∧ w.frozen? ⟨p, 1, none⟩ = false) ∧ ((w.setCell ⟨p, 1, none⟩ (.bool false)).cell? ⟨p, 2, none⟩ = some a2 ∧ (w.setCell ⟨p, 1, none⟩ (.bool false)).frozen? ⟨p, 2, none⟩ = false) ∧ (((w.setCell ⟨p, 1, none⟩ (.bool false)).setCell ⟨p, 2, none⟩ b0).cell? ⟨p, 3, none⟩ = some a3 ∧ ((w.setCell ⟨p, 1, none⟩ (.bool false)).setCell ⟨p, 2, none⟩ b0).frozen? ⟨p, 3, none⟩ = false) ∧ ((((w.setCell ⟨p, 1, none⟩ (.bool false)).setCell ⟨p, 2, none⟩ b0).setCell ⟨p, 3, none⟩ b1).cell? ⟨p, 4, none⟩ = some a4 ∧ (((w.setCell ⟨p, 1, none⟩ (.bool false)).setCell ⟨p, 2, none⟩ b0).setCell ⟨p, 3, none⟩ b1).frozen? ⟨p, 4, none⟩ = false) ∧ (((((w.setCell ⟨p, 1, none⟩ (.bool false)).setCell ⟨p, 2, none⟩ b0).setCell ⟨p, 3, none⟩ b1).setCell ⟨p, 4, none⟩ b2).cell? ⟨p, 5, none⟩ = some a5 ∧ ((((w.setCell ⟨p, 1, none⟩ (.bool false)).setCell ⟨p, 2, none⟩ b0).setCell ⟨p, 3, none⟩ b1).setCell ⟨p, 4, none⟩ b2).frozen? ⟨p, 5, none⟩ = false) ∧ ((((((w.setCell ⟨p, 1, none⟩ (.bool false)).setCell ⟨p, 2, none⟩ b0).setCell ⟨p, 3, none⟩ b1).setCell ⟨p, 4, none⟩ b2).setCell ⟨p, 5, none⟩ b3).cell? ⟨p, 6, none⟩ = some a6 ∧ (((((w.setCell ⟨p, 1, none⟩ (.bool false)).setCell ⟨p, 2, none⟩ b0).setCell ⟨p, 3, none⟩ b1).setCell ⟨p, 4, none⟩ b2).setCell ⟨p, 5, none⟩ b3).frozen? ⟨p, 6, none⟩ = false) ∧ (((((((w.setCell ⟨p, 1, none⟩ (.bool false)).setCell ⟨p, 2, none⟩ b0).setCell ⟨p, 3, none⟩ b1).setCell ⟨p, 4, none⟩ b2).setCell ⟨p, 5, none⟩ b3).setCell ⟨p, 6, none⟩ b4).cell? ⟨p, 7, none⟩ = some a7 ∧ ((((((w.setCell ⟨p, 1, none⟩ (.bool false)).setCell ⟨p, 2, none⟩ b0).setCell ⟨p, 3, none⟩ b1).setCell ⟨p, 4, none⟩ b2).setCell ⟨p, 5, none⟩ b3).setCell ⟨p, 6, none⟩ b4).frozen? ⟨p, 7, none⟩ = false) ∧ ((((((((w.setCell ⟨p, 1, none⟩ (.bool false)).setCell ⟨p, 2, none⟩ b0).setCell ⟨p, 3, none⟩ b1).setCell ⟨p, 4, none⟩ b2).setCell ⟨p, 5, none⟩ b3).setCell ⟨p, 6, none⟩ b4).setCell ⟨p, 7, none⟩ b5).cell? ⟨p, 8, none⟩ = some a8 ∧ (((((((w.setCell ⟨p, 1, none⟩ (.bool false)).setCell ⟨p, 2, none⟩ b0).setCell ⟨p, 3, none⟩ b1).setCell ⟨p, 4, none⟩ b2).setCell ⟨p, 5, none⟩ b3).setCell ⟨p, 6, none⟩ b4).setCell ⟨p, 7, none⟩ b5).frozen? ⟨p, 8, none⟩ = false) ∧ (((((((((w.setCell ⟨p, 1, none⟩ (.bool false)).setCell ⟨p, 2, none⟩ b0).setCell ⟨p, 3, none⟩ b1).setCell ⟨p, 4, none⟩ b2).setCell ⟨p, 5, none⟩ b3).setCell ⟨p, 6, none⟩ b4).setCell ⟨p, 7, none⟩ b5).setCell ⟨p, 8, none⟩ b6).cell? ⟨p, 9, none⟩ = some a9 ∧ ((((((((w.setCell ⟨p, 1, none⟩ (.bool false)).setCell ⟨p, 2, none⟩ b0).setCell ⟨p, 3, none⟩ b1).setCell ⟨p, 4, none⟩ b2).setCell ⟨p, 5, none⟩ b3).setCell ⟨p, 6, none⟩ b4).setCell ⟨p, 7, none⟩ b5).setCell ⟨p, 8, none⟩ b6).frozen? ⟨p, 9, none⟩ = false) ∧ ((((((((((w.setCell ⟨p, 1, none⟩ (.bool false)).setCell ⟨p, 2, none⟩ b0).setCell ⟨p, 3, none⟩ b1).setCell ⟨p, 4, none⟩ b2).setCell ⟨p, 5, none⟩ b3).setCell ⟨p, 6, none⟩ b4).setCell ⟨p, 7, none⟩ b5).setCell ⟨p, 8, none⟩ b6).setCell ⟨p, 9, none⟩ b7).cell? ⟨p, 10, none⟩ = some a10 ∧ (((((((((w.setCell ⟨p, 1, none⟩ (.bool false)).setCell ⟨p, 2, none⟩ b0).setCell ⟨p, 3, none⟩ b1).setCell ⟨p, 4, none⟩ b2).setCell ⟨p, 5, none⟩ b3).setCell ⟨p, 6, none⟩ b4).setCell ⟨p, 7, none⟩ b5).setCell ⟨p, 8, none⟩ b6).setCell ⟨p, 9, none⟩ b7).frozen? ⟨p, 10, none⟩ = false) ∧ (((((((((((w.setCell ⟨p, 1, none⟩ (.bool false)).setCell ⟨p, 2, none⟩ b0).setCell ⟨p, 3, none⟩ b1).setCell ⟨p, 4, none⟩ b2).setCell ⟨p, 5, none⟩ b3).setCell ⟨p, 6, none⟩ b4).setCell ⟨p, 7, none⟩ b5).setCell ⟨p, 8, none⟩ b6).setCell ⟨p, 9, none⟩ b7).setCell ⟨p, 10, none⟩ b8).cell? ⟨p, 11, none⟩ = some a11 ∧ ((((((((((w.setCell ⟨p, 1, none⟩ (.bool false)).setCell ⟨p, 2, none⟩ b0).setCell ⟨p, 3, none⟩ b1).setCell ⟨p, 4, none⟩ b2).setCell ⟨p, 5, none⟩ b3).setCell ⟨p, 6, none⟩ b4).setCell ⟨p, 7, none⟩ b5).setCell ⟨p, 8, none⟩ b6).setCell ⟨p, 9, none⟩ b7).setCell ⟨p, 10, none⟩ b8).frozen? ⟨p, 11, none⟩ = false) ∧ ((((((((((((w.setCell ⟨p, 1, none⟩ (.bool false)).setCell ⟨p, 2, none⟩ b0).setCell ⟨p, 3, none⟩ b1).setCell ⟨p, 4, none⟩ b2).setCell ⟨p, 5, none⟩ b3).setCell ⟨p, 6, none⟩ b4).setCell ⟨p, 7, none⟩ b5).setCell ⟨p, 8, none⟩ b6).setCell ⟨p, 9, none⟩ b7).setCell ⟨p, 10, none⟩ b8).setCell ⟨p, 11, none⟩ b9).cell? ⟨p, 12, none⟩ = some a12 ∧ (((((((((((w.setCell ⟨p, 1, none⟩ (.bool false)).setCell ⟨p, 2, none⟩ b0).setCell ⟨p, 3, none⟩ b1).setCell ⟨p, 4, none⟩ b2).setCell ⟨p, 5, none⟩ b3).setCell ⟨p, 6, none⟩ b4).setCell ⟨p, 7, none⟩ b5).setCell ⟨p, 8, none⟩ b6).setCell ⟨p, 9, none⟩ b7).setCell ⟨p, 10, none⟩ b8).setCell ⟨p, 11, none⟩ b9).frozen? ⟨p, 12, none⟩ = false) ∧ (((((((((((((w.setCell ⟨p, 1, none⟩ (.bool false)).setCell ⟨p, 2, none⟩ b0).setCell ⟨p, 3, none⟩ b1).setCell ⟨p, 4, none⟩ b2).setCell ⟨p, 5, none⟩ b3).setCell ⟨p, 6, none⟩ b4).setCell ⟨p, 7, none⟩ b5).setCell ⟨p, 8, none⟩ b6).setCell ⟨p, 9, none⟩ b7).setCell ⟨p, 10, none⟩ b8).setCell ⟨p, 11, none⟩ b9).setCell ⟨p, 12, none⟩ b10).cell? ⟨p, 13, none⟩ = some a13 ∧ ((((((((((((w.setCell ⟨p, 1, none⟩ (.bool false)).setCell ⟨p, 2, none⟩ b0).setCell ⟨p, 3, none⟩ b1).setCell ⟨p, 4, none⟩ b2).setCell ⟨p, 5, none⟩ b3).setCell ⟨p, 6, none⟩ b4).setCell ⟨p, 7, none⟩ b5).setCell ⟨p, 8, none⟩ b6).setCell ⟨p, 9, none⟩ b7).setCell ⟨p, 10, none⟩ b8).setCell ⟨p, 11, none⟩ b9).setCell ⟨p, 12, none⟩ b10).frozen? ⟨p, 13, none⟩ = false) ∧ ((((((((((((((w.setCell ⟨p, 1, none⟩ (.bool false)).setCell ⟨p, 2, none⟩ b0).setCell ⟨p, 3, none⟩ b1).setCell ⟨p, 4, none⟩ b2).setCell ⟨p, 5, none⟩ b3).setCell ⟨p, 6, none⟩ b4).setCell ⟨p, 7, none⟩ b5).setCell ⟨p, 8, none⟩ b6).setCell ⟨p, 9, none⟩ b7).setCell ⟨p, 10, none⟩ b8).setCell ⟨p, 11, none⟩ b9).setCell ⟨p, 12, none⟩ b10).setCell ⟨p, 13, none⟩ b11).cell? ⟨p, 14, none⟩ = some a14 ∧ (((((((((((((w.setCell ⟨p, 1, none⟩ (.bool false)).setCell ⟨p, 2, none⟩ b0).setCell ⟨p, 3, none⟩ b1).setCell ⟨p, 4, none⟩ b2).setCell ⟨p, 5, none⟩ b3).setCell ⟨p, 6, none⟩ b4).setCell ⟨p, 7, none⟩ b5).setCell ⟨p, 8, none⟩ b6).setCell ⟨p, 9, none⟩ b7).setCell ⟨p, 10, none⟩ b8).setCell ⟨p, 11, none⟩ b9).setCell ⟨p, 12, none⟩ b10).setCell ⟨p, 13, none⟩ b11).frozen? ⟨p, 14, none⟩ = false) ∧ ((((((((((((((w.setCell ⟨p, 1, none⟩ (.bool false)).setCell ⟨p, 2, none⟩ b0).setCell ⟨p, 3, none⟩ b1).setCell ⟨p, 4, none⟩ b2).setCell ⟨p, 5, none⟩ b3).setCell ⟨p, 6, none⟩ b4).setCell ⟨p, 7, none⟩ b5).setCell ⟨p, 8, none⟩ b6).setCell ⟨p, 9, none⟩ b7).setCell ⟨p, 10, none⟩ b8).setCell ⟨p, 11, none⟩ b9).setCell ⟨p, 12, none⟩ b10).setCell ⟨p, 13, none⟩ b11).setCell ⟨p, 14, none⟩ b12).heap[p]? = some (.cells #[a0, .bool false, b0, b1, b2, b3, b4, b5, b6, b7, b8, b9, b10, b11, b12] T (0, 0)) :=
  store14wf rfl rfl rfl rfl rfl rfl rfl rfl rfl rfl rfl rfl rfl rfl h

abbrev set14f (w : World) (p : Nat) (b0 b1 b2 b3 b4 b5 b6 b7 b8 b9 b10 b11 b12 : Value) : World := ((((((((((((((w.setCell ⟨p, 1, none⟩ (.bool false)).setCell ⟨p, 2, none⟩ b0).setCell ⟨p, 3, none⟩ b1).setCell ⟨p, 4, none⟩ b2).setCell ⟨p, 5, none⟩ b3).setCell ⟨p, 6, none⟩ b4).setCell ⟨p, 7, none⟩ b5).setCell ⟨p, 8, none⟩ b6).setCell ⟨p, 9, none⟩ b7).setCell ⟨p, 10, none⟩ b8).setCell ⟨p, 11, none⟩ b9).setCell ⟨p, 12, none⟩ b10).setCell ⟨p, 13, none⟩ b11).setCell ⟨p, 14, none⟩ b12)
theorem FrS.set14f {B p : Nat} {w : World} (hB : B ≤ p) (hg : p < w.heap.size) (b0 b1 b2 b3 b4 b5 b6 b7 b8 b9 b10 b11 b12 : Value) : FrS B (Q1 p) w (set14f w p b0 b1 b2 b3 b4 b5 b6 b7 b8 b9 b10 b11 b12) :=
  ((((((((((((((FrS.set (S := Q1 p) (j := 1) (u := .bool false) hB hg rfl).trans (FrS.set (S := Q1 p) (j := 2) (u := b0) hB (by simpa using hg) rfl)).trans (FrS.set (S := Q1 p) (j := 3) (u := b1) hB (by simpa using hg) rfl)).trans (FrS.set (S := Q1 p) (j := 4) (u := b2) hB (by simpa using hg) rfl)).trans (FrS.set (S := Q1 p) (j := 5) (u := b3) hB (by simpa using hg) rfl)).trans (FrS.set (S := Q1 p) (j := 6) (u := b4) hB (by simpa using hg) rfl)).trans (FrS.set (S := Q1 p) (j := 7) (u := b5) hB (by simpa using hg) rfl)).trans (FrS.set (S := Q1 p) (j := 8) (u := b6) hB (by simpa using hg) rfl)).trans (FrS.set (S := Q1 p) (j := 9) (u := b7) hB (by simpa using hg) rfl)).trans (FrS.set (S := Q1 p) (j := 10) (u := b8) hB (by simpa using hg) rfl)).trans (FrS.set (S := Q1 p) (j := 11) (u := b9) hB (by simpa using hg) rfl)).trans (FrS.set (S := Q1 p) (j := 12) (u := b10) hB (by simpa using hg) rfl)).trans (FrS.set (S := Q1 p) (j := 13) (u := b11) hB (by simpa using hg) rfl)).trans (FrS.set (S := Q1 p) (j := 14) (u := b12) hB (by simpa using hg) rfl))

set_option maxRecDepth 100000 in
set_option maxHeartbeats 3200000 in
theorem addNo30 (T fl st pd : Int) (A : Option Addr) (n c : Nat) (f : Nat → Int) (A2 : Option Addr) (n2 c2 : Nat) (s t : Nat → Int) (wt pa : Int) (al : Bool) (pm la co sp : Int) (B : Nat) (p : Nat) (fp : Nat → Prop) (most : Int) (X : BS) (w : World) (h : AsOk B w p fp most X) (hBw : B ≤ w.heap.size) (hT : takesB X T st = false) :
    Calls Try.prog 25 #[.pointer (some ⟨p, 0, none⟩), .agg #[.int .i64 T, .int .i64 fl, .int .i64 st, .int .i64 pd, .slice A n c, .slice A2 n2 c2, .int .i64 wt, .int .i64 pa, .bool al, .int .i64 pm, .int .i64 la, .int .i64 co, .int .i64 sp]] w fun e w' => e = .returned (.tuple #[.agg z13, .bool false, .int .i64 4]) ∧ AsOk B w' p fp most X ∧ FrS B fp w w' := by
  obtain ⟨x0, x1, e0⟩ := heap2fZ w #[.int .i64 T, .int .i64 fl, .int .i64 st, .int .i64 pd, .slice A n c, .slice A2 n2 c2, .int .i64 wt, .int .i64 pa, .bool al, .int .i64 pm, .int .i64 la, .int .i64 co, .int .i64 sp] z13 28 28
  have h0 := h.below e0
  have hlo := h.lo
  have R0 := hide x0
  have U0 := hide x1
  have E0 := hide e0
  have K0 := hide h0
  have HLO := hide hlo
  clear x0 x1 h0 hlo h
  clear e0
  have HTK := hide hT
  clear hT
  go_enter Try.func25, Try.ntmps25
  go_upto_region 1 with (fail)
  have hW0 : ((w.alloc (.cells #[.int .i64 T, .int .i64 fl, .int .i64 st, .int .i64 pd, .slice A n c, .slice A2 n2 c2, .int .i64 wt, .int .i64 pa, .bool al, .int .i64 pm, .int .i64 la, .int .i64 co, .int .i64 sp] 28)).alloc (.cells z13 28)).heap.size = w.heap.size + 1 + 1 := by simp
  generalize (w.alloc (.cells #[.int .i64 T, .int .i64 fl, .int .i64 st, .int .i64 pd, .slice A n c, .slice A2 n2 c2, .int .i64 wt, .int .i64 pa, .bool al, .int .i64 pm, .int .i64 la, .int .i64 co, .int .i64 sp] 28)).alloc (.cells z13 28) = W0 at *
  obtain ⟨f0_, f1_, f2_, f3_, f4_, f5_, f6_, f7_, f8_, f9_, f10_, f11_, f12_⟩ := row13 R0.out
  go_wp2_with fail
  refine (takes30 T fl st pd A n c A2 n2 c2 wt pa al pm la co sp B p fp most X _ K0.out).mono ?_
  rw [HTK.out]
  rintro e w1 ⟨rfl, hb⟩
  have R1 := hide (keepRow R0.out hb)
  have U1 := hide (keepRow U0.out hb)
  have E1 := hide (E0.out.of hb)
  have K1 := hide (K0.out.below hb)
  have hs1 := hb.size
  clear hb f0_ f1_ f2_ f3_ f4_ f5_ f6_ f7_ f8_ f9_ f10_ f11_ f12_ R0 U0 E0 K0
  obtain ⟨⟨k0_, z0_⟩, ⟨k1_, z1_⟩, ⟨k2_, z2_⟩, ⟨k3_, z3_⟩, ⟨k4_, z4_⟩, ⟨k5_, z5_⟩, ⟨k6_, z6_⟩, ⟨k7_, z7_⟩, ⟨k8_, z8_⟩, ⟨k9_, z9_⟩, ⟨k10_, z10_⟩, ⟨k11_, z11_⟩, ⟨k12_, z12_⟩, rz⟩ := store13 U1.out (.int .i64 0) (.int .i64 0) (.int .i64 0) (.int .i64 0) (.slice none 0 0) (.slice none 0 0) (.int .i64 0) (.int .i64 0) (.bool false) (.int .i64 0) (.int .i64 0) (.int .i64 0) (.int .i64 0)
  have gB := FrS.set13 (B := w.heap.size) (S := Q1 (w.heap.size + 1)) (by omega) (rowLt U1.out) rfl (.int .i64 0) (.int .i64 0) (.int .i64 0) (.int .i64 0) (.slice none 0 0) (.slice none 0 0) (.int .i64 0) (.int .i64 0) (.bool false) (.int .i64 0) (.int .i64 0) (.int .i64 0) (.int .i64 0)
  have RZ := hide rz
  have EF := hide (E1.out.trans gB.bel)
  have KF := hide (K1.out.frs (B' := 0) ⟨gB.bel.mono (Nat.zero_le _), gB.keep⟩ (Nat.zero_le _) (fun i hi s => by have h1 := (HLO.out i hi).2; have h2 : i = w.heap.size + 1 := s; omega))
  clear rz gB
  go_wp2_with fail
  obtain ⟨n0_, n1_, n2_, n3_, n4_, n5_, n6_, n7_, n8_, n9_, n10_, n11_, n12_⟩ := row13 RZ.out
  refine bodyPost_ret (v := .tuple #[.agg z13, .bool false, .int .i64 4]) ?_ rfl ⟨rfl, KF.out, FrS.ofBelow fp EF.out hBw⟩
  rw [results_ctt30 rfl]
  go_simp

set_option maxRecDepth 100000 in
set_option maxHeartbeats 3200000 in
theorem addSkip30 (T fl st pd : Int) (A : Option Addr) (n c : Nat) (f : Nat → Int) (A2 : Option Addr) (n2 c2 : Nat) (s t : Nat → Int) (wt pa : Int) (al : Bool) (pm la co sp : Int) (B : Nat) (p : Nat) (fp : Nat → Prop) (most : Int) (X : BS) (w : World) (h : AsOk B w p fp most X) (hBw : B ≤ w.heap.size) (hT : takesB X T st = true) (hP : partB T = false) :
    Calls Try.prog 25 #[.pointer (some ⟨p, 0, none⟩), .agg #[.int .i64 T, .int .i64 fl, .int .i64 st, .int .i64 pd, .slice A n c, .slice A2 n2 c2, .int .i64 wt, .int .i64 pa, .bool al, .int .i64 pm, .int .i64 la, .int .i64 co, .int .i64 sp]] w fun e w' => e = .returned (.tuple #[.agg z13, .bool false, .int .i64 0]) ∧ AsOk B w' p fp most X ∧ FrS B fp w w' := by
  obtain ⟨x0, x1, e0⟩ := heap2fZ w #[.int .i64 T, .int .i64 fl, .int .i64 st, .int .i64 pd, .slice A n c, .slice A2 n2 c2, .int .i64 wt, .int .i64 pa, .bool al, .int .i64 pm, .int .i64 la, .int .i64 co, .int .i64 sp] z13 28 28
  have h0 := h.below e0
  have hlo := h.lo
  have R0 := hide x0
  have U0 := hide x1
  have E0 := hide e0
  have K0 := hide h0
  have HLO := hide hlo
  clear x0 x1 h0 hlo h
  clear e0
  have HTK := hide hT
  have HPT := hide hP
  clear hT hP
  go_enter Try.func25, Try.ntmps25
  go_upto_region 1 with (fail)
  have hW0 : ((w.alloc (.cells #[.int .i64 T, .int .i64 fl, .int .i64 st, .int .i64 pd, .slice A n c, .slice A2 n2 c2, .int .i64 wt, .int .i64 pa, .bool al, .int .i64 pm, .int .i64 la, .int .i64 co, .int .i64 sp] 28)).alloc (.cells z13 28)).heap.size = w.heap.size + 1 + 1 := by simp
  generalize (w.alloc (.cells #[.int .i64 T, .int .i64 fl, .int .i64 st, .int .i64 pd, .slice A n c, .slice A2 n2 c2, .int .i64 wt, .int .i64 pa, .bool al, .int .i64 pm, .int .i64 la, .int .i64 co, .int .i64 sp] 28)).alloc (.cells z13 28) = W0 at *
  obtain ⟨f0_, f1_, f2_, f3_, f4_, f5_, f6_, f7_, f8_, f9_, f10_, f11_, f12_⟩ := row13 R0.out
  go_wp2_with fail
  refine (takes30 T fl st pd A n c A2 n2 c2 wt pa al pm la co sp B p fp most X _ K0.out).mono ?_
  rw [HTK.out]
  rintro e w1 ⟨rfl, hb⟩
  have R1 := hide (keepRow R0.out hb)
  have U1 := hide (keepRow U0.out hb)
  have E1 := hide (E0.out.of hb)
  have K1 := hide (K0.out.below hb)
  have hs1 := hb.size
  clear hb f0_ f1_ f2_ f3_ f4_ f5_ f6_ f7_ f8_ f9_ f10_ f11_ f12_ R0 U0 E0 K0
  obtain ⟨f0_, f1_, f2_, f3_, f4_, f5_, f6_, f7_, f8_, f9_, f10_, f11_, f12_⟩ := row13 R1.out
  go_wp2_with fail
  refine (part30 T _).mono ?_
  rw [HPT.out]
  rintro e w2 ⟨rfl, rfl⟩
  obtain ⟨⟨k0_, z0_⟩, ⟨k1_, z1_⟩, ⟨k2_, z2_⟩, ⟨k3_, z3_⟩, ⟨k4_, z4_⟩, ⟨k5_, z5_⟩, ⟨k6_, z6_⟩, ⟨k7_, z7_⟩, ⟨k8_, z8_⟩, ⟨k9_, z9_⟩, ⟨k10_, z10_⟩, ⟨k11_, z11_⟩, ⟨k12_, z12_⟩, rz⟩ := store13 U1.out (.int .i64 0) (.int .i64 0) (.int .i64 0) (.int .i64 0) (.slice none 0 0) (.slice none 0 0) (.int .i64 0) (.int .i64 0) (.bool false) (.int .i64 0) (.int .i64 0) (.int .i64 0) (.int .i64 0)
  have gB := FrS.set13 (B := w.heap.size) (S := Q1 (w.heap.size + 1)) (by omega) (rowLt U1.out) rfl (.int .i64 0) (.int .i64 0) (.int .i64 0) (.int .i64 0) (.slice none 0 0) (.slice none 0 0) (.int .i64 0) (.int .i64 0) (.bool false) (.int .i64 0) (.int .i64 0) (.int .i64 0) (.int .i64 0)
  have RZ := hide rz
  have EF := hide (E1.out.trans gB.bel)
  have KF := hide (K1.out.frs (B' := 0) ⟨gB.bel.mono (Nat.zero_le _), gB.keep⟩ (Nat.zero_le _) (fun i hi s => by have h1 := (HLO.out i hi).2; have h2 : i = w.heap.size + 1 := s; omega))
  clear rz gB
  go_wp2_with fail
  obtain ⟨n0_, n1_, n2_, n3_, n4_, n5_, n6_, n7_, n8_, n9_, n10_, n11_, n12_⟩ := row13 RZ.out
  refine bodyPost_ret (v := .tuple #[.agg z13, .bool false, .int .i64 0]) ?_ rfl ⟨rfl, KF.out, FrS.ofBelow fp EF.out hBw⟩
  rw [results_ctt30 rfl]
  go_simp
end Go.Proofs.Ytelcpfjifhobjaa
