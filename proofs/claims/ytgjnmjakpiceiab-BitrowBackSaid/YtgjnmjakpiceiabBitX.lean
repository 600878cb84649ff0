/- The walk of the law on what is written. -/
import Derived.Test.YtgjnmjakpiceiabBitW
import Derived.Test.YtgjnmjakpiceiabMem2
namespace Go.Proofs.Ytgjnmjakpiceiab
open Go.RowKit

/-- What the rounds of the law on writing hand on. -/
def WS (w : World) (k t : Nat) (C : Option Addr) (cc : Nat) (G : Nat → Int) (wr : World) : Prop :=
  Own .i64 3 w.heap.size wr (.slice C t cc) t G ∧ (∀ i, i < t → 0 ≤ G i ∧ G i ≤ 1) ∧ Row w.heap.size wr w.heap.size t G ∧ Below w.heap.size w wr ∧ t ≤ 32 * k

theorem cells2 {W : World} {q : Nat} {a b : Value} {T : TypeId} (h : W.heap[q]? = some (.cells #[a, b] T (0, 0))) : W.cell? ⟨q, 0, none⟩ = some a ∧ W.cell? ⟨q, 1, none⟩ = some b := by
  have h0 := cell_of_row W q 0 _ _ _ h
  have h1 := cell_of_row W q 1 _ _ _ h
  simp at h0 h1
  exact ⟨h0, h1⟩
theorem Own.base {k : IntKind} {e : TypeId} {B B' : Nat} {w : World} {v : Value} {n : Nat} {f : Nat → Int} (h : Own k e B w v n f) (hB : B' ≤ B) : Own k e B' w v n f := by
  refine ⟨h.1, ?_⟩
  rcases h.2 with h2 | ⟨g, cap, cur, hv, hg, r⟩
  · exact .inl h2
  · exact .inr ⟨g, cap, cur, hv, by omega, r⟩
theorem keep_below {T : TypeId} {w w' : World} {q : Nat} {cs : Array Value} (h : w.heap[q]? = some (.cells cs T (0, 0))) (hb : Below w.heap.size w w') : w'.heap[q]? = some (.cells cs T (0, 0)) := KeepT.of_below hb q cs h

set_option maxRecDepth 100000 in
set_option maxHeartbeats 4000000 in
theorem writes_walk (L : Option Addr) (m cl : Nat) (f g : Nat → Int) (w : World) (hl : Rd2 w L m cl f g) :
    Calls Try.prog 4 #[.slice L m cl] w (Yes w) := by
  have Hl := hide hl
  clear hl
  by_cases hm : (60 : Int) < (m : Int)
  · go_enter Try.func4, Try.ntmps4
    go_wp2_with (go_at_call 9; refine (alive5 _).mono ?_; rintro e w' ⟨rfl, hb⟩)
    go_ret
    exact ⟨rfl, hb⟩
  go_enter Try.func4, Try.ntmps4
  go_wp2_with fail
  go_loopw [5, 16] (fun sl i wr => ∃ k t : Nat, ∃ C cc G, k ≤ m ∧ i = .int .i64 k ∧ sl = .slice C t cc ∧ WS w k t C cc G wr) (fun _ i _ => m - (intOf i).toNat)
  case atStart => exact ⟨0, 0, none, 0, oneF 0, Nat.zero_le _, rfl, rfl, Own.nil _ _ _ _ _, fun i hi => absurd hi (by omega), Row.new w _, (Below.refl _ _).alloc (Nat.le_refl _) _, by omega⟩
  case round =>
    obtain ⟨k, t, C, cc, G, hk, rfl, rfl, hws⟩ := hrel
    have Hws := hide hws
    have hwb := hws.2.2.2.1
    have ht := hws.2.2.2.2
    clear hws
    by_cases hlt : k < m
    · obtain ⟨bl, offl, rfl, hc0, hc1⟩ := (Hl.out.below hwb).at_ hlt
      have hsz := hwb.size
      clear hwb
      have hblk1 : (wr.alloc (.cells #[.int .i64 (f k), .int .i64 (g k)] 42)).heap[wr.heap.size]? = some (.cells #[.int .i64 (f k), .int .i64 (g k)] 42 (0, 0)) := heap_alloc_new wr _
      have Hblk1 := hide hblk1
      clear hblk1
      obtain ⟨C1, cc1, e1, hrC, _⟩ := Hws.out.1.rd
      simp only [Value.slice.injEq, true_and] at e1
      obtain ⟨rfl, rfl⟩ := e1
      have HrC := hide hrC
      clear hrC
      by_cases he : rowE (f k) (g k) = 0
      · obtain ⟨s, hs, hs32, v0, v1⟩ := rowE_ok he
        rw [hs] at hc1
        have Hs := hide hs
        have V1 := hide v1
        have Hblk1 : Hid ((wr.alloc (.cells #[.int .i64 (f k), .int .i64 (s : Int)] 42)).heap[wr.heap.size]? = some (.cells #[.int .i64 (f k), .int .i64 (s : Int)] 42 (0, 0))) := heap_alloc_new wr _
        clear hs he v1
        go_wp2_with fail
        refine (rrow_ok _ t _ s (f k) G _ (HrC.out.alloc _) hs32 v0 V1.out (by omega)).mono ?_
        rintro e w2 ⟨u, rfl, ho2, hb2⟩
        obtain ⟨C2, cc2, rfl, hr2, _⟩ := ho2.rd
        have Ho2 := hide ho2
        obtain ⟨y0, y1⟩ := cells2 (keep_below Hblk1.out hb2)
        have hB2 : Below wr.heap.size wr w2 := ((Below.refl _ _).alloc (Nat.le_refl _) _).of hb2
        clear ho2 hr2
        go_wp2_with fail
        refine (rowPut_ok w.heap.size w.heap.size t s (f k) G _ (Hws.out.2.2.1.below hB2) (Nat.le_refl _) Hws.out.2.1 hs32 v0 V1.out (by omega)).mono ?_
        rintro e w3 ⟨rfl, hrow3, hb3, hk3⟩
        have hblk3 : w3.heap[wr.heap.size]? = some (.cells #[.int .i64 (f k), .int .i64 (g k)] 42 (0, 0)) := by rw [Hs.out]; exact hk3 _ (by decide) (by decide) _ _ (keep_below Hblk1.out hb2)
        have hall3 : Own .i64 3 w.heap.size w3 (.slice C2 (t + s) cc2) (t + s) (catF t G (bitsOf (f k) s)) := (Ho2.out.base (by simp; omega)).keepT (hk3 _ (by decide) (by decide))
        have hG2 : ∀ i, i < t + s → 0 ≤ catF t G (bitsOf (f k) s) i ∧ catF t G (bitsOf (f k) s) i ≤ 1 := by
          intro i hi
          unfold catF bitsOf
          by_cases h : i < t
          · rw [if_pos h]; exact Hws.out.2.1 i h
          · rw [if_neg h]; omega
        have hB3 : Below w.heap.size w w3 := (Hws.out.2.2.2.1.trans (hB2.mono hsz)).trans hb3
        clear hb3 hk3
        have Hblk3 : Hid (w3.heap[wr.heap.size]? = some (.cells #[.int .i64 (f k), .int .i64 (g k)] 42 (0, 0))) := hblk3
        have Hall3 : Hid (Own .i64 3 w.heap.size w3 (.slice (C2) (t + s) (cc2)) (t + s) (catF t G (bitsOf (f k) s))) := hall3
        have Hrow3 : Hid (Row w.heap.size w3 w.heap.size (t + s) (catF t G (bitsOf (f k) s))) := hrow3
        have HG2 : Hid (∀ i, i < t + s → 0 ≤ (catF t G (bitsOf (f k) s)) i ∧ (catF t G (bitsOf (f k) s)) i ≤ 1) := hG2
        have ht2 : t + s ≤ 32 * (k + 1) := by omega
        clear hblk3 hall3 hrow3 hG2
        obtain ⟨C9, cc9, e9, hr9, _⟩ := Hall3.out.rd
        simp only [Value.slice.injEq, true_and] at e9
        obtain ⟨rfl, rfl⟩ := e9
        have Hr9 := hide hr9
        clear hr9
        go_wp2_with fail
        refine (rowLen _ _ (t + s) _ _ Hrow3.out).mono ?_
        rintro e w4 ⟨rfl, rfl⟩
        go_wp2_with fail
        refine (rowBytes _ _ (t + s) (catF t G (bitsOf (f k) s)) _ Hrow3.out).mono ?_
        rintro e w5 ⟨v5, rfl, ho5, hb5⟩
        obtain ⟨A5, c5, rfl, hr5, _⟩ := ho5.rd
        have Hr5 := hide hr5
        clear hr5 ho5
        go_wp2_with fail
        refine (rbytes_any _ (t + s) _ (catF t G (bitsOf (f k) s)) _ (Hr9.out.below hb5) HG2.out (by omega)).mono ?_
        rintro e w6 ⟨v6, rfl, ho6, hb6⟩
        obtain ⟨A6, c6, rfl, hr6, _⟩ := ho6.rd
        have Hr6 := hide hr6
        clear hr6 ho6
        go_wp2_with fail
        refine (rsame_yes _ _ _ _ _ _ _ _ (Hr5.out.below hb6) Hr6.out (fun _ _ => rfl)).mono ?_
        rintro e w7 ⟨rfl, hd7⟩
        have hb7 := drawn_below hd7 w6.heap.size
        obtain ⟨z0, z1⟩ := cells2 (keep_below (keep_below (keep_below Hblk3.out hb5) hb6) hb7)
        have hB7 : Below w3.heap.size w3 w7 := (hb5.of hb6).of hb7
        go_wp2_with fail
        refine (rowPutNil _ _ _).mono ?_
        rintro e w8 ⟨rfl, rfl⟩
        go_wp2_with fail
        go_roundw
        case rel => exact ⟨k + 1, t + s, C2, cc2, catF t G (bitsOf (f k) s), by omega, by go_num, rfl, Hall3.out.below hB7, HG2.out, Hrow3.out.below hB7, hB3.trans (hB7.mono hB3.size), ht2⟩
        case measure => simp [intOf]; omega
      · have He := hide he
        clear he
        go_wp2_with fail
        refine (rrow_bad _ t _ (f k) (g k) _ He.out).mono ?_
        rintro e w2 ⟨rfl, rfl⟩
        generalize hX : rowE (f k) (g k) = X
        have HX := hide hX
        clear hX
        obtain ⟨y0, y1⟩ := cells2 Hblk1.out
        go_wp2_with fail
        refine (rowPut_bad _ (f k) (g k) _ He.out).mono ?_
        rintro e w3 ⟨rfl, hw3⟩
        rw [HX.out]
        have hblk3 : w3.heap[wr.heap.size]? = some (.cells #[.int .i64 (f k), .int .i64 (g k)] 42 (0, 0)) := by rw [← hw3]; exact Hblk1.out
        have hB2 : Below wr.heap.size wr w3 := by rw [← hw3]; exact (Below.refl _ _).alloc (Nat.le_refl _) _
        have hall3 := Hws.out.1.below hB2
        have hrow3 := Hws.out.2.2.1.below hB2
        have hG2 := Hws.out.2.1
        have hB3 : Below w.heap.size w w3 := Hws.out.2.2.2.1.trans (hB2.mono hsz)
        clear hw3
        have Hblk3 : Hid (w3.heap[wr.heap.size]? = some (.cells #[.int .i64 (f k), .int .i64 (g k)] 42 (0, 0))) := hblk3
        have Hall3 : Hid (Own .i64 3 w.heap.size w3 (.slice (_) (t) (_)) (t) (G)) := hall3
        have Hrow3 : Hid (Row w.heap.size w3 w.heap.size (t) (G)) := hrow3
        have HG2 : Hid (∀ i, i < t → 0 ≤ (G) i ∧ (G) i ≤ 1) := hG2
        have ht2 : t ≤ 32 * (k + 1) := by omega
        clear hblk3 hall3 hrow3 hG2
        obtain ⟨C9, cc9, e9, hr9, _⟩ := Hall3.out.rd
        simp only [Value.slice.injEq, true_and] at e9
        obtain ⟨rfl, rfl⟩ := e9
        have Hr9 := hide hr9
        clear hr9
        go_wp2_with fail
        refine (rowLen _ _ (t) _ _ Hrow3.out).mono ?_
        rintro e w4 ⟨rfl, rfl⟩
        go_wp2_with fail
        refine (rowBytes _ _ (t) (G) _ Hrow3.out).mono ?_
        rintro e w5 ⟨v5, rfl, ho5, hb5⟩
        obtain ⟨A5, c5, rfl, hr5, _⟩ := ho5.rd
        have Hr5 := hide hr5
        clear hr5 ho5
        go_wp2_with fail
        refine (rbytes_any _ (t) _ (G) _ (Hr9.out.below hb5) HG2.out (by omega)).mono ?_
        rintro e w6 ⟨v6, rfl, ho6, hb6⟩
        obtain ⟨A6, c6, rfl, hr6, _⟩ := ho6.rd
        have Hr6 := hide hr6
        clear hr6 ho6
        go_wp2_with fail
        refine (rsame_yes _ _ _ _ _ _ _ _ (Hr5.out.below hb6) Hr6.out (fun _ _ => rfl)).mono ?_
        rintro e w7 ⟨rfl, hd7⟩
        have hb7 := drawn_below hd7 w6.heap.size
        obtain ⟨z0, z1⟩ := cells2 (keep_below (keep_below (keep_below Hblk3.out hb5) hb6) hb7)
        have hB7 : Below w3.heap.size w3 w7 := (hb5.of hb6).of hb7
        go_wp2_with fail
        refine (rowPutNil _ _ _).mono ?_
        rintro e w8 ⟨rfl, rfl⟩
        go_wp2_with fail
        go_roundw
        case rel => exact ⟨k + 1, t, _, _, G, by omega, by go_num, rfl, Hall3.out.below hB7, HG2.out, Hrow3.out.below hB7, hB3.trans (hB7.mono hB3.size), ht2⟩
        case measure => simp [intOf]; omega
    · have hkm : k = m := by omega
      subst hkm
      clear hwb
      go_wp2_with fail
      refine (rowLenNil _).mono ?_
      rintro e w4 ⟨rfl, rfl⟩
      go_wp2_with fail
      refine (rowBytesNil _).mono ?_
      rintro e w4 ⟨rfl, rfl⟩
      go_wp2_with fail
      refine (alive5 _).mono ?_
      rintro e w4 ⟨rfl, hb4⟩
      go_wp2_with fail
      go_ret
      exact ⟨rfl, Hws.out.2.2.2.1.of hb4⟩
end Go.Proofs.Ytgjnmjakpiceiab
