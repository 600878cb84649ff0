/- Layer 6: the walk of PairMoves. -/
import Derived.Test.YtfgifdgbhikegaaPai9
import Derived.Test.YtfgifdgbhikegaaMem3
import Derived.Test.YtfgifdgbhikegaaCurA
namespace Go.Proofs.Ytfgifdgbhikegaa
open Go.RowKit

/-- What comes of a move: a pair, or nothing. -/
def Moved (v' : Value) (k a b : Int) : Prop := (k = 0 ∧ AmP a ∧ AmP b ∧ PV v' a b) ∨ ((k = 1 ∨ k = 5) ∧ v' = .complex .f64 0 0)
theorem PV.am {v : Value} {a b : Int} (h : PV v a b) : AmP a ∧ AmP b := by
  obtain ⟨x, y, _, h1, h2⟩ := h
  exact ⟨h1.2, h2.2⟩
theorem moves_calls {v : Value} {a b : Int} (h : PV v a b) (s n : Int) (h1 : -9223372036854775808 ≤ n) (h2 : n ≤ 9223372036854775807) (w : World) {K : Ending → World → Prop}
    (hK : ∀ v' k a' b', Moved v' k a' b' → (∀ w, Calls Try.prog 19 #[.agg #[.int .i64 a, .int .i64 b], .int .i64 s, .int .i64 n] w fun e w' => e = .returned (.tuple #[.agg #[.int .i64 a', .int .i64 b'], .int .i64 k]) ∧ Below w.heap.size w w') → K (.returned (.tuple #[v', .int .i64 k])) w) :
    Calls Try.prog 18 #[v, .int .i64 s, .int .i64 n] w K := by
  obtain ⟨ha, hb⟩ := h.am
  have fin : ∀ v' k a' b', Moved v' k a' b' → (∀ w, Calls Try.prog 19 #[.agg #[.int .i64 a, .int .i64 b], .int .i64 s, .int .i64 n] w fun e w' => e = .returned (.tuple #[.agg #[.int .i64 a', .int .i64 b'], .int .i64 k]) ∧ Below w.heap.size w w') →
      (Calls Try.prog 18 #[v, .int .i64 s, .int .i64 n] w fun e w' => e = .returned (.tuple #[v', .int .i64 k]) ∧ w = w') → Calls Try.prog 18 #[v, .int .i64 s, .int .i64 n] w K :=
    fun v' k a' b' hM hr hc => hc.mono fun e w' ⟨he, hw⟩ => by
      subst he
      subst hw
      exact hK v' k a' b' hM hr
  by_cases hs : s = 0 ∨ s = 1
  · by_cases hn : AmP n
    · rcases hs with rfl | rfl
      · obtain ⟨v', k, hv, hc⟩ := move0_any n h hn w
        rcases hv with ⟨h3, h4, h5, rfl⟩ | ⟨h3, rfl, rfl⟩
        · exact fin _ _ _ _ (.inl ⟨rfl, h3, h4, h5⟩) (rmove_ok0 n hn h3 ha hb) hc
        · exact fin _ _ 0 0 (.inr ⟨.inr rfl, rfl⟩) (rmove_over0 n hn (fun h => h3 ⟨h, hb⟩) ha hb) hc
      · obtain ⟨v', k, hv, hc⟩ := move1_any n h hn w
        rcases hv with ⟨h3, h4, h5, rfl⟩ | ⟨h3, rfl, rfl⟩
        · exact fin _ _ _ _ (.inl ⟨rfl, h3, h4, h5⟩) (rmove_ok1 n hn h4 ha hb) hc
        · exact fin _ _ 0 0 (.inr ⟨.inr rfl, rfl⟩) (rmove_over1 n hn (fun h => h3 ⟨ha, h⟩) ha hb) hc
    · rcases hs with rfl | rfl
      · exact fin _ _ 0 0 (.inr ⟨.inr rfl, rfl⟩) (rmove_far0 n hn ha hb) (move0_far n h hn h1 h2 w)
      · exact fin _ _ 0 0 (.inr ⟨.inr rfl, rfl⟩) (rmove_far1 n hn ha hb) (move1_far n h hn h1 h2 w)
  · exact fin _ _ 0 0 (.inr ⟨.inl rfl, rfl⟩) (rmove_bad s n hs ha hb) (move_bad v s n hs w)
theorem swap_calls {v : Value} {a b : Int} (h : PV v a b) (w : World) {K : Ending → World → Prop} (hK : ∀ v', PV v' b a → K (.returned (.tuple #[v', .int .i64 0])) w) : Calls Try.prog 17 #[v] w K := by
  obtain ⟨v', h1, hc⟩ := swap_ok h w
  exact hc.mono fun e w' ⟨he, hw⟩ => by
    subst he
    subst hw
    exact hK v' h1

theorem abs_world {P : Program} {f : FuncId} {args : Array Value} {K : Ending → World → Prop} (W0 : World) (R : World → Prop) (h0 : R W0) (h : ∀ W, R W → Calls P f args W K) : Calls P f args W0 K := h W0 h0
theorem heap_alloc_new' {n : Nat} (w : World) (o : Obj) (h : n = w.heap.size) : (w.alloc o).heap[n]? = some o := by subst h; exact heap_alloc_new w o
theorem row3 {w : World} {b : Nat} {T : TypeId} {v0 v1 v2 : Value} (h : w.heap[b]? = some (.cells #[v0, v1, v2] T (0, 0))) : w.cell? ⟨b, 0, none⟩ = some v0 ∧ w.cell? ⟨b, 1, none⟩ = some v1 ∧ w.cell? ⟨b, 2, none⟩ = some v2 := by
  refine ⟨?_, ?_, ?_⟩
  · rw [cell_of_row w b 0 _ _ _ h]; rfl
  · rw [cell_of_row w b 1 _ _ _ h]; rfl
  · rw [cell_of_row w b 2 _ _ _ h]; rfl
theorem order00m : FloatKind.f64.format.order 0 0 = some .eq := by decide
set_option maxHeartbeats 6400000 in
theorem pmoves_walk (A : Option Addr) (n c : Nat) (F G : Nat → Int) (S : Nat → Bool) (w : World) (ha : Rd3 w A n c F G S) (hG : Wf64 n G) : Calls Try.prog 3 #[.slice A n c] w (B6 w true) := by
  have Ha := hide ha
  have HG := hide hG
  clear ha hG
  by_cases hl : 60 < n
  · have hd : decide ((60 : Int) < (n : Int)) = true := by simp; omega
    go_enter Try.func3, Try.ntmps3
    go_wp2_with fail
    refine (alive6 _).mono ?_
    rintro e w4 ⟨rfl, hb4⟩
    go_wp2_with fail
    go_ret
    exact ⟨rfl, hb4⟩
  have hd : decide ((60 : Int) < (n : Int)) = false := by simp; omega
  have o1 := of_ok am0 am0
  have P0 := hide (pv_of am0 am0)
  have z := order00m
  have R0 := hide (heap_alloc_new w (.cells #[.int .i64 0, .int .i64 0] 29))
  have hB0 : Hid (Below w.heap.size w (w.alloc (.cells #[.int .i64 0, .int .i64 0] 29))) := (Below.refl _ _).alloc (Nat.le_refl _) _
  generalize floatOfInt .f64 0 = x0 at *
  go_enter Try.func3, Try.ntmps3
  go_wp2_with fail
  refine (o1 _).mono ?_
  rintro e w' ⟨rfl, rfl⟩
  go_wp2_with fail
  go_loopw [3, 27] (fun v i wr => ∃ (k : Nat) (a b : Int), k ≤ n ∧ i = .int .i64 k ∧ PV v a b ∧ wr.heap[w.heap.size]? = some (.cells #[.int .i64 a, .int .i64 b] 29 (0, 0)) ∧ Below w.heap.size w wr) (fun _ i _ => n - (intOf i).toNat)
  case atStart => exact ⟨0, 0, 0, Nat.zero_le _, rfl, P0.out, R0.out, hB0.out⟩
  case round =>
    obtain ⟨k, a, b, hk, rfl, hpv, hR, hB⟩ := hrel
    have HP := hide hpv
    have HR := hide hR
    have HB := hide hB
    have hsz := hB.size
    have hlR := rowLt hR
    clear hpv hR hB o1 P0
    by_cases hlt : k < n
    · obtain ⟨b0, off, rfl, hc0, hc1, hc2⟩ := (Ha.out.below HB.out).at_ hlt
      have hkn : (k : Int) < (n : Int) := by omega
      have HGk := hide (HG.out k hlt)
      have HBb := hide (HB.out.alloc hsz (.cells #[.int .i64 (F k), .int .i64 (G k), .bool (S k)] 31))
      have HRb := hide (keepRow HR.out ((Below.refl _ _).alloc (Nat.le_refl _) (.cells #[.int .i64 (F k), .int .i64 (G k), .bool (S k)] 31)))
      have HSb := hide (heap_alloc_new wr (.cells #[.int .i64 (F k), .int .i64 (G k), .bool (S k)] 31))
      have hne : w.heap.size ≠ wr.heap.size := by omega
      obtain ⟨p0, p1⟩ := row2 HRb.out
      have f0 := frozenRow HRb.out 0
      have f1 := frozenRow HRb.out 1
      obtain ⟨r0, r1⟩ := row2 HR.out
      have g0 := frozenRow HR.out 0
      have g1 := frozenRow HR.out 1
      cases hS : S k with
      | false =>
        rw [hS] at hc2 HBb HRb HSb
        clear hS p0 p1 f0 f1 r0 r1 g0 g1
        go_wp2_with fail
        refine abs_world _ (fun W => W.heap[w.heap.size]? = some (.cells #[.int .i64 a, .int .i64 b] 29 (0, 0)) ∧ W.heap[wr.heap.size]? = some (.cells #[.int .i64 (F k), .int .i64 (G k), .bool false] 31 (0, 0)) ∧ Below w.heap.size w W) ?_ ?_
        · first
            | exact ⟨HRb.out, HSb.out, HBb.out⟩
            | exact ⟨setRow _ _ 1 _ (setRow _ _ 0 _ HRb.out), keepOne (keepOne HSb.out (grown_set _ _ 0 _) (Ne.symm hne)) (grown_set _ _ 1 _) (Ne.symm hne), (HBb.out.setCell (by simp) _).setCell (by simp) _⟩
            | exact ⟨keepRow (setRow _ _ 1 _ (setRow _ _ 0 _ HR.out)) ((Below.refl _ _).alloc (Nat.le_refl _) _), heap_alloc_new' _ _ (by simp [World.setCell]), ((HB.out.setCell (by simp) _).setCell (by simp) _).alloc (by simp [World.setCell, hsz]) _⟩
        rintro W ⟨hRW, hSW, hBW⟩
        have HRW := hide hRW
        have HSW := hide hSW
        have HBW := hide hBW
        have hsW := hBW.size
        have hlW := rowLt hSW
        obtain ⟨p0, p1⟩ := row2 hRW
        obtain ⟨s0, s1, s2⟩ := row3 hSW
        clear hRW hSW hBW
        refine moves_calls HP.out _ _ HGk.out.1 HGk.out.2 _ ?_
        intro v1 k1 a1 b1 hM hr
        have Hr := hide hr
        clear hr
        have hkk : (k1 != k1) = false := by simp
        go_wp2_with fail
        refine (Hr.out _).mono ?_
        rintro e w2 ⟨rfl, hb2⟩
        have HR2 := hide (keepRow HRW.out hb2)
        have HB2 := hide (HBW.out.of hb2)
        have hs2 := HB2.out.size
        have hl2 := rowLt HR2.out
        clear hb2 p0 p1 s0 s1 s2
        obtain ⟨p0, p1⟩ := row2 HR2.out
        have f0 := frozenRow HR2.out 0
        have f1 := frozenRow HR2.out 1
        obtain ⟨d0, d1⟩ := row2 (keepRow HR2.out ((Below.refl _ _).alloc (Nat.le_refl _) (.cells #[.int .i64 a1, .int .i64 b1] 29)))
        have hne2 : w.heap.size ≠ w2.heap.size := by omega
        rcases hM with ⟨rfl, ha1, hb1, hv1⟩ | ⟨hk1, rfl⟩
        · have iy := is_yes hv1
          have Hv1 := hide hv1
          clear hv1 ha1 hb1 hkk
          go_wp2_with fail
          refine abs_world _ (fun W => W.heap[w.heap.size]? = some (.cells #[.int .i64 a1, .int .i64 b1] 29 (0, 0)) ∧ Below w.heap.size w W) ?_ ?_
          · first
              | exact ⟨keepRow (setRow _ _ 1 _ (setRow _ _ 0 _ HR2.out)) ((Below.refl _ _).alloc (Nat.le_refl _) _), ((HB2.out.setCell (by simp) _).setCell (by simp) _).alloc (by simp [World.setCell, hs2]) _⟩
              | exact ⟨setRow _ _ 1 _ (setRow _ _ 0 _ (keepRow HR2.out ((Below.refl _ _).alloc (Nat.le_refl _) _))), ((HB2.out.alloc hs2 _).setCell (by simp) _).setCell (by simp) _⟩
          rintro W3 ⟨hR3, hB3⟩
          have HR3 := hide hR3
          have HB3 := hide hB3
          clear hR3 hB3
          refine (iy _).mono ?_
          rintro e w4 ⟨rfl, hb4⟩
          have HR4 := hide (keepRow HR3.out hb4)
          have HB4 := hide (HB3.out.of hb4)
          clear hb4
          go_wp2_with fail
          go_roundw
          case rel => exact ⟨k + 1, _, _, by omega, by go_num, Hv1.out, HR4.out, HB4.out⟩
          case measure => simp [intOf]; omega
        · have iy := is_yes HP.out
          have hk0 : (k1 != 0) = true := by rcases hk1 with rfl | rfl <;> rfl
          have hk0' : (k1 == 0) = false := by rcases hk1 with rfl | rfl <;> rfl
          clear hk1
          go_wp2_with fail
          refine abs_world _ (fun W => W.heap[w.heap.size]? = some (.cells #[.int .i64 a, .int .i64 b] 29 (0, 0)) ∧ Below w.heap.size w W) ?_ ?_
          · exact ⟨keepRow HR2.out ((Below.refl _ _).alloc (Nat.le_refl _) _), HB2.out.alloc hs2 _⟩
          rintro W3 ⟨hR3, hB3⟩
          have HR3 := hide hR3
          have HB3 := hide hB3
          clear hR3 hB3
          refine (iy _).mono ?_
          rintro e w4 ⟨rfl, hb4⟩
          have HR4 := hide (keepRow HR3.out hb4)
          have HB4 := hide (HB3.out.of hb4)
          clear hb4
          go_wp2_with fail
          go_roundw
          case rel => exact ⟨k + 1, _, _, by omega, by go_num, HP.out, HR4.out, HB4.out⟩
          case measure => simp [intOf]; omega
      | true =>
        rw [hS] at hc2 HBb HRb HSb p0 p1 f0 f1
        clear hS
        go_wp2_with fail
        refine swap_calls HP.out _ ?_
        intro v0 hv0
        have HV := hide hv0
        clear hv0
        go_wp2_with fail
        clear p0 p1 f0 f1 r0 r1 g0 g1
        refine abs_world _ (fun W => W.heap[w.heap.size]? = some (.cells #[.int .i64 b, .int .i64 a] 29 (0, 0)) ∧ W.heap[wr.heap.size]? = some (.cells #[.int .i64 (F k), .int .i64 (G k), .bool true] 31 (0, 0)) ∧ Below w.heap.size w W) ?_ ?_
        · first
            | exact ⟨HRb.out, HSb.out, HBb.out⟩
            | exact ⟨setRow _ _ 1 _ (setRow _ _ 0 _ HRb.out), keepOne (keepOne HSb.out (grown_set _ _ 0 _) (Ne.symm hne)) (grown_set _ _ 1 _) (Ne.symm hne), (HBb.out.setCell (by simp) _).setCell (by simp) _⟩
            | exact ⟨keepRow (setRow _ _ 1 _ (setRow _ _ 0 _ HR.out)) ((Below.refl _ _).alloc (Nat.le_refl _) _), heap_alloc_new' _ _ (by simp [World.setCell]), ((HB.out.setCell (by simp) _).setCell (by simp) _).alloc (by simp [World.setCell, hsz]) _⟩
        rintro W ⟨hRW, hSW, hBW⟩
        have HRW := hide hRW
        have HSW := hide hSW
        have HBW := hide hBW
        have hsW := hBW.size
        have hlW := rowLt hSW
        obtain ⟨p0, p1⟩ := row2 hRW
        obtain ⟨s0, s1, s2⟩ := row3 hSW
        clear hRW hSW hBW
        refine moves_calls HV.out _ _ HGk.out.1 HGk.out.2 _ ?_
        intro v1 k1 a1 b1 hM hr
        have Hr := hide hr
        clear hr
        have hkk : (k1 != k1) = false := by simp
        go_wp2_with fail
        refine (Hr.out _).mono ?_
        rintro e w2 ⟨rfl, hb2⟩
        have HR2 := hide (keepRow HRW.out hb2)
        have HB2 := hide (HBW.out.of hb2)
        have hs2 := HB2.out.size
        have hl2 := rowLt HR2.out
        clear hb2 p0 p1 s0 s1 s2
        obtain ⟨p0, p1⟩ := row2 HR2.out
        have f0 := frozenRow HR2.out 0
        have f1 := frozenRow HR2.out 1
        obtain ⟨d0, d1⟩ := row2 (keepRow HR2.out ((Below.refl _ _).alloc (Nat.le_refl _) (.cells #[.int .i64 a1, .int .i64 b1] 29)))
        have hne2 : w.heap.size ≠ w2.heap.size := by omega
        rcases hM with ⟨rfl, ha1, hb1, hv1⟩ | ⟨hk1, rfl⟩
        · have iy := is_yes hv1
          have Hv1 := hide hv1
          clear hv1 ha1 hb1 hkk
          go_wp2_with fail
          refine abs_world _ (fun W => W.heap[w.heap.size]? = some (.cells #[.int .i64 a1, .int .i64 b1] 29 (0, 0)) ∧ Below w.heap.size w W) ?_ ?_
          · first
              | exact ⟨keepRow (setRow _ _ 1 _ (setRow _ _ 0 _ HR2.out)) ((Below.refl _ _).alloc (Nat.le_refl _) _), ((HB2.out.setCell (by simp) _).setCell (by simp) _).alloc (by simp [World.setCell, hs2]) _⟩
              | exact ⟨setRow _ _ 1 _ (setRow _ _ 0 _ (keepRow HR2.out ((Below.refl _ _).alloc (Nat.le_refl _) _))), ((HB2.out.alloc hs2 _).setCell (by simp) _).setCell (by simp) _⟩
          rintro W3 ⟨hR3, hB3⟩
          have HR3 := hide hR3
          have HB3 := hide hB3
          clear hR3 hB3
          refine (iy _).mono ?_
          rintro e w4 ⟨rfl, hb4⟩
          have HR4 := hide (keepRow HR3.out hb4)
          have HB4 := hide (HB3.out.of hb4)
          clear hb4
          go_wp2_with fail
          go_roundw
          case rel => exact ⟨k + 1, _, _, by omega, by go_num, Hv1.out, HR4.out, HB4.out⟩
          case measure => simp [intOf]; omega
        · have iy := is_yes HV.out
          have hk0 : (k1 != 0) = true := by rcases hk1 with rfl | rfl <;> rfl
          have hk0' : (k1 == 0) = false := by rcases hk1 with rfl | rfl <;> rfl
          clear hk1
          go_wp2_with fail
          refine abs_world _ (fun W => W.heap[w.heap.size]? = some (.cells #[.int .i64 b, .int .i64 a] 29 (0, 0)) ∧ Below w.heap.size w W) ?_ ?_
          · exact ⟨keepRow HR2.out ((Below.refl _ _).alloc (Nat.le_refl _) _), HB2.out.alloc hs2 _⟩
          rintro W3 ⟨hR3, hB3⟩
          have HR3 := hide hR3
          have HB3 := hide hB3
          clear hR3 hB3
          refine (iy _).mono ?_
          rintro e w4 ⟨rfl, hb4⟩
          have HR4 := hide (keepRow HR3.out hb4)
          have HB4 := hide (HB3.out.of hb4)
          clear hb4
          go_wp2_with fail
          go_roundw
          case rel => exact ⟨k + 1, _, _, by omega, by go_num, HV.out, HR4.out, HB4.out⟩
          case measure => simp [intOf]; omega
    · obtain rfl : k = n := by omega
      go_wp2_with fail
      refine (alive6 _).mono ?_
      rintro e w4 ⟨rfl, hb4⟩
      go_wp2_with fail
      go_ret
      exact ⟨rfl, HB.out.of hb4⟩
end Go.Proofs.Ytfgifdgbhikegaa
