/- Layer 31: the walk of WindowApart. -/
import Derived.Test.YtopgcimjdlhclaaWi7
import Derived.Deep.Cut
namespace Go.Proofs.Ytopgcimjdlhclaa
open Go.RowKit

theorem S2keepW {w1 w2 : World} (hb : Below w1.heap.size w1 w2) {a0 a1 : Addr} {u0 u1 : Value} (h : w1.cell? a0 = some u0 ∧ w1.cell? a1 = some u1) : w2.cell? a0 = some u0 ∧ w2.cell? a1 = some u1 := ⟨cellKeepW hb h.1, cellKeepW hb h.2⟩
theorem stOk_u (g : Bool) (a b n i : Int) : StOk g a b 0 n i ↔ StOk g a 0 0 n i := by cases g <;> exact Iff.rfl
theorem stOk_side {g : Bool} {a b s n i : Int} (h : StOk g a b s n i) : s = 0 ∨ s = 1 := by
  cases g
  · exact (vlB_yes h.1).1
  · exact (vlB_yes h.1).1
theorem room100 (a b : Int) : roomF a b 0 100 = 100 + a := by unfold roomF; rfl
theorem room101 (a : Int) : roomF a 0 1 100 = 100 := by unfold roomF; rfl
set_option maxRecDepth 100000 in
set_option maxHeartbeats 6400000 in
theorem windowApart_walk (A : Option Addr) (n c : Nat) (S : Nat → Bool) (F G K : Nat → Int) (w : World) (ha : Rd4 w A n c S F G K) (hG : Wf64 n G) : Calls Try.prog 10 #[.slice A n c] w (Yes w) := by
  have Ha := hide ha
  have HG := hide hG
  clear ha hG
  by_cases hl : 60 < n
  · have hd : decide ((60 : Int) < (n : Int)) = true := by simp; omega
    go_enter Try.func10, Try.ntmps10
    go_wp2_with fail
    refine (alive31 _).mono ?_
    rintro e w4 ⟨rfl, hb4⟩
    go_wp2_with fail
    go_ret
    exact ⟨rfl, hb4⟩
  have hd : decide ((60 : Int) < (n : Int)) = false := by simp; omega
  have Hn : Hid (n ≤ 60) := by show _ ≤ _; omega
  clear hl
  have hst := fun (W : World) (b x y : Nat) => run_store Try.prog W ⟨b, 0, none⟩ (.complex .f64 x y) .plain rfl
  have HA0 : Hid (Below w.heap.size w ((w.alloc (.cells #[.complex .f64 0 0] 52)).alloc (.cells #[.complex .f64 0 0] 52))) := ((Below.refl _ _).alloc (Nat.le_refl _) _).alloc (by simp) _
  have A0 := hide (keepRow (heap_alloc_new w (.cells #[.complex .f64 0 0] 52)) ((Below.refl _ _).alloc (Nat.le_refl _) (.cells #[.complex .f64 0 0] 52)))
  have A1 := hide (heap_alloc_newW (n := w.heap.size + 1) (w.alloc (.cells #[.complex .f64 0 0] 52)) (.cells #[.complex .f64 0 0] 52) (by simp))
  go_enter Try.func10, Try.ntmps10
  go_wp2_with fail
  go_loopw [17] (fun i wr => ∃ (k : Nat) (a b : Int) (x y p q : Nat), k ≤ n ∧ i = .int .i64 k ∧ PV (.complex .f64 x y) a b ∧ PV (.complex .f64 p q) a 0 ∧ wr.heap[w.heap.size]? = some (.cells #[.complex .f64 x y] 52 (0, 0)) ∧ wr.heap[w.heap.size + 1]? = some (.cells #[.complex .f64 p q] 52 (0, 0)) ∧ Below w.heap.size w wr) (fun i _ => n - (intOf i).toNat)
  case atStart => exact ⟨0, 0, 0, 0, 0, 0, 0, Nat.zero_le _, rfl, pv0, pv0, A0.out, A1.out, HA0.out⟩
  case round =>
    obtain ⟨k, a, b, x, y, p, q, hk, rfl, hP, hPu, hRW, hRU, hB⟩ := hrel
    have HP := hide hP
    have HU := hide hPu
    have RWr := hide hRW
    have RUr := hide hRU
    have HBr := hide hB
    have hlP := rowLt hRU
    clear hP hPu hRW hRU hB HA0 A0 A1
    by_cases hlt : k < n
    · obtain ⟨b0, off, rfl, hc0, hc1, hc2, hc3⟩ := (Ha.out.below HBr.out).at_ hlt
      have hkn : (k : Int) < (n : Int) := by omega
      have hn := Hn.out
      have HGk := hide (HG.out k hlt)
      have HB := hide (HBr.out.alloc HBr.out.size (.cells #[.bool (S k), .int .i64 (F k), .int .i64 (G k), .int .i64 (K k)] 56))
      have RW := hide (keepRow RWr.out ((Below.refl _ _).alloc (Nat.le_refl _) (.cells #[.bool (S k), .int .i64 (F k), .int .i64 (G k), .int .i64 (K k)] 56)))
      have RU := hide (keepRow RUr.out ((Below.refl _ _).alloc (Nat.le_refl _) (.cells #[.bool (S k), .int .i64 (F k), .int .i64 (G k), .int .i64 (K k)] 56)))
      have RS := hide (heap_alloc_new wr (.cells #[.bool (S k), .int .i64 (F k), .int .i64 (G k), .int .i64 (K k)] 56))
      by_cases hok : StOk (S k) a b (F k) (G k) (K k)
      · have HK := hide hok
        have hside := stOk_side hok
        by_cases hf : F k = 0
        · have HKu : Hid (StOk (S k) a 0 (F k) (G k) (K k)) := by rw [hf] at hok ⊢; exact (stOk_u _ _ _ _ _).1 hok
          have hf0 : (F k == 0) = true := by simpa using hf
          have HF := hide hf
          clear hok hside hf
          obtain ⟨s0, s1, s2, s3⟩ := row4W RS.out
          have p0 := row1W RW.out
          go_wp2_with fail
          refine (step_ok (S k) (F k) (G k) (K k) HP.out HK.out HGk.out.1 HGk.out.2 _).mono ?_
          rintro e w1 ⟨v1, hv1, rfl, hb1⟩
          obtain ⟨x1, y1, rfl, hx1, hy1⟩ := hv1
          have HP1 : Hid (PV (.complex .f64 x1 y1) _ _) := ⟨x1, y1, rfl, hx1, hy1⟩
          clear hx1 hy1
          have HBc := hide (HB.out.of hb1)
          have RWc := hide (keepRow RW.out hb1)
          have RUc := hide (keepRow RU.out hb1)
          have RSc := hide (keepRow RS.out hb1)
          have lc := rowLt RSc.out
          clear hb1 s0 s1 s2 s3 p0
          go_upto_region 9 with (fail)
          refine absV _ (fun W => W.heap[w.heap.size]? = some (.cells #[.complex .f64 x y] 52 (0, 0)) ∧ W.heap[w.heap.size + 1]? = some (.cells #[.complex .f64 p q] 52 (0, 0)) ∧ W.heap[wr.heap.size]? = some (.cells #[.bool (S k), .int .i64 (F k), .int .i64 (G k), .int .i64 (K k)] 56 (0, 0)) ∧ W.heap[w1.heap.size]? = some (.cells #[.complex .f64 x1 y1] 52 (0, 0)) ∧ Below w.heap.size w W) ⟨keepRow RWc.out ((Below.refl _ _).alloc (Nat.le_refl _) (.cells #[.complex .f64 x1 y1] 52)), keepRow RUc.out ((Below.refl _ _).alloc (Nat.le_refl _) (.cells #[.complex .f64 x1 y1] 52)), keepRow RSc.out ((Below.refl _ _).alloc (Nat.le_refl _) (.cells #[.complex .f64 x1 y1] 52)), heap_alloc_new w1 (.cells #[.complex .f64 x1 y1] 52), HBc.out.alloc HBc.out.size (.cells #[.complex .f64 x1 y1] 52)⟩ ?_
          rintro W1 ⟨hW, hU, hS, hV, hB⟩
          have nc : wr.heap.size < w1.heap.size := lc
          clear HB RW RU RS HBc RWc RUc RSc lc
          have v0 := row1W hV
          obtain ⟨⟨c0, f0⟩, r1⟩ := store1 hW (.complex .f64 x1 y1)
          have O1 := hide (keepOne hU (grown_set W1 (w.heap.size) 0 (.complex .f64 x1 y1)) (by omega))
          have S1 := hide (keepOne hS (grown_set W1 (w.heap.size) 0 (.complex .f64 x1 y1)) (by omega))
          have B1 := hide (hB.setCell (show w.heap.size ≤ (⟨w.heap.size, 0, none⟩ : Addr).block by simp) (.complex .f64 x1 y1))
          have R1 := hide r1
          clear hW hU hS hV hB r1
          go_upto_region 11 with (fail)
          refine absV _ (fun W => W.heap[w.heap.size]? = some (.cells #[.complex .f64 x1 y1] 52 (0, 0)) ∧ W.heap[w.heap.size + 1]? = some (.cells #[.complex .f64 p q] 52 (0, 0)) ∧ W.heap[wr.heap.size]? = some (.cells #[.bool (S k), .int .i64 (F k), .int .i64 (G k), .int .i64 (K k)] 56 (0, 0)) ∧ Below w.heap.size w W) ⟨R1.out, O1.out, S1.out, B1.out⟩ ?_
          clear v0 c0 f0 O1 S1 B1 R1
          rintro X2 ⟨hW, hU, hS, hB⟩
          have RW := hide hW
          have RU := hide hU
          have RS := hide hS
          have HB := hide hB
          clear hW hU hS hB
          obtain ⟨s0, s1, s2, s3⟩ := row4W RS.out
          have p0 := row1W RU.out
          have d0 : (F k == 0) = true := hf0
          go_wp2_with fail
          refine (step_ok (S k) (F k) (G k) (K k) HU.out HKu.out HGk.out.1 HGk.out.2 _).mono ?_
          rintro e w3 ⟨v3, hv3, rfl, hb3⟩
          obtain ⟨x3, y3, rfl, hx3, hy3⟩ := hv3
          have HP3 : Hid (PV (.complex .f64 x3 y3) _ _) := ⟨x3, y3, rfl, hx3, hy3⟩
          clear hx3 hy3
          have HBc := hide (HB.out.of hb3)
          have RWc := hide (keepRow RW.out hb3)
          have RUc := hide (keepRow RU.out hb3)
          have RSc := hide (keepRow RS.out hb3)
          have lc := rowLt RSc.out
          clear hb3 s0 s1 s2 s3 p0
          go_upto_region 13 with (fail)
          refine absV _ (fun W => W.heap[w.heap.size]? = some (.cells #[.complex .f64 x1 y1] 52 (0, 0)) ∧ W.heap[w.heap.size + 1]? = some (.cells #[.complex .f64 p q] 52 (0, 0)) ∧ W.heap[wr.heap.size]? = some (.cells #[.bool (S k), .int .i64 (F k), .int .i64 (G k), .int .i64 (K k)] 56 (0, 0)) ∧ W.heap[w3.heap.size]? = some (.cells #[.complex .f64 x3 y3] 52 (0, 0)) ∧ Below w.heap.size w W) ⟨keepRow RWc.out ((Below.refl _ _).alloc (Nat.le_refl _) (.cells #[.complex .f64 x3 y3] 52)), keepRow RUc.out ((Below.refl _ _).alloc (Nat.le_refl _) (.cells #[.complex .f64 x3 y3] 52)), keepRow RSc.out ((Below.refl _ _).alloc (Nat.le_refl _) (.cells #[.complex .f64 x3 y3] 52)), heap_alloc_new w3 (.cells #[.complex .f64 x3 y3] 52), HBc.out.alloc HBc.out.size (.cells #[.complex .f64 x3 y3] 52)⟩ ?_
          rintro W3 ⟨hW, hU, hS, hV, hB⟩
          have nc : wr.heap.size < w3.heap.size := lc
          clear HB RW RU RS HBc RWc RUc RSc lc
          have v0 := row1W hV
          obtain ⟨⟨c0, f0⟩, r1⟩ := store1 hU (.complex .f64 x3 y3)
          have O1 := hide (keepOne hW (grown_set W3 (w.heap.size + 1) 0 (.complex .f64 x3 y3)) (by omega))
          have S1 := hide (keepOne hS (grown_set W3 (w.heap.size + 1) 0 (.complex .f64 x3 y3)) (by omega))
          have B1 := hide (hB.setCell (show w.heap.size ≤ (⟨w.heap.size + 1, 0, none⟩ : Addr).block by simp) (.complex .f64 x3 y3))
          have R1 := hide r1
          clear hW hU hS hV hB r1
          go_upto_region 17 with (fail)
          refine absV _ (fun W => W.heap[w.heap.size]? = some (.cells #[.complex .f64 x1 y1] 52 (0, 0)) ∧ W.heap[w.heap.size + 1]? = some (.cells #[.complex .f64 x3 y3] 52 (0, 0)) ∧ W.heap[wr.heap.size]? = some (.cells #[.bool (S k), .int .i64 (F k), .int .i64 (G k), .int .i64 (K k)] 56 (0, 0)) ∧ Below w.heap.size w W) ⟨O1.out, R1.out, S1.out, B1.out⟩ ?_
          clear v0 c0 f0 O1 S1 B1 R1
          rintro X4 ⟨hW, hU, hS, hB⟩
          have RW := hide hW
          have RU := hide hU
          have RS := hide hS
          have HB := hide hB
          clear hW hU hS hB
          have hP1 : PV (.complex .f64 x1 y1) (nA a 0 (stN (S k) (G k))) b := by have h := HP1.out; rw [HF.out] at h; exact h
          have hU1 : PV (.complex .f64 x3 y3) (nA a 0 (stN (S k) (G k))) 0 := by have h := HP3.out; rw [HF.out] at h; exact h
          have hP1 := hide hP1
          have hU1 := hide hU1
          go_wp2_with fail
          go_roundw
          case rel => exact ⟨k + 1, nA a 0 (stN (S k) (G k)), b, x1, y1, x3, y3, by omega, by go_num, hP1.out, hU1.out, RW.out, RU.out, HB.out⟩
          case measure => simp [intOf]; omega
        · have HF1 : Hid (F k = 1) := hside.resolve_left hf
          have hf0 : (F k == 0) = false := by simpa using hf
          clear hok hside hf
          obtain ⟨s0, s1, s2, s3⟩ := row4W RS.out
          have p0 := row1W RW.out
          go_wp2_with fail
          refine (step_ok (S k) (F k) (G k) (K k) HP.out HK.out HGk.out.1 HGk.out.2 _).mono ?_
          rintro e w1 ⟨v1, hv1, rfl, hb1⟩
          obtain ⟨x1, y1, rfl, hx1, hy1⟩ := hv1
          have HP1 : Hid (PV (.complex .f64 x1 y1) _ _) := ⟨x1, y1, rfl, hx1, hy1⟩
          clear hx1 hy1
          have HBc := hide (HB.out.of hb1)
          have RWc := hide (keepRow RW.out hb1)
          have RUc := hide (keepRow RU.out hb1)
          have RSc := hide (keepRow RS.out hb1)
          have lc := rowLt RSc.out
          clear hb1 s0 s1 s2 s3 p0
          go_upto_region 9 with (fail)
          refine absV _ (fun W => W.heap[w.heap.size]? = some (.cells #[.complex .f64 x y] 52 (0, 0)) ∧ W.heap[w.heap.size + 1]? = some (.cells #[.complex .f64 p q] 52 (0, 0)) ∧ W.heap[wr.heap.size]? = some (.cells #[.bool (S k), .int .i64 (F k), .int .i64 (G k), .int .i64 (K k)] 56 (0, 0)) ∧ W.heap[w1.heap.size]? = some (.cells #[.complex .f64 x1 y1] 52 (0, 0)) ∧ Below w.heap.size w W) ⟨keepRow RWc.out ((Below.refl _ _).alloc (Nat.le_refl _) (.cells #[.complex .f64 x1 y1] 52)), keepRow RUc.out ((Below.refl _ _).alloc (Nat.le_refl _) (.cells #[.complex .f64 x1 y1] 52)), keepRow RSc.out ((Below.refl _ _).alloc (Nat.le_refl _) (.cells #[.complex .f64 x1 y1] 52)), heap_alloc_new w1 (.cells #[.complex .f64 x1 y1] 52), HBc.out.alloc HBc.out.size (.cells #[.complex .f64 x1 y1] 52)⟩ ?_
          rintro W1 ⟨hW, hU, hS, hV, hB⟩
          have nc : wr.heap.size < w1.heap.size := lc
          clear HB RW RU RS HBc RWc RUc RSc lc
          have v0 := row1W hV
          obtain ⟨⟨c0, f0⟩, r1⟩ := store1 hW (.complex .f64 x1 y1)
          have O1 := hide (keepOne hU (grown_set W1 (w.heap.size) 0 (.complex .f64 x1 y1)) (by omega))
          have S1 := hide (keepOne hS (grown_set W1 (w.heap.size) 0 (.complex .f64 x1 y1)) (by omega))
          have B1 := hide (hB.setCell (show w.heap.size ≤ (⟨w.heap.size, 0, none⟩ : Addr).block by simp) (.complex .f64 x1 y1))
          have R1 := hide r1
          clear hW hU hS hV hB r1
          go_upto_region 11 with (fail)
          refine absV _ (fun W => W.heap[w.heap.size]? = some (.cells #[.complex .f64 x1 y1] 52 (0, 0)) ∧ W.heap[w.heap.size + 1]? = some (.cells #[.complex .f64 p q] 52 (0, 0)) ∧ W.heap[wr.heap.size]? = some (.cells #[.bool (S k), .int .i64 (F k), .int .i64 (G k), .int .i64 (K k)] 56 (0, 0)) ∧ Below w.heap.size w W) ⟨R1.out, O1.out, S1.out, B1.out⟩ ?_
          clear v0 c0 f0 O1 S1 B1 R1
          rintro X2 ⟨hW, hU, hS, hB⟩
          have RW := hide hW
          have RU := hide hU
          have RS := hide hS
          have HB := hide hB
          clear hW hU hS hB
          obtain ⟨s0, s1, s2, s3⟩ := row4W RS.out
          have d0 : (F k == 0) = false := hf0
          have hP1 : PV (.complex .f64 x1 y1) a (nB b 1 (stN (S k) (G k))) := by have h := HP1.out; rw [HF1.out] at h; exact h
          have hP1 := hide hP1
          go_wp2_with fail
          go_roundw
          case rel => exact ⟨k + 1, a, nB b 1 (stN (S k) (G k)), x1, y1, p, q, by omega, by go_num, hP1.out, HU.out, RW.out, RU.out, HB.out⟩
          case measure => simp [intOf]; omega
      · have HK := hide hok
        by_cases hf : F k = 0
        · have HKu : Hid (¬ StOk (S k) a 0 (F k) (G k) (K k)) := by rw [hf] at hok ⊢; exact fun h => hok ((stOk_u _ _ _ _ _).2 h)
          have hf0 : (F k == 0) = true := by simpa using hf
          clear hok hf
          obtain ⟨s0, s1, s2, s3⟩ := row4W RS.out
          have p0 := row1W RW.out
          go_wp2_with fail
          refine (step_no (S k) (F k) (G k) (K k) HP.out HK.out HGk.out.1 HGk.out.2 _).mono ?_
          rintro e w1 ⟨rfl, hb1⟩
          have HBc := hide (HB.out.of hb1)
          have RWc := hide (keepRow RW.out hb1)
          have RUc := hide (keepRow RU.out hb1)
          have RSc := hide (keepRow RS.out hb1)
          have lc := rowLt RSc.out
          clear hb1 s0 s1 s2 s3 p0
          go_upto_region 9 with (fail)
          refine absV _ (fun W => W.heap[w.heap.size]? = some (.cells #[.complex .f64 x y] 52 (0, 0)) ∧ W.heap[w.heap.size + 1]? = some (.cells #[.complex .f64 p q] 52 (0, 0)) ∧ W.heap[wr.heap.size]? = some (.cells #[.bool (S k), .int .i64 (F k), .int .i64 (G k), .int .i64 (K k)] 56 (0, 0)) ∧ W.heap[w1.heap.size]? = some (.cells #[.complex .f64 0 0] 52 (0, 0)) ∧ Below w.heap.size w W) ⟨keepRow RWc.out ((Below.refl _ _).alloc (Nat.le_refl _) (.cells #[.complex .f64 0 0] 52)), keepRow RUc.out ((Below.refl _ _).alloc (Nat.le_refl _) (.cells #[.complex .f64 0 0] 52)), keepRow RSc.out ((Below.refl _ _).alloc (Nat.le_refl _) (.cells #[.complex .f64 0 0] 52)), heap_alloc_new w1 (.cells #[.complex .f64 0 0] 52), HBc.out.alloc HBc.out.size (.cells #[.complex .f64 0 0] 52)⟩ ?_
          rintro W1 ⟨hW, hU, hS, hV, hB⟩
          have nc : wr.heap.size < w1.heap.size := lc
          clear HB RW RU RS HBc RWc RUc RSc lc
          have RW := hide hW
          have RU := hide hU
          have RS := hide hS
          have HB := hide hB
          clear hW hU hS hB hV
          go_upto_region 11 with (fail)
          obtain ⟨s0, s1, s2, s3⟩ := row4W RS.out
          have p0 := row1W RU.out
          have d0 : (F k == 0) = true := hf0
          go_wp2_with fail
          refine (step_no (S k) (F k) (G k) (K k) HU.out HKu.out HGk.out.1 HGk.out.2 _).mono ?_
          rintro e w3 ⟨rfl, hb3⟩
          have HBc := hide (HB.out.of hb3)
          have RWc := hide (keepRow RW.out hb3)
          have RUc := hide (keepRow RU.out hb3)
          have RSc := hide (keepRow RS.out hb3)
          have lc := rowLt RSc.out
          clear hb3 s0 s1 s2 s3 p0
          go_upto_region 13 with (fail)
          refine absV _ (fun W => W.heap[w.heap.size]? = some (.cells #[.complex .f64 x y] 52 (0, 0)) ∧ W.heap[w.heap.size + 1]? = some (.cells #[.complex .f64 p q] 52 (0, 0)) ∧ W.heap[wr.heap.size]? = some (.cells #[.bool (S k), .int .i64 (F k), .int .i64 (G k), .int .i64 (K k)] 56 (0, 0)) ∧ W.heap[w3.heap.size]? = some (.cells #[.complex .f64 0 0] 52 (0, 0)) ∧ Below w.heap.size w W) ⟨keepRow RWc.out ((Below.refl _ _).alloc (Nat.le_refl _) (.cells #[.complex .f64 0 0] 52)), keepRow RUc.out ((Below.refl _ _).alloc (Nat.le_refl _) (.cells #[.complex .f64 0 0] 52)), keepRow RSc.out ((Below.refl _ _).alloc (Nat.le_refl _) (.cells #[.complex .f64 0 0] 52)), heap_alloc_new w3 (.cells #[.complex .f64 0 0] 52), HBc.out.alloc HBc.out.size (.cells #[.complex .f64 0 0] 52)⟩ ?_
          rintro W3 ⟨hW, hU, hS, hV, hB⟩
          have nc : wr.heap.size < w3.heap.size := lc
          clear HB RW RU RS HBc RWc RUc RSc lc
          have RW := hide hW
          have RU := hide hU
          have RS := hide hS
          have HB := hide hB
          clear hW hU hS hB hV
          go_wp2_with fail
          go_roundw
          case rel => exact ⟨k + 1, a, b, x, y, p, q, by omega, by go_num, HP.out, HU.out, RW.out, RU.out, HB.out⟩
          case measure => simp [intOf]; omega
        · have hf0 : (F k == 0) = false := by simpa using hf
          clear hok hf
          obtain ⟨s0, s1, s2, s3⟩ := row4W RS.out
          have p0 := row1W RW.out
          go_wp2_with fail
          refine (step_no (S k) (F k) (G k) (K k) HP.out HK.out HGk.out.1 HGk.out.2 _).mono ?_
          rintro e w1 ⟨rfl, hb1⟩
          have HBc := hide (HB.out.of hb1)
          have RWc := hide (keepRow RW.out hb1)
          have RUc := hide (keepRow RU.out hb1)
          have RSc := hide (keepRow RS.out hb1)
          have lc := rowLt RSc.out
          clear hb1 s0 s1 s2 s3 p0
          go_upto_region 9 with (fail)
          refine absV _ (fun W => W.heap[w.heap.size]? = some (.cells #[.complex .f64 x y] 52 (0, 0)) ∧ W.heap[w.heap.size + 1]? = some (.cells #[.complex .f64 p q] 52 (0, 0)) ∧ W.heap[wr.heap.size]? = some (.cells #[.bool (S k), .int .i64 (F k), .int .i64 (G k), .int .i64 (K k)] 56 (0, 0)) ∧ W.heap[w1.heap.size]? = some (.cells #[.complex .f64 0 0] 52 (0, 0)) ∧ Below w.heap.size w W) ⟨keepRow RWc.out ((Below.refl _ _).alloc (Nat.le_refl _) (.cells #[.complex .f64 0 0] 52)), keepRow RUc.out ((Below.refl _ _).alloc (Nat.le_refl _) (.cells #[.complex .f64 0 0] 52)), keepRow RSc.out ((Below.refl _ _).alloc (Nat.le_refl _) (.cells #[.complex .f64 0 0] 52)), heap_alloc_new w1 (.cells #[.complex .f64 0 0] 52), HBc.out.alloc HBc.out.size (.cells #[.complex .f64 0 0] 52)⟩ ?_
          rintro W1 ⟨hW, hU, hS, hV, hB⟩
          have nc : wr.heap.size < w1.heap.size := lc
          clear HB RW RU RS HBc RWc RUc RSc lc
          have RW := hide hW
          have RU := hide hU
          have RS := hide hS
          have HB := hide hB
          clear hW hU hS hB hV
          go_upto_region 11 with (fail)
          obtain ⟨s0, s1, s2, s3⟩ := row4W RS.out
          have d0 : (F k == 0) = false := hf0
          go_wp2_with fail
          go_roundw
          case rel => exact ⟨k + 1, a, b, x, y, p, q, by omega, by go_num, HP.out, HU.out, RW.out, RU.out, HB.out⟩
          case measure => simp [intOf]; omega
    · obtain rfl : k = n := by omega
      obtain ⟨hma, hmb⟩ := PV.amW HP.out
      have y1 := fun W => wRoom_any 0 100 HP.out hma hmb W
      have y2 := fun W => wRoom_any 0 100 HU.out hma am0 W
      have y3 := fun W => wRoom_any 1 100 HU.out hma am0 W
      rw [room100] at y1 y2
      rw [room101] at y3
      have ha5 := alive31
      have p0 := row1W RWr.out
      have p1 := row1W RUr.out
      generalize 100 + a = z at *
      have m1 : (z == z) = true := by simp
      clear hma hmb
      go_wp2_with fail
      go_region_held3 (fun w' : World => w'.cell? ⟨w.heap.size, 0, none⟩ = some (.complex .f64 x y) ∧ w'.cell? ⟨w.heap.size + 1, 0, none⟩ = some (.complex .f64 p q))
        ((first | exact S2keepW hv4 (by assumption) | exact S2keepW hv3 (by assumption) | exact S2keepW hv2 (by assumption) | exact S2keepW hv1 (by assumption) | (go_keep; done)))
        ((first
          | (go_at_call 34; (with_reducible refine (y1 _).mono ?_); rintro e v1 ⟨rfl, hv1⟩; have HV1 := hide (HBr.out.drew.of hv1))
          | (go_at_call 34; (with_reducible refine (y2 _).mono ?_); rintro e v2 ⟨rfl, hv2⟩; have HV2 := hide (HV1.out.of hv2))
          | (go_at_call 34; (with_reducible refine (y3 _).mono ?_); rintro e v3 ⟨rfl, hv3⟩; have HV3 := hide (HV2.out.of hv3))
          | (go_at_call 31; (with_reducible refine (ha5 _).mono ?_); rintro e v4 ⟨rfl, hv4⟩; have HV4 := hide (HV3.out.of hv4))))
      all_goals
        go_wp2_with fail
        go_ret
        exact ⟨rfl, HV4.out⟩
end Go.Proofs.Ytopgcimjdlhclaa
