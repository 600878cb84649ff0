/- Layer 31: the walk of WindowShifts. -/
import Derived.Test.YtopgcimjdlhclaaWi8
import Derived.Deep.Cut
namespace Go.Proofs.Ytopgcimjdlhclaa
open Go.RowKit

theorem shift_take {a b s n i : Int} (h : TkOk a b s n i) (hn : 0 < n) : 0 ≤ roomF (nA a s (-n)) (nB b s (-n)) s i := by
  obtain ⟨hv, _, hr, _⟩ := h
  have hr := hr hn
  unfold roomF
  rw [if_pos hv]
  rcases (vlB_yes hv).1 with rfl | rfl <;> (simp [sideN, nA, nB] at *; omega)
theorem shift_give {a b s n i : Int} (h : GvOk a b s n i) : roomF (nA a s n) (nB b s n) s i ≤ 2147483647 := by
  obtain ⟨hv, _, hr, _⟩ := h
  unfold roomF
  rw [if_pos hv]
  rcases (vlB_yes hv).1 with rfl | rfl <;> (simp [sideN, nA, nB] at *; omega)
theorem room_at {a b s x : Int} (hs : s = 0 ∨ s = 1) (h0 : 0 ≤ x) (h1 : x ≤ 2147483647) : roomF a b s x = x + sideN a b s := by
  unfold roomF
  rw [if_pos]
  unfold vlB
  rcases hs with rfl | rfl <;> simp [h0, h1]
theorem mod31 (u : Int) (h0 : 0 ≤ u) (h1 : u ≤ 4294967295) : ∃ x, wrap64 (u.tmod 2147483648) = x ∧ 0 ≤ x ∧ x ≤ 2147483647 := by
  have e : u.tmod 2147483648 = u % 2147483648 := Int.tmod_eq_emod_of_nonneg h0
  refine ⟨u % 2147483648, ?_, by omega, by omega⟩
  rw [e]
  unfold wrap64
  omega
set_option maxRecDepth 100000 in
set_option maxHeartbeats 6400000 in
theorem windowShifts_walk (A : Option Addr) (n c : Nat) (S : Nat → Bool) (F G K : Nat → Int) (ua ub : Int) (w : World) (ha : Rd4 w A n c S F G K) (hG : Wf64 n G) (hu1 : 0 ≤ ua ∧ ua ≤ 4294967295) (hu2 : 0 ≤ ub ∧ ub ≤ 4294967295) : Calls Try.prog 9 #[.slice A n c, .int .u32 ua, .int .u32 ub] w (Yes w) := by
  have Ha := hide ha
  have HG := hide hG
  clear ha hG
  by_cases hl : 60 < n
  · have hd : decide ((60 : Int) < (n : Int)) = true := by simp; omega
    clear hu1 hu2
    go_enter Try.func9, Try.ntmps9
    go_wp2_with fail
    refine (alive31 _).mono ?_
    rintro e w4 ⟨rfl, hb4⟩
    go_wp2_with fail
    go_ret
    exact ⟨rfl, hb4⟩
  have hd : decide ((60 : Int) < (n : Int)) = false := by simp; omega
  have Hn : Hid (n ≤ 60) := by show _ ≤ _; omega
  clear hl
  obtain ⟨xx, hX, hX0, hX1⟩ := mod31 ua hu1.1 hu1.2
  obtain ⟨yy, hY, hY0, hY1⟩ := mod31 ub hu2.1 hu2.2
  have HX : Hid (0 ≤ xx ∧ xx ≤ 2147483647) := ⟨hX0, hX1⟩
  have HY : Hid (0 ≤ yy ∧ yy ≤ 2147483647) := ⟨hY0, hY1⟩
  clear hX0 hX1 hY0 hY1 hu1 hu2
  have hst := fun (W : World) (b x y : Nat) => run_store Try.prog W ⟨b, 0, none⟩ (.complex .f64 x y) .plain rfl
  have HA0 := hide ((Below.refl w.heap.size w).alloc (Nat.le_refl _) (.cells #[.complex .f64 0 0] 52))
  have A0 := hide (heap_alloc_new w (.cells #[.complex .f64 0 0] 52))
  go_enter Try.func9, Try.ntmps9
  go_wp2_with fail
  rw [hX, hY]
  clear hX hY
  go_loopw [26] (fun i wr => ∃ (k : Nat) (a b : Int) (x y : Nat), k ≤ n ∧ i = .int .i64 k ∧ PV (.complex .f64 x y) a b ∧ wr.heap[w.heap.size]? = some (.cells #[.complex .f64 x y] 52 (0, 0)) ∧ Below w.heap.size w wr) (fun i _ => n - (intOf i).toNat)
  case atStart => exact ⟨0, 0, 0, 0, 0, Nat.zero_le _, rfl, pv0, A0.out, HA0.out⟩
  case round =>
    obtain ⟨k, a, b, x, y, hk, rfl, hP, hRW, hB⟩ := hrel
    have HP := hide hP
    have RWr := hide hRW
    have HBr := hide hB
    have hlP := rowLt hRW
    clear hP hRW hB HA0 A0
    by_cases hlt : k < n
    · have hkn : (k : Int) < (n : Int) := by omega
      have hn := Hn.out
      have HGk := hide (HG.out k hlt)
      cases hS : S k with
      | false =>
        obtain ⟨b0, off, rfl, hc0, hc1, hc2, hc3⟩ := (Ha.out.below HBr.out).at_ hlt
        rw [hS] at hc0
        clear hS
        have HB := hide (HBr.out.alloc HBr.out.size (.cells #[.bool false, .int .i64 (F k), .int .i64 (G k), .int .i64 (K k)] 56))
        have RW := hide (keepRow RWr.out ((Below.refl _ _).alloc (Nat.le_refl _) (.cells #[.bool false, .int .i64 (F k), .int .i64 (G k), .int .i64 (K k)] 56)))
        have RS := hide (heap_alloc_new wr (.cells #[.bool false, .int .i64 (F k), .int .i64 (G k), .int .i64 (K k)] 56))
        by_cases hok : StOk false a b (F k) (G k) (K k)
        · have HK := hide hok
          clear hok
          obtain ⟨s0, s1, s2, s3⟩ := row4W RS.out
          have p0 := row1W RW.out
          go_wp2_with fail
          refine (step_ok false (F k) (G k) (K k) HP.out HK.out HGk.out.1 HGk.out.2 _).mono ?_
          rintro e w1 ⟨v1, hv1, rfl, hb1⟩
          have hr1 := fun W => wRoom_any (F k) (K k) hv1 (PV.amW hv1).1 (PV.amW hv1).2 W
          have ham := PV.amW hv1
          obtain ⟨x1, y1, rfl, hx1, hy1⟩ := hv1
          have HP1 : Hid (PV (.complex .f64 x1 y1) _ _) := ⟨x1, y1, rfl, hx1, hy1⟩
          clear hx1 hy1 ham
          have HBc := hide (HB.out.of hb1)
          have RWc := hide (keepRow RW.out hb1)
          have RSc := hide (keepRow RS.out hb1)
          have lc := rowLt RSc.out
          clear hb1 s0 s1 s2 s3 p0
          go_upto_region 10 with (fail)
          refine absV _ (fun W => W.heap[w.heap.size]? = some (.cells #[.complex .f64 x y] 52 (0, 0)) ∧ W.heap[wr.heap.size]? = some (.cells #[.bool false, .int .i64 (F k), .int .i64 (G k), .int .i64 (K k)] 56 (0, 0)) ∧ W.heap[w1.heap.size]? = some (.cells #[.complex .f64 x1 y1] 52 (0, 0)) ∧ Below w.heap.size w W) ⟨keepRow RWc.out ((Below.refl _ _).alloc (Nat.le_refl _) (.cells #[.complex .f64 x1 y1] 52)), keepRow RSc.out ((Below.refl _ _).alloc (Nat.le_refl _) (.cells #[.complex .f64 x1 y1] 52)), heap_alloc_new w1 (.cells #[.complex .f64 x1 y1] 52), HBc.out.alloc HBc.out.size (.cells #[.complex .f64 x1 y1] 52)⟩ ?_
          rintro W1 ⟨hW, hS, hV, hB⟩
          have nc : wr.heap.size < w1.heap.size := lc
          clear HB RW RS HBc RWc RSc lc
          have RW := hide hW
          have RS := hide hS
          have RV := hide hV
          have HB := hide hB
          clear hW hS hV hB
          obtain ⟨s0, s1, s2, s3⟩ := row4W RS.out
          have v0 := row1W RV.out
          by_cases hn0 : 0 < G k
          · have d1 : decide (0 < G k) = true := by simpa using hn0
            have hz := shift_take HK.out hn0
            have hz' : decide (roomF (nA a (F k) (stN false (G k))) (nB b (F k) (stN false (G k))) (F k) (K k) < 0) = false := decide_eq_false (Int.not_lt.mpr hz)
            generalize roomF (nA a (F k) (stN false (G k))) (nB b (F k) (stN false (G k))) (F k) (K k) = z at *
            clear hz hn0
            go_wp2_with fail
            refine (hr1 _).mono ?_
            rintro e w2 ⟨rfl, hb2⟩
            have RW2 := hide (keepRow RW.out hb2)
            have RV2 := hide (keepRow RV.out hb2)
            have RS2 := hide (keepRow RS.out hb2)
            have HB2 := hide (HB.out.of hb2)
            clear hb2 s0 s1 s2 s3 v0
            obtain ⟨s0, s1, s2, s3⟩ := row4W RS2.out
            obtain ⟨⟨c0, f0⟩, r1⟩ := store1 RW2.out (.complex .f64 x1 y1)
            have v0 := row1W RV2.out
            have HB3 := hide (HB2.out.setCell (show w.heap.size ≤ (⟨w.heap.size, 0, none⟩ : Addr).block from Nat.le_refl _) (.complex .f64 x1 y1))
            have R1 := hide r1
            clear r1
            go_wp2_with fail
            go_roundw
            case rel => exact ⟨k + 1, _, _, x1, y1, by omega, by go_num, HP1.out, R1.out, HB3.out⟩
            case measure => simp [intOf]; omega
          · have d1 : decide (0 < G k) = false := by simpa using hn0
            have RW2 := RW
            have RV2 := RV
            have HB2 := HB
            clear hn0 v0 hr1
            obtain ⟨⟨c0, f0⟩, r1⟩ := store1 RW2.out (.complex .f64 x1 y1)
            have v0 := row1W RV2.out
            have HB3 := hide (HB2.out.setCell (show w.heap.size ≤ (⟨w.heap.size, 0, none⟩ : Addr).block from Nat.le_refl _) (.complex .f64 x1 y1))
            have R1 := hide r1
            clear r1
            go_wp2_with fail
            go_roundw
            case rel => exact ⟨k + 1, _, _, x1, y1, by omega, by go_num, HP1.out, R1.out, HB3.out⟩
            case measure => simp [intOf]; omega
        · have HK := hide hok
          clear hok
          obtain ⟨s0, s1, s2, s3⟩ := row4W RS.out
          have p0 := row1W RW.out
          go_wp2_with fail
          refine (step_no false (F k) (G k) (K k) HP.out HK.out HGk.out.1 HGk.out.2 _).mono ?_
          rintro e w1 ⟨rfl, hb1⟩
          have HBc := hide (HB.out.of hb1)
          have RWc := hide (keepRow RW.out hb1)
          have RSc := hide (keepRow RS.out hb1)
          have lc := rowLt RSc.out
          clear hb1 s0 s1 s2 s3 p0
          go_upto_region 10 with (fail)
          refine absV _ (fun W => W.heap[w.heap.size]? = some (.cells #[.complex .f64 x y] 52 (0, 0)) ∧ W.heap[wr.heap.size]? = some (.cells #[.bool false, .int .i64 (F k), .int .i64 (G k), .int .i64 (K k)] 56 (0, 0)) ∧ W.heap[w1.heap.size]? = some (.cells #[.complex .f64 0 0] 52 (0, 0)) ∧ Below w.heap.size w W) ⟨keepRow RWc.out ((Below.refl _ _).alloc (Nat.le_refl _) (.cells #[.complex .f64 0 0] 52)), keepRow RSc.out ((Below.refl _ _).alloc (Nat.le_refl _) (.cells #[.complex .f64 0 0] 52)), heap_alloc_new w1 (.cells #[.complex .f64 0 0] 52), HBc.out.alloc HBc.out.size (.cells #[.complex .f64 0 0] 52)⟩ ?_
          rintro W1 ⟨hW, hS, hV, hB⟩
          have nc : wr.heap.size < w1.heap.size := lc
          clear HB RW RS HBc RWc RSc lc
          have RW := hide hW
          have RS := hide hS
          have RV := hide hV
          have HB := hide hB
          clear hW hS hV hB
          obtain ⟨s0, s1, s2, s3⟩ := row4W RS.out
          have v0 := row1W RV.out
          go_wp2_with fail
          go_roundw
          case rel => exact ⟨k + 1, a, b, x, y, by omega, by go_num, HP.out, RW.out, HB.out⟩
          case measure => simp [intOf]; omega
      | true =>
        obtain ⟨b0, off, rfl, hc0, hc1, hc2, hc3⟩ := (Ha.out.below HBr.out).at_ hlt
        rw [hS] at hc0
        clear hS
        have HB := hide (HBr.out.alloc HBr.out.size (.cells #[.bool true, .int .i64 (F k), .int .i64 (G k), .int .i64 (K k)] 56))
        have RW := hide (keepRow RWr.out ((Below.refl _ _).alloc (Nat.le_refl _) (.cells #[.bool true, .int .i64 (F k), .int .i64 (G k), .int .i64 (K k)] 56)))
        have RS := hide (heap_alloc_new wr (.cells #[.bool true, .int .i64 (F k), .int .i64 (G k), .int .i64 (K k)] 56))
        by_cases hok : StOk true a b (F k) (G k) (K k)
        · have HK := hide hok
          clear hok
          obtain ⟨s0, s1, s2, s3⟩ := row4W RS.out
          have p0 := row1W RW.out
          go_wp2_with fail
          refine (step_ok true (F k) (G k) (K k) HP.out HK.out HGk.out.1 HGk.out.2 _).mono ?_
          rintro e w1 ⟨v1, hv1, rfl, hb1⟩
          have hr1 := fun W => wRoom_any (F k) (K k) hv1 (PV.amW hv1).1 (PV.amW hv1).2 W
          have ham := PV.amW hv1
          obtain ⟨x1, y1, rfl, hx1, hy1⟩ := hv1
          have HP1 : Hid (PV (.complex .f64 x1 y1) _ _) := ⟨x1, y1, rfl, hx1, hy1⟩
          clear hx1 hy1 ham
          have HBc := hide (HB.out.of hb1)
          have RWc := hide (keepRow RW.out hb1)
          have RSc := hide (keepRow RS.out hb1)
          have lc := rowLt RSc.out
          clear hb1 s0 s1 s2 s3 p0
          go_upto_region 10 with (fail)
          refine absV _ (fun W => W.heap[w.heap.size]? = some (.cells #[.complex .f64 x y] 52 (0, 0)) ∧ W.heap[wr.heap.size]? = some (.cells #[.bool true, .int .i64 (F k), .int .i64 (G k), .int .i64 (K k)] 56 (0, 0)) ∧ W.heap[w1.heap.size]? = some (.cells #[.complex .f64 x1 y1] 52 (0, 0)) ∧ Below w.heap.size w W) ⟨keepRow RWc.out ((Below.refl _ _).alloc (Nat.le_refl _) (.cells #[.complex .f64 x1 y1] 52)), keepRow RSc.out ((Below.refl _ _).alloc (Nat.le_refl _) (.cells #[.complex .f64 x1 y1] 52)), heap_alloc_new w1 (.cells #[.complex .f64 x1 y1] 52), HBc.out.alloc HBc.out.size (.cells #[.complex .f64 x1 y1] 52)⟩ ?_
          rintro W1 ⟨hW, hS, hV, hB⟩
          have nc : wr.heap.size < w1.heap.size := lc
          clear HB RW RS HBc RWc RSc lc
          have RW := hide hW
          have RS := hide hS
          have RV := hide hV
          have HB := hide hB
          clear hW hS hV hB
          obtain ⟨s0, s1, s2, s3⟩ := row4W RS.out
          have v0 := row1W RV.out
          have hz := shift_give HK.out
          have hz' : decide (2147483647 < roomF (nA a (F k) (stN true (G k))) (nB b (F k) (stN true (G k))) (F k) (K k)) = false := decide_eq_false (Int.not_lt.mpr hz)
          generalize roomF (nA a (F k) (stN true (G k))) (nB b (F k) (stN true (G k))) (F k) (K k) = z at *
          clear hz
          go_wp2_with fail
          refine (hr1 _).mono ?_
          rintro e w2 ⟨rfl, hb2⟩
          have RW2 := hide (keepRow RW.out hb2)
          have RV2 := hide (keepRow RV.out hb2)
          have RS2 := hide (keepRow RS.out hb2)
          have HB2 := hide (HB.out.of hb2)
          clear hb2 s0 s1 s2 s3 v0
          obtain ⟨s0, s1, s2, s3⟩ := row4W RS2.out
          obtain ⟨⟨c0, f0⟩, r1⟩ := store1 RW2.out (.complex .f64 x1 y1)
          have v0 := row1W RV2.out
          have HB3 := hide (HB2.out.setCell (show w.heap.size ≤ (⟨w.heap.size, 0, none⟩ : Addr).block from Nat.le_refl _) (.complex .f64 x1 y1))
          have R1 := hide r1
          clear r1
          go_wp2_with fail
          go_roundw
          case rel => exact ⟨k + 1, _, _, x1, y1, by omega, by go_num, HP1.out, R1.out, HB3.out⟩
          case measure => simp [intOf]; omega
        · have HK := hide hok
          clear hok
          obtain ⟨s0, s1, s2, s3⟩ := row4W RS.out
          have p0 := row1W RW.out
          go_wp2_with fail
          refine (step_no true (F k) (G k) (K k) HP.out HK.out HGk.out.1 HGk.out.2 _).mono ?_
          rintro e w1 ⟨rfl, hb1⟩
          have HBc := hide (HB.out.of hb1)
          have RWc := hide (keepRow RW.out hb1)
          have RSc := hide (keepRow RS.out hb1)
          have lc := rowLt RSc.out
          clear hb1 s0 s1 s2 s3 p0
          go_upto_region 10 with (fail)
          refine absV _ (fun W => W.heap[w.heap.size]? = some (.cells #[.complex .f64 x y] 52 (0, 0)) ∧ W.heap[wr.heap.size]? = some (.cells #[.bool true, .int .i64 (F k), .int .i64 (G k), .int .i64 (K k)] 56 (0, 0)) ∧ W.heap[w1.heap.size]? = some (.cells #[.complex .f64 0 0] 52 (0, 0)) ∧ Below w.heap.size w W) ⟨keepRow RWc.out ((Below.refl _ _).alloc (Nat.le_refl _) (.cells #[.complex .f64 0 0] 52)), keepRow RSc.out ((Below.refl _ _).alloc (Nat.le_refl _) (.cells #[.complex .f64 0 0] 52)), heap_alloc_new w1 (.cells #[.complex .f64 0 0] 52), HBc.out.alloc HBc.out.size (.cells #[.complex .f64 0 0] 52)⟩ ?_
          rintro W1 ⟨hW, hS, hV, hB⟩
          have nc : wr.heap.size < w1.heap.size := lc
          clear HB RW RS HBc RWc RSc lc
          have RW := hide hW
          have RS := hide hS
          have RV := hide hV
          have HB := hide hB
          clear hW hS hV hB
          obtain ⟨s0, s1, s2, s3⟩ := row4W RS.out
          have v0 := row1W RV.out
          go_wp2_with fail
          go_roundw
          case rel => exact ⟨k + 1, a, b, x, y, by omega, by go_num, HP.out, RW.out, HB.out⟩
          case measure => simp [intOf]; omega
    · obtain rfl : k = n := by omega
      obtain ⟨hma, hmb⟩ := PV.amW HP.out
      have y1 := fun W => wRoom_any 0 xx HP.out hma hmb W
      have y2 := fun W => wRoom_any 0 yy HP.out hma hmb W
      have y3 := fun W => wRoom_any 1 xx HP.out hma hmb W
      have y4 := fun W => wRoom_any 1 yy HP.out hma hmb W
      rw [room_at (.inl rfl) HX.out.1 HX.out.2] at y1
      rw [room_at (.inl rfl) HY.out.1 HY.out.2] at y2
      rw [room_at (.inr rfl) HX.out.1 HX.out.2] at y3
      rw [room_at (.inr rfl) HY.out.1 HY.out.2] at y4
      rw [show sideN a b 0 = a from rfl] at y1 y2
      rw [show sideN a b 1 = b from rfl] at y3 y4
      have q1 : IntKind.i64.wrap (xx + a - (yy + a)) = xx - yy := by
        rw [show xx + a - (yy + a) = xx - yy by omega]
        exact IntWalk.i64_in _ (by have := HX.out; have := HY.out; omega)
      have q2 : IntKind.i64.wrap (xx + b - (yy + b)) = xx - yy := by
        rw [show xx + b - (yy + b) = xx - yy by omega]
        exact IntWalk.i64_in _ (by have := HX.out; have := HY.out; omega)
      have q3 : IntKind.i64.wrap (xx - yy) = xx - yy := IntWalk.i64_in _ (by have := HX.out; have := HY.out; omega)
      have p1 : wrap64 (xx + a - (yy + a)) = xx - yy := by have := HX.out; have := HY.out; unfold wrap64; omega
      have p2 : wrap64 (xx + b - (yy + b)) = xx - yy := by have := HX.out; have := HY.out; unfold wrap64; omega
      have p3 : wrap64 (xx - yy) = xx - yy := by have := HX.out; have := HY.out; unfold wrap64; omega
      generalize xx + a = z1 at *
      generalize yy + a = z2 at *
      generalize xx + b = z3 at *
      generalize yy + b = z4 at *
      have m1 : (xx - yy == xx - yy) = true := by simp
      have ha5 := alive31
      have p0 := row1W RWr.out
      clear hma hmb
      go_wp2_with fail
      go_region_held3 (fun w' : World => w'.cell? ⟨w.heap.size, 0, none⟩ = some (.complex .f64 x y))
        ((first | exact cellKeepW hv5 (by assumption) | exact cellKeepW hv4 (by assumption) | exact cellKeepW hv3 (by assumption) | exact cellKeepW hv2 (by assumption) | exact cellKeepW hv1 (by assumption) | (go_keep; done)))
        ((first
          | (go_at_call 34; (with_reducible refine (y1 _).mono ?_); rintro e v1 ⟨rfl, hv1⟩; have HV1 := hide (HBr.out.drew.of hv1))
          | (go_at_call 34; (with_reducible refine (y2 _).mono ?_); rintro e v2 ⟨rfl, hv2⟩; have HV2 := hide (HV1.out.of hv2))
          | (go_at_call 34; (with_reducible refine (y3 _).mono ?_); rintro e v3 ⟨rfl, hv3⟩; have HV3 := hide (HV2.out.of hv3))
          | (go_at_call 34; (with_reducible refine (y4 _).mono ?_); rintro e v4 ⟨rfl, hv4⟩; have HV4 := hide (HV3.out.of hv4))
          | (go_at_call 31; (with_reducible refine (ha5 _).mono ?_); rintro e v5 ⟨rfl, hv5⟩; have HV5 := hide (HV4.out.of hv5))))
      all_goals
        go_wp2_with fail
        go_ret
        exact ⟨rfl, HV5.out⟩
end Go.Proofs.Ytopgcimjdlhclaa
