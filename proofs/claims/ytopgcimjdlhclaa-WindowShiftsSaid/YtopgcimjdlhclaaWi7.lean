/- Layer 31: the walk of WindowPlays. -/
import Derived.Test.YtopgcimjdlhclaaWi6
import Derived.Test.YtopgcimjdlhclaaMem4
namespace Go.Proofs.Ytopgcimjdlhclaa
open Go.RowKit

theorem absV {p : World → Prop} (W0 : World) (R : World → Prop) (h0 : R W0) (h : ∀ W, R W → p W) : p W0 := h W0 h0
theorem keepRowD {w w' : World} {b : Nat} {cs : Array Value} {T : TypeId} (h : w.heap[b]? = some (.cells cs T (0, 0))) (hb : Below w.drew.heap.size w.drew w') : w'.heap[b]? = some (.cells cs T (0, 0)) := keepRow (w := w.drew) h hb
theorem S7keep {w1 w2 : World} (hb : Below w1.heap.size w1 w2) {a0 a1 a2 a3 a4 a5 a6 : Addr} {u0 u1 u2 u3 u4 u5 u6 : Value} (h : w1.cell? a0 = some u0 ∧ w1.cell? a1 = some u1 ∧ w1.cell? a2 = some u2 ∧ w1.cell? a3 = some u3 ∧ w1.cell? a4 = some u4 ∧ w1.cell? a5 = some u5 ∧ w1.cell? a6 = some u6) : w2.cell? a0 = some u0 ∧ w2.cell? a1 = some u1 ∧ w2.cell? a2 = some u2 ∧ w2.cell? a3 = some u3 ∧ w2.cell? a4 = some u4 ∧ w2.cell? a5 = some u5 ∧ w2.cell? a6 = some u6 :=
  ⟨cellKeepW hb h.1, cellKeepW hb h.2.1, cellKeepW hb h.2.2.1, cellKeepW hb h.2.2.2.1, cellKeepW hb h.2.2.2.2.1, cellKeepW hb h.2.2.2.2.2.1, cellKeepW hb h.2.2.2.2.2.2⟩
theorem room00 (s : Int) : roomF 0 0 s 0 = 0 := by
  unfold roomF sideN
  split <;> simp
set_option maxRecDepth 100000 in
set_option maxHeartbeats 6400000 in
theorem windowPlays_walk (A : Option Addr) (n c : Nat) (S : Nat → Bool) (F G K : Nat → Int) (w : World) (ha : Rd4 w A n c S F G K) (hG : Wf64 n G) : Calls Try.prog 8 #[.slice A n c] w (Yes w) := by
  have Ha := hide ha
  have HG := hide hG
  clear ha hG
  by_cases hl : 60 < n
  · have hd : decide ((60 : Int) < (n : Int)) = true := by simp; omega
    go_enter Try.func8, Try.ntmps8
    go_wp2_with fail
    refine (alive31 _).mono ?_
    rintro e w4 ⟨rfl, hb4⟩
    go_wp2_with fail
    go_ret
    exact ⟨rfl, hb4⟩
  have hd : decide ((60 : Int) < (n : Int)) = false := by simp; omega
  have Hn : Hid (n ≤ 60) := by show _ ≤ _; omega
  clear hl
  have hst := fun (W : World) (b x y : Nat) => run_store Try.prog W ⟨b, 0, none⟩ (.complex .f64 x y) .plain rfl
  have HA0 : Hid (Below w.heap.size w ((w.alloc (.cells #[.complex .f64 0 0] 52)).alloc (.cells #[.int .i64 0, .int .i64 0] 54))) := ((Below.refl _ _).alloc (Nat.le_refl _) _).alloc (by simp) _
  have A0 := hide (keepRow (heap_alloc_new w (.cells #[.complex .f64 0 0] 52)) ((Below.refl _ _).alloc (Nat.le_refl _) (.cells #[.int .i64 0, .int .i64 0] 54)))
  have A1 := hide (heap_alloc_newW (n := w.heap.size + 1) (w.alloc (.cells #[.complex .f64 0 0] 52)) (.cells #[.int .i64 0, .int .i64 0] 54) (by simp))
  go_enter Try.func8, Try.ntmps8
  go_wp2_with fail
  go_loopw [18] (fun i wr => ∃ (k : Nat) (a b : Int) (x y : Nat), k ≤ n ∧ i = .int .i64 k ∧ PV (.complex .f64 x y) a b ∧ wr.heap[w.heap.size]? = some (.cells #[.complex .f64 x y] 52 (0, 0)) ∧ wr.heap[w.heap.size + 1]? = some (.cells #[.int .i64 a, .int .i64 b] 54 (0, 0)) ∧ Below w.heap.size w wr) (fun i _ => n - (intOf i).toNat)
  case atStart => exact ⟨0, 0, 0, 0, 0, Nat.zero_le _, rfl, pv0, A0.out, A1.out, HA0.out⟩
  case round =>
    obtain ⟨k, a, b, x, y, hk, rfl, hP, hRW, hRP, hB⟩ := hrel
    have HP := hide hP
    have RWr := hide hRW
    have RPr := hide hRP
    have HB := hide hB
    have hlP := rowLt hRP
    clear hP hRW hRP hB HA0 A0 A1
    by_cases hlt : k < n
    · obtain ⟨b0, off, rfl, hc0, hc1, hc2, hc3⟩ := (Ha.out.below HB.out).at_ hlt
      have hkn : (k : Int) < (n : Int) := by omega
      have hn := Hn.out
      have HGk := hide (HG.out k hlt)
      obtain ⟨hma, hmb⟩ := PV.amW HP.out
      have Hma := hide hma
      have Hmb := hide hmb
      clear hma hmb
      have HB0 := hide (HB.out.alloc HB.out.size (.cells #[.bool (S k), .int .i64 (F k), .int .i64 (G k), .int .i64 (K k)] 56))
      have RW0 := hide (keepRow RWr.out ((Below.refl _ _).alloc (Nat.le_refl _) (.cells #[.bool (S k), .int .i64 (F k), .int .i64 (G k), .int .i64 (K k)] 56)))
      have RP0 := hide (keepRow RPr.out ((Below.refl _ _).alloc (Nat.le_refl _) (.cells #[.bool (S k), .int .i64 (F k), .int .i64 (G k), .int .i64 (K k)] 56)))
      have RS0 := hide (heap_alloc_new wr (.cells #[.bool (S k), .int .i64 (F k), .int .i64 (G k), .int .i64 (K k)] 56))
      by_cases hok : StOk (S k) a b (F k) (G k) (K k)
      · have HK := hide hok
        clear hok
        obtain ⟨s0, s1, s2, s3⟩ := row4W RS0.out
        have p0 := row1W RW0.out
        go_wp2_with fail
        refine (step_ok (S k) (F k) (G k) (K k) HP.out HK.out HGk.out.1 HGk.out.2 _).mono ?_
        rintro e w1 ⟨v1, hv1, rfl, hb1⟩
        obtain ⟨x1, y1, rfl, hx1, hy1⟩ := hv1
        have HP1 : Hid (PV (.complex .f64 x1 y1) (nA a (F k) (stN (S k) (G k))) (nB b (F k) (stN (S k) (G k)))) := ⟨x1, y1, rfl, hx1, hy1⟩
        clear hx1 hy1
        obtain ⟨na, hna⟩ : ∃ z, z = (nA a (F k) (stN (S k) (G k))) := ⟨_, rfl⟩
        obtain ⟨nb, hnb⟩ : ∃ z, z = (nB b (F k) (stN (S k) (G k))) := ⟨_, rfl⟩
        rw [← hna, ← hnb] at HP1
        have HB1 := hide (HB0.out.of hb1)
        have RW1 := hide (keepRow RW0.out hb1)
        have RP1 := hide (keepRow RP0.out hb1)
        have RS1 := hide (keepRow RS0.out hb1)
        have l1 := rowLt RS1.out
        have HB2 := hide (HB1.out.alloc HB1.out.size (.cells #[.complex .f64 x1 y1] 52))
        have RW2 := hide (keepRow RW1.out ((Below.refl _ _).alloc (Nat.le_refl _) (.cells #[.complex .f64 x1 y1] 52)))
        have RP2 := hide (keepRow RP1.out ((Below.refl _ _).alloc (Nat.le_refl _) (.cells #[.complex .f64 x1 y1] 52)))
        have RS2 := hide (keepRow RS1.out ((Below.refl _ _).alloc (Nat.le_refl _) (.cells #[.complex .f64 x1 y1] 52)))
        have RV2 := hide (heap_alloc_new w1 (.cells #[.complex .f64 x1 y1] 52))
        clear hb1 s0 s1 s2 s3 p0
        obtain ⟨s0, s1, s2, s3⟩ := row4W RS2.out
        obtain ⟨p0, p1⟩ := row2 RP2.out
        go_wp2_with fail
        refine (want_ok (S k) (F k) (G k) (K k) Hma.out Hmb.out HK.out HGk.out.1 HGk.out.2 _).mono ?_
        rintro e w2 ⟨rfl, hb2⟩
        rw [← hna, ← hnb]
        clear hna hnb
        have HB3 := hide (HB2.out.of hb2)
        have RW3 := hide (keepRow RW2.out hb2)
        have RP3 := hide (keepRow RP2.out hb2)
        have RS3 := hide (keepRow RS2.out hb2)
        have RV3 := hide (keepRow RV2.out hb2)
        have l2 := rowLt RV3.out
        have HB4 := hide (HB3.out.alloc HB3.out.size (.cells #[.int .i64 na, .int .i64 nb] 54))
        have RW4 := hide (keepRow RW3.out ((Below.refl _ _).alloc (Nat.le_refl _) (.cells #[.int .i64 na, .int .i64 nb] 54)))
        have RP4 := hide (keepRow RP3.out ((Below.refl _ _).alloc (Nat.le_refl _) (.cells #[.int .i64 na, .int .i64 nb] 54)))
        have RS4 := hide (keepRow RS3.out ((Below.refl _ _).alloc (Nat.le_refl _) (.cells #[.int .i64 na, .int .i64 nb] 54)))
        have RV4 := hide (keepRow RV3.out ((Below.refl _ _).alloc (Nat.le_refl _) (.cells #[.int .i64 na, .int .i64 nb] 54)))
        have RQ4 := hide (heap_alloc_new w2 (.cells #[.int .i64 na, .int .i64 nb] 54))
        clear hb2 s0 s1 s2 s3 p0 p1
        clear HB0 HB1 HB2 HB3 RW0 RW1 RW2 RW3 RP0 RP1 RP2 RP3 RS0 RS1 RS2 RS3 RV2 RV3
        have v0 := row1W RV4.out
        have hbt : (true != true) = false := rfl
        go_wp2_with fail
        go_quiet (fail)
        refine absV _ (fun W => W.heap[w.heap.size]? = some (.cells #[.complex .f64 x y] 52 (0, 0)) ∧ W.heap[w.heap.size + 1]? = some (.cells #[.int .i64 a, .int .i64 b] 54 (0, 0)) ∧ W.heap[wr.heap.size]? = some (.cells #[.bool (S k), .int .i64 (F k), .int .i64 (G k), .int .i64 (K k)] 56 (0, 0)) ∧ W.heap[w1.heap.size]? = some (.cells #[.complex .f64 x1 y1] 52 (0, 0)) ∧ W.heap[w2.heap.size]? = some (.cells #[.int .i64 na, .int .i64 nb] 54 (0, 0)) ∧ Below w.heap.size w W) ⟨RW4.out, RP4.out, RS4.out, RV4.out, RQ4.out, HB4.out.trans (drawn_below ⟨_, rfl⟩ _)⟩ ?_
        rintro W ⟨hW, hP4, hS4, hV4, hQ4, hB4⟩
        clear RW4 RP4 RS4 RV4 RQ4 HB4 v0
        have n1 : w.heap.size + 1 < wr.heap.size := hlP
        have n2 : wr.heap.size < w1.heap.size := l1
        have n3 : w1.heap.size < w2.heap.size := by omega
        have v0 := row1W hV4
        obtain ⟨⟨c0, f0⟩, r1⟩ := store1 hW (.complex .f64 x1 y1)
        have P1 := keepOne hP4 (grown_set W w.heap.size 0 (.complex .f64 x1 y1)) (by omega)
        have S1 := keepOne hS4 (grown_set W w.heap.size 0 (.complex .f64 x1 y1)) (by omega)
        have Q1 := keepOne hQ4 (grown_set W w.heap.size 0 (.complex .f64 x1 y1)) (by omega)
        have B1 := hB4.setCell (show w.heap.size ≤ (⟨w.heap.size, 0, none⟩ : Addr).block from Nat.le_refl _) (.complex .f64 x1 y1)
        have W1 := hide r1
        have HS1 := hide S1
        have HB1 := hide B1
        obtain ⟨q0, q1⟩ := row2 Q1
        obtain ⟨⟨g0, h0⟩, ⟨g1, h1⟩, r2⟩ := store2 P1 (.int .i64 na) (.int .i64 nb)
        have RP2 := hide r2
        clear hW hP4 hS4 hV4 hQ4 hB4 r1 P1 S1 Q1 B1 r2
        go_wp2_with fail
        have RW2 := keepOne (keepOne W1.out (grown_set _ (w.heap.size + 1) 0 (.int .i64 na)) (by omega)) (grown_set _ (w.heap.size + 1) 1 (.int .i64 nb)) (by omega)
        have RS2 := keepOne (keepOne HS1.out (grown_set _ (w.heap.size + 1) 0 (.int .i64 na)) (by omega)) (grown_set _ (w.heap.size + 1) 1 (.int .i64 nb)) (by omega)
        have HB2 := below2 HB1.out (p := w.heap.size + 1) (by omega) (.int .i64 na) (.int .i64 nb)
        refine absV _ (fun W => W.heap[w.heap.size]? = some (.cells #[.complex .f64 x1 y1] 52 (0, 0)) ∧ W.heap[w.heap.size + 1]? = some (.cells #[.int .i64 na, .int .i64 nb] 54 (0, 0)) ∧ W.heap[wr.heap.size]? = some (.cells #[.bool (S k), .int .i64 (F k), .int .i64 (G k), .int .i64 (K k)] 56 (0, 0)) ∧ Below w.heap.size w W) ⟨RW2, RP2.out, RS2, HB2⟩ ?_
        clear RW2 RS2 HB2 HB1 HS1 W1 RP2 v0 c0 f0 q0 q1 g0 h0 g1 h1
        rintro W5 ⟨hW, hP5, hS5, hB5⟩
        have RW := hide hW
        have RP := hide hP5
        have RS := hide hS5
        have HB := hide hB5
        clear hW hP5 hS5 hB5
        obtain ⟨hma, hmb⟩ := PV.amW HP1.out
        have cy1 := fun W => wRoom_any 0 (K k) HP1.out hma hmb W
        have cy2 := fun W => rRoom_any 0 (K k) hma hmb W
        have cy3 := fun W => wRoom_any 1 (K k) HP1.out hma hmb W
        have cy4 := fun W => rRoom_any 1 (K k) hma hmb W
        have cy5 := fun W => wRoom_any (F k) 7 HP1.out hma hmb W
        have cy6 := fun W => rRoom_any (F k) 7 hma hmb W
        generalize roomF na nb 0 (K k) = z1 at *
        generalize roomF na nb 1 (K k) = z2 at *
        generalize roomF na nb (F k) 7 = z3 at *
        have m1 : (z1 != z1) = false := by simp
        have m2 : (z2 != z2) = false := by simp
        have m3 : (z3 != z3) = false := by simp
        have e0 := row1W RW.out
        obtain ⟨e1, e2⟩ := row2 RP.out
        obtain ⟨e3, e4, e5, e6⟩ := row4W RS.out
        clear hma hmb
        go_region_held3 (fun w' : World => w'.cell? ⟨w.heap.size, 0, none⟩ = some (.complex .f64 x1 y1) ∧ w'.cell? ⟨w.heap.size + 1, 0, none⟩ = some (.int .i64 na) ∧ w'.cell? ⟨w.heap.size + 1, 1, none⟩ = some (.int .i64 nb) ∧ w'.cell? ⟨wr.heap.size, 0, none⟩ = some (.bool (S k)) ∧ w'.cell? ⟨wr.heap.size, 1, none⟩ = some (.int .i64 (F k)) ∧ w'.cell? ⟨wr.heap.size, 2, none⟩ = some (.int .i64 (G k)) ∧ w'.cell? ⟨wr.heap.size, 3, none⟩ = some (.int .i64 (K k)))
          ((first | exact S7keep hv6 (by assumption) | exact S7keep hv5 (by assumption) | exact S7keep hv4 (by assumption) | exact S7keep hv3 (by assumption) | exact S7keep hv2 (by assumption) | exact S7keep hv1 (by assumption) | (go_keep; done)))
          ((first
            | (go_at_call 34; (with_reducible refine (cy1 _).mono ?_); rintro e v1 ⟨rfl, hv1⟩; have HV1 := hide (HB.out.drew.of hv1); have RW1 := hide (keepRowD RW.out hv1); have RP1 := hide (keepRowD RP.out hv1))
            | (go_at_call 35; (with_reducible refine (cy2 _).mono ?_); rintro e v2 ⟨rfl, hv2⟩; have HV2 := hide (HV1.out.of hv2); have RW2 := hide (keepRow RW1.out hv2); have RP2 := hide (keepRow RP1.out hv2))
            | (go_at_call 34; (with_reducible refine (cy3 _).mono ?_); rintro e v3 ⟨rfl, hv3⟩; have HV3 := hide (HV2.out.of hv3); have RW3 := hide (keepRow RW2.out hv3); have RP3 := hide (keepRow RP2.out hv3))
            | (go_at_call 35; (with_reducible refine (cy4 _).mono ?_); rintro e v4 ⟨rfl, hv4⟩; have HV4 := hide (HV3.out.of hv4); have RW4 := hide (keepRow RW3.out hv4); have RP4 := hide (keepRow RP3.out hv4))
            | (go_at_call 34; (with_reducible refine (cy5 _).mono ?_); rintro e v5 ⟨rfl, hv5⟩; have HV5 := hide (HV4.out.of hv5); have RW5 := hide (keepRow RW4.out hv5); have RP5 := hide (keepRow RP4.out hv5))
            | (go_at_call 35; (with_reducible refine (cy6 _).mono ?_); rintro e v6 ⟨rfl, hv6⟩; have HV6 := hide (HV5.out.of hv6); have RW6 := hide (keepRow RW5.out hv6); have RP6 := hide (keepRow RP5.out hv6))))
        all_goals
          clear cy1 cy2 cy3 cy4 cy5 cy6 m1 m2 m3 e0 e1 e2 e3 e4 e5 e6
          go_wp2_with fail
          go_roundw
          case rel => exact ⟨k + 1, na, nb, x1, y1, by omega, by go_num, HP1.out, RW6.out, RP6.out, HV6.out⟩
          case measure => simp [intOf]; omega
      · have HK := hide hok
        clear hok
        obtain ⟨s0, s1, s2, s3⟩ := row4W RS0.out
        have p0 := row1W RW0.out
        go_wp2_with fail
        refine (step_no (S k) (F k) (G k) (K k) HP.out HK.out HGk.out.1 HGk.out.2 _).mono ?_
        rintro e w1 ⟨rfl, hb1⟩
        have HB1 := hide (HB0.out.of hb1)
        have RW1 := hide (keepRow RW0.out hb1)
        have RP1 := hide (keepRow RP0.out hb1)
        have RS1 := hide (keepRow RS0.out hb1)
        have l1 := rowLt RS1.out
        have HB2 := hide (HB1.out.alloc HB1.out.size (.cells #[.complex .f64 0 0] 52))
        have RW2 := hide (keepRow RW1.out ((Below.refl _ _).alloc (Nat.le_refl _) (.cells #[.complex .f64 0 0] 52)))
        have RP2 := hide (keepRow RP1.out ((Below.refl _ _).alloc (Nat.le_refl _) (.cells #[.complex .f64 0 0] 52)))
        have RS2 := hide (keepRow RS1.out ((Below.refl _ _).alloc (Nat.le_refl _) (.cells #[.complex .f64 0 0] 52)))
        have RV2 := hide (heap_alloc_new w1 (.cells #[.complex .f64 0 0] 52))
        clear hb1 s0 s1 s2 s3 p0
        obtain ⟨s0, s1, s2, s3⟩ := row4W RS2.out
        obtain ⟨p0, p1⟩ := row2 RP2.out
        go_wp2_with fail
        refine (want_no (S k) (F k) (G k) (K k) Hma.out Hmb.out HK.out HGk.out.1 HGk.out.2 _).mono ?_
        rintro e w2 ⟨rfl, hb2⟩
        have HB3 := hide (HB2.out.of hb2)
        have RW3 := hide (keepRow RW2.out hb2)
        have RP3 := hide (keepRow RP2.out hb2)
        have RS3 := hide (keepRow RS2.out hb2)
        have RV3 := hide (keepRow RV2.out hb2)
        have l2 := rowLt RV3.out
        have HB4 := hide (HB3.out.alloc HB3.out.size (.cells #[.int .i64 0, .int .i64 0] 54))
        have RW4 := hide (keepRow RW3.out ((Below.refl _ _).alloc (Nat.le_refl _) (.cells #[.int .i64 0, .int .i64 0] 54)))
        have RP4 := hide (keepRow RP3.out ((Below.refl _ _).alloc (Nat.le_refl _) (.cells #[.int .i64 0, .int .i64 0] 54)))
        have RS4 := hide (keepRow RS3.out ((Below.refl _ _).alloc (Nat.le_refl _) (.cells #[.int .i64 0, .int .i64 0] 54)))
        have RV4 := hide (keepRow RV3.out ((Below.refl _ _).alloc (Nat.le_refl _) (.cells #[.int .i64 0, .int .i64 0] 54)))
        have RQ4 := hide (heap_alloc_new w2 (.cells #[.int .i64 0, .int .i64 0] 54))
        clear hb2 s0 s1 s2 s3 p0 p1
        clear HB0 HB1 HB2 HB3 RW0 RW1 RW2 RW3 RP0 RP1 RP2 RP3 RS0 RS1 RS2 RS3 RV2 RV3
        have v0 := row1W RV4.out
        have hbt : (false != false) = false := rfl
        go_wp2_with fail
        have y1 := fun W => wRoom_any 0 0 pv0 am0 am0 W
        have y2 := fun W => wRoom_any 1 0 pv0 am0 am0 W
        rw [room00] at y1 y2
        go_region_held3 (fun w' : World => w'.cell? ⟨w1.heap.size, 0, none⟩ = some (.complex .f64 0 0))
          ((first | exact cellKeepW hv2 (by assumption) | exact cellKeepW hv1 (by assumption) | (go_keep; done)))
          ((first
            | (go_at_call 34; (with_reducible refine (y1 _).mono ?_); rintro e v1 ⟨rfl, hv1⟩; have HV1 := hide (HB4.out.drew.of hv1); have RW5 := hide (keepRowD RW4.out hv1); have RP5 := hide (keepRowD RP4.out hv1); have RS5 := hide (keepRowD RS4.out hv1))
            | (go_at_call 34; (with_reducible refine (y2 _).mono ?_); rintro e v2 ⟨rfl, hv2⟩; have HB := hide (HV1.out.of hv2); have RW := hide (keepRow RW5.out hv2); have RP := hide (keepRow RP5.out hv2); have RS := hide (keepRow RS5.out hv2))))
        all_goals
          clear y1 y2
          go_wp2_with fail
          obtain ⟨hma, hmb⟩ := PV.amW HP.out
          have cy1 := fun W => wRoom_any 0 (K k) HP.out hma hmb W
          have cy2 := fun W => rRoom_any 0 (K k) hma hmb W
          have cy3 := fun W => wRoom_any 1 (K k) HP.out hma hmb W
          have cy4 := fun W => rRoom_any 1 (K k) hma hmb W
          have cy5 := fun W => wRoom_any (F k) 7 HP.out hma hmb W
          have cy6 := fun W => rRoom_any (F k) 7 hma hmb W
          generalize roomF a b 0 (K k) = z1 at *
          generalize roomF a b 1 (K k) = z2 at *
          generalize roomF a b (F k) 7 = z3 at *
          have m1 : (z1 != z1) = false := by simp
          have m2 : (z2 != z2) = false := by simp
          have m3 : (z3 != z3) = false := by simp
          have e0 := row1W RW.out
          obtain ⟨e1, e2⟩ := row2 RP.out
          obtain ⟨e3, e4, e5, e6⟩ := row4W RS.out
          clear hma hmb
          go_region_held3 (fun w' : World => w'.cell? ⟨w.heap.size, 0, none⟩ = some (.complex .f64 x y) ∧ w'.cell? ⟨w.heap.size + 1, 0, none⟩ = some (.int .i64 a) ∧ w'.cell? ⟨w.heap.size + 1, 1, none⟩ = some (.int .i64 b) ∧ w'.cell? ⟨wr.heap.size, 0, none⟩ = some (.bool (S k)) ∧ w'.cell? ⟨wr.heap.size, 1, none⟩ = some (.int .i64 (F k)) ∧ w'.cell? ⟨wr.heap.size, 2, none⟩ = some (.int .i64 (G k)) ∧ w'.cell? ⟨wr.heap.size, 3, none⟩ = some (.int .i64 (K k)))
            ((first | exact S7keep hv6 (by assumption) | exact S7keep hv5 (by assumption) | exact S7keep hv4 (by assumption) | exact S7keep hv3 (by assumption) | exact S7keep hv2 (by assumption) | exact S7keep hv1 (by assumption) | (go_keep; done)))
            ((first
              | (go_at_call 34; (with_reducible refine (cy1 _).mono ?_); rintro e v1 ⟨rfl, hv1⟩; have HV1 := hide (HB.out.drew.of hv1); have RW1 := hide (keepRowD RW.out hv1); have RP1 := hide (keepRowD RP.out hv1))
              | (go_at_call 35; (with_reducible refine (cy2 _).mono ?_); rintro e v2 ⟨rfl, hv2⟩; have HV2 := hide (HV1.out.of hv2); have RW2 := hide (keepRow RW1.out hv2); have RP2 := hide (keepRow RP1.out hv2))
              | (go_at_call 34; (with_reducible refine (cy3 _).mono ?_); rintro e v3 ⟨rfl, hv3⟩; have HV3 := hide (HV2.out.of hv3); have RW3 := hide (keepRow RW2.out hv3); have RP3 := hide (keepRow RP2.out hv3))
              | (go_at_call 35; (with_reducible refine (cy4 _).mono ?_); rintro e v4 ⟨rfl, hv4⟩; have HV4 := hide (HV3.out.of hv4); have RW4 := hide (keepRow RW3.out hv4); have RP4 := hide (keepRow RP3.out hv4))
              | (go_at_call 34; (with_reducible refine (cy5 _).mono ?_); rintro e v5 ⟨rfl, hv5⟩; have HV5 := hide (HV4.out.of hv5); have RW5 := hide (keepRow RW4.out hv5); have RP5 := hide (keepRow RP4.out hv5))
              | (go_at_call 35; (with_reducible refine (cy6 _).mono ?_); rintro e v6 ⟨rfl, hv6⟩; have HV6 := hide (HV5.out.of hv6); have RW6 := hide (keepRow RW5.out hv6); have RP6 := hide (keepRow RP5.out hv6))))
          all_goals
            clear cy1 cy2 cy3 cy4 cy5 cy6 m1 m2 m3 e0 e1 e2 e3 e4 e5 e6
            go_wp2_with fail
            go_roundw
            case rel => exact ⟨k + 1, a, b, x, y, by omega, by go_num, HP.out, RW6.out, RP6.out, HV6.out⟩
            case measure => simp [intOf]; omega
    · obtain rfl : k = n := by omega
      go_wp2_with fail
      refine (alive31 _).mono ?_
      rintro e w4 ⟨rfl, hb4⟩
      go_wp2_with fail
      go_ret
      exact ⟨rfl, HB.out.of hb4⟩
end Go.Proofs.Ytopgcimjdlhclaa
