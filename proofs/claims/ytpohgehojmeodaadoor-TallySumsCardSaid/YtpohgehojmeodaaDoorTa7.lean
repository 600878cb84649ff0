/- Layer 29: data that come. -/
import Derived.Test.YtpohgehojmeodaaDoorTa6
import Derived.Deep.Cut
namespace Go.Proofs.YtpohgehojmeodaaDoor
set_option linter.unusedVariables false
set_option linter.unusedSimpArgs false
open Go.RowKit Go.PlainAid

def dtO (o p m l n : Int) (fin : Bool) : Value × Int :=
  if ((p != 1) || ((m == 1) && decide (0 < n))) = true then (.agg #[.int .i64 0, .int .i64 0, .int .i64 0, .int .i64 0], 32)
  else if ((m == 2) && decide (l < n)) = true then (.agg #[.int .i64 0, .int .i64 0, .int .i64 0, .int .i64 0], 31)
  else if fin = true then (.agg #[.int .i64 0, .int .i64 (if endB m (if (m == 2) = true then l - n else l) = true then 0 else 2), .int .i64 0, .int .i64 0], if endB m (if (m == 2) = true then l - n else l) = true then 31 else 0)
  else (.agg #[.int .i64 o, .int .i64 p, .int .i64 m, .int .i64 (if (m == 2) = true then l - n else l)], 0)
set_option maxRecDepth 100000 in
set_option maxHeartbeats 6400000 in
theorem data29 (o p m l n0 n : Int) (fin : Bool) (w : World) (hn : n = max n0 0) (hl : 0 ≤ l) (hl2 : l ≤ 9007199254740992) :
    Calls Tryd.prog 65 #[.agg #[.int .i64 o, .int .i64 p, .int .i64 m, .int .i64 l], .int .i64 n0, .bool fin] w fun e w' => e = .returned (.tuple #[(dtO o p m l n fin).1, .int .i64 (dtO o p m l n fin).2]) ∧ Below w.heap.size w w' := by
  have r0 := keepRow (heap_alloc_new w (.cells #[.int .i64 o, .int .i64 p, .int .i64 m, .int .i64 l] 63)) ((Below.refl _ _).alloc (Nat.le_refl _) (.cells #[.int .i64 0, .int .i64 0, .int .i64 0, .int .i64 0] 63))
  have r1 : ((w.alloc (.cells #[.int .i64 o, .int .i64 p, .int .i64 m, .int .i64 l] 63)).alloc (.cells #[.int .i64 0, .int .i64 0, .int .i64 0, .int .i64 0] 63)).heap[w.heap.size + 1]? = some (.cells #[.int .i64 0, .int .i64 0, .int .i64 0, .int .i64 0] 63 (0, 0)) := by
    have h := heap_alloc_new (w.alloc (.cells #[.int .i64 o, .int .i64 p, .int .i64 m, .int .i64 l] 63)) (.cells #[.int .i64 0, .int .i64 0, .int .i64 0, .int .i64 0] 63)
    have e : (w.alloc (.cells #[.int .i64 o, .int .i64 p, .int .i64 m, .int .i64 l] 63)).heap.size = w.heap.size + 1 := by simp
    rw [e] at h
    exact h
  have e0 : Below w.heap.size w ((w.alloc (.cells #[.int .i64 o, .int .i64 p, .int .i64 m, .int .i64 l] 63)).alloc (.cells #[.int .i64 0, .int .i64 0, .int .i64 0, .int .i64 0] 63)) := ((Below.refl w.heap.size w).alloc (Nat.le_refl _) _).alloc (by simp) _
  have R0 := hide r0
  have R1 := hide r1
  have E0 := hide e0
  clear r0 r1 e0
  obtain ⟨b1, h1⟩ : ∃ b, (p != 1) = b := ⟨_, rfl⟩
  obtain ⟨b2, h2⟩ : ∃ b, (m == 1) = b := ⟨_, rfl⟩
  obtain ⟨b3, h3⟩ : ∃ b, decide (0 < n) = b := ⟨_, rfl⟩
  obtain ⟨b4, h4⟩ : ∃ b, (m == 2) = b := ⟨_, rfl⟩
  obtain ⟨b5, h5⟩ : ∃ b, decide (l < n) = b := ⟨_, rfl⟩
  have hmx : (if n0 < 0 then (0 : Int) else n0) = n := by rw [hn]; split <;> omega
  have hn0 : 0 ≤ n := by omega
  have HD : Hid (dtO o p m l n fin = if (b1 || (b2 && b3)) = true then (.agg #[.int .i64 0, .int .i64 0, .int .i64 0, .int .i64 0], 32) else if (b4 && b5) = true then (.agg #[.int .i64 0, .int .i64 0, .int .i64 0, .int .i64 0], 31) else if fin = true then (.agg #[.int .i64 0, .int .i64 (if endB m (if b4 = true then l - n else l) = true then 0 else 2), .int .i64 0, .int .i64 0], if endB m (if b4 = true then l - n else l) = true then 31 else 0) else (.agg #[.int .i64 o, .int .i64 p, .int .i64 m, .int .i64 (if b4 = true then l - n else l)], 0)) := by
    show _ = _
    unfold dtO
    rw [h1, h2, h3, h4, h5]
  obtain ⟨rv, hrv⟩ : ∃ v, dtO o p m l n fin = v := ⟨_, rfl⟩
  have HV : Hid (rv = if (b1 || (b2 && b3)) = true then (.agg #[.int .i64 0, .int .i64 0, .int .i64 0, .int .i64 0], 32) else if (b4 && b5) = true then (.agg #[.int .i64 0, .int .i64 0, .int .i64 0, .int .i64 0], 31) else if fin = true then (.agg #[.int .i64 0, .int .i64 (if endB m (if b4 = true then l - n else l) = true then 0 else 2), .int .i64 0, .int .i64 0], if endB m (if b4 = true then l - n else l) = true then 31 else 0) else (.agg #[.int .i64 o, .int .i64 p, .int .i64 m, .int .i64 (if b4 = true then l - n else l)], 0)) := by rw [← hrv]; exact HD.out
  rw [hrv]
  clear HD hn hrv
  have Hp : Hid (w.heap.size ≤ w.heap.size + 1) := Nat.le_succ _
  have Hne : Hid (w.heap.size + 1 ≠ w.heap.size) := by show _ ≠ _; omega
  go_enter Tryd.func65, Tryd.ntmps65
  go_upto_region 1 with (fail)
  generalize (w.alloc (.cells #[.int .i64 o, .int .i64 p, .int .i64 m, .int .i64 l] 63)).alloc (.cells #[.int .i64 0, .int .i64 0, .int .i64 0, .int .i64 0] 63) = W0 at *
  go_upto_region 2 with (fail)
  try rw [hmx]
  clear hmx
  obtain ⟨c0, c1, c2, c3⟩ := row4m R0.out
  cases b1 with
  | true =>
    clear h2 h3 h4 h5
    obtain ⟨⟨k0, f0⟩, ⟨k1, f1⟩, ⟨k2, f2⟩, ⟨k3, f3⟩, r5⟩ := store4m R1.out (.int .i64 0) (.int .i64 0) (.int .i64 0) (.int .i64 0)
    have RR := hide r5
    have EE := hide (below4m E0.out Hp.out (.int .i64 0) (.int .i64 0) (.int .i64 0) (.int .i64 0))
    clear r5
    go_wp2_with fail
    obtain ⟨g0, g1, g2, g3⟩ := row4m RR.out
    refine bodyPost_ret (v := .tuple #[.agg #[.int .i64 0, .int .i64 0, .int .i64 0, .int .i64 0], .int .i64 32]) ?_ rfl ⟨by first | (rw [HV.out]; done) | (rw [HV.out]; rfl), EE.out⟩
    rw [results_cell_tmp rfl]
    go_simp
  | false =>
    cases b2 with
    | true =>
      cases b3 with
      | true =>
        clear h4 h5
        obtain ⟨⟨k0, f0⟩, ⟨k1, f1⟩, ⟨k2, f2⟩, ⟨k3, f3⟩, r5⟩ := store4m R1.out (.int .i64 0) (.int .i64 0) (.int .i64 0) (.int .i64 0)
        have RR := hide r5
        have EE := hide (below4m E0.out Hp.out (.int .i64 0) (.int .i64 0) (.int .i64 0) (.int .i64 0))
        clear r5
        go_wp2_with fail
        obtain ⟨g0, g1, g2, g3⟩ := row4m RR.out
        refine bodyPost_ret (v := .tuple #[.agg #[.int .i64 0, .int .i64 0, .int .i64 0, .int .i64 0], .int .i64 32]) ?_ rfl ⟨by first | (rw [HV.out]; done) | (rw [HV.out]; rfl), EE.out⟩
        rw [results_cell_tmp rfl]
        go_simp
      | false =>
        cases b4 with
        | true =>
          cases b5 with
          | true =>
            obtain ⟨⟨k0, f0⟩, ⟨k1, f1⟩, ⟨k2, f2⟩, ⟨k3, f3⟩, r5⟩ := store4m R1.out (.int .i64 0) (.int .i64 0) (.int .i64 0) (.int .i64 0)
            have RR := hide r5
            have EE := hide (below4m E0.out Hp.out (.int .i64 0) (.int .i64 0) (.int .i64 0) (.int .i64 0))
            clear r5
            go_wp2_with fail
            obtain ⟨g0, g1, g2, g3⟩ := row4m RR.out
            refine bodyPost_ret (v := .tuple #[.agg #[.int .i64 0, .int .i64 0, .int .i64 0, .int .i64 0], .int .i64 31]) ?_ rfl ⟨by first | (rw [HV.out]; done) | (rw [HV.out]; rfl), EE.out⟩
            rw [results_cell_tmp rfl]
            go_simp
          | false =>
            have hln : n ≤ l := by have := of_decide_eq_false h5; omega
            have hwr : IntKind.i64.wrap (l - n) = l - n := IntWalk.i64_in _ (by omega)
            have fz3 := frozenRow R0.out 3
            have q0 := setRow W0 w.heap.size 3 (.int .i64 (l - n)) R0.out
            simp only [List.setIfInBounds_toArray, List.set_cons_zero, List.set_cons_succ] at q0
            have Q0 := hide q0
            have Q1 := hide ((Below.heap_setCell W0 ⟨w.heap.size, 3, none⟩ (.int .i64 (l - n)) _ Hne.out).trans R1.out)
            have E1 : Hid (Below w.heap.size w (W0.setCell ⟨w.heap.size, 3, none⟩ (.int .i64 (l - n)))) := E0.out.setCell (Nat.le_refl _) _
            clear q0
            obtain ⟨y0, y1, y2, y3⟩ := row4m Q0.out
            cases fin with
            | true =>
              go_wp2_with fail
              refine (end29 o p m (l - n) _).mono ?_
              obtain ⟨x, hx⟩ : ∃ b, endB m (l - n) = b := ⟨_, rfl⟩
              have HV2 : Hid (rv = (.agg #[.int .i64 0, .int .i64 (if x = true then 0 else 2), .int .i64 0, .int .i64 0], if x = true then 31 else 0)) := by rw [← hx]; exact HV.out
              rw [hx]
              clear hx
              have HV := HV2
              clear HV2
              obtain ⟨y2, hy2⟩ : ∃ y : Int, (if x = true then 0 else 2) = y := ⟨_, rfl⟩
              obtain ⟨y3, hy3⟩ : ∃ y : Int, (if x = true then 31 else 0) = y := ⟨_, rfl⟩
              rw [hy2, hy3] at HV ⊢
              clear hy2 hy3
              rintro e w4 ⟨rfl, hb4⟩
              obtain ⟨⟨k0, f0⟩, ⟨k1, f1⟩, ⟨k2, f2⟩, ⟨k3, f3⟩, r5⟩ := store4m (keepRow Q1.out hb4) (.int .i64 0) (.int .i64 y2) (.int .i64 0) (.int .i64 0)
              have RR := hide r5
              have EE := hide (below4m (E1.out.of hb4) Hp.out (.int .i64 0) (.int .i64 y2) (.int .i64 0) (.int .i64 0))
              clear r5
              go_wp2_with fail
              obtain ⟨g0, g1, g2, g3⟩ := row4m RR.out
              refine bodyPost_ret (v := .tuple #[.agg #[.int .i64 0, .int .i64 y2, .int .i64 0, .int .i64 0], .int .i64 y3]) ?_ rfl ⟨by first | (rw [HV.out]; done) | (rw [HV.out]; rfl), EE.out⟩
              rw [results_cell_tmp rfl]
              go_simp
            | false =>
              obtain ⟨⟨k0, f0⟩, ⟨k1, f1⟩, ⟨k2, f2⟩, ⟨k3, f3⟩, r5⟩ := store4m Q1.out (.int .i64 o) (.int .i64 p) (.int .i64 m) (.int .i64 (l - n))
              have RR := hide r5
              have EE := hide (below4m E1.out Hp.out (.int .i64 o) (.int .i64 p) (.int .i64 m) (.int .i64 (l - n)))
              clear r5
              go_wp2_with fail
              obtain ⟨g0, g1, g2, g3⟩ := row4m RR.out
              refine bodyPost_ret (v := .tuple #[.agg #[.int .i64 o, .int .i64 p, .int .i64 m, .int .i64 (l - n)], .int .i64 0]) ?_ rfl ⟨by first | (rw [HV.out]; done) | (rw [HV.out]; rfl), EE.out⟩
              rw [results_cell_tmp rfl]
              go_simp
        | false =>
          clear h5
          cases fin with
          | true =>
            go_wp2_with fail
            refine (end29 o p m l _).mono ?_
            obtain ⟨x, hx⟩ : ∃ b, endB m l = b := ⟨_, rfl⟩
            have HV2 : Hid (rv = (.agg #[.int .i64 0, .int .i64 (if x = true then 0 else 2), .int .i64 0, .int .i64 0], if x = true then 31 else 0)) := by rw [← hx]; exact HV.out
            rw [hx]
            clear hx
            have HV := HV2
            clear HV2
            obtain ⟨y2, hy2⟩ : ∃ y : Int, (if x = true then 0 else 2) = y := ⟨_, rfl⟩
            obtain ⟨y3, hy3⟩ : ∃ y : Int, (if x = true then 31 else 0) = y := ⟨_, rfl⟩
            rw [hy2, hy3] at HV ⊢
            clear hy2 hy3
            rintro e w4 ⟨rfl, hb4⟩
            obtain ⟨⟨k0, f0⟩, ⟨k1, f1⟩, ⟨k2, f2⟩, ⟨k3, f3⟩, r5⟩ := store4m (keepRow R1.out hb4) (.int .i64 0) (.int .i64 y2) (.int .i64 0) (.int .i64 0)
            have RR := hide r5
            have EE := hide (below4m (E0.out.of hb4) Hp.out (.int .i64 0) (.int .i64 y2) (.int .i64 0) (.int .i64 0))
            clear r5
            go_wp2_with fail
            obtain ⟨g0, g1, g2, g3⟩ := row4m RR.out
            refine bodyPost_ret (v := .tuple #[.agg #[.int .i64 0, .int .i64 y2, .int .i64 0, .int .i64 0], .int .i64 y3]) ?_ rfl ⟨by first | (rw [HV.out]; done) | (rw [HV.out]; rfl), EE.out⟩
            rw [results_cell_tmp rfl]
            go_simp
          | false =>
            obtain ⟨⟨k0, f0⟩, ⟨k1, f1⟩, ⟨k2, f2⟩, ⟨k3, f3⟩, r5⟩ := store4m R1.out (.int .i64 o) (.int .i64 p) (.int .i64 m) (.int .i64 l)
            have RR := hide r5
            have EE := hide (below4m E0.out Hp.out (.int .i64 o) (.int .i64 p) (.int .i64 m) (.int .i64 l))
            clear r5
            go_wp2_with fail
            obtain ⟨g0, g1, g2, g3⟩ := row4m RR.out
            refine bodyPost_ret (v := .tuple #[.agg #[.int .i64 o, .int .i64 p, .int .i64 m, .int .i64 l], .int .i64 0]) ?_ rfl ⟨by first | (rw [HV.out]; done) | (rw [HV.out]; rfl), EE.out⟩
            rw [results_cell_tmp rfl]
            go_simp
    | false =>
      cases b4 with
      | true =>
        cases b5 with
        | true =>
          obtain ⟨⟨k0, f0⟩, ⟨k1, f1⟩, ⟨k2, f2⟩, ⟨k3, f3⟩, r5⟩ := store4m R1.out (.int .i64 0) (.int .i64 0) (.int .i64 0) (.int .i64 0)
          have RR := hide r5
          have EE := hide (below4m E0.out Hp.out (.int .i64 0) (.int .i64 0) (.int .i64 0) (.int .i64 0))
          clear r5
          go_wp2_with fail
          obtain ⟨g0, g1, g2, g3⟩ := row4m RR.out
          refine bodyPost_ret (v := .tuple #[.agg #[.int .i64 0, .int .i64 0, .int .i64 0, .int .i64 0], .int .i64 31]) ?_ rfl ⟨by first | (rw [HV.out]; done) | (rw [HV.out]; rfl), EE.out⟩
          rw [results_cell_tmp rfl]
          go_simp
        | false =>
          have hln : n ≤ l := by have := of_decide_eq_false h5; omega
          have hwr : IntKind.i64.wrap (l - n) = l - n := IntWalk.i64_in _ (by omega)
          have fz3 := frozenRow R0.out 3
          have q0 := setRow W0 w.heap.size 3 (.int .i64 (l - n)) R0.out
          simp only [List.setIfInBounds_toArray, List.set_cons_zero, List.set_cons_succ] at q0
          have Q0 := hide q0
          have Q1 := hide ((Below.heap_setCell W0 ⟨w.heap.size, 3, none⟩ (.int .i64 (l - n)) _ Hne.out).trans R1.out)
          have E1 : Hid (Below w.heap.size w (W0.setCell ⟨w.heap.size, 3, none⟩ (.int .i64 (l - n)))) := E0.out.setCell (Nat.le_refl _) _
          clear q0
          obtain ⟨y0, y1, y2, y3⟩ := row4m Q0.out
          cases fin with
          | true =>
            go_wp2_with fail
            refine (end29 o p m (l - n) _).mono ?_
            obtain ⟨x, hx⟩ : ∃ b, endB m (l - n) = b := ⟨_, rfl⟩
            have HV2 : Hid (rv = (.agg #[.int .i64 0, .int .i64 (if x = true then 0 else 2), .int .i64 0, .int .i64 0], if x = true then 31 else 0)) := by rw [← hx]; exact HV.out
            rw [hx]
            clear hx
            have HV := HV2
            clear HV2
            obtain ⟨y2, hy2⟩ : ∃ y : Int, (if x = true then 0 else 2) = y := ⟨_, rfl⟩
            obtain ⟨y3, hy3⟩ : ∃ y : Int, (if x = true then 31 else 0) = y := ⟨_, rfl⟩
            rw [hy2, hy3] at HV ⊢
            clear hy2 hy3
            rintro e w4 ⟨rfl, hb4⟩
            obtain ⟨⟨k0, f0⟩, ⟨k1, f1⟩, ⟨k2, f2⟩, ⟨k3, f3⟩, r5⟩ := store4m (keepRow Q1.out hb4) (.int .i64 0) (.int .i64 y2) (.int .i64 0) (.int .i64 0)
            have RR := hide r5
            have EE := hide (below4m (E1.out.of hb4) Hp.out (.int .i64 0) (.int .i64 y2) (.int .i64 0) (.int .i64 0))
            clear r5
            go_wp2_with fail
            obtain ⟨g0, g1, g2, g3⟩ := row4m RR.out
            refine bodyPost_ret (v := .tuple #[.agg #[.int .i64 0, .int .i64 y2, .int .i64 0, .int .i64 0], .int .i64 y3]) ?_ rfl ⟨by first | (rw [HV.out]; done) | (rw [HV.out]; rfl), EE.out⟩
            rw [results_cell_tmp rfl]
            go_simp
          | false =>
            obtain ⟨⟨k0, f0⟩, ⟨k1, f1⟩, ⟨k2, f2⟩, ⟨k3, f3⟩, r5⟩ := store4m Q1.out (.int .i64 o) (.int .i64 p) (.int .i64 m) (.int .i64 (l - n))
            have RR := hide r5
            have EE := hide (below4m E1.out Hp.out (.int .i64 o) (.int .i64 p) (.int .i64 m) (.int .i64 (l - n)))
            clear r5
            go_wp2_with fail
            obtain ⟨g0, g1, g2, g3⟩ := row4m RR.out
            refine bodyPost_ret (v := .tuple #[.agg #[.int .i64 o, .int .i64 p, .int .i64 m, .int .i64 (l - n)], .int .i64 0]) ?_ rfl ⟨by first | (rw [HV.out]; done) | (rw [HV.out]; rfl), EE.out⟩
            rw [results_cell_tmp rfl]
            go_simp
      | false =>
        clear h5
        cases fin with
        | true =>
          go_wp2_with fail
          refine (end29 o p m l _).mono ?_
          obtain ⟨x, hx⟩ : ∃ b, endB m l = b := ⟨_, rfl⟩
          have HV2 : Hid (rv = (.agg #[.int .i64 0, .int .i64 (if x = true then 0 else 2), .int .i64 0, .int .i64 0], if x = true then 31 else 0)) := by rw [← hx]; exact HV.out
          rw [hx]
          clear hx
          have HV := HV2
          clear HV2
          obtain ⟨y2, hy2⟩ : ∃ y : Int, (if x = true then 0 else 2) = y := ⟨_, rfl⟩
          obtain ⟨y3, hy3⟩ : ∃ y : Int, (if x = true then 31 else 0) = y := ⟨_, rfl⟩
          rw [hy2, hy3] at HV ⊢
          clear hy2 hy3
          rintro e w4 ⟨rfl, hb4⟩
          obtain ⟨⟨k0, f0⟩, ⟨k1, f1⟩, ⟨k2, f2⟩, ⟨k3, f3⟩, r5⟩ := store4m (keepRow R1.out hb4) (.int .i64 0) (.int .i64 y2) (.int .i64 0) (.int .i64 0)
          have RR := hide r5
          have EE := hide (below4m (E0.out.of hb4) Hp.out (.int .i64 0) (.int .i64 y2) (.int .i64 0) (.int .i64 0))
          clear r5
          go_wp2_with fail
          obtain ⟨g0, g1, g2, g3⟩ := row4m RR.out
          refine bodyPost_ret (v := .tuple #[.agg #[.int .i64 0, .int .i64 y2, .int .i64 0, .int .i64 0], .int .i64 y3]) ?_ rfl ⟨by first | (rw [HV.out]; done) | (rw [HV.out]; rfl), EE.out⟩
          rw [results_cell_tmp rfl]
          go_simp
        | false =>
          obtain ⟨⟨k0, f0⟩, ⟨k1, f1⟩, ⟨k2, f2⟩, ⟨k3, f3⟩, r5⟩ := store4m R1.out (.int .i64 o) (.int .i64 p) (.int .i64 m) (.int .i64 l)
          have RR := hide r5
          have EE := hide (below4m E0.out Hp.out (.int .i64 o) (.int .i64 p) (.int .i64 m) (.int .i64 l))
          clear r5
          go_wp2_with fail
          obtain ⟨g0, g1, g2, g3⟩ := row4m RR.out
          refine bodyPost_ret (v := .tuple #[.agg #[.int .i64 o, .int .i64 p, .int .i64 m, .int .i64 l], .int .i64 0]) ?_ rfl ⟨by first | (rw [HV.out]; done) | (rw [HV.out]; rfl), EE.out⟩
          rw [results_cell_tmp rfl]
          go_simp
end Go.Proofs.YtpohgehojmeodaaDoor
