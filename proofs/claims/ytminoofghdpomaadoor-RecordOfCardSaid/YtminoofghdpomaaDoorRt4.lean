/- Layer 41: the example; what is noted of a frame. -/
import Derived.Test.YtminoofghdpomaaDoorRt3
namespace Go.Proofs.YtminoofghdpomaaDoor
set_option linter.unusedVariables false
set_option linter.unusedSimpArgs false
open Go.RowKit Go.PlainAid

def Yes41 (w : World) (e : Ending) (w' : World) : Prop := e = .returned (.bool true) ∧ Below w.heap.size w w'
theorem ex_rc : RcP 0 1 5 1 12 1 := by decide
theorem ex_text : rcT 0 1 5 1 12 1 = ⟨#[102, 114, 97, 109, 101, 32, 99, 108, 105, 101, 110, 116, 32, 72, 69, 65, 68, 69, 82, 83, 32, 53, 32, 49, 32, 49, 50, 32, 97, 108, 108, 111, 119, 101, 100]⟩ := by kernel_rfl
set_option maxRecDepth 20000 in
set_option maxHeartbeats 3200000 in
theorem alive41 (w : World) (hN : NmW w) (hP : PowW w) : Calls Tryd.prog 9 #[] w (Yes41 w) := by
  have K0 := hide (ktext41_yes 0 1 5 1 12 1 w ex_rc hN hP)
  rw [ex_text] at K0
  clear hN hP
  go_enter Tryd.func9, Tryd.ntmps9
  go_wp2_with fail
  refine K0.out.mono ?_
  rintro e w1 ⟨rfl, hb⟩
  have HB := hide hb
  clear hb
  have k1 := hide (fun W => side41 1 W)
  have k2 := hide (fun W => side41 2 W)
  have k3 := hide (fun W => kind41 4 W)
  have k4 := hide (fun W => kind41 0 W)
  rw [show sideS 1 = ⟨#[115, 101, 114, 118, 101, 114]⟩ by decide] at k1
  rw [show sideS 2 = ⟨#[]⟩ by decide] at k2
  rw [show kindS 4 = ⟨#[108, 105, 109, 105, 116, 101, 100]⟩ by decide] at k3
  rw [show kindS 0 = ⟨#[]⟩ by decide] at k4
  go_wp2_with (first
    | (go_at_call 15; with_reducible refine (k1.out _).mono ?_; rintro e w2 ⟨rfl, rfl⟩)
    | (go_at_call 15; with_reducible refine (k2.out _).mono ?_; rintro e w2 ⟨rfl, rfl⟩)
    | (go_at_call 16; with_reducible refine (k3.out _).mono ?_; rintro e w2 ⟨rfl, rfl⟩)
    | (go_at_call 16; with_reducible refine (k4.out _).mono ?_; rintro e w2 ⟨rfl, rfl⟩)
    | fail)
  go_ret
  exact ⟨rfl, HB.out⟩
theorem rkinds41 (w : World) : Calls Tryd.prog 14 #[] w fun e w' => e = .returned (.slice (some ⟨w.heap.size, 0, none⟩) 4 4) ∧ w' = w.alloc (.cells #[.string ⟨#[97, 108, 108, 111, 119, 101, 100]⟩, .string ⟨#[105, 103, 110, 111, 114, 101, 100]⟩, .string ⟨#[114, 101, 106, 101, 99, 116, 101, 100]⟩, .string ⟨#[108, 105, 109, 105, 116, 101, 100]⟩] 9) := by
  go_enter Tryd.func14, Tryd.ntmps14
  go_wp2_with fail
  go_ret
  exact ⟨rfl, rfl⟩
/-- The boxes of the two arguments, and that nothing old is written. -/
def OfW (w : World) (q : Nat) (C0 C1 : Array Value) (T0 T1 : TypeId) (W : World) : Prop := W.heap[q]? = some (.cells C0 T0 (0, 0)) ∧ W.heap[q + 1]? = some (.cells C1 T1 (0, 0)) ∧ Below q w W
theorem OfW.next {w : World} {q : Nat} {C0 C1 : Array Value} {T0 T1 : TypeId} {W v : World} (h : OfW w q C0 C1 T0 T1 W) (hv : Below W.heap.size W v) : OfW w q C0 C1 T0 T1 v :=
  ⟨keepRow h.1 hv, keepRow h.2.1 hv, h.2.2.trans (hv.mono (Nat.le_of_lt (rowLt h.1)))⟩
theorem OfW.drew {w : World} {q : Nat} {C0 C1 : Array Value} {T0 T1 : TypeId} {W : World} (h : OfW w q C0 C1 T0 T1 W) : OfW w q C0 C1 T0 T1 W.drew := ⟨h.1, h.2.1, h.2.2.drew⟩
set_option maxRecDepth 20000 in
set_option maxHeartbeats 12800000 in
theorem of_walk41 (a t fl st : Int) (rs : Bool) (A : Option Addr) (n c : Nat) (k : Int) (A1 A2 A3 : Option Addr) (n1 c1 n2 c2 n3 c3 : Nat) (w : World) (hN : NmW w) (hP : PowW w) (hk : -9223372036854775808 ≤ k ∧ k ≤ 9223372036854775807) :
    Calls Tryd.prog 5 #[.agg #[.int .i64 a, .int .i64 t, .int .i64 fl, .int .i64 st, .bool rs, .slice A n c], .agg #[.int .i64 k, .slice A1 n1 c1, .slice A2 n2 c2, .slice A3 n3 c3]] w (Yes41 w) := by
  have HN := hide hN
  have HP := hide hP
  clear hN hP
  have HW : Hid (OfW w w.heap.size #[.int .i64 a, .int .i64 t, .int .i64 fl, .int .i64 st, .bool rs, .slice A n c] #[.int .i64 k, .slice A1 n1 c1, .slice A2 n2 c2, .slice A3 n3 c3] 35 40 ((w.alloc (.cells #[.int .i64 a, .int .i64 t, .int .i64 fl, .int .i64 st, .bool rs, .slice A n c] 35)).alloc (.cells #[.int .i64 k, .slice A1 n1 c1, .slice A2 n2 c2, .slice A3 n3 c3] 40))) := by
    have r0 := heap_alloc_new w (.cells #[.int .i64 a, .int .i64 t, .int .i64 fl, .int .i64 st, .bool rs, .slice A n c] 35)
    have b0 : Below w.heap.size w (w.alloc (.cells #[.int .i64 a, .int .i64 t, .int .i64 fl, .int .i64 st, .bool rs, .slice A n c] 35)) := (Below.refl _ _).alloc (Nat.le_refl _) _
    have r1 := heap_alloc_new (w.alloc (.cells #[.int .i64 a, .int .i64 t, .int .i64 fl, .int .i64 st, .bool rs, .slice A n c] 35)) (.cells #[.int .i64 k, .slice A1 n1 c1, .slice A2 n2 c2, .slice A3 n3 c3] 40)
    have z1 : (w.alloc (.cells #[.int .i64 a, .int .i64 t, .int .i64 fl, .int .i64 st, .bool rs, .slice A n c] 35)).heap.size = w.heap.size + 1 := by simp
    have b1 : Below (w.alloc (.cells #[.int .i64 a, .int .i64 t, .int .i64 fl, .int .i64 st, .bool rs, .slice A n c] 35)).heap.size (w.alloc (.cells #[.int .i64 a, .int .i64 t, .int .i64 fl, .int .i64 st, .bool rs, .slice A n c] 35)) ((w.alloc (.cells #[.int .i64 a, .int .i64 t, .int .i64 fl, .int .i64 st, .bool rs, .slice A n c] 35)).alloc (.cells #[.int .i64 k, .slice A1 n1 c1, .slice A2 n2 c2, .slice A3 n3 c3] 40)) := (Below.refl _ _).alloc (Nat.le_refl _) _
    rw [z1] at r1
    exact ⟨keepRow r0 b1, r1, b0.of b1⟩
  obtain ⟨r0, r1, r2, r3, r4, r5⟩ := row6R HW.out.1
  obtain ⟨o0, o1, o2, o3⟩ := row4R HW.out.2.1
  by_cases hbig : 2000 < n
  · have t1 : decide (2000 < n) = true := decide_eq_true hbig
    have t2 : decide ((2000 : Int) < (n : Int)) = true := decide_eq_true (by omega)
    clear hbig
    go_enter Tryd.func5, Tryd.ntmps5
    go_wp2_with fail
    refine (alive41 _ (HN.out.below HW.out.2.2) (HP.out.below HW.out.2.2)).mono ?_
    rintro e w9 ⟨rfl, hb⟩
    have HB := hide (HW.out.2.2.of hb)
    clear hb
    go_wp2_with fail
    go_ret
    exact ⟨rfl, HB.out⟩
  have t1 : decide (2000 < n) = false := decide_eq_false hbig
  have t2 : decide ((2000 : Int) < (n : Int)) = false := decide_eq_false (by omega)
  clear hbig
  go_enter Tryd.func5, Tryd.ntmps5
  go_wp2_with fail
  generalize (w.alloc (.cells #[.int .i64 a, .int .i64 t, .int .i64 fl, .int .i64 st, .bool rs, .slice A n c] 35)).alloc (.cells #[.int .i64 k, .slice A1 n1 c1, .slice A2 n2 c2, .slice A3 n3 c3] 40) = W0 at *
  refine (of41 a t fl st rs A n c k _ _ _ _).mono ?_
  rintro e w1 ⟨rfl, hb⟩
  have HW1 := hide (HW.out.next hb)
  clear hb r0 r1 r2 r3 r4 r5 o0 o1 o2 o3
  have HX := hide (heap_alloc_new w1 (.cells #[.int .i64 a, .int .i64 t, .int .i64 fl, .int .i64 st, .int .i64 n, .int .i64 k] 23))
  have HW2 := hide (HW1.out.next ((Below.refl _ _).alloc (Nat.le_refl _) (.cells #[.int .i64 a, .int .i64 t, .int .i64 fl, .int .i64 st, .int .i64 n, .int .i64 k] 23)))
  go_upto_region 4 with (fail)
  generalize w1.alloc (.cells #[.int .i64 a, .int .i64 t, .int .i64 fl, .int .i64 st, .int .i64 n, .int .i64 k] 23) = W2 at *
  generalize w1.heap.size = xq at *
  clear HW HW1
  obtain ⟨r0, r1, r2, r3, r4, r5⟩ := row6R HW2.out.1
  obtain ⟨o0, o1, o2, o3⟩ := row4R HW2.out.2.1
  obtain ⟨x0, x1, x2, x3, x4, x5⟩ := row6R HX.out
  by_cases ha0 : a = 0
  · subst ha0
    have KS := hide (fun W => side41 0 W)
    rw [show sideS 0 = ⟨#[99, 108, 105, 101, 110, 116]⟩ by decide] at KS
    rcases (show k = 1 ∨ k = 2 ∨ k = 3 ∨ k = 4 ∨ k < 1 ∨ 4 < k by omega) with rfl | rfl | rfl | rfl | hk1 | hk2
    · have KK := hide (fun W => kind41 1 W)
      rw [show kindS 1 = ⟨#[97, 108, 108, 111, 119, 101, 100]⟩ by decide] at KK
      have wz : IntKind.i64.wrap 0 = 0 := rfl
      go_wp2_with fail
      refine wp_region_held_drew (S := OfW w w.heap.size #[.int .i64 0, .int .i64 t, .int .i64 fl, .int .i64 st, .bool rs, .slice A n c] #[.int .i64 1, .slice A1 n1 c1, .slice A2 n2 c2, .slice A3 n3 c3] 35 40) (by kernel_rfl) HW2.out.drew (fun hHeld => ?_)
      refine wpAnyH_take (i := 1) (oi := ⟨some 31, .fieldAddr _ (.tmp 3) 0, _, _, _, _⟩) (v := ?vv1) rfl (by kernel_rfl) (by kernel_rfl) (by kernel_rfl) (fun _ _ _ h => h) (Or.inl ⟨by rfl, ?hy1⟩) (by assumption) ?_
      case hy1 =>
        intro w' hSw
        obtain ⟨s0, _, _, _⟩ := row4R hSw.2.1
        go_simp
        try with_reducible rfl
      try simp only [Act.put, List.setIfInBounds_toArray, List.set_cons_zero, List.set_cons_succ]
      refine wpAnyH_take (i := 2) (oi := ⟨some 32, .load _ (.tmp 31), _, _, _, _⟩) (v := ?vv2) rfl (by kernel_rfl) (by kernel_rfl) (by kernel_rfl) (fun _ _ _ h => h) (Or.inl ⟨by rfl, ?hy2⟩) (by assumption) ?_
      case hy2 =>
        intro w' hSw
        obtain ⟨s0, _, _, _⟩ := row4R hSw.2.1
        go_simp
        try with_reducible rfl
      try simp only [Act.put, List.setIfInBounds_toArray, List.set_cons_zero, List.set_cons_succ]
      refine wpAnyH_take (i := 3) (oi := ⟨some 33, .binOp .sub _ (.tmp 32) (.const (.int .i64 1)) _, _, _, _, _⟩) (v := ?vv3) rfl (by kernel_rfl) (by kernel_rfl) (by kernel_rfl) (fun _ _ _ h => h) (Or.inl ⟨by rfl, ?hy3⟩) (by assumption) ?_
      case hy3 =>
        intro w' hSw
        obtain ⟨s0, _, _, _⟩ := row4R hSw.2.1
        go_simp
        try with_reducible rfl
      try simp only [Act.put, List.setIfInBounds_toArray, List.set_cons_zero, List.set_cons_succ]
      refine wpAnyH_ready (rs := [0]) (by kernel_rfl) (by simp) ?_
      refine AllReadyH.cons (o := ⟨some 30, _, _, _, _, _⟩) rfl (fun K hK => ?_) AllReadyH.nil
      go_simp
      refine (rkinds41 _).mono ?_
      rintro e v1 ⟨rfl, rfl⟩
      have hv : Below W2.drew.heap.size W2.drew (W2.drew.alloc (.cells #[.string ⟨#[97, 108, 108, 111, 119, 101, 100]⟩, .string ⟨#[105, 103, 110, 111, 114, 101, 100]⟩, .string ⟨#[114, 101, 106, 101, 99, 116, 101, 100]⟩, .string ⟨#[108, 105, 109, 105, 116, 101, 100]⟩] 9)) := (Below.refl _ _).alloc (Nat.le_refl _) _
      refine hK.out _ _ (OfW.next (by assumption) hv) (fun hHeld2 => ?_)
      clear hK K hHeld
      have hHeld := hHeld2
      clear hHeld2
      have RK := heap_alloc_new W2.drew (.cells #[.string ⟨#[97, 108, 108, 111, 119, 101, 100]⟩, .string ⟨#[105, 103, 110, 111, 114, 101, 100]⟩, .string ⟨#[114, 101, 106, 101, 99, 116, 101, 100]⟩, .string ⟨#[108, 105, 109, 105, 116, 101, 100]⟩] 9)
      have HX3 := keepRow (show W2.drew.heap[xq]? = _ from HX.out) hv
      generalize (W2.drew.alloc (.cells #[.string ⟨#[97, 108, 108, 111, 119, 101, 100]⟩, .string ⟨#[105, 103, 110, 111, 114, 101, 100]⟩, .string ⟨#[114, 101, 106, 101, 99, 116, 101, 100]⟩, .string ⟨#[108, 105, 109, 105, 116, 101, 100]⟩] 9)) = W3 at *
      generalize W2.drew.heap.size = kq at *
      obtain ⟨g0, g1, g2, g3⟩ := row4R RK
      clear hv
      try simp only [Act.put, List.setIfInBounds_toArray, List.set_cons_zero, List.set_cons_succ]
      refine wpAnyH_take (i := 4) (oi := ⟨some 34, .indexAddr _ (.tmp 30) (.tmp 33), _, _, _, _⟩) (v := ?vv4) rfl (by kernel_rfl) (by kernel_rfl) (by kernel_rfl) (fun _ _ _ h => h) (Or.inl ⟨by rfl, ?hy4⟩) (by assumption) ?_
      case hy4 =>
        intro w' hSw
        skip
        go_simp
        try with_reducible rfl
      try simp only [Act.put, List.setIfInBounds_toArray, List.set_cons_zero, List.set_cons_succ]
      refine wpAnyH_ready (rs := [5]) (by kernel_rfl) (by simp) ?_
      refine AllReadyH.cons (o := ⟨some 35, _, _, _, _, _⟩) rfl (fun K hK => ?_) AllReadyH.nil
      go_simp
      refine hK.out _ _ (by assumption) (fun hHeld2 => ?_)
      clear hK K hHeld
      have hHeld := hHeld2
      clear hHeld2
      try simp only [Act.put, List.setIfInBounds_toArray, List.set_cons_zero, List.set_cons_succ]
      refine wpAnyH_take (i := 6) (oi := ⟨some 7, .assign (.tmp 35), _, _, _, _⟩) (v := ?vv5) rfl (by kernel_rfl) (by kernel_rfl) (by kernel_rfl) (fun _ _ _ h => h) (Or.inl ⟨by rfl, ?hy5⟩) (by assumption) ?_
      case hy5 =>
        intro w' hSw
        skip
        go_simp
        try with_reducible rfl
      try simp only [Act.put, List.setIfInBounds_toArray, List.set_cons_zero, List.set_cons_succ]
      refine wpAnyH_done (by kernel_rfl) ?_ _
      clear r0 r1 r2 r3 r4 r5 o0 o1 o2 o3 x0 x1 x2 x3 x4 x5 g0 g1 g2 g3 RK
      have HB := hide hHeld.2.2
      obtain ⟨r0, r1, r2, r3, r4, r5⟩ := row6R hHeld.1
      obtain ⟨o0, o1, o2, o3⟩ := row4R hHeld.2.1
      obtain ⟨x0, x1, x2, x3, x4, x5⟩ := row6R HX3
      clear hHeld HX3 HX HW2
      skip
      go_wp2_with (first
        | (go_at_call 15; refine (KS.out _).mono ?_; rintro e w5 ⟨rfl, rfl⟩)
        | (go_at_call 16; refine (KK.out _).mono ?_; rintro e w6 ⟨rfl, rfl⟩)
        | fail)
      refine (alive41 _ (HN.out.below HB.out) (HP.out.below HB.out)).mono ?_
      rintro e w9 ⟨rfl, hb⟩
      have HB9 := hide (HB.out.of hb)
      clear hb
      go_wp2_with fail
      go_ret
      exact ⟨rfl, HB9.out⟩
    · have KK := hide (fun W => kind41 2 W)
      rw [show kindS 2 = ⟨#[105, 103, 110, 111, 114, 101, 100]⟩ by decide] at KK
      have wz : IntKind.i64.wrap 1 = 1 := rfl
      go_wp2_with fail
      refine wp_region_held_drew (S := OfW w w.heap.size #[.int .i64 0, .int .i64 t, .int .i64 fl, .int .i64 st, .bool rs, .slice A n c] #[.int .i64 2, .slice A1 n1 c1, .slice A2 n2 c2, .slice A3 n3 c3] 35 40) (by kernel_rfl) HW2.out.drew (fun hHeld => ?_)
      refine wpAnyH_take (i := 1) (oi := ⟨some 31, .fieldAddr _ (.tmp 3) 0, _, _, _, _⟩) (v := ?vv6) rfl (by kernel_rfl) (by kernel_rfl) (by kernel_rfl) (fun _ _ _ h => h) (Or.inl ⟨by rfl, ?hy6⟩) (by assumption) ?_
      case hy6 =>
        intro w' hSw
        obtain ⟨s0, _, _, _⟩ := row4R hSw.2.1
        go_simp
        try with_reducible rfl
      try simp only [Act.put, List.setIfInBounds_toArray, List.set_cons_zero, List.set_cons_succ]
      refine wpAnyH_take (i := 2) (oi := ⟨some 32, .load _ (.tmp 31), _, _, _, _⟩) (v := ?vv7) rfl (by kernel_rfl) (by kernel_rfl) (by kernel_rfl) (fun _ _ _ h => h) (Or.inl ⟨by rfl, ?hy7⟩) (by assumption) ?_
      case hy7 =>
        intro w' hSw
        obtain ⟨s0, _, _, _⟩ := row4R hSw.2.1
        go_simp
        try with_reducible rfl
      try simp only [Act.put, List.setIfInBounds_toArray, List.set_cons_zero, List.set_cons_succ]
      refine wpAnyH_take (i := 3) (oi := ⟨some 33, .binOp .sub _ (.tmp 32) (.const (.int .i64 1)) _, _, _, _, _⟩) (v := ?vv8) rfl (by kernel_rfl) (by kernel_rfl) (by kernel_rfl) (fun _ _ _ h => h) (Or.inl ⟨by rfl, ?hy8⟩) (by assumption) ?_
      case hy8 =>
        intro w' hSw
        obtain ⟨s0, _, _, _⟩ := row4R hSw.2.1
        go_simp
        try with_reducible rfl
      try simp only [Act.put, List.setIfInBounds_toArray, List.set_cons_zero, List.set_cons_succ]
      refine wpAnyH_ready (rs := [0]) (by kernel_rfl) (by simp) ?_
      refine AllReadyH.cons (o := ⟨some 30, _, _, _, _, _⟩) rfl (fun K hK => ?_) AllReadyH.nil
      go_simp
      refine (rkinds41 _).mono ?_
      rintro e v1 ⟨rfl, rfl⟩
      have hv : Below W2.drew.heap.size W2.drew (W2.drew.alloc (.cells #[.string ⟨#[97, 108, 108, 111, 119, 101, 100]⟩, .string ⟨#[105, 103, 110, 111, 114, 101, 100]⟩, .string ⟨#[114, 101, 106, 101, 99, 116, 101, 100]⟩, .string ⟨#[108, 105, 109, 105, 116, 101, 100]⟩] 9)) := (Below.refl _ _).alloc (Nat.le_refl _) _
      refine hK.out _ _ (OfW.next (by assumption) hv) (fun hHeld2 => ?_)
      clear hK K hHeld
      have hHeld := hHeld2
      clear hHeld2
      have RK := heap_alloc_new W2.drew (.cells #[.string ⟨#[97, 108, 108, 111, 119, 101, 100]⟩, .string ⟨#[105, 103, 110, 111, 114, 101, 100]⟩, .string ⟨#[114, 101, 106, 101, 99, 116, 101, 100]⟩, .string ⟨#[108, 105, 109, 105, 116, 101, 100]⟩] 9)
      have HX3 := keepRow (show W2.drew.heap[xq]? = _ from HX.out) hv
      generalize (W2.drew.alloc (.cells #[.string ⟨#[97, 108, 108, 111, 119, 101, 100]⟩, .string ⟨#[105, 103, 110, 111, 114, 101, 100]⟩, .string ⟨#[114, 101, 106, 101, 99, 116, 101, 100]⟩, .string ⟨#[108, 105, 109, 105, 116, 101, 100]⟩] 9)) = W3 at *
      generalize W2.drew.heap.size = kq at *
      obtain ⟨g0, g1, g2, g3⟩ := row4R RK
      clear hv
      try simp only [Act.put, List.setIfInBounds_toArray, List.set_cons_zero, List.set_cons_succ]
      refine wpAnyH_take (i := 4) (oi := ⟨some 34, .indexAddr _ (.tmp 30) (.tmp 33), _, _, _, _⟩) (v := ?vv9) rfl (by kernel_rfl) (by kernel_rfl) (by kernel_rfl) (fun _ _ _ h => h) (Or.inl ⟨by rfl, ?hy9⟩) (by assumption) ?_
      case hy9 =>
        intro w' hSw
        skip
        go_simp
        try with_reducible rfl
      try simp only [Act.put, List.setIfInBounds_toArray, List.set_cons_zero, List.set_cons_succ]
      refine wpAnyH_ready (rs := [5]) (by kernel_rfl) (by simp) ?_
      refine AllReadyH.cons (o := ⟨some 35, _, _, _, _, _⟩) rfl (fun K hK => ?_) AllReadyH.nil
      go_simp
      refine hK.out _ _ (by assumption) (fun hHeld2 => ?_)
      clear hK K hHeld
      have hHeld := hHeld2
      clear hHeld2
      try simp only [Act.put, List.setIfInBounds_toArray, List.set_cons_zero, List.set_cons_succ]
      refine wpAnyH_take (i := 6) (oi := ⟨some 7, .assign (.tmp 35), _, _, _, _⟩) (v := ?vv10) rfl (by kernel_rfl) (by kernel_rfl) (by kernel_rfl) (fun _ _ _ h => h) (Or.inl ⟨by rfl, ?hy10⟩) (by assumption) ?_
      case hy10 =>
        intro w' hSw
        skip
        go_simp
        try with_reducible rfl
      try simp only [Act.put, List.setIfInBounds_toArray, List.set_cons_zero, List.set_cons_succ]
      refine wpAnyH_done (by kernel_rfl) ?_ _
      clear r0 r1 r2 r3 r4 r5 o0 o1 o2 o3 x0 x1 x2 x3 x4 x5 g0 g1 g2 g3 RK
      have HB := hide hHeld.2.2
      obtain ⟨r0, r1, r2, r3, r4, r5⟩ := row6R hHeld.1
      obtain ⟨o0, o1, o2, o3⟩ := row4R hHeld.2.1
      obtain ⟨x0, x1, x2, x3, x4, x5⟩ := row6R HX3
      clear hHeld HX3 HX HW2
      skip
      go_wp2_with (first
        | (go_at_call 15; refine (KS.out _).mono ?_; rintro e w5 ⟨rfl, rfl⟩)
        | (go_at_call 16; refine (KK.out _).mono ?_; rintro e w6 ⟨rfl, rfl⟩)
        | fail)
      refine (alive41 _ (HN.out.below HB.out) (HP.out.below HB.out)).mono ?_
      rintro e w9 ⟨rfl, hb⟩
      have HB9 := hide (HB.out.of hb)
      clear hb
      go_wp2_with fail
      go_ret
      exact ⟨rfl, HB9.out⟩
    · have KK := hide (fun W => kind41 3 W)
      rw [show kindS 3 = ⟨#[114, 101, 106, 101, 99, 116, 101, 100]⟩ by decide] at KK
      have wz : IntKind.i64.wrap 2 = 2 := rfl
      go_wp2_with fail
      refine wp_region_held_drew (S := OfW w w.heap.size #[.int .i64 0, .int .i64 t, .int .i64 fl, .int .i64 st, .bool rs, .slice A n c] #[.int .i64 3, .slice A1 n1 c1, .slice A2 n2 c2, .slice A3 n3 c3] 35 40) (by kernel_rfl) HW2.out.drew (fun hHeld => ?_)
      refine wpAnyH_take (i := 1) (oi := ⟨some 31, .fieldAddr _ (.tmp 3) 0, _, _, _, _⟩) (v := ?vv11) rfl (by kernel_rfl) (by kernel_rfl) (by kernel_rfl) (fun _ _ _ h => h) (Or.inl ⟨by rfl, ?hy11⟩) (by assumption) ?_
      case hy11 =>
        intro w' hSw
        obtain ⟨s0, _, _, _⟩ := row4R hSw.2.1
        go_simp
        try with_reducible rfl
      try simp only [Act.put, List.setIfInBounds_toArray, List.set_cons_zero, List.set_cons_succ]
      refine wpAnyH_take (i := 2) (oi := ⟨some 32, .load _ (.tmp 31), _, _, _, _⟩) (v := ?vv12) rfl (by kernel_rfl) (by kernel_rfl) (by kernel_rfl) (fun _ _ _ h => h) (Or.inl ⟨by rfl, ?hy12⟩) (by assumption) ?_
      case hy12 =>
        intro w' hSw
        obtain ⟨s0, _, _, _⟩ := row4R hSw.2.1
        go_simp
        try with_reducible rfl
      try simp only [Act.put, List.setIfInBounds_toArray, List.set_cons_zero, List.set_cons_succ]
      refine wpAnyH_take (i := 3) (oi := ⟨some 33, .binOp .sub _ (.tmp 32) (.const (.int .i64 1)) _, _, _, _, _⟩) (v := ?vv13) rfl (by kernel_rfl) (by kernel_rfl) (by kernel_rfl) (fun _ _ _ h => h) (Or.inl ⟨by rfl, ?hy13⟩) (by assumption) ?_
      case hy13 =>
        intro w' hSw
        obtain ⟨s0, _, _, _⟩ := row4R hSw.2.1
        go_simp
        try with_reducible rfl
      try simp only [Act.put, List.setIfInBounds_toArray, List.set_cons_zero, List.set_cons_succ]
      refine wpAnyH_ready (rs := [0]) (by kernel_rfl) (by simp) ?_
      refine AllReadyH.cons (o := ⟨some 30, _, _, _, _, _⟩) rfl (fun K hK => ?_) AllReadyH.nil
      go_simp
      refine (rkinds41 _).mono ?_
      rintro e v1 ⟨rfl, rfl⟩
      have hv : Below W2.drew.heap.size W2.drew (W2.drew.alloc (.cells #[.string ⟨#[97, 108, 108, 111, 119, 101, 100]⟩, .string ⟨#[105, 103, 110, 111, 114, 101, 100]⟩, .string ⟨#[114, 101, 106, 101, 99, 116, 101, 100]⟩, .string ⟨#[108, 105, 109, 105, 116, 101, 100]⟩] 9)) := (Below.refl _ _).alloc (Nat.le_refl _) _
      refine hK.out _ _ (OfW.next (by assumption) hv) (fun hHeld2 => ?_)
      clear hK K hHeld
      have hHeld := hHeld2
      clear hHeld2
      have RK := heap_alloc_new W2.drew (.cells #[.string ⟨#[97, 108, 108, 111, 119, 101, 100]⟩, .string ⟨#[105, 103, 110, 111, 114, 101, 100]⟩, .string ⟨#[114, 101, 106, 101, 99, 116, 101, 100]⟩, .string ⟨#[108, 105, 109, 105, 116, 101, 100]⟩] 9)
      have HX3 := keepRow (show W2.drew.heap[xq]? = _ from HX.out) hv
      generalize (W2.drew.alloc (.cells #[.string ⟨#[97, 108, 108, 111, 119, 101, 100]⟩, .string ⟨#[105, 103, 110, 111, 114, 101, 100]⟩, .string ⟨#[114, 101, 106, 101, 99, 116, 101, 100]⟩, .string ⟨#[108, 105, 109, 105, 116, 101, 100]⟩] 9)) = W3 at *
      generalize W2.drew.heap.size = kq at *
      obtain ⟨g0, g1, g2, g3⟩ := row4R RK
      clear hv
      try simp only [Act.put, List.setIfInBounds_toArray, List.set_cons_zero, List.set_cons_succ]
      refine wpAnyH_take (i := 4) (oi := ⟨some 34, .indexAddr _ (.tmp 30) (.tmp 33), _, _, _, _⟩) (v := ?vv14) rfl (by kernel_rfl) (by kernel_rfl) (by kernel_rfl) (fun _ _ _ h => h) (Or.inl ⟨by rfl, ?hy14⟩) (by assumption) ?_
      case hy14 =>
        intro w' hSw
        skip
        go_simp
        try with_reducible rfl
      try simp only [Act.put, List.setIfInBounds_toArray, List.set_cons_zero, List.set_cons_succ]
      refine wpAnyH_ready (rs := [5]) (by kernel_rfl) (by simp) ?_
      refine AllReadyH.cons (o := ⟨some 35, _, _, _, _, _⟩) rfl (fun K hK => ?_) AllReadyH.nil
      go_simp
      refine hK.out _ _ (by assumption) (fun hHeld2 => ?_)
      clear hK K hHeld
      have hHeld := hHeld2
      clear hHeld2
      try simp only [Act.put, List.setIfInBounds_toArray, List.set_cons_zero, List.set_cons_succ]
      refine wpAnyH_take (i := 6) (oi := ⟨some 7, .assign (.tmp 35), _, _, _, _⟩) (v := ?vv15) rfl (by kernel_rfl) (by kernel_rfl) (by kernel_rfl) (fun _ _ _ h => h) (Or.inl ⟨by rfl, ?hy15⟩) (by assumption) ?_
      case hy15 =>
        intro w' hSw
        skip
        go_simp
        try with_reducible rfl
      try simp only [Act.put, List.setIfInBounds_toArray, List.set_cons_zero, List.set_cons_succ]
      refine wpAnyH_done (by kernel_rfl) ?_ _
      clear r0 r1 r2 r3 r4 r5 o0 o1 o2 o3 x0 x1 x2 x3 x4 x5 g0 g1 g2 g3 RK
      have HB := hide hHeld.2.2
      obtain ⟨r0, r1, r2, r3, r4, r5⟩ := row6R hHeld.1
      obtain ⟨o0, o1, o2, o3⟩ := row4R hHeld.2.1
      obtain ⟨x0, x1, x2, x3, x4, x5⟩ := row6R HX3
      clear hHeld HX3 HX HW2
      skip
      go_wp2_with (first
        | (go_at_call 15; refine (KS.out _).mono ?_; rintro e w5 ⟨rfl, rfl⟩)
        | (go_at_call 16; refine (KK.out _).mono ?_; rintro e w6 ⟨rfl, rfl⟩)
        | fail)
      refine (alive41 _ (HN.out.below HB.out) (HP.out.below HB.out)).mono ?_
      rintro e w9 ⟨rfl, hb⟩
      have HB9 := hide (HB.out.of hb)
      clear hb
      go_wp2_with fail
      go_ret
      exact ⟨rfl, HB9.out⟩
    · have KK := hide (fun W => kind41 4 W)
      rw [show kindS 4 = ⟨#[108, 105, 109, 105, 116, 101, 100]⟩ by decide] at KK
      have wz : IntKind.i64.wrap 3 = 3 := rfl
      go_wp2_with fail
      refine wp_region_held_drew (S := OfW w w.heap.size #[.int .i64 0, .int .i64 t, .int .i64 fl, .int .i64 st, .bool rs, .slice A n c] #[.int .i64 4, .slice A1 n1 c1, .slice A2 n2 c2, .slice A3 n3 c3] 35 40) (by kernel_rfl) HW2.out.drew (fun hHeld => ?_)
      refine wpAnyH_take (i := 1) (oi := ⟨some 31, .fieldAddr _ (.tmp 3) 0, _, _, _, _⟩) (v := ?vv16) rfl (by kernel_rfl) (by kernel_rfl) (by kernel_rfl) (fun _ _ _ h => h) (Or.inl ⟨by rfl, ?hy16⟩) (by assumption) ?_
      case hy16 =>
        intro w' hSw
        obtain ⟨s0, _, _, _⟩ := row4R hSw.2.1
        go_simp
        try with_reducible rfl
      try simp only [Act.put, List.setIfInBounds_toArray, List.set_cons_zero, List.set_cons_succ]
      refine wpAnyH_take (i := 2) (oi := ⟨some 32, .load _ (.tmp 31), _, _, _, _⟩) (v := ?vv17) rfl (by kernel_rfl) (by kernel_rfl) (by kernel_rfl) (fun _ _ _ h => h) (Or.inl ⟨by rfl, ?hy17⟩) (by assumption) ?_
      case hy17 =>
        intro w' hSw
        obtain ⟨s0, _, _, _⟩ := row4R hSw.2.1
        go_simp
        try with_reducible rfl
      try simp only [Act.put, List.setIfInBounds_toArray, List.set_cons_zero, List.set_cons_succ]
      refine wpAnyH_take (i := 3) (oi := ⟨some 33, .binOp .sub _ (.tmp 32) (.const (.int .i64 1)) _, _, _, _, _⟩) (v := ?vv18) rfl (by kernel_rfl) (by kernel_rfl) (by kernel_rfl) (fun _ _ _ h => h) (Or.inl ⟨by rfl, ?hy18⟩) (by assumption) ?_
      case hy18 =>
        intro w' hSw
        obtain ⟨s0, _, _, _⟩ := row4R hSw.2.1
        go_simp
        try with_reducible rfl
      try simp only [Act.put, List.setIfInBounds_toArray, List.set_cons_zero, List.set_cons_succ]
      refine wpAnyH_ready (rs := [0]) (by kernel_rfl) (by simp) ?_
      refine AllReadyH.cons (o := ⟨some 30, _, _, _, _, _⟩) rfl (fun K hK => ?_) AllReadyH.nil
      go_simp
      refine (rkinds41 _).mono ?_
      rintro e v1 ⟨rfl, rfl⟩
      have hv : Below W2.drew.heap.size W2.drew (W2.drew.alloc (.cells #[.string ⟨#[97, 108, 108, 111, 119, 101, 100]⟩, .string ⟨#[105, 103, 110, 111, 114, 101, 100]⟩, .string ⟨#[114, 101, 106, 101, 99, 116, 101, 100]⟩, .string ⟨#[108, 105, 109, 105, 116, 101, 100]⟩] 9)) := (Below.refl _ _).alloc (Nat.le_refl _) _
      refine hK.out _ _ (OfW.next (by assumption) hv) (fun hHeld2 => ?_)
      clear hK K hHeld
      have hHeld := hHeld2
      clear hHeld2
      have RK := heap_alloc_new W2.drew (.cells #[.string ⟨#[97, 108, 108, 111, 119, 101, 100]⟩, .string ⟨#[105, 103, 110, 111, 114, 101, 100]⟩, .string ⟨#[114, 101, 106, 101, 99, 116, 101, 100]⟩, .string ⟨#[108, 105, 109, 105, 116, 101, 100]⟩] 9)
      have HX3 := keepRow (show W2.drew.heap[xq]? = _ from HX.out) hv
      generalize (W2.drew.alloc (.cells #[.string ⟨#[97, 108, 108, 111, 119, 101, 100]⟩, .string ⟨#[105, 103, 110, 111, 114, 101, 100]⟩, .string ⟨#[114, 101, 106, 101, 99, 116, 101, 100]⟩, .string ⟨#[108, 105, 109, 105, 116, 101, 100]⟩] 9)) = W3 at *
      generalize W2.drew.heap.size = kq at *
      obtain ⟨g0, g1, g2, g3⟩ := row4R RK
      clear hv
      try simp only [Act.put, List.setIfInBounds_toArray, List.set_cons_zero, List.set_cons_succ]
      refine wpAnyH_take (i := 4) (oi := ⟨some 34, .indexAddr _ (.tmp 30) (.tmp 33), _, _, _, _⟩) (v := ?vv19) rfl (by kernel_rfl) (by kernel_rfl) (by kernel_rfl) (fun _ _ _ h => h) (Or.inl ⟨by rfl, ?hy19⟩) (by assumption) ?_
      case hy19 =>
        intro w' hSw
        skip
        go_simp
        try with_reducible rfl
      try simp only [Act.put, List.setIfInBounds_toArray, List.set_cons_zero, List.set_cons_succ]
      refine wpAnyH_ready (rs := [5]) (by kernel_rfl) (by simp) ?_
      refine AllReadyH.cons (o := ⟨some 35, _, _, _, _, _⟩) rfl (fun K hK => ?_) AllReadyH.nil
      go_simp
      refine hK.out _ _ (by assumption) (fun hHeld2 => ?_)
      clear hK K hHeld
      have hHeld := hHeld2
      clear hHeld2
      try simp only [Act.put, List.setIfInBounds_toArray, List.set_cons_zero, List.set_cons_succ]
      refine wpAnyH_take (i := 6) (oi := ⟨some 7, .assign (.tmp 35), _, _, _, _⟩) (v := ?vv20) rfl (by kernel_rfl) (by kernel_rfl) (by kernel_rfl) (fun _ _ _ h => h) (Or.inl ⟨by rfl, ?hy20⟩) (by assumption) ?_
      case hy20 =>
        intro w' hSw
        skip
        go_simp
        try with_reducible rfl
      try simp only [Act.put, List.setIfInBounds_toArray, List.set_cons_zero, List.set_cons_succ]
      refine wpAnyH_done (by kernel_rfl) ?_ _
      clear r0 r1 r2 r3 r4 r5 o0 o1 o2 o3 x0 x1 x2 x3 x4 x5 g0 g1 g2 g3 RK
      have HB := hide hHeld.2.2
      obtain ⟨r0, r1, r2, r3, r4, r5⟩ := row6R hHeld.1
      obtain ⟨o0, o1, o2, o3⟩ := row4R hHeld.2.1
      obtain ⟨x0, x1, x2, x3, x4, x5⟩ := row6R HX3
      clear hHeld HX3 HX HW2
      skip
      go_wp2_with (first
        | (go_at_call 15; refine (KS.out _).mono ?_; rintro e w5 ⟨rfl, rfl⟩)
        | (go_at_call 16; refine (KK.out _).mono ?_; rintro e w6 ⟨rfl, rfl⟩)
        | fail)
      refine (alive41 _ (HN.out.below HB.out) (HP.out.below HB.out)).mono ?_
      rintro e w9 ⟨rfl, hb⟩
      have HB9 := hide (HB.out.of hb)
      clear hb
      go_wp2_with fail
      go_ret
      exact ⟨rfl, HB9.out⟩
    · have KK := hide (fun W => kind41 k W)
      rw [show kindS k = ⟨#[]⟩ by unfold kindS; rw [if_neg (by omega), if_neg (by omega), if_neg (by omega), if_neg (by omega)]] at KK
      have m1 : decide (1 ≤ k) = false := decide_eq_false (by omega)
      have HB := hide HW2.out.2.2
      clear HW2 HX hk1 hk
      skip
      go_wp2_with (first
        | (go_at_call 15; refine (KS.out _).mono ?_; rintro e w5 ⟨rfl, rfl⟩)
        | (go_at_call 16; refine (KK.out _).mono ?_; rintro e w6 ⟨rfl, rfl⟩)
        | fail)
      refine (alive41 _ (HN.out.below HB.out) (HP.out.below HB.out)).mono ?_
      rintro e w9 ⟨rfl, hb⟩
      have HB9 := hide (HB.out.of hb)
      clear hb
      go_wp2_with fail
      go_ret
      exact ⟨rfl, HB9.out⟩
    · have KK := hide (fun W => kind41 k W)
      rw [show kindS k = ⟨#[]⟩ by unfold kindS; rw [if_neg (by omega), if_neg (by omega), if_neg (by omega), if_neg (by omega)]] at KK
      have m1 : decide (1 ≤ k) = true := decide_eq_true (by omega)
      have m2 : decide (k ≤ 4) = false := decide_eq_false (by omega)
      have HB := hide HW2.out.2.2
      clear HW2 HX hk2 hk
      skip
      go_wp2_with (first
        | (go_at_call 15; refine (KS.out _).mono ?_; rintro e w5 ⟨rfl, rfl⟩)
        | (go_at_call 16; refine (KK.out _).mono ?_; rintro e w6 ⟨rfl, rfl⟩)
        | fail)
      refine (alive41 _ (HN.out.below HB.out) (HP.out.below HB.out)).mono ?_
      rintro e w9 ⟨rfl, hb⟩
      have HB9 := hide (HB.out.of hb)
      clear hb
      go_wp2_with fail
      go_ret
      exact ⟨rfl, HB9.out⟩
  by_cases ha1 : a = 1
  · subst ha1
    have KS := hide (fun W => side41 1 W)
    rw [show sideS 1 = ⟨#[115, 101, 114, 118, 101, 114]⟩ by decide] at KS
    clear ha0
    rcases (show k = 1 ∨ k = 2 ∨ k = 3 ∨ k = 4 ∨ k < 1 ∨ 4 < k by omega) with rfl | rfl | rfl | rfl | hk1 | hk2
    · have KK := hide (fun W => kind41 1 W)
      rw [show kindS 1 = ⟨#[97, 108, 108, 111, 119, 101, 100]⟩ by decide] at KK
      have wz : IntKind.i64.wrap 0 = 0 := rfl
      go_wp2_with fail
      refine wp_region_held_drew (S := OfW w w.heap.size #[.int .i64 1, .int .i64 t, .int .i64 fl, .int .i64 st, .bool rs, .slice A n c] #[.int .i64 1, .slice A1 n1 c1, .slice A2 n2 c2, .slice A3 n3 c3] 35 40) (by kernel_rfl) HW2.out.drew (fun hHeld => ?_)
      refine wpAnyH_take (i := 1) (oi := ⟨some 31, .fieldAddr _ (.tmp 3) 0, _, _, _, _⟩) (v := ?vv21) rfl (by kernel_rfl) (by kernel_rfl) (by kernel_rfl) (fun _ _ _ h => h) (Or.inl ⟨by rfl, ?hy21⟩) (by assumption) ?_
      case hy21 =>
        intro w' hSw
        obtain ⟨s0, _, _, _⟩ := row4R hSw.2.1
        go_simp
        try with_reducible rfl
      try simp only [Act.put, List.setIfInBounds_toArray, List.set_cons_zero, List.set_cons_succ]
      refine wpAnyH_take (i := 2) (oi := ⟨some 32, .load _ (.tmp 31), _, _, _, _⟩) (v := ?vv22) rfl (by kernel_rfl) (by kernel_rfl) (by kernel_rfl) (fun _ _ _ h => h) (Or.inl ⟨by rfl, ?hy22⟩) (by assumption) ?_
      case hy22 =>
        intro w' hSw
        obtain ⟨s0, _, _, _⟩ := row4R hSw.2.1
        go_simp
        try with_reducible rfl
      try simp only [Act.put, List.setIfInBounds_toArray, List.set_cons_zero, List.set_cons_succ]
      refine wpAnyH_take (i := 3) (oi := ⟨some 33, .binOp .sub _ (.tmp 32) (.const (.int .i64 1)) _, _, _, _, _⟩) (v := ?vv23) rfl (by kernel_rfl) (by kernel_rfl) (by kernel_rfl) (fun _ _ _ h => h) (Or.inl ⟨by rfl, ?hy23⟩) (by assumption) ?_
      case hy23 =>
        intro w' hSw
        obtain ⟨s0, _, _, _⟩ := row4R hSw.2.1
        go_simp
        try with_reducible rfl
      try simp only [Act.put, List.setIfInBounds_toArray, List.set_cons_zero, List.set_cons_succ]
      refine wpAnyH_ready (rs := [0]) (by kernel_rfl) (by simp) ?_
      refine AllReadyH.cons (o := ⟨some 30, _, _, _, _, _⟩) rfl (fun K hK => ?_) AllReadyH.nil
      go_simp
      refine (rkinds41 _).mono ?_
      rintro e v1 ⟨rfl, rfl⟩
      have hv : Below W2.drew.heap.size W2.drew (W2.drew.alloc (.cells #[.string ⟨#[97, 108, 108, 111, 119, 101, 100]⟩, .string ⟨#[105, 103, 110, 111, 114, 101, 100]⟩, .string ⟨#[114, 101, 106, 101, 99, 116, 101, 100]⟩, .string ⟨#[108, 105, 109, 105, 116, 101, 100]⟩] 9)) := (Below.refl _ _).alloc (Nat.le_refl _) _
      refine hK.out _ _ (OfW.next (by assumption) hv) (fun hHeld2 => ?_)
      clear hK K hHeld
      have hHeld := hHeld2
      clear hHeld2
      have RK := heap_alloc_new W2.drew (.cells #[.string ⟨#[97, 108, 108, 111, 119, 101, 100]⟩, .string ⟨#[105, 103, 110, 111, 114, 101, 100]⟩, .string ⟨#[114, 101, 106, 101, 99, 116, 101, 100]⟩, .string ⟨#[108, 105, 109, 105, 116, 101, 100]⟩] 9)
      have HX3 := keepRow (show W2.drew.heap[xq]? = _ from HX.out) hv
      generalize (W2.drew.alloc (.cells #[.string ⟨#[97, 108, 108, 111, 119, 101, 100]⟩, .string ⟨#[105, 103, 110, 111, 114, 101, 100]⟩, .string ⟨#[114, 101, 106, 101, 99, 116, 101, 100]⟩, .string ⟨#[108, 105, 109, 105, 116, 101, 100]⟩] 9)) = W3 at *
      generalize W2.drew.heap.size = kq at *
      obtain ⟨g0, g1, g2, g3⟩ := row4R RK
      clear hv
      try simp only [Act.put, List.setIfInBounds_toArray, List.set_cons_zero, List.set_cons_succ]
      refine wpAnyH_take (i := 4) (oi := ⟨some 34, .indexAddr _ (.tmp 30) (.tmp 33), _, _, _, _⟩) (v := ?vv24) rfl (by kernel_rfl) (by kernel_rfl) (by kernel_rfl) (fun _ _ _ h => h) (Or.inl ⟨by rfl, ?hy24⟩) (by assumption) ?_
      case hy24 =>
        intro w' hSw
        skip
        go_simp
        try with_reducible rfl
      try simp only [Act.put, List.setIfInBounds_toArray, List.set_cons_zero, List.set_cons_succ]
      refine wpAnyH_ready (rs := [5]) (by kernel_rfl) (by simp) ?_
      refine AllReadyH.cons (o := ⟨some 35, _, _, _, _, _⟩) rfl (fun K hK => ?_) AllReadyH.nil
      go_simp
      refine hK.out _ _ (by assumption) (fun hHeld2 => ?_)
      clear hK K hHeld
      have hHeld := hHeld2
      clear hHeld2
      try simp only [Act.put, List.setIfInBounds_toArray, List.set_cons_zero, List.set_cons_succ]
      refine wpAnyH_take (i := 6) (oi := ⟨some 7, .assign (.tmp 35), _, _, _, _⟩) (v := ?vv25) rfl (by kernel_rfl) (by kernel_rfl) (by kernel_rfl) (fun _ _ _ h => h) (Or.inl ⟨by rfl, ?hy25⟩) (by assumption) ?_
      case hy25 =>
        intro w' hSw
        skip
        go_simp
        try with_reducible rfl
      try simp only [Act.put, List.setIfInBounds_toArray, List.set_cons_zero, List.set_cons_succ]
      refine wpAnyH_done (by kernel_rfl) ?_ _
      clear r0 r1 r2 r3 r4 r5 o0 o1 o2 o3 x0 x1 x2 x3 x4 x5 g0 g1 g2 g3 RK
      have HB := hide hHeld.2.2
      obtain ⟨r0, r1, r2, r3, r4, r5⟩ := row6R hHeld.1
      obtain ⟨o0, o1, o2, o3⟩ := row4R hHeld.2.1
      obtain ⟨x0, x1, x2, x3, x4, x5⟩ := row6R HX3
      clear hHeld HX3 HX HW2
      skip
      go_wp2_with (first
        | (go_at_call 15; refine (KS.out _).mono ?_; rintro e w5 ⟨rfl, rfl⟩)
        | (go_at_call 16; refine (KK.out _).mono ?_; rintro e w6 ⟨rfl, rfl⟩)
        | fail)
      refine (alive41 _ (HN.out.below HB.out) (HP.out.below HB.out)).mono ?_
      rintro e w9 ⟨rfl, hb⟩
      have HB9 := hide (HB.out.of hb)
      clear hb
      go_wp2_with fail
      go_ret
      exact ⟨rfl, HB9.out⟩
    · have KK := hide (fun W => kind41 2 W)
      rw [show kindS 2 = ⟨#[105, 103, 110, 111, 114, 101, 100]⟩ by decide] at KK
      have wz : IntKind.i64.wrap 1 = 1 := rfl
      go_wp2_with fail
      refine wp_region_held_drew (S := OfW w w.heap.size #[.int .i64 1, .int .i64 t, .int .i64 fl, .int .i64 st, .bool rs, .slice A n c] #[.int .i64 2, .slice A1 n1 c1, .slice A2 n2 c2, .slice A3 n3 c3] 35 40) (by kernel_rfl) HW2.out.drew (fun hHeld => ?_)
      refine wpAnyH_take (i := 1) (oi := ⟨some 31, .fieldAddr _ (.tmp 3) 0, _, _, _, _⟩) (v := ?vv26) rfl (by kernel_rfl) (by kernel_rfl) (by kernel_rfl) (fun _ _ _ h => h) (Or.inl ⟨by rfl, ?hy26⟩) (by assumption) ?_
      case hy26 =>
        intro w' hSw
        obtain ⟨s0, _, _, _⟩ := row4R hSw.2.1
        go_simp
        try with_reducible rfl
      try simp only [Act.put, List.setIfInBounds_toArray, List.set_cons_zero, List.set_cons_succ]
      refine wpAnyH_take (i := 2) (oi := ⟨some 32, .load _ (.tmp 31), _, _, _, _⟩) (v := ?vv27) rfl (by kernel_rfl) (by kernel_rfl) (by kernel_rfl) (fun _ _ _ h => h) (Or.inl ⟨by rfl, ?hy27⟩) (by assumption) ?_
      case hy27 =>
        intro w' hSw
        obtain ⟨s0, _, _, _⟩ := row4R hSw.2.1
        go_simp
        try with_reducible rfl
      try simp only [Act.put, List.setIfInBounds_toArray, List.set_cons_zero, List.set_cons_succ]
      refine wpAnyH_take (i := 3) (oi := ⟨some 33, .binOp .sub _ (.tmp 32) (.const (.int .i64 1)) _, _, _, _, _⟩) (v := ?vv28) rfl (by kernel_rfl) (by kernel_rfl) (by kernel_rfl) (fun _ _ _ h => h) (Or.inl ⟨by rfl, ?hy28⟩) (by assumption) ?_
      case hy28 =>
        intro w' hSw
        obtain ⟨s0, _, _, _⟩ := row4R hSw.2.1
        go_simp
        try with_reducible rfl
      try simp only [Act.put, List.setIfInBounds_toArray, List.set_cons_zero, List.set_cons_succ]
      refine wpAnyH_ready (rs := [0]) (by kernel_rfl) (by simp) ?_
      refine AllReadyH.cons (o := ⟨some 30, _, _, _, _, _⟩) rfl (fun K hK => ?_) AllReadyH.nil
      go_simp
      refine (rkinds41 _).mono ?_
      rintro e v1 ⟨rfl, rfl⟩
      have hv : Below W2.drew.heap.size W2.drew (W2.drew.alloc (.cells #[.string ⟨#[97, 108, 108, 111, 119, 101, 100]⟩, .string ⟨#[105, 103, 110, 111, 114, 101, 100]⟩, .string ⟨#[114, 101, 106, 101, 99, 116, 101, 100]⟩, .string ⟨#[108, 105, 109, 105, 116, 101, 100]⟩] 9)) := (Below.refl _ _).alloc (Nat.le_refl _) _
      refine hK.out _ _ (OfW.next (by assumption) hv) (fun hHeld2 => ?_)
      clear hK K hHeld
      have hHeld := hHeld2
      clear hHeld2
      have RK := heap_alloc_new W2.drew (.cells #[.string ⟨#[97, 108, 108, 111, 119, 101, 100]⟩, .string ⟨#[105, 103, 110, 111, 114, 101, 100]⟩, .string ⟨#[114, 101, 106, 101, 99, 116, 101, 100]⟩, .string ⟨#[108, 105, 109, 105, 116, 101, 100]⟩] 9)
      have HX3 := keepRow (show W2.drew.heap[xq]? = _ from HX.out) hv
      generalize (W2.drew.alloc (.cells #[.string ⟨#[97, 108, 108, 111, 119, 101, 100]⟩, .string ⟨#[105, 103, 110, 111, 114, 101, 100]⟩, .string ⟨#[114, 101, 106, 101, 99, 116, 101, 100]⟩, .string ⟨#[108, 105, 109, 105, 116, 101, 100]⟩] 9)) = W3 at *
      generalize W2.drew.heap.size = kq at *
      obtain ⟨g0, g1, g2, g3⟩ := row4R RK
      clear hv
      try simp only [Act.put, List.setIfInBounds_toArray, List.set_cons_zero, List.set_cons_succ]
      refine wpAnyH_take (i := 4) (oi := ⟨some 34, .indexAddr _ (.tmp 30) (.tmp 33), _, _, _, _⟩) (v := ?vv29) rfl (by kernel_rfl) (by kernel_rfl) (by kernel_rfl) (fun _ _ _ h => h) (Or.inl ⟨by rfl, ?hy29⟩) (by assumption) ?_
      case hy29 =>
        intro w' hSw
        skip
        go_simp
        try with_reducible rfl
      try simp only [Act.put, List.setIfInBounds_toArray, List.set_cons_zero, List.set_cons_succ]
      refine wpAnyH_ready (rs := [5]) (by kernel_rfl) (by simp) ?_
      refine AllReadyH.cons (o := ⟨some 35, _, _, _, _, _⟩) rfl (fun K hK => ?_) AllReadyH.nil
      go_simp
      refine hK.out _ _ (by assumption) (fun hHeld2 => ?_)
      clear hK K hHeld
      have hHeld := hHeld2
      clear hHeld2
      try simp only [Act.put, List.setIfInBounds_toArray, List.set_cons_zero, List.set_cons_succ]
      refine wpAnyH_take (i := 6) (oi := ⟨some 7, .assign (.tmp 35), _, _, _, _⟩) (v := ?vv30) rfl (by kernel_rfl) (by kernel_rfl) (by kernel_rfl) (fun _ _ _ h => h) (Or.inl ⟨by rfl, ?hy30⟩) (by assumption) ?_
      case hy30 =>
        intro w' hSw
        skip
        go_simp
        try with_reducible rfl
      try simp only [Act.put, List.setIfInBounds_toArray, List.set_cons_zero, List.set_cons_succ]
      refine wpAnyH_done (by kernel_rfl) ?_ _
      clear r0 r1 r2 r3 r4 r5 o0 o1 o2 o3 x0 x1 x2 x3 x4 x5 g0 g1 g2 g3 RK
      have HB := hide hHeld.2.2
      obtain ⟨r0, r1, r2, r3, r4, r5⟩ := row6R hHeld.1
      obtain ⟨o0, o1, o2, o3⟩ := row4R hHeld.2.1
      obtain ⟨x0, x1, x2, x3, x4, x5⟩ := row6R HX3
      clear hHeld HX3 HX HW2
      skip
      go_wp2_with (first
        | (go_at_call 15; refine (KS.out _).mono ?_; rintro e w5 ⟨rfl, rfl⟩)
        | (go_at_call 16; refine (KK.out _).mono ?_; rintro e w6 ⟨rfl, rfl⟩)
        | fail)
      refine (alive41 _ (HN.out.below HB.out) (HP.out.below HB.out)).mono ?_
      rintro e w9 ⟨rfl, hb⟩
      have HB9 := hide (HB.out.of hb)
      clear hb
      go_wp2_with fail
      go_ret
      exact ⟨rfl, HB9.out⟩
    · have KK := hide (fun W => kind41 3 W)
      rw [show kindS 3 = ⟨#[114, 101, 106, 101, 99, 116, 101, 100]⟩ by decide] at KK
      have wz : IntKind.i64.wrap 2 = 2 := rfl
      go_wp2_with fail
      refine wp_region_held_drew (S := OfW w w.heap.size #[.int .i64 1, .int .i64 t, .int .i64 fl, .int .i64 st, .bool rs, .slice A n c] #[.int .i64 3, .slice A1 n1 c1, .slice A2 n2 c2, .slice A3 n3 c3] 35 40) (by kernel_rfl) HW2.out.drew (fun hHeld => ?_)
      refine wpAnyH_take (i := 1) (oi := ⟨some 31, .fieldAddr _ (.tmp 3) 0, _, _, _, _⟩) (v := ?vv31) rfl (by kernel_rfl) (by kernel_rfl) (by kernel_rfl) (fun _ _ _ h => h) (Or.inl ⟨by rfl, ?hy31⟩) (by assumption) ?_
      case hy31 =>
        intro w' hSw
        obtain ⟨s0, _, _, _⟩ := row4R hSw.2.1
        go_simp
        try with_reducible rfl
      try simp only [Act.put, List.setIfInBounds_toArray, List.set_cons_zero, List.set_cons_succ]
      refine wpAnyH_take (i := 2) (oi := ⟨some 32, .load _ (.tmp 31), _, _, _, _⟩) (v := ?vv32) rfl (by kernel_rfl) (by kernel_rfl) (by kernel_rfl) (fun _ _ _ h => h) (Or.inl ⟨by rfl, ?hy32⟩) (by assumption) ?_
      case hy32 =>
        intro w' hSw
        obtain ⟨s0, _, _, _⟩ := row4R hSw.2.1
        go_simp
        try with_reducible rfl
      try simp only [Act.put, List.setIfInBounds_toArray, List.set_cons_zero, List.set_cons_succ]
      refine wpAnyH_take (i := 3) (oi := ⟨some 33, .binOp .sub _ (.tmp 32) (.const (.int .i64 1)) _, _, _, _, _⟩) (v := ?vv33) rfl (by kernel_rfl) (by kernel_rfl) (by kernel_rfl) (fun _ _ _ h => h) (Or.inl ⟨by rfl, ?hy33⟩) (by assumption) ?_
      case hy33 =>
        intro w' hSw
        obtain ⟨s0, _, _, _⟩ := row4R hSw.2.1
        go_simp
        try with_reducible rfl
      try simp only [Act.put, List.setIfInBounds_toArray, List.set_cons_zero, List.set_cons_succ]
      refine wpAnyH_ready (rs := [0]) (by kernel_rfl) (by simp) ?_
      refine AllReadyH.cons (o := ⟨some 30, _, _, _, _, _⟩) rfl (fun K hK => ?_) AllReadyH.nil
      go_simp
      refine (rkinds41 _).mono ?_
      rintro e v1 ⟨rfl, rfl⟩
      have hv : Below W2.drew.heap.size W2.drew (W2.drew.alloc (.cells #[.string ⟨#[97, 108, 108, 111, 119, 101, 100]⟩, .string ⟨#[105, 103, 110, 111, 114, 101, 100]⟩, .string ⟨#[114, 101, 106, 101, 99, 116, 101, 100]⟩, .string ⟨#[108, 105, 109, 105, 116, 101, 100]⟩] 9)) := (Below.refl _ _).alloc (Nat.le_refl _) _
      refine hK.out _ _ (OfW.next (by assumption) hv) (fun hHeld2 => ?_)
      clear hK K hHeld
      have hHeld := hHeld2
      clear hHeld2
      have RK := heap_alloc_new W2.drew (.cells #[.string ⟨#[97, 108, 108, 111, 119, 101, 100]⟩, .string ⟨#[105, 103, 110, 111, 114, 101, 100]⟩, .string ⟨#[114, 101, 106, 101, 99, 116, 101, 100]⟩, .string ⟨#[108, 105, 109, 105, 116, 101, 100]⟩] 9)
      have HX3 := keepRow (show W2.drew.heap[xq]? = _ from HX.out) hv
      generalize (W2.drew.alloc (.cells #[.string ⟨#[97, 108, 108, 111, 119, 101, 100]⟩, .string ⟨#[105, 103, 110, 111, 114, 101, 100]⟩, .string ⟨#[114, 101, 106, 101, 99, 116, 101, 100]⟩, .string ⟨#[108, 105, 109, 105, 116, 101, 100]⟩] 9)) = W3 at *
      generalize W2.drew.heap.size = kq at *
      obtain ⟨g0, g1, g2, g3⟩ := row4R RK
      clear hv
      try simp only [Act.put, List.setIfInBounds_toArray, List.set_cons_zero, List.set_cons_succ]
      refine wpAnyH_take (i := 4) (oi := ⟨some 34, .indexAddr _ (.tmp 30) (.tmp 33), _, _, _, _⟩) (v := ?vv34) rfl (by kernel_rfl) (by kernel_rfl) (by kernel_rfl) (fun _ _ _ h => h) (Or.inl ⟨by rfl, ?hy34⟩) (by assumption) ?_
      case hy34 =>
        intro w' hSw
        skip
        go_simp
        try with_reducible rfl
      try simp only [Act.put, List.setIfInBounds_toArray, List.set_cons_zero, List.set_cons_succ]
      refine wpAnyH_ready (rs := [5]) (by kernel_rfl) (by simp) ?_
      refine AllReadyH.cons (o := ⟨some 35, _, _, _, _, _⟩) rfl (fun K hK => ?_) AllReadyH.nil
      go_simp
      refine hK.out _ _ (by assumption) (fun hHeld2 => ?_)
      clear hK K hHeld
      have hHeld := hHeld2
      clear hHeld2
      try simp only [Act.put, List.setIfInBounds_toArray, List.set_cons_zero, List.set_cons_succ]
      refine wpAnyH_take (i := 6) (oi := ⟨some 7, .assign (.tmp 35), _, _, _, _⟩) (v := ?vv35) rfl (by kernel_rfl) (by kernel_rfl) (by kernel_rfl) (fun _ _ _ h => h) (Or.inl ⟨by rfl, ?hy35⟩) (by assumption) ?_
      case hy35 =>
        intro w' hSw
        skip
        go_simp
        try with_reducible rfl
      try simp only [Act.put, List.setIfInBounds_toArray, List.set_cons_zero, List.set_cons_succ]
      refine wpAnyH_done (by kernel_rfl) ?_ _
      clear r0 r1 r2 r3 r4 r5 o0 o1 o2 o3 x0 x1 x2 x3 x4 x5 g0 g1 g2 g3 RK
      have HB := hide hHeld.2.2
      obtain ⟨r0, r1, r2, r3, r4, r5⟩ := row6R hHeld.1
      obtain ⟨o0, o1, o2, o3⟩ := row4R hHeld.2.1
      obtain ⟨x0, x1, x2, x3, x4, x5⟩ := row6R HX3
      clear hHeld HX3 HX HW2
      skip
      go_wp2_with (first
        | (go_at_call 15; refine (KS.out _).mono ?_; rintro e w5 ⟨rfl, rfl⟩)
        | (go_at_call 16; refine (KK.out _).mono ?_; rintro e w6 ⟨rfl, rfl⟩)
        | fail)
      refine (alive41 _ (HN.out.below HB.out) (HP.out.below HB.out)).mono ?_
      rintro e w9 ⟨rfl, hb⟩
      have HB9 := hide (HB.out.of hb)
      clear hb
      go_wp2_with fail
      go_ret
      exact ⟨rfl, HB9.out⟩
    · have KK := hide (fun W => kind41 4 W)
      rw [show kindS 4 = ⟨#[108, 105, 109, 105, 116, 101, 100]⟩ by decide] at KK
      have wz : IntKind.i64.wrap 3 = 3 := rfl
      go_wp2_with fail
      refine wp_region_held_drew (S := OfW w w.heap.size #[.int .i64 1, .int .i64 t, .int .i64 fl, .int .i64 st, .bool rs, .slice A n c] #[.int .i64 4, .slice A1 n1 c1, .slice A2 n2 c2, .slice A3 n3 c3] 35 40) (by kernel_rfl) HW2.out.drew (fun hHeld => ?_)
      refine wpAnyH_take (i := 1) (oi := ⟨some 31, .fieldAddr _ (.tmp 3) 0, _, _, _, _⟩) (v := ?vv36) rfl (by kernel_rfl) (by kernel_rfl) (by kernel_rfl) (fun _ _ _ h => h) (Or.inl ⟨by rfl, ?hy36⟩) (by assumption) ?_
      case hy36 =>
        intro w' hSw
        obtain ⟨s0, _, _, _⟩ := row4R hSw.2.1
        go_simp
        try with_reducible rfl
      try simp only [Act.put, List.setIfInBounds_toArray, List.set_cons_zero, List.set_cons_succ]
      refine wpAnyH_take (i := 2) (oi := ⟨some 32, .load _ (.tmp 31), _, _, _, _⟩) (v := ?vv37) rfl (by kernel_rfl) (by kernel_rfl) (by kernel_rfl) (fun _ _ _ h => h) (Or.inl ⟨by rfl, ?hy37⟩) (by assumption) ?_
      case hy37 =>
        intro w' hSw
        obtain ⟨s0, _, _, _⟩ := row4R hSw.2.1
        go_simp
        try with_reducible rfl
      try simp only [Act.put, List.setIfInBounds_toArray, List.set_cons_zero, List.set_cons_succ]
      refine wpAnyH_take (i := 3) (oi := ⟨some 33, .binOp .sub _ (.tmp 32) (.const (.int .i64 1)) _, _, _, _, _⟩) (v := ?vv38) rfl (by kernel_rfl) (by kernel_rfl) (by kernel_rfl) (fun _ _ _ h => h) (Or.inl ⟨by rfl, ?hy38⟩) (by assumption) ?_
      case hy38 =>
        intro w' hSw
        obtain ⟨s0, _, _, _⟩ := row4R hSw.2.1
        go_simp
        try with_reducible rfl
      try simp only [Act.put, List.setIfInBounds_toArray, List.set_cons_zero, List.set_cons_succ]
      refine wpAnyH_ready (rs := [0]) (by kernel_rfl) (by simp) ?_
      refine AllReadyH.cons (o := ⟨some 30, _, _, _, _, _⟩) rfl (fun K hK => ?_) AllReadyH.nil
      go_simp
      refine (rkinds41 _).mono ?_
      rintro e v1 ⟨rfl, rfl⟩
      have hv : Below W2.drew.heap.size W2.drew (W2.drew.alloc (.cells #[.string ⟨#[97, 108, 108, 111, 119, 101, 100]⟩, .string ⟨#[105, 103, 110, 111, 114, 101, 100]⟩, .string ⟨#[114, 101, 106, 101, 99, 116, 101, 100]⟩, .string ⟨#[108, 105, 109, 105, 116, 101, 100]⟩] 9)) := (Below.refl _ _).alloc (Nat.le_refl _) _
      refine hK.out _ _ (OfW.next (by assumption) hv) (fun hHeld2 => ?_)
      clear hK K hHeld
      have hHeld := hHeld2
      clear hHeld2
      have RK := heap_alloc_new W2.drew (.cells #[.string ⟨#[97, 108, 108, 111, 119, 101, 100]⟩, .string ⟨#[105, 103, 110, 111, 114, 101, 100]⟩, .string ⟨#[114, 101, 106, 101, 99, 116, 101, 100]⟩, .string ⟨#[108, 105, 109, 105, 116, 101, 100]⟩] 9)
      have HX3 := keepRow (show W2.drew.heap[xq]? = _ from HX.out) hv
      generalize (W2.drew.alloc (.cells #[.string ⟨#[97, 108, 108, 111, 119, 101, 100]⟩, .string ⟨#[105, 103, 110, 111, 114, 101, 100]⟩, .string ⟨#[114, 101, 106, 101, 99, 116, 101, 100]⟩, .string ⟨#[108, 105, 109, 105, 116, 101, 100]⟩] 9)) = W3 at *
      generalize W2.drew.heap.size = kq at *
      obtain ⟨g0, g1, g2, g3⟩ := row4R RK
      clear hv
      try simp only [Act.put, List.setIfInBounds_toArray, List.set_cons_zero, List.set_cons_succ]
      refine wpAnyH_take (i := 4) (oi := ⟨some 34, .indexAddr _ (.tmp 30) (.tmp 33), _, _, _, _⟩) (v := ?vv39) rfl (by kernel_rfl) (by kernel_rfl) (by kernel_rfl) (fun _ _ _ h => h) (Or.inl ⟨by rfl, ?hy39⟩) (by assumption) ?_
      case hy39 =>
        intro w' hSw
        skip
        go_simp
        try with_reducible rfl
      try simp only [Act.put, List.setIfInBounds_toArray, List.set_cons_zero, List.set_cons_succ]
      refine wpAnyH_ready (rs := [5]) (by kernel_rfl) (by simp) ?_
      refine AllReadyH.cons (o := ⟨some 35, _, _, _, _, _⟩) rfl (fun K hK => ?_) AllReadyH.nil
      go_simp
      refine hK.out _ _ (by assumption) (fun hHeld2 => ?_)
      clear hK K hHeld
      have hHeld := hHeld2
      clear hHeld2
      try simp only [Act.put, List.setIfInBounds_toArray, List.set_cons_zero, List.set_cons_succ]
      refine wpAnyH_take (i := 6) (oi := ⟨some 7, .assign (.tmp 35), _, _, _, _⟩) (v := ?vv40) rfl (by kernel_rfl) (by kernel_rfl) (by kernel_rfl) (fun _ _ _ h => h) (Or.inl ⟨by rfl, ?hy40⟩) (by assumption) ?_
      case hy40 =>
        intro w' hSw
        skip
        go_simp
        try with_reducible rfl
      try simp only [Act.put, List.setIfInBounds_toArray, List.set_cons_zero, List.set_cons_succ]
      refine wpAnyH_done (by kernel_rfl) ?_ _
      clear r0 r1 r2 r3 r4 r5 o0 o1 o2 o3 x0 x1 x2 x3 x4 x5 g0 g1 g2 g3 RK
      have HB := hide hHeld.2.2
      obtain ⟨r0, r1, r2, r3, r4, r5⟩ := row6R hHeld.1
      obtain ⟨o0, o1, o2, o3⟩ := row4R hHeld.2.1
      obtain ⟨x0, x1, x2, x3, x4, x5⟩ := row6R HX3
      clear hHeld HX3 HX HW2
      skip
      go_wp2_with (first
        | (go_at_call 15; refine (KS.out _).mono ?_; rintro e w5 ⟨rfl, rfl⟩)
        | (go_at_call 16; refine (KK.out _).mono ?_; rintro e w6 ⟨rfl, rfl⟩)
        | fail)
      refine (alive41 _ (HN.out.below HB.out) (HP.out.below HB.out)).mono ?_
      rintro e w9 ⟨rfl, hb⟩
      have HB9 := hide (HB.out.of hb)
      clear hb
      go_wp2_with fail
      go_ret
      exact ⟨rfl, HB9.out⟩
    · have KK := hide (fun W => kind41 k W)
      rw [show kindS k = ⟨#[]⟩ by unfold kindS; rw [if_neg (by omega), if_neg (by omega), if_neg (by omega), if_neg (by omega)]] at KK
      have m1 : decide (1 ≤ k) = false := decide_eq_false (by omega)
      have HB := hide HW2.out.2.2
      clear HW2 HX hk1 hk
      skip
      go_wp2_with (first
        | (go_at_call 15; refine (KS.out _).mono ?_; rintro e w5 ⟨rfl, rfl⟩)
        | (go_at_call 16; refine (KK.out _).mono ?_; rintro e w6 ⟨rfl, rfl⟩)
        | fail)
      refine (alive41 _ (HN.out.below HB.out) (HP.out.below HB.out)).mono ?_
      rintro e w9 ⟨rfl, hb⟩
      have HB9 := hide (HB.out.of hb)
      clear hb
      go_wp2_with fail
      go_ret
      exact ⟨rfl, HB9.out⟩
    · have KK := hide (fun W => kind41 k W)
      rw [show kindS k = ⟨#[]⟩ by unfold kindS; rw [if_neg (by omega), if_neg (by omega), if_neg (by omega), if_neg (by omega)]] at KK
      have m1 : decide (1 ≤ k) = true := decide_eq_true (by omega)
      have m2 : decide (k ≤ 4) = false := decide_eq_false (by omega)
      have HB := hide HW2.out.2.2
      clear HW2 HX hk2 hk
      skip
      go_wp2_with (first
        | (go_at_call 15; refine (KS.out _).mono ?_; rintro e w5 ⟨rfl, rfl⟩)
        | (go_at_call 16; refine (KK.out _).mono ?_; rintro e w6 ⟨rfl, rfl⟩)
        | fail)
      refine (alive41 _ (HN.out.below HB.out) (HP.out.below HB.out)).mono ?_
      rintro e w9 ⟨rfl, hb⟩
      have HB9 := hide (HB.out.of hb)
      clear hb
      go_wp2_with fail
      go_ret
      exact ⟨rfl, HB9.out⟩
  have KS := hide (fun W => side41 a W)
  rw [show sideS a = ⟨#[]⟩ by unfold sideS; rw [if_neg ha0, if_neg ha1]] at KS
  have u0 : (a == 0) = false := by simpa using ha0
  have u1 : (a == 1) = false := by simpa using ha1
  clear ha0 ha1
  rcases (show k = 1 ∨ k = 2 ∨ k = 3 ∨ k = 4 ∨ k < 1 ∨ 4 < k by omega) with rfl | rfl | rfl | rfl | hk1 | hk2
  · have KK := hide (fun W => kind41 1 W)
    rw [show kindS 1 = ⟨#[97, 108, 108, 111, 119, 101, 100]⟩ by decide] at KK
    have wz : IntKind.i64.wrap 0 = 0 := rfl
    go_wp2_with fail
    refine wp_region_held_drew (S := OfW w w.heap.size #[.int .i64 a, .int .i64 t, .int .i64 fl, .int .i64 st, .bool rs, .slice A n c] #[.int .i64 1, .slice A1 n1 c1, .slice A2 n2 c2, .slice A3 n3 c3] 35 40) (by kernel_rfl) HW2.out.drew (fun hHeld => ?_)
    refine wpAnyH_take (i := 1) (oi := ⟨some 31, .fieldAddr _ (.tmp 3) 0, _, _, _, _⟩) (v := ?vv41) rfl (by kernel_rfl) (by kernel_rfl) (by kernel_rfl) (fun _ _ _ h => h) (Or.inl ⟨by rfl, ?hy41⟩) (by assumption) ?_
    case hy41 =>
      intro w' hSw
      obtain ⟨s0, _, _, _⟩ := row4R hSw.2.1
      go_simp
      try with_reducible rfl
    try simp only [Act.put, List.setIfInBounds_toArray, List.set_cons_zero, List.set_cons_succ]
    refine wpAnyH_take (i := 2) (oi := ⟨some 32, .load _ (.tmp 31), _, _, _, _⟩) (v := ?vv42) rfl (by kernel_rfl) (by kernel_rfl) (by kernel_rfl) (fun _ _ _ h => h) (Or.inl ⟨by rfl, ?hy42⟩) (by assumption) ?_
    case hy42 =>
      intro w' hSw
      obtain ⟨s0, _, _, _⟩ := row4R hSw.2.1
      go_simp
      try with_reducible rfl
    try simp only [Act.put, List.setIfInBounds_toArray, List.set_cons_zero, List.set_cons_succ]
    refine wpAnyH_take (i := 3) (oi := ⟨some 33, .binOp .sub _ (.tmp 32) (.const (.int .i64 1)) _, _, _, _, _⟩) (v := ?vv43) rfl (by kernel_rfl) (by kernel_rfl) (by kernel_rfl) (fun _ _ _ h => h) (Or.inl ⟨by rfl, ?hy43⟩) (by assumption) ?_
    case hy43 =>
      intro w' hSw
      obtain ⟨s0, _, _, _⟩ := row4R hSw.2.1
      go_simp
      try with_reducible rfl
    try simp only [Act.put, List.setIfInBounds_toArray, List.set_cons_zero, List.set_cons_succ]
    refine wpAnyH_ready (rs := [0]) (by kernel_rfl) (by simp) ?_
    refine AllReadyH.cons (o := ⟨some 30, _, _, _, _, _⟩) rfl (fun K hK => ?_) AllReadyH.nil
    go_simp
    refine (rkinds41 _).mono ?_
    rintro e v1 ⟨rfl, rfl⟩
    have hv : Below W2.drew.heap.size W2.drew (W2.drew.alloc (.cells #[.string ⟨#[97, 108, 108, 111, 119, 101, 100]⟩, .string ⟨#[105, 103, 110, 111, 114, 101, 100]⟩, .string ⟨#[114, 101, 106, 101, 99, 116, 101, 100]⟩, .string ⟨#[108, 105, 109, 105, 116, 101, 100]⟩] 9)) := (Below.refl _ _).alloc (Nat.le_refl _) _
    refine hK.out _ _ (OfW.next (by assumption) hv) (fun hHeld2 => ?_)
    clear hK K hHeld
    have hHeld := hHeld2
    clear hHeld2
    have RK := heap_alloc_new W2.drew (.cells #[.string ⟨#[97, 108, 108, 111, 119, 101, 100]⟩, .string ⟨#[105, 103, 110, 111, 114, 101, 100]⟩, .string ⟨#[114, 101, 106, 101, 99, 116, 101, 100]⟩, .string ⟨#[108, 105, 109, 105, 116, 101, 100]⟩] 9)
    have HX3 := keepRow (show W2.drew.heap[xq]? = _ from HX.out) hv
    generalize (W2.drew.alloc (.cells #[.string ⟨#[97, 108, 108, 111, 119, 101, 100]⟩, .string ⟨#[105, 103, 110, 111, 114, 101, 100]⟩, .string ⟨#[114, 101, 106, 101, 99, 116, 101, 100]⟩, .string ⟨#[108, 105, 109, 105, 116, 101, 100]⟩] 9)) = W3 at *
    generalize W2.drew.heap.size = kq at *
    obtain ⟨g0, g1, g2, g3⟩ := row4R RK
    clear hv
    try simp only [Act.put, List.setIfInBounds_toArray, List.set_cons_zero, List.set_cons_succ]
    refine wpAnyH_take (i := 4) (oi := ⟨some 34, .indexAddr _ (.tmp 30) (.tmp 33), _, _, _, _⟩) (v := ?vv44) rfl (by kernel_rfl) (by kernel_rfl) (by kernel_rfl) (fun _ _ _ h => h) (Or.inl ⟨by rfl, ?hy44⟩) (by assumption) ?_
    case hy44 =>
      intro w' hSw
      skip
      go_simp
      try with_reducible rfl
    try simp only [Act.put, List.setIfInBounds_toArray, List.set_cons_zero, List.set_cons_succ]
    refine wpAnyH_ready (rs := [5]) (by kernel_rfl) (by simp) ?_
    refine AllReadyH.cons (o := ⟨some 35, _, _, _, _, _⟩) rfl (fun K hK => ?_) AllReadyH.nil
    go_simp
    refine hK.out _ _ (by assumption) (fun hHeld2 => ?_)
    clear hK K hHeld
    have hHeld := hHeld2
    clear hHeld2
    try simp only [Act.put, List.setIfInBounds_toArray, List.set_cons_zero, List.set_cons_succ]
    refine wpAnyH_take (i := 6) (oi := ⟨some 7, .assign (.tmp 35), _, _, _, _⟩) (v := ?vv45) rfl (by kernel_rfl) (by kernel_rfl) (by kernel_rfl) (fun _ _ _ h => h) (Or.inl ⟨by rfl, ?hy45⟩) (by assumption) ?_
    case hy45 =>
      intro w' hSw
      skip
      go_simp
      try with_reducible rfl
    try simp only [Act.put, List.setIfInBounds_toArray, List.set_cons_zero, List.set_cons_succ]
    refine wpAnyH_done (by kernel_rfl) ?_ _
    clear r0 r1 r2 r3 r4 r5 o0 o1 o2 o3 x0 x1 x2 x3 x4 x5 g0 g1 g2 g3 RK
    have HB := hide hHeld.2.2
    obtain ⟨r0, r1, r2, r3, r4, r5⟩ := row6R hHeld.1
    obtain ⟨o0, o1, o2, o3⟩ := row4R hHeld.2.1
    obtain ⟨x0, x1, x2, x3, x4, x5⟩ := row6R HX3
    clear hHeld HX3 HX HW2
    skip
    go_wp2_with (first
      | (go_at_call 15; refine (KS.out _).mono ?_; rintro e w5 ⟨rfl, rfl⟩)
      | (go_at_call 16; refine (KK.out _).mono ?_; rintro e w6 ⟨rfl, rfl⟩)
      | fail)
    refine (alive41 _ (HN.out.below HB.out) (HP.out.below HB.out)).mono ?_
    rintro e w9 ⟨rfl, hb⟩
    have HB9 := hide (HB.out.of hb)
    clear hb
    go_wp2_with fail
    go_ret
    exact ⟨rfl, HB9.out⟩
  · have KK := hide (fun W => kind41 2 W)
    rw [show kindS 2 = ⟨#[105, 103, 110, 111, 114, 101, 100]⟩ by decide] at KK
    have wz : IntKind.i64.wrap 1 = 1 := rfl
    go_wp2_with fail
    refine wp_region_held_drew (S := OfW w w.heap.size #[.int .i64 a, .int .i64 t, .int .i64 fl, .int .i64 st, .bool rs, .slice A n c] #[.int .i64 2, .slice A1 n1 c1, .slice A2 n2 c2, .slice A3 n3 c3] 35 40) (by kernel_rfl) HW2.out.drew (fun hHeld => ?_)
    refine wpAnyH_take (i := 1) (oi := ⟨some 31, .fieldAddr _ (.tmp 3) 0, _, _, _, _⟩) (v := ?vv46) rfl (by kernel_rfl) (by kernel_rfl) (by kernel_rfl) (fun _ _ _ h => h) (Or.inl ⟨by rfl, ?hy46⟩) (by assumption) ?_
    case hy46 =>
      intro w' hSw
      obtain ⟨s0, _, _, _⟩ := row4R hSw.2.1
      go_simp
      try with_reducible rfl
    try simp only [Act.put, List.setIfInBounds_toArray, List.set_cons_zero, List.set_cons_succ]
    refine wpAnyH_take (i := 2) (oi := ⟨some 32, .load _ (.tmp 31), _, _, _, _⟩) (v := ?vv47) rfl (by kernel_rfl) (by kernel_rfl) (by kernel_rfl) (fun _ _ _ h => h) (Or.inl ⟨by rfl, ?hy47⟩) (by assumption) ?_
    case hy47 =>
      intro w' hSw
      obtain ⟨s0, _, _, _⟩ := row4R hSw.2.1
      go_simp
      try with_reducible rfl
    try simp only [Act.put, List.setIfInBounds_toArray, List.set_cons_zero, List.set_cons_succ]
    refine wpAnyH_take (i := 3) (oi := ⟨some 33, .binOp .sub _ (.tmp 32) (.const (.int .i64 1)) _, _, _, _, _⟩) (v := ?vv48) rfl (by kernel_rfl) (by kernel_rfl) (by kernel_rfl) (fun _ _ _ h => h) (Or.inl ⟨by rfl, ?hy48⟩) (by assumption) ?_
    case hy48 =>
      intro w' hSw
      obtain ⟨s0, _, _, _⟩ := row4R hSw.2.1
      go_simp
      try with_reducible rfl
    try simp only [Act.put, List.setIfInBounds_toArray, List.set_cons_zero, List.set_cons_succ]
    refine wpAnyH_ready (rs := [0]) (by kernel_rfl) (by simp) ?_
    refine AllReadyH.cons (o := ⟨some 30, _, _, _, _, _⟩) rfl (fun K hK => ?_) AllReadyH.nil
    go_simp
    refine (rkinds41 _).mono ?_
    rintro e v1 ⟨rfl, rfl⟩
    have hv : Below W2.drew.heap.size W2.drew (W2.drew.alloc (.cells #[.string ⟨#[97, 108, 108, 111, 119, 101, 100]⟩, .string ⟨#[105, 103, 110, 111, 114, 101, 100]⟩, .string ⟨#[114, 101, 106, 101, 99, 116, 101, 100]⟩, .string ⟨#[108, 105, 109, 105, 116, 101, 100]⟩] 9)) := (Below.refl _ _).alloc (Nat.le_refl _) _
    refine hK.out _ _ (OfW.next (by assumption) hv) (fun hHeld2 => ?_)
    clear hK K hHeld
    have hHeld := hHeld2
    clear hHeld2
    have RK := heap_alloc_new W2.drew (.cells #[.string ⟨#[97, 108, 108, 111, 119, 101, 100]⟩, .string ⟨#[105, 103, 110, 111, 114, 101, 100]⟩, .string ⟨#[114, 101, 106, 101, 99, 116, 101, 100]⟩, .string ⟨#[108, 105, 109, 105, 116, 101, 100]⟩] 9)
    have HX3 := keepRow (show W2.drew.heap[xq]? = _ from HX.out) hv
    generalize (W2.drew.alloc (.cells #[.string ⟨#[97, 108, 108, 111, 119, 101, 100]⟩, .string ⟨#[105, 103, 110, 111, 114, 101, 100]⟩, .string ⟨#[114, 101, 106, 101, 99, 116, 101, 100]⟩, .string ⟨#[108, 105, 109, 105, 116, 101, 100]⟩] 9)) = W3 at *
    generalize W2.drew.heap.size = kq at *
    obtain ⟨g0, g1, g2, g3⟩ := row4R RK
    clear hv
    try simp only [Act.put, List.setIfInBounds_toArray, List.set_cons_zero, List.set_cons_succ]
    refine wpAnyH_take (i := 4) (oi := ⟨some 34, .indexAddr _ (.tmp 30) (.tmp 33), _, _, _, _⟩) (v := ?vv49) rfl (by kernel_rfl) (by kernel_rfl) (by kernel_rfl) (fun _ _ _ h => h) (Or.inl ⟨by rfl, ?hy49⟩) (by assumption) ?_
    case hy49 =>
      intro w' hSw
      skip
      go_simp
      try with_reducible rfl
    try simp only [Act.put, List.setIfInBounds_toArray, List.set_cons_zero, List.set_cons_succ]
    refine wpAnyH_ready (rs := [5]) (by kernel_rfl) (by simp) ?_
    refine AllReadyH.cons (o := ⟨some 35, _, _, _, _, _⟩) rfl (fun K hK => ?_) AllReadyH.nil
    go_simp
    refine hK.out _ _ (by assumption) (fun hHeld2 => ?_)
    clear hK K hHeld
    have hHeld := hHeld2
    clear hHeld2
    try simp only [Act.put, List.setIfInBounds_toArray, List.set_cons_zero, List.set_cons_succ]
    refine wpAnyH_take (i := 6) (oi := ⟨some 7, .assign (.tmp 35), _, _, _, _⟩) (v := ?vv50) rfl (by kernel_rfl) (by kernel_rfl) (by kernel_rfl) (fun _ _ _ h => h) (Or.inl ⟨by rfl, ?hy50⟩) (by assumption) ?_
    case hy50 =>
      intro w' hSw
      skip
      go_simp
      try with_reducible rfl
    try simp only [Act.put, List.setIfInBounds_toArray, List.set_cons_zero, List.set_cons_succ]
    refine wpAnyH_done (by kernel_rfl) ?_ _
    clear r0 r1 r2 r3 r4 r5 o0 o1 o2 o3 x0 x1 x2 x3 x4 x5 g0 g1 g2 g3 RK
    have HB := hide hHeld.2.2
    obtain ⟨r0, r1, r2, r3, r4, r5⟩ := row6R hHeld.1
    obtain ⟨o0, o1, o2, o3⟩ := row4R hHeld.2.1
    obtain ⟨x0, x1, x2, x3, x4, x5⟩ := row6R HX3
    clear hHeld HX3 HX HW2
    skip
    go_wp2_with (first
      | (go_at_call 15; refine (KS.out _).mono ?_; rintro e w5 ⟨rfl, rfl⟩)
      | (go_at_call 16; refine (KK.out _).mono ?_; rintro e w6 ⟨rfl, rfl⟩)
      | fail)
    refine (alive41 _ (HN.out.below HB.out) (HP.out.below HB.out)).mono ?_
    rintro e w9 ⟨rfl, hb⟩
    have HB9 := hide (HB.out.of hb)
    clear hb
    go_wp2_with fail
    go_ret
    exact ⟨rfl, HB9.out⟩
  · have KK := hide (fun W => kind41 3 W)
    rw [show kindS 3 = ⟨#[114, 101, 106, 101, 99, 116, 101, 100]⟩ by decide] at KK
    have wz : IntKind.i64.wrap 2 = 2 := rfl
    go_wp2_with fail
    refine wp_region_held_drew (S := OfW w w.heap.size #[.int .i64 a, .int .i64 t, .int .i64 fl, .int .i64 st, .bool rs, .slice A n c] #[.int .i64 3, .slice A1 n1 c1, .slice A2 n2 c2, .slice A3 n3 c3] 35 40) (by kernel_rfl) HW2.out.drew (fun hHeld => ?_)
    refine wpAnyH_take (i := 1) (oi := ⟨some 31, .fieldAddr _ (.tmp 3) 0, _, _, _, _⟩) (v := ?vv51) rfl (by kernel_rfl) (by kernel_rfl) (by kernel_rfl) (fun _ _ _ h => h) (Or.inl ⟨by rfl, ?hy51⟩) (by assumption) ?_
    case hy51 =>
      intro w' hSw
      obtain ⟨s0, _, _, _⟩ := row4R hSw.2.1
      go_simp
      try with_reducible rfl
    try simp only [Act.put, List.setIfInBounds_toArray, List.set_cons_zero, List.set_cons_succ]
    refine wpAnyH_take (i := 2) (oi := ⟨some 32, .load _ (.tmp 31), _, _, _, _⟩) (v := ?vv52) rfl (by kernel_rfl) (by kernel_rfl) (by kernel_rfl) (fun _ _ _ h => h) (Or.inl ⟨by rfl, ?hy52⟩) (by assumption) ?_
    case hy52 =>
      intro w' hSw
      obtain ⟨s0, _, _, _⟩ := row4R hSw.2.1
      go_simp
      try with_reducible rfl
    try simp only [Act.put, List.setIfInBounds_toArray, List.set_cons_zero, List.set_cons_succ]
    refine wpAnyH_take (i := 3) (oi := ⟨some 33, .binOp .sub _ (.tmp 32) (.const (.int .i64 1)) _, _, _, _, _⟩) (v := ?vv53) rfl (by kernel_rfl) (by kernel_rfl) (by kernel_rfl) (fun _ _ _ h => h) (Or.inl ⟨by rfl, ?hy53⟩) (by assumption) ?_
    case hy53 =>
      intro w' hSw
      obtain ⟨s0, _, _, _⟩ := row4R hSw.2.1
      go_simp
      try with_reducible rfl
    try simp only [Act.put, List.setIfInBounds_toArray, List.set_cons_zero, List.set_cons_succ]
    refine wpAnyH_ready (rs := [0]) (by kernel_rfl) (by simp) ?_
    refine AllReadyH.cons (o := ⟨some 30, _, _, _, _, _⟩) rfl (fun K hK => ?_) AllReadyH.nil
    go_simp
    refine (rkinds41 _).mono ?_
    rintro e v1 ⟨rfl, rfl⟩
    have hv : Below W2.drew.heap.size W2.drew (W2.drew.alloc (.cells #[.string ⟨#[97, 108, 108, 111, 119, 101, 100]⟩, .string ⟨#[105, 103, 110, 111, 114, 101, 100]⟩, .string ⟨#[114, 101, 106, 101, 99, 116, 101, 100]⟩, .string ⟨#[108, 105, 109, 105, 116, 101, 100]⟩] 9)) := (Below.refl _ _).alloc (Nat.le_refl _) _
    refine hK.out _ _ (OfW.next (by assumption) hv) (fun hHeld2 => ?_)
    clear hK K hHeld
    have hHeld := hHeld2
    clear hHeld2
    have RK := heap_alloc_new W2.drew (.cells #[.string ⟨#[97, 108, 108, 111, 119, 101, 100]⟩, .string ⟨#[105, 103, 110, 111, 114, 101, 100]⟩, .string ⟨#[114, 101, 106, 101, 99, 116, 101, 100]⟩, .string ⟨#[108, 105, 109, 105, 116, 101, 100]⟩] 9)
    have HX3 := keepRow (show W2.drew.heap[xq]? = _ from HX.out) hv
    generalize (W2.drew.alloc (.cells #[.string ⟨#[97, 108, 108, 111, 119, 101, 100]⟩, .string ⟨#[105, 103, 110, 111, 114, 101, 100]⟩, .string ⟨#[114, 101, 106, 101, 99, 116, 101, 100]⟩, .string ⟨#[108, 105, 109, 105, 116, 101, 100]⟩] 9)) = W3 at *
    generalize W2.drew.heap.size = kq at *
    obtain ⟨g0, g1, g2, g3⟩ := row4R RK
    clear hv
    try simp only [Act.put, List.setIfInBounds_toArray, List.set_cons_zero, List.set_cons_succ]
    refine wpAnyH_take (i := 4) (oi := ⟨some 34, .indexAddr _ (.tmp 30) (.tmp 33), _, _, _, _⟩) (v := ?vv54) rfl (by kernel_rfl) (by kernel_rfl) (by kernel_rfl) (fun _ _ _ h => h) (Or.inl ⟨by rfl, ?hy54⟩) (by assumption) ?_
    case hy54 =>
      intro w' hSw
      skip
      go_simp
      try with_reducible rfl
    try simp only [Act.put, List.setIfInBounds_toArray, List.set_cons_zero, List.set_cons_succ]
    refine wpAnyH_ready (rs := [5]) (by kernel_rfl) (by simp) ?_
    refine AllReadyH.cons (o := ⟨some 35, _, _, _, _, _⟩) rfl (fun K hK => ?_) AllReadyH.nil
    go_simp
    refine hK.out _ _ (by assumption) (fun hHeld2 => ?_)
    clear hK K hHeld
    have hHeld := hHeld2
    clear hHeld2
    try simp only [Act.put, List.setIfInBounds_toArray, List.set_cons_zero, List.set_cons_succ]
    refine wpAnyH_take (i := 6) (oi := ⟨some 7, .assign (.tmp 35), _, _, _, _⟩) (v := ?vv55) rfl (by kernel_rfl) (by kernel_rfl) (by kernel_rfl) (fun _ _ _ h => h) (Or.inl ⟨by rfl, ?hy55⟩) (by assumption) ?_
    case hy55 =>
      intro w' hSw
      skip
      go_simp
      try with_reducible rfl
    try simp only [Act.put, List.setIfInBounds_toArray, List.set_cons_zero, List.set_cons_succ]
    refine wpAnyH_done (by kernel_rfl) ?_ _
    clear r0 r1 r2 r3 r4 r5 o0 o1 o2 o3 x0 x1 x2 x3 x4 x5 g0 g1 g2 g3 RK
    have HB := hide hHeld.2.2
    obtain ⟨r0, r1, r2, r3, r4, r5⟩ := row6R hHeld.1
    obtain ⟨o0, o1, o2, o3⟩ := row4R hHeld.2.1
    obtain ⟨x0, x1, x2, x3, x4, x5⟩ := row6R HX3
    clear hHeld HX3 HX HW2
    skip
    go_wp2_with (first
      | (go_at_call 15; refine (KS.out _).mono ?_; rintro e w5 ⟨rfl, rfl⟩)
      | (go_at_call 16; refine (KK.out _).mono ?_; rintro e w6 ⟨rfl, rfl⟩)
      | fail)
    refine (alive41 _ (HN.out.below HB.out) (HP.out.below HB.out)).mono ?_
    rintro e w9 ⟨rfl, hb⟩
    have HB9 := hide (HB.out.of hb)
    clear hb
    go_wp2_with fail
    go_ret
    exact ⟨rfl, HB9.out⟩
  · have KK := hide (fun W => kind41 4 W)
    rw [show kindS 4 = ⟨#[108, 105, 109, 105, 116, 101, 100]⟩ by decide] at KK
    have wz : IntKind.i64.wrap 3 = 3 := rfl
    go_wp2_with fail
    refine wp_region_held_drew (S := OfW w w.heap.size #[.int .i64 a, .int .i64 t, .int .i64 fl, .int .i64 st, .bool rs, .slice A n c] #[.int .i64 4, .slice A1 n1 c1, .slice A2 n2 c2, .slice A3 n3 c3] 35 40) (by kernel_rfl) HW2.out.drew (fun hHeld => ?_)
    refine wpAnyH_take (i := 1) (oi := ⟨some 31, .fieldAddr _ (.tmp 3) 0, _, _, _, _⟩) (v := ?vv56) rfl (by kernel_rfl) (by kernel_rfl) (by kernel_rfl) (fun _ _ _ h => h) (Or.inl ⟨by rfl, ?hy56⟩) (by assumption) ?_
    case hy56 =>
      intro w' hSw
      obtain ⟨s0, _, _, _⟩ := row4R hSw.2.1
      go_simp
      try with_reducible rfl
    try simp only [Act.put, List.setIfInBounds_toArray, List.set_cons_zero, List.set_cons_succ]
    refine wpAnyH_take (i := 2) (oi := ⟨some 32, .load _ (.tmp 31), _, _, _, _⟩) (v := ?vv57) rfl (by kernel_rfl) (by kernel_rfl) (by kernel_rfl) (fun _ _ _ h => h) (Or.inl ⟨by rfl, ?hy57⟩) (by assumption) ?_
    case hy57 =>
      intro w' hSw
      obtain ⟨s0, _, _, _⟩ := row4R hSw.2.1
      go_simp
      try with_reducible rfl
    try simp only [Act.put, List.setIfInBounds_toArray, List.set_cons_zero, List.set_cons_succ]
    refine wpAnyH_take (i := 3) (oi := ⟨some 33, .binOp .sub _ (.tmp 32) (.const (.int .i64 1)) _, _, _, _, _⟩) (v := ?vv58) rfl (by kernel_rfl) (by kernel_rfl) (by kernel_rfl) (fun _ _ _ h => h) (Or.inl ⟨by rfl, ?hy58⟩) (by assumption) ?_
    case hy58 =>
      intro w' hSw
      obtain ⟨s0, _, _, _⟩ := row4R hSw.2.1
      go_simp
      try with_reducible rfl
    try simp only [Act.put, List.setIfInBounds_toArray, List.set_cons_zero, List.set_cons_succ]
    refine wpAnyH_ready (rs := [0]) (by kernel_rfl) (by simp) ?_
    refine AllReadyH.cons (o := ⟨some 30, _, _, _, _, _⟩) rfl (fun K hK => ?_) AllReadyH.nil
    go_simp
    refine (rkinds41 _).mono ?_
    rintro e v1 ⟨rfl, rfl⟩
    have hv : Below W2.drew.heap.size W2.drew (W2.drew.alloc (.cells #[.string ⟨#[97, 108, 108, 111, 119, 101, 100]⟩, .string ⟨#[105, 103, 110, 111, 114, 101, 100]⟩, .string ⟨#[114, 101, 106, 101, 99, 116, 101, 100]⟩, .string ⟨#[108, 105, 109, 105, 116, 101, 100]⟩] 9)) := (Below.refl _ _).alloc (Nat.le_refl _) _
    refine hK.out _ _ (OfW.next (by assumption) hv) (fun hHeld2 => ?_)
    clear hK K hHeld
    have hHeld := hHeld2
    clear hHeld2
    have RK := heap_alloc_new W2.drew (.cells #[.string ⟨#[97, 108, 108, 111, 119, 101, 100]⟩, .string ⟨#[105, 103, 110, 111, 114, 101, 100]⟩, .string ⟨#[114, 101, 106, 101, 99, 116, 101, 100]⟩, .string ⟨#[108, 105, 109, 105, 116, 101, 100]⟩] 9)
    have HX3 := keepRow (show W2.drew.heap[xq]? = _ from HX.out) hv
    generalize (W2.drew.alloc (.cells #[.string ⟨#[97, 108, 108, 111, 119, 101, 100]⟩, .string ⟨#[105, 103, 110, 111, 114, 101, 100]⟩, .string ⟨#[114, 101, 106, 101, 99, 116, 101, 100]⟩, .string ⟨#[108, 105, 109, 105, 116, 101, 100]⟩] 9)) = W3 at *
    generalize W2.drew.heap.size = kq at *
    obtain ⟨g0, g1, g2, g3⟩ := row4R RK
    clear hv
    try simp only [Act.put, List.setIfInBounds_toArray, List.set_cons_zero, List.set_cons_succ]
    refine wpAnyH_take (i := 4) (oi := ⟨some 34, .indexAddr _ (.tmp 30) (.tmp 33), _, _, _, _⟩) (v := ?vv59) rfl (by kernel_rfl) (by kernel_rfl) (by kernel_rfl) (fun _ _ _ h => h) (Or.inl ⟨by rfl, ?hy59⟩) (by assumption) ?_
    case hy59 =>
      intro w' hSw
      skip
      go_simp
      try with_reducible rfl
    try simp only [Act.put, List.setIfInBounds_toArray, List.set_cons_zero, List.set_cons_succ]
    refine wpAnyH_ready (rs := [5]) (by kernel_rfl) (by simp) ?_
    refine AllReadyH.cons (o := ⟨some 35, _, _, _, _, _⟩) rfl (fun K hK => ?_) AllReadyH.nil
    go_simp
    refine hK.out _ _ (by assumption) (fun hHeld2 => ?_)
    clear hK K hHeld
    have hHeld := hHeld2
    clear hHeld2
    try simp only [Act.put, List.setIfInBounds_toArray, List.set_cons_zero, List.set_cons_succ]
    refine wpAnyH_take (i := 6) (oi := ⟨some 7, .assign (.tmp 35), _, _, _, _⟩) (v := ?vv60) rfl (by kernel_rfl) (by kernel_rfl) (by kernel_rfl) (fun _ _ _ h => h) (Or.inl ⟨by rfl, ?hy60⟩) (by assumption) ?_
    case hy60 =>
      intro w' hSw
      skip
      go_simp
      try with_reducible rfl
    try simp only [Act.put, List.setIfInBounds_toArray, List.set_cons_zero, List.set_cons_succ]
    refine wpAnyH_done (by kernel_rfl) ?_ _
    clear r0 r1 r2 r3 r4 r5 o0 o1 o2 o3 x0 x1 x2 x3 x4 x5 g0 g1 g2 g3 RK
    have HB := hide hHeld.2.2
    obtain ⟨r0, r1, r2, r3, r4, r5⟩ := row6R hHeld.1
    obtain ⟨o0, o1, o2, o3⟩ := row4R hHeld.2.1
    obtain ⟨x0, x1, x2, x3, x4, x5⟩ := row6R HX3
    clear hHeld HX3 HX HW2
    skip
    go_wp2_with (first
      | (go_at_call 15; refine (KS.out _).mono ?_; rintro e w5 ⟨rfl, rfl⟩)
      | (go_at_call 16; refine (KK.out _).mono ?_; rintro e w6 ⟨rfl, rfl⟩)
      | fail)
    refine (alive41 _ (HN.out.below HB.out) (HP.out.below HB.out)).mono ?_
    rintro e w9 ⟨rfl, hb⟩
    have HB9 := hide (HB.out.of hb)
    clear hb
    go_wp2_with fail
    go_ret
    exact ⟨rfl, HB9.out⟩
  · have KK := hide (fun W => kind41 k W)
    rw [show kindS k = ⟨#[]⟩ by unfold kindS; rw [if_neg (by omega), if_neg (by omega), if_neg (by omega), if_neg (by omega)]] at KK
    have m1 : decide (1 ≤ k) = false := decide_eq_false (by omega)
    have HB := hide HW2.out.2.2
    clear HW2 HX hk1 hk
    skip
    go_wp2_with (first
      | (go_at_call 15; refine (KS.out _).mono ?_; rintro e w5 ⟨rfl, rfl⟩)
      | (go_at_call 16; refine (KK.out _).mono ?_; rintro e w6 ⟨rfl, rfl⟩)
      | fail)
    refine (alive41 _ (HN.out.below HB.out) (HP.out.below HB.out)).mono ?_
    rintro e w9 ⟨rfl, hb⟩
    have HB9 := hide (HB.out.of hb)
    clear hb
    go_wp2_with fail
    go_ret
    exact ⟨rfl, HB9.out⟩
  · have KK := hide (fun W => kind41 k W)
    rw [show kindS k = ⟨#[]⟩ by unfold kindS; rw [if_neg (by omega), if_neg (by omega), if_neg (by omega), if_neg (by omega)]] at KK
    have m1 : decide (1 ≤ k) = true := decide_eq_true (by omega)
    have m2 : decide (k ≤ 4) = false := decide_eq_false (by omega)
    have HB := hide HW2.out.2.2
    clear HW2 HX hk2 hk
    skip
    go_wp2_with (first
      | (go_at_call 15; refine (KS.out _).mono ?_; rintro e w5 ⟨rfl, rfl⟩)
      | (go_at_call 16; refine (KK.out _).mono ?_; rintro e w6 ⟨rfl, rfl⟩)
      | fail)
    refine (alive41 _ (HN.out.below HB.out) (HP.out.below HB.out)).mono ?_
    rintro e w9 ⟨rfl, hb⟩
    have HB9 := hide (HB.out.of hb)
    clear hb
    go_wp2_with fail
    go_ret
    exact ⟨rfl, HB9.out⟩
end Go.Proofs.YtminoofghdpomaaDoor
