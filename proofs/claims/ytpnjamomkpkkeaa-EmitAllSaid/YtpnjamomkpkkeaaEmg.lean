/- Layer 15: EmitAll. -/
import Derived.Test.YtpnjamomkpkkeaaEmf
namespace Go.Proofs.Ytpnjamomkpkkeaa
set_option linter.unusedVariables false
set_option linter.unusedSimpArgs false
open Go.RowKit

theorem rdFm_one {w : World} {X : Fm} (h : FmO w X) {b : Nat} {Y : TypeId} (hr : w.heap[b]? = some (.cells #[.int .i64 X.T, .int .i64 X.fl, .int .i64 X.st, .int .i64 X.pd, .slice X.A X.n X.c, .slice X.A2 X.n2 X.c2, .int .i64 X.wt, .int .i64 X.pa, .bool X.al, .int .i64 X.pm, .int .i64 X.la, .int .i64 X.co, .int .i64 X.sp] Y (0, 0))) : RdFm w (some ⟨b, 0, none⟩) 1 1 (fun _ => X) :=
  ⟨Nat.le_refl _, by simp [maxLen], fun h => (by cases h), fun _ => ⟨b, 0, rfl, fun i hi => by
    obtain rfl : i = 0 := by omega
    exact row13 hr⟩, fun _ _ => h⟩
theorem rone15 (X : Fm) (w : World) (h : FmO w X) (hs : X.Sml) {b : Nat} {Y : TypeId} (hr : w.heap[b]? = some (.cells #[.int .i64 X.T, .int .i64 X.fl, .int .i64 X.st, .int .i64 X.pd, .slice X.A X.n X.c, .slice X.A2 X.n2 X.c2, .int .i64 X.wt, .int .i64 X.pa, .bool X.al, .int .i64 X.pm, .int .i64 X.la, .int .i64 X.co, .int .i64 X.sp] Y (0, 0))) : Calls Try.prog 22 #[.slice (some ⟨b, 0, none⟩) 1 1] w fun e w' => Below w.heap.size w w' ∧ ((X.x.Ok ∧ ∃ A c, e = .returned (.tuple #[.slice A (ebL X.x).length c, .bool true]) ∧ Rd .u8 w' A (ebL X.x).length c (lF (ebL X.x))) ∨ (¬ X.x.Ok ∧ e = .returned (.tuple #[.slice none 0 0, .bool false]))) := by
  refine (rall15 _ 1 1 (fun _ => X) w (rdFm_one h hr) (by decide) fun _ _ => hs).mono ?_
  rintro e w' ⟨hb, ⟨hok, A, c, rfl, hd⟩ | ⟨hno, rfl⟩⟩
  · exact ⟨hb, .inl ⟨hok 0 (by omega), A, c, rfl, hd⟩⟩
  · exact ⟨hb, .inr ⟨fun hk => hno fun _ _ => hk, rfl⟩⟩
set_option maxRecDepth 20000 in
set_option maxHeartbeats 6400000 in
theorem all_y (A : Option Addr) (n c : Nat) (F : Nat → Fm) (w : World) (ha : RdFm w A n c F) (hn : n ≤ 30) (hall : ∀ i, i < n → (F i).x.Ok) : Calls Try.prog 5 #[.slice A n c] w (Yes w) := by
  have Ha := hide ha
  have HALL := hide hall
  have d30 : decide ((30 : Int) < (n : Int)) = false := decide_eq_false (by omega)
  clear ha hall
  go_enter Try.func5, Try.ntmps5
  go_wp2_with fail
  go_loopw [21] (fun i wr => ∃ k : Nat, k ≤ n ∧ i = .int .i64 k ∧ (∀ j, j < k → (F j).Sml) ∧ Below w.heap.size w wr) (fun i _ => n - (intOf i).toNat)
  case atStart => exact ⟨0, Nat.zero_le _, rfl, fun j hj => absurd hj (by omega), Below.refl _ _⟩
  case round =>
    clear d30
    obtain ⟨k, hk, rfl, hsm, hb⟩ := hrel
    have HS := hide hsm
    have HB := hide hb
    clear hsm hb
    by_cases hlt : k < n
    rotate_left
    · obtain rfl : n = k := by omega
      go_wp2_with fail
      refine (pall15 A n c F _ (Ha.out.below HB.out) hn (fun i hi => HS.out i (by omega))).mono ?_
      rintro e V1 ⟨hb, ⟨_, A5, c5, rfl, hr⟩ | ⟨hno, _⟩⟩
      rotate_left
      · exact absurd HALL.out hno
      have R1 := hide hr
      have E1 := hide (HB.out.of hb)
      clear hb hr
      go_wp2_with fail
      refine (rall15 A n c F _ (Ha.out.below E1.out) hn (fun i hi => HS.out i (by omega))).mono ?_
      rintro e V2 ⟨hb, ⟨_, A7, c7, rfl, hr⟩ | ⟨hno, _⟩⟩
      rotate_left
      · exact absurd HALL.out hno
      have R2 := hide (R1.out.below hb)
      have Q2 := hide hr
      have E2 := hide (E1.out.of hb)
      clear hb hr
      generalize allL F n = L at *
      go_wp2_with fail
      refine (rsame_yes A5 A7 L.length c5 c7 _ _ _ R2.out Q2.out fun _ _ => rfl).mono ?_
      rintro e V3 ⟨rfl, hd⟩
      have E3 := hide (E2.out.of (drawn_below hd _))
      clear hd R1 R2 Q2
      go_wp2_with fail
      go_loopw [51] (fun i wr => ∃ k : Nat, k ≤ n ∧ i = .int .i64 k ∧ Below w.heap.size w wr) (fun i _ => n - (intOf i).toNat)
      case atStart => exact ⟨0, Nat.zero_le _, rfl, E3.out⟩
      case round =>
        obtain ⟨k, hk, rfl, hb⟩ := hrel
        have HB2 := hide hb
        clear hb
        by_cases hlt : k < n
        rotate_left
        · obtain rfl : n = k := by omega
          go_wp2_with fail
          refine (alive15 _).mono ?_
          rintro e Uz ⟨rfl, hb⟩
          have Ez := hide (HB2.out.of hb)
          clear hb
          go_wp2_with fail
          go_ret
          exact ⟨rfl, Ez.out⟩
        have hkn : (k : Int) < (n : Int) := by omega
        have Hw := hide (Ha.out.below HB2.out)
        obtain ⟨b, off, rfl, hc⟩ := Hw.out.at_ hlt
        have HX := hide (Hw.out.2.2.2.2 k hlt)
        have hsm := HS.out k (by omega)
        clear Hw
        generalize hFk : F k = X at *
        have HFk := hide hFk
        clear hFk
        obtain ⟨h0, h1, h2, h3, h4, h5, h6, h7, h8, h9, h10, h11, h12⟩ := hc
        have a3 := (Below.refl wr.heap.size wr).alloc (Nat.le_refl _) X.row
        have RX := hide (heap_alloc_new wr X.row)
        have E1 := hide (HB2.out.of a3)
        have X1 := hide (HX.out.below a3)
        have CA := hide (fun W (h : FmO W X) => fbytes15 X W h hsm)
        have CB := hide (fun W (h : FmO W X) b Y hr => rone15 X W h hsm (b := b) (Y := Y) hr)
        have hxk : X.x.Ok := by rw [← HFk.out]; exact HALL.out k hlt
        clear a3 HX
        obtain ⟨T, fl, st, pd, XA, xn, xc, xf, XA2, xn2, xc2, xs, xt, wt, pa, al, pm, la, co, sp⟩ := X
        simp only [Fm.row] at RX E1 X1
        try simp only [Fm.agg] at CA CB
        try simp only at CB
        simp only at h0 h1 h2 h3 h4 h5 h6 h7 h8 h9 h10 h11 h12
        go_upto_region 16 with (fail)
        clear h0 h1 h2 h3 h4 h5 h6 h7 h8 h9 h10 h11 h12
        generalize hW : wr.alloc (.cells #[.int .i64 T, .int .i64 fl, .int .i64 st, .int .i64 pd, .slice XA xn xc, .slice XA2 xn2 xc2, .int .i64 wt, .int .i64 pa, .bool al, .int .i64 pm, .int .i64 la, .int .i64 co, .int .i64 sp] 25) = W1 at *
        generalize hQ : wr.heap.size = q at *
        clear hW hQ
        obtain ⟨x0, x1, x2, x3, x4, x5, x6, x7, x8, x9, x10, x11, x12⟩ := row13 RX.out
        go_wp2_with fail
        refine (CA.out _ X1.out).mono ?_
        rintro e W2 ⟨hb2, ⟨hok, A2, c2, rfl, hr2⟩ | ⟨hno, rfl⟩⟩
        rotate_left
        · exact absurd hxk hno
        have E2b := hide (E1.out.of hb2)
        have X2 := hide (X1.out.below hb2)
        have RX2 := hide (keepRow RX.out hb2)
        have M2 := hide hr2
        have HOK := hide hok
        clear hb2 hr2 hok x0 x1 x2 x3 x4 x5 x6 x7 x8 x9 x10 x11 x12 E1 X1 RX
        obtain ⟨x0, x1, x2, x3, x4, x5, x6, x7, x8, x9, x10, x11, x12⟩ := row13 RX2.out
        have a4 := (Below.refl W2.heap.size W2).alloc (Nat.le_refl _) (.cells #[.int .i64 T, .int .i64 fl, .int .i64 st, .int .i64 pd, .slice XA xn xc, .slice XA2 xn2 xc2, .int .i64 wt, .int .i64 pa, .bool al, .int .i64 pm, .int .i64 la, .int .i64 co, .int .i64 sp] 25)
        have RY := hide (heap_alloc_new W2 (.cells #[.int .i64 T, .int .i64 fl, .int .i64 st, .int .i64 pd, .slice XA xn xc, .slice XA2 xn2 xc2, .int .i64 wt, .int .i64 pa, .bool al, .int .i64 pm, .int .i64 la, .int .i64 co, .int .i64 sp] 25))
        have X4 := hide (X2.out.below a4)
        have E4 := hide (E2b.out.of a4)
        have M4 := hide (M2.out.below a4)
        clear a4
        go_wp2_with fail
        refine (CB.out _ X4.out _ _ RY.out).mono ?_
        rintro e W5 ⟨hb5, ⟨_, A4, c4, rfl, hr4⟩ | ⟨hno, _⟩⟩
        rotate_left
        · exact absurd HOK.out hno
        have M5 := hide (M4.out.below hb5)
        have N5 := hide hr4
        have E5 := hide (E4.out.of hb5)
        clear hb5 X4 RY RX2 x0 x1 x2 x3 x4 x5 x6 x7 x8 x9 x10 x11 x12 hr4
        generalize ebL _ = M at *
        go_wp2_with fail
        refine (rsame_yes A2 A4 M.length c2 c4 _ _ _ M5.out N5.out fun _ _ => rfl).mono ?_
        rintro e W6 ⟨rfl, hd⟩
        have E6 := hide (E5.out.of (drawn_below hd _))
        clear hd
        go_wp2_with fail
        go_roundw
        case rel => exact ⟨k + 1, by omega, by go_num, E6.out⟩
        case measure => simp [intOf]; omega
    have hkn : (k : Int) < (n : Int) := by omega
    have Hw := hide (Ha.out.below HB.out)
    obtain ⟨b, off, rfl, hc⟩ := Hw.out.at_ hlt
    have HX := hide (Hw.out.2.2.2.2 k hlt)

    clear Hw
    generalize hFk : F k = X at *
    have HFk := hide hFk
    clear hFk
    obtain ⟨h0, h1, h2, h3, h4, h5, h6, h7, h8, h9, h10, h11, h12⟩ := hc
    have a3 := (Below.refl wr.heap.size wr).alloc (Nat.le_refl _) X.row
    have RX := hide (heap_alloc_new wr X.row)
    have E1 := hide (HB.out.of a3)
    have X1 := hide (HX.out.below a3)

    clear a3 HX
    obtain ⟨T, fl, st, pd, XA, xn, xc, xf, XA2, xn2, xc2, xs, xt, wt, pa, al, pm, la, co, sp⟩ := X
    simp only [Fm.row] at RX E1 X1

    simp only at h0 h1 h2 h3 h4 h5 h6 h7 h8 h9 h10 h11 h12
    go_upto_region 6 with (fail)
    clear h0 h1 h2 h3 h4 h5 h6 h7 h8 h9 h10 h11 h12
    generalize hW : wr.alloc (.cells #[.int .i64 T, .int .i64 fl, .int .i64 st, .int .i64 pd, .slice XA xn xc, .slice XA2 xn2 xc2, .int .i64 wt, .int .i64 pa, .bool al, .int .i64 pm, .int .i64 la, .int .i64 co, .int .i64 sp] 25) = W1 at *
    generalize hQ : wr.heap.size = q at *
    clear hW hQ
    obtain ⟨x0, x1, x2, x3, x4, x5, x6, x7, x8, x9, x10, x11, x12⟩ := row13 RX.out
    by_cases hs : xn ≤ 2000 ∧ xn2 ≤ 100
    · have dl : (decide ((2000 : Int) < (xn : Int)) || decide ((100 : Int) < (xn2 : Int))) = false := by rw [decide_eq_false (by omega), decide_eq_false (by omega)]; rfl
      have HS1 : Hid (∀ j, j < k + 1 → (F j).Sml) := fun j hj => by
        by_cases e : j = k
        · rw [e, HFk.out]; exact hs
        · exact HS.out j (by omega)
      go_wp2_with fail
      refine (large15 _ _ _ _ XA xn xc XA2 xn2 xc2 _ _ _ _ _ _ _ W1).mono ?_
      rintro e W2 ⟨rfl, hb⟩
      rw [dl]
      have E2 := hide (E1.out.of hb)
      clear hb dl x0 x1 x2 x3 x4 x5 x6 x7 x8 x9 x10 x11 x12
      go_wp2_with fail
      go_roundw
      case rel => exact ⟨k + 1, by omega, by go_num, HS1.out, E2.out⟩
      case measure => simp [intOf]; omega
    have dl : (decide ((2000 : Int) < (xn : Int)) || decide ((100 : Int) < (xn2 : Int))) = true := by
      by_cases h1 : xn ≤ 2000
      · rw [decide_eq_true (show (100 : Int) < (xn2 : Int) by omega), Bool.or_true]
      · rw [decide_eq_true (show (2000 : Int) < (xn : Int) by omega), Bool.true_or]
    go_wp2_with fail
    refine (large15 _ _ _ _ XA xn xc XA2 xn2 xc2 _ _ _ _ _ _ _ W1).mono ?_
    rintro e W2 ⟨rfl, hb⟩
    rw [dl]
    have E2 := hide (E1.out.of hb)
    clear hb dl x0 x1 x2 x3 x4 x5 x6 x7 x8 x9 x10 x11 x12
    go_wp2_with fail
    refine (alive15 _).mono ?_
    rintro e Uz ⟨rfl, hb⟩
    have Ez := hide (E2.out.of hb)
    clear hb
    go_wp2_with fail
    go_ret
    exact ⟨rfl, Ez.out⟩
set_option maxRecDepth 20000 in
set_option maxHeartbeats 6400000 in
theorem all_n (A : Option Addr) (n c : Nat) (F : Nat → Fm) (w : World) (ha : RdFm w A n c F) (hn : n ≤ 30) (hall : ¬ ∀ i, i < n → (F i).x.Ok) : Calls Try.prog 5 #[.slice A n c] w (Yes w) := by
  have Ha := hide ha
  have HALL := hide hall
  have d30 : decide ((30 : Int) < (n : Int)) = false := decide_eq_false (by omega)
  clear ha hall
  go_enter Try.func5, Try.ntmps5
  go_wp2_with fail
  go_loopw [21] (fun i wr => ∃ k : Nat, k ≤ n ∧ i = .int .i64 k ∧ (∀ j, j < k → (F j).Sml) ∧ Below w.heap.size w wr) (fun i _ => n - (intOf i).toNat)
  case atStart => exact ⟨0, Nat.zero_le _, rfl, fun j hj => absurd hj (by omega), Below.refl _ _⟩
  case round =>
    clear d30
    obtain ⟨k, hk, rfl, hsm, hb⟩ := hrel
    have HS := hide hsm
    have HB := hide hb
    clear hsm hb
    by_cases hlt : k < n
    rotate_left
    · obtain rfl : n = k := by omega
      go_wp2_with fail
      refine (pall15 A n c F _ (Ha.out.below HB.out) hn (fun i hi => HS.out i (by omega))).mono ?_
      rintro e V1 ⟨hb, ⟨hok, _⟩ | ⟨_, rfl⟩⟩
      · exact absurd hok HALL.out
      have E1 := hide (HB.out.of hb)
      clear hb
      go_wp2_with fail
      refine (rall15 A n c F _ (Ha.out.below E1.out) hn (fun i hi => HS.out i (by omega))).mono ?_
      rintro e V2 ⟨hb, ⟨hok, _⟩ | ⟨_, rfl⟩⟩
      · exact absurd hok HALL.out
      have E2 := hide (E1.out.of hb)
      clear hb
      go_wp2_with fail
      refine (rsame_yes none none 0 0 0 (fun _ => 0) (fun _ => 0) _ (Rd.nil _ _ _) (Rd.nil _ _ _) fun _ _ => rfl).mono ?_
      rintro e V3 ⟨rfl, hd⟩
      have E3 := hide (E2.out.of (drawn_below hd _))
      clear hd
      go_wp2_with fail
      go_loopw [51] (fun i wr => ∃ k : Nat, k ≤ n ∧ i = .int .i64 k ∧ Below w.heap.size w wr) (fun i _ => n - (intOf i).toNat)
      case atStart => exact ⟨0, Nat.zero_le _, rfl, E3.out⟩
      case round =>
        obtain ⟨k, hk, rfl, hb⟩ := hrel
        have HB2 := hide hb
        clear hb
        by_cases hlt : k < n
        rotate_left
        · obtain rfl : n = k := by omega
          go_wp2_with fail
          refine (alive15 _).mono ?_
          rintro e Uz ⟨rfl, hb⟩
          have Ez := hide (HB2.out.of hb)
          clear hb
          go_wp2_with fail
          go_ret
          exact ⟨rfl, Ez.out⟩
        have hkn : (k : Int) < (n : Int) := by omega
        have Hw := hide (Ha.out.below HB2.out)
        obtain ⟨b, off, rfl, hc⟩ := Hw.out.at_ hlt
        have HX := hide (Hw.out.2.2.2.2 k hlt)
        have hsm := HS.out k (by omega)
        clear Hw
        generalize hFk : F k = X at *
        have HFk := hide hFk
        clear hFk
        obtain ⟨h0, h1, h2, h3, h4, h5, h6, h7, h8, h9, h10, h11, h12⟩ := hc
        have a3 := (Below.refl wr.heap.size wr).alloc (Nat.le_refl _) X.row
        have RX := hide (heap_alloc_new wr X.row)
        have E1 := hide (HB2.out.of a3)
        have X1 := hide (HX.out.below a3)
        have CA := hide (fun W (h : FmO W X) => fbytes15 X W h hsm)
        have CB := hide (fun W (h : FmO W X) b Y hr => rone15 X W h hsm (b := b) (Y := Y) hr)
        clear a3 HX
        obtain ⟨T, fl, st, pd, XA, xn, xc, xf, XA2, xn2, xc2, xs, xt, wt, pa, al, pm, la, co, sp⟩ := X
        simp only [Fm.row] at RX E1 X1
        try simp only [Fm.agg] at CA CB
        try simp only at CB
        simp only at h0 h1 h2 h3 h4 h5 h6 h7 h8 h9 h10 h11 h12
        go_upto_region 16 with (fail)
        clear h0 h1 h2 h3 h4 h5 h6 h7 h8 h9 h10 h11 h12
        generalize hW : wr.alloc (.cells #[.int .i64 T, .int .i64 fl, .int .i64 st, .int .i64 pd, .slice XA xn xc, .slice XA2 xn2 xc2, .int .i64 wt, .int .i64 pa, .bool al, .int .i64 pm, .int .i64 la, .int .i64 co, .int .i64 sp] 25) = W1 at *
        generalize hQ : wr.heap.size = q at *
        clear hW hQ
        obtain ⟨x0, x1, x2, x3, x4, x5, x6, x7, x8, x9, x10, x11, x12⟩ := row13 RX.out
        go_wp2_with fail
        refine (CA.out _ X1.out).mono ?_
        rintro e W2 ⟨hb2, ⟨hok, A2, c2, rfl, hr2⟩ | ⟨hno, rfl⟩⟩
        · have E2b := hide (E1.out.of hb2)
          have X2 := hide (X1.out.below hb2)
          have RX2 := hide (keepRow RX.out hb2)
          have M2 := hide hr2
          have HOK := hide hok
          clear hb2 hr2 hok x0 x1 x2 x3 x4 x5 x6 x7 x8 x9 x10 x11 x12 E1 X1 RX
          obtain ⟨x0, x1, x2, x3, x4, x5, x6, x7, x8, x9, x10, x11, x12⟩ := row13 RX2.out
          have a4 := (Below.refl W2.heap.size W2).alloc (Nat.le_refl _) (.cells #[.int .i64 T, .int .i64 fl, .int .i64 st, .int .i64 pd, .slice XA xn xc, .slice XA2 xn2 xc2, .int .i64 wt, .int .i64 pa, .bool al, .int .i64 pm, .int .i64 la, .int .i64 co, .int .i64 sp] 25)
          have RY := hide (heap_alloc_new W2 (.cells #[.int .i64 T, .int .i64 fl, .int .i64 st, .int .i64 pd, .slice XA xn xc, .slice XA2 xn2 xc2, .int .i64 wt, .int .i64 pa, .bool al, .int .i64 pm, .int .i64 la, .int .i64 co, .int .i64 sp] 25))
          have X4 := hide (X2.out.below a4)
          have E4 := hide (E2b.out.of a4)
          have M4 := hide (M2.out.below a4)
          clear a4
          go_wp2_with fail
          refine (CB.out _ X4.out _ _ RY.out).mono ?_
          rintro e W5 ⟨hb5, ⟨_, A4, c4, rfl, hr4⟩ | ⟨hno, _⟩⟩
          rotate_left
          · exact absurd HOK.out hno
          have M5 := hide (M4.out.below hb5)
          have N5 := hide hr4
          have E5 := hide (E4.out.of hb5)
          clear hb5 X4 RY RX2 x0 x1 x2 x3 x4 x5 x6 x7 x8 x9 x10 x11 x12 hr4
          generalize ebL _ = M at *
          go_wp2_with fail
          refine (rsame_yes A2 A4 M.length c2 c4 _ _ _ M5.out N5.out fun _ _ => rfl).mono ?_
          rintro e W6 ⟨rfl, hd⟩
          have E6 := hide (E5.out.of (drawn_below hd _))
          clear hd
          go_wp2_with fail
          go_roundw
          case rel => exact ⟨k + 1, by omega, by go_num, E6.out⟩
          case measure => simp [intOf]; omega
        · have E2b := hide (E1.out.of hb2)
          have X2 := hide (X1.out.below hb2)
          have RX2 := hide (keepRow RX.out hb2)
          have HNO := hide hno
          clear hb2 hno x0 x1 x2 x3 x4 x5 x6 x7 x8 x9 x10 x11 x12 E1 X1 RX
          obtain ⟨x0, x1, x2, x3, x4, x5, x6, x7, x8, x9, x10, x11, x12⟩ := row13 RX2.out
          have a4 := (Below.refl W2.heap.size W2).alloc (Nat.le_refl _) (.cells #[.int .i64 T, .int .i64 fl, .int .i64 st, .int .i64 pd, .slice XA xn xc, .slice XA2 xn2 xc2, .int .i64 wt, .int .i64 pa, .bool al, .int .i64 pm, .int .i64 la, .int .i64 co, .int .i64 sp] 25)
          have RY := hide (heap_alloc_new W2 (.cells #[.int .i64 T, .int .i64 fl, .int .i64 st, .int .i64 pd, .slice XA xn xc, .slice XA2 xn2 xc2, .int .i64 wt, .int .i64 pa, .bool al, .int .i64 pm, .int .i64 la, .int .i64 co, .int .i64 sp] 25))
          have X4 := hide (X2.out.below a4)
          have E4 := hide (E2b.out.of a4)
          clear a4
          go_wp2_with fail
          refine (CB.out _ X4.out _ _ RY.out).mono ?_
          rintro e W5 ⟨hb5, ⟨hok, _⟩ | ⟨_, rfl⟩⟩
          · exact absurd hok HNO.out
          have E5 := hide (E4.out.of hb5)
          clear hb5 X4 RY RX2 x0 x1 x2 x3 x4 x5 x6 x7 x8 x9 x10 x11 x12
          go_wp2_with fail
          refine (rsame_yes none none 0 0 0 (fun _ => 0) (fun _ => 0) _ (Rd.nil _ _ _) (Rd.nil _ _ _) fun _ _ => rfl).mono ?_
          rintro e W6 ⟨rfl, hd⟩
          have E6 := hide (E5.out.of (drawn_below hd _))
          clear hd
          go_wp2_with fail
          go_roundw
          case rel => exact ⟨k + 1, by omega, by go_num, E6.out⟩
          case measure => simp [intOf]; omega
    have hkn : (k : Int) < (n : Int) := by omega
    have Hw := hide (Ha.out.below HB.out)
    obtain ⟨b, off, rfl, hc⟩ := Hw.out.at_ hlt
    have HX := hide (Hw.out.2.2.2.2 k hlt)

    clear Hw
    generalize hFk : F k = X at *
    have HFk := hide hFk
    clear hFk
    obtain ⟨h0, h1, h2, h3, h4, h5, h6, h7, h8, h9, h10, h11, h12⟩ := hc
    have a3 := (Below.refl wr.heap.size wr).alloc (Nat.le_refl _) X.row
    have RX := hide (heap_alloc_new wr X.row)
    have E1 := hide (HB.out.of a3)
    have X1 := hide (HX.out.below a3)

    clear a3 HX
    obtain ⟨T, fl, st, pd, XA, xn, xc, xf, XA2, xn2, xc2, xs, xt, wt, pa, al, pm, la, co, sp⟩ := X
    simp only [Fm.row] at RX E1 X1

    simp only at h0 h1 h2 h3 h4 h5 h6 h7 h8 h9 h10 h11 h12
    go_upto_region 6 with (fail)
    clear h0 h1 h2 h3 h4 h5 h6 h7 h8 h9 h10 h11 h12
    generalize hW : wr.alloc (.cells #[.int .i64 T, .int .i64 fl, .int .i64 st, .int .i64 pd, .slice XA xn xc, .slice XA2 xn2 xc2, .int .i64 wt, .int .i64 pa, .bool al, .int .i64 pm, .int .i64 la, .int .i64 co, .int .i64 sp] 25) = W1 at *
    generalize hQ : wr.heap.size = q at *
    clear hW hQ
    obtain ⟨x0, x1, x2, x3, x4, x5, x6, x7, x8, x9, x10, x11, x12⟩ := row13 RX.out
    by_cases hs : xn ≤ 2000 ∧ xn2 ≤ 100
    · have dl : (decide ((2000 : Int) < (xn : Int)) || decide ((100 : Int) < (xn2 : Int))) = false := by rw [decide_eq_false (by omega), decide_eq_false (by omega)]; rfl
      have HS1 : Hid (∀ j, j < k + 1 → (F j).Sml) := fun j hj => by
        by_cases e : j = k
        · rw [e, HFk.out]; exact hs
        · exact HS.out j (by omega)
      go_wp2_with fail
      refine (large15 _ _ _ _ XA xn xc XA2 xn2 xc2 _ _ _ _ _ _ _ W1).mono ?_
      rintro e W2 ⟨rfl, hb⟩
      rw [dl]
      have E2 := hide (E1.out.of hb)
      clear hb dl x0 x1 x2 x3 x4 x5 x6 x7 x8 x9 x10 x11 x12
      go_wp2_with fail
      go_roundw
      case rel => exact ⟨k + 1, by omega, by go_num, HS1.out, E2.out⟩
      case measure => simp [intOf]; omega
    have dl : (decide ((2000 : Int) < (xn : Int)) || decide ((100 : Int) < (xn2 : Int))) = true := by
      by_cases h1 : xn ≤ 2000
      · rw [decide_eq_true (show (100 : Int) < (xn2 : Int) by omega), Bool.or_true]
      · rw [decide_eq_true (show (2000 : Int) < (xn : Int) by omega), Bool.true_or]
    go_wp2_with fail
    refine (large15 _ _ _ _ XA xn xc XA2 xn2 xc2 _ _ _ _ _ _ _ W1).mono ?_
    rintro e W2 ⟨rfl, hb⟩
    rw [dl]
    have E2 := hide (E1.out.of hb)
    clear hb dl x0 x1 x2 x3 x4 x5 x6 x7 x8 x9 x10 x11 x12
    go_wp2_with fail
    refine (alive15 _).mono ?_
    rintro e Uz ⟨rfl, hb⟩
    have Ez := hide (E2.out.of hb)
    clear hb
    go_wp2_with fail
    go_ret
    exact ⟨rfl, Ez.out⟩
set_option maxRecDepth 20000 in
theorem all_walk15 (A : Option Addr) (n c : Nat) (F : Nat → Fm) (w : World) (ha : RdFm w A n c F) : Calls Try.prog 5 #[.slice A n c] w (Yes w) := by
  by_cases hn : n ≤ 30
  · by_cases hall : ∀ i, i < n → (F i).x.Ok
    · exact all_y A n c F w ha hn hall
    · exact all_n A n c F w ha hn hall
  have d30 : decide ((30 : Int) < (n : Int)) = true := decide_eq_true (by omega)
  go_enter Try.func5, Try.ntmps5
  go_wp2_with fail
  refine (alive15 _).mono ?_
  rintro e Uz ⟨rfl, hb⟩
  go_wp2_with fail
  go_ret
  exact ⟨rfl, hb⟩
end Go.Proofs.Ytpnjamomkpkkeaa
