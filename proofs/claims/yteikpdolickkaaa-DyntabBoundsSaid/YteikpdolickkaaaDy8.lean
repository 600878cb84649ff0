/- Layer 21: the weights are bounded. -/
import Derived.Test.YteikpdolickkaaaDy7
namespace Go.Proofs.Yteikpdolickkaaa
open Go.RowKit Go.Deep Go.ChangeShapes Go.WideShapes

theorem row4T {w : World} {p : Nat} {T : TypeId} {a b c d : Value} (h : w.heap[p]? = some (.cells #[a, b, c, d] T (0, 0))) : w.cell? ⟨p, 0, none⟩ = some a ∧ w.cell? ⟨p, 1, none⟩ = some b ∧ w.cell? ⟨p, 2, none⟩ = some c ∧ w.cell? ⟨p, 3, none⟩ = some d := by
  refine ⟨?_, ?_, ?_, ?_⟩ <;> simp [World.cell?, h]
set_option maxRecDepth 20000 in
set_option maxHeartbeats 6400000 in
theorem bounds_walk21 (mx : Int) (A : Option Addr) (n c : Nat) (F : Nat → Td) (w : World) (ha : RdTd w A n c F) :
    Calls Try.prog 5 #[.int .i64 mx, .slice A n c] w (Yes w) := by
  have Ha := hide ha
  have hn63 : (n : Int) ≤ 9223372036854775807 := by have h1 := ha.1; have h2 := ha.2.1; simp only [maxLen] at h2; omega
  clear ha
  go_enter Try.func5, Try.ntmps5
  go_wp2_with fail
  refine (large21 Ha.out).mono ?_
  rintro e w0 ⟨h1, rfl⟩
  rcases h1 with rfl | ⟨rfl, h60, hsm⟩
  · go_wp2_with fail
    refine (alive21 _).mono ?_
    rintro e w2 ⟨rfl, hb2⟩
    go_wp2_with fail
    go_ret
    exact ⟨rfl, hb2⟩
  by_cases hmx : 0 ≤ mx ∧ mx ≤ 2147483647
  rotate_left
  · go_wp2_with fail
    refine (newNo21 mx hmx w).mono ?_
    rintro e w1 ⟨rfl, rfl⟩
    go_wp2_with fail
    refine (alive21 _).mono ?_
    rintro e w2 ⟨rfl, hb2⟩
    go_wp2_with fail
    go_ret
    exact ⟨rfl, hb2⟩
  obtain ⟨m0, rfl⟩ : ∃ m0 : Nat, mx = (m0 : Int) := ⟨mx.toNat, by omega⟩
  have Hn := hide h60
  have Hsm := hide hsm
  have T0 := hide (TOk.new (B := w.heap.size) w m0 (Nat.le_refl _) (by omega) fun _ => fda)
  have E0 := hide ((Below.refl w.heap.size w).alloc (Nat.le_refl _) (.cells #[.slice none 0 0, .int .i64 0, .int .i64 (m0 : Int)] 68))
  clear h60 hsm
  go_wp2_with fail
  refine (new21 (m0 : Int) hmx w).mono ?_
  rintro e z ⟨rfl, rfl⟩
  generalize w.alloc (.cells #[.slice none 0 0, .int .i64 0, .int .i64 (m0 : Int)] 68) = z at *
  clear hmx
  go_wp2_with fail
  go_loopw [27] (fun i wr => ∃ k : Nat, k ≤ n ∧ i = .int .i64 k ∧ ∃ (g : Option Nat) (m mx : Nat) (G : Nat → Fd), TOk w.heap.size wr w.heap.size g m mx G ∧ sumW G m ≤ mx ∧ m ≤ k ∧ Below w.heap.size w wr) (fun i _ => n - (intOf i).toNat)
  case atStart => exact ⟨0, Nat.zero_le _, rfl, _, _, _, _, T0.out, Nat.zero_le _, Nat.le_refl _, E0.out⟩
  case round =>
    obtain ⟨k, hk, rfl, g, m, mx, G, ht, hsum, hmk, hbl⟩ := hrel
    clear T0 E0
    by_cases hlt : k < n
    · have hkn' : (k : Int) < (n : Int) := by omega
      obtain ⟨b, off, rfl, hc0, hc1, hc2, hc3⟩ := (Ha.out.below hbl).at_ hlt
      obtain ⟨hs1, hs2⟩ := Hsm.out k hlt
      have hds := bounds_i64 (Ha.out.2.2.2.2 k hlt).2.2
      have hn60 := Hn.out
      generalize F k = Dk at *
      obtain ⟨⟨nm, vl, nv⟩, ds⟩ := Dk
      simp only at hc0 hc1 hc2 hc3 hs1 hs2 hds
      have al := (Below.refl wr.heap.size wr).alloc (Nat.le_refl _) (.cells #[.string nm, .string vl, .bool nv, .int .i64 ds] 54)
      have T1 := hide (ht.below al)
      have E1 := hide (hbl.of al)
      have D1 := hide (heap_alloc_new wr (.cells #[.string nm, .string vl, .bool nv, .int .i64 ds] 54))
      have Hdl : Hid (∀ i, tfp w.heap.size g i → i ≠ wr.heap.size) := fun i hi => by show _ ≠ _; have := (ht.lt i hi).2; omega
      obtain ⟨t0, t1, t2, t3⟩ := row4T D1.out
      clear ht hbl al
      by_cases h0 : 0 ≤ ds
      · have hd : decide (0 ≤ ds) = true := decide_eq_true h0
        by_cases hx : ds ≤ 2147483647
        · obtain ⟨x, rfl⟩ : ∃ x : Nat, ds = (x : Int) := ⟨ds.toNat, by omega⟩
          clear h0
          go_wp2_with fail
          refine (resize21 T1.out E1.out.size (by omega) x (by omega)).mono ?_
          rintro e w2 ⟨j, rfl, hj, _, hen, ht2, hf2⟩
          have T2 := hide ht2
          have E2 := hide (E1.out.trans hf2.below)
          have hs2' : sumW (shF j G) (m - j) ≤ x := by
            rcases hen with h | h
            · rw [h, Nat.sub_self]; exact Nat.zero_le _
            · omega
          clear hen ht2 hf2 T1 E1 t0 t1 t2 t3 D1 hsum
          obtain ⟨N, hN⟩ : ∃ N, N = m - j := ⟨_, rfl⟩
          rw [← hN] at T2 hs2'
          generalize shF j G = G2 at *
          have hNk : N ≤ k := by omega
          clear hN
          have Hs := hide (show sumW G2 N ≤ x from hs2')
          have hN60 : N ≤ 60 := by omega
          have HT := hide T2.out.sum
          have hmx := T2.out.mx
          go_wp2_with fail
          refine (all21 T2.out (by omega)).mono ?_
          rintro e w7 ⟨v7, rfl, ho7, hb7⟩
          obtain ⟨A7, c7, rfl, _, _⟩ := ho7.rd
          have T7 := hide (T2.out.below hb7)
          have E7 := hide (E2.out.of hb7)
          have O7 := hide ho7
          have W7 : Hid (∀ i, i < N → wt (G2 i) ≤ 500) := T2.out.wl
          obtain ⟨R, hR⟩ : ∃ R : Nat → Fd, R = fun i => G2 (N - 1 - i) := ⟨_, rfl⟩
          have HRs : Hid (sumW R (N) = sumW G2 (N)) := by show _ = _; rw [hR]; exact sumW_rev _ _
          have HRw : Hid (∀ i, i < N → wt (R i) ≤ 500) := fun i hi => by rw [hR]; exact W7.out _ (by omega)
          rw [← hR] at O7
          clear ho7 hb7 hR W7
          go_wp2_with fail
          generalize wr = wo at *
          go_loopw [11, 81] (fun s i wr => ∃ q : Nat, q ≤ N ∧ i = .int .i64 q ∧ s = .int .i64 (sumW R q : Int) ∧ Below w7.heap.size w7 wr) (fun _ i _ => N - (intOf i).toNat)
          case atStart => exact ⟨0, Nat.zero_le _, rfl, rfl, Below.refl _ _⟩
          case round =>
            obtain ⟨q, hq, rfl, rfl, hbq⟩ := hrel
            have hRq : sumW R q ≤ 500 * q := sumW_le fun i hi => HRw.out i (by omega)
            by_cases hlq : q < N
            · have hlq' : (q : Int) < (N : Int) := by omega
              obtain ⟨b7, o7, e7, hc7⟩ := (O7.out.rdS2.below36O hbq).2.2.2 (by omega)
              cases e7
              have y0 := hc7 (q * 3) (by omega)
              have y1 := hc7 (q * 3 + 1) (by omega)
              have y2 := hc7 (q * 3 + 2) (by omega)
              rw [fdV_0] at y0
              rw [fdV_1, ← Nat.add_assoc] at y1
              rw [fdV_2, ← Nat.add_assoc] at y2
              have hwq := HRw.out q hlq
              have hsucc : sumW R (q + 1) = sumW R q + wt (R q) := rfl
              obtain ⟨S1, hS1⟩ : ∃ S1, S1 = sumW R (q + 1) := ⟨_, rfl⟩
              rw [← hS1] at hsucc
              have HS1 := hide hS1
              unfold wt at hwq hsucc
              obtain ⟨S0, hS0⟩ : ∃ S0, S0 = sumW R q := ⟨_, rfl⟩
              rw [← hS0] at hsucc hRq
              rw [← hS0]
              generalize (R q).name = n7 at *
              generalize (R q).val = v7' at *
              generalize (R q).nev = b7' at *
              have hn7 : n7.size ≤ 1000 := by omega
              have hv7 : v7'.size ≤ 1000 := by omega
              obtain ⟨x7, hx7⟩ : ∃ x7 : Int, x7 = ((n7.size + v7'.size + 32 : Nat) : Int) := ⟨_, rfl⟩
              have hw7 : IntKind.i64.wrap ((S0 : Int) + x7) = (S1 : Int) := by rw [IntWalk.i64_in _ (by omega)]; omega
              have Hx7 := hide hx7
              have alq := (Below.refl wr.heap.size wr).alloc (Nat.le_refl _) (.cells #[.string n7, .string v7', .bool b7'] 52)
              have Eq := hide (hbq.of alq)
              obtain ⟨u0, u1, u2⟩ := rowT (heap_alloc_new wr (.cells #[.string n7, .string v7', .bool b7'] 52))
              clear hS1 hS0 hsucc hwq hx7 hc7 hbq alq hRq
              go_wp2_with fail
              refine (weight21 n7 v7' b7' hn7 hv7 _).mono ?_
              rintro e w8 ⟨rfl, hw8⟩
              rw [← Hx7.out]
              have E8 : Hid (Below w7.heap.size w7 w8) := by
                rw [hw8]
                exact Eq.out.alloc Eq.out.size _
              clear hw8 Eq
              go_wp2_with fail
              go_roundw
              case rel => exact ⟨q + 1, by omega, by go_num, by rw [HS1.out], E8.out⟩
              case measure => simp [intOf]; omega
            · obtain rfl : N = q := by omega
              have T8 := hide (T7.out.below hbq)
              have E8 := hide (E7.out.of hbq)
              rw [HRs.out]
              obtain ⟨S9, hS9⟩ : ∃ S9, S9 = sumW G2 N := ⟨_, rfl⟩
              have hs9 : decide ((x : Int) < (S9 : Int)) = false := decide_eq_false (by have := Hs.out; omega)
              have hs9' : decide (x < S9) = false := decide_eq_false (by have := Hs.out; omega)
              have HS9 := hide hS9
              rw [← hS9]
              clear hbq hRq hS9
              go_wp2_with fail
              refine (size21 T8.out).mono ?_
              rintro e wl ⟨rfl, rfl⟩
              rw [← HS9.out]
              go_wp2_with fail
              refine (max21 T8.out).mono ?_
              rintro e wl ⟨rfl, rfl⟩
              go_wp2_with fail
              go_roundw
              case rel => exact ⟨k + 1, by omega, by go_num, _, _, _, _, T8.out, Hs.out, by omega, E8.out⟩
              case measure => simp [intOf]; omega
        · clear h0
          go_wp2_with fail
          refine (resizeNo21 ds (by omega)).mono ?_
          rintro e w2 ⟨rfl, rfl⟩
          clear t0 t1 t2 t3 D1
          have Hs := hide (show sumW G m ≤ mx from hsum)
          have hN60 : m ≤ 60 := by omega
          have HT := hide T1.out.sum
          have hmx := T1.out.mx
          go_wp2_with fail
          refine (all21 T1.out (by omega)).mono ?_
          rintro e w7 ⟨v7, rfl, ho7, hb7⟩
          obtain ⟨A7, c7, rfl, _, _⟩ := ho7.rd
          have T7 := hide (T1.out.below hb7)
          have E7 := hide (E1.out.of hb7)
          have O7 := hide ho7
          have W7 : Hid (∀ i, i < m → wt (G i) ≤ 500) := T1.out.wl
          obtain ⟨R, hR⟩ : ∃ R : Nat → Fd, R = fun i => G (m - 1 - i) := ⟨_, rfl⟩
          have HRs : Hid (sumW R (m) = sumW G (m)) := by show _ = _; rw [hR]; exact sumW_rev _ _
          have HRw : Hid (∀ i, i < m → wt (R i) ≤ 500) := fun i hi => by rw [hR]; exact W7.out _ (by omega)
          rw [← hR] at O7
          clear ho7 hb7 hR W7
          go_wp2_with fail
          generalize wr = wo at *
          go_loopw [11, 81] (fun s i wr => ∃ q : Nat, q ≤ m ∧ i = .int .i64 q ∧ s = .int .i64 (sumW R q : Int) ∧ Below w7.heap.size w7 wr) (fun _ i _ => m - (intOf i).toNat)
          case atStart => exact ⟨0, Nat.zero_le _, rfl, rfl, Below.refl _ _⟩
          case round =>
            obtain ⟨q, hq, rfl, rfl, hbq⟩ := hrel
            have hRq : sumW R q ≤ 500 * q := sumW_le fun i hi => HRw.out i (by omega)
            by_cases hlq : q < m
            · have hlq' : (q : Int) < (m : Int) := by omega
              obtain ⟨b7, o7, e7, hc7⟩ := (O7.out.rdS2.below36O hbq).2.2.2 (by omega)
              cases e7
              have y0 := hc7 (q * 3) (by omega)
              have y1 := hc7 (q * 3 + 1) (by omega)
              have y2 := hc7 (q * 3 + 2) (by omega)
              rw [fdV_0] at y0
              rw [fdV_1, ← Nat.add_assoc] at y1
              rw [fdV_2, ← Nat.add_assoc] at y2
              have hwq := HRw.out q hlq
              have hsucc : sumW R (q + 1) = sumW R q + wt (R q) := rfl
              obtain ⟨S1, hS1⟩ : ∃ S1, S1 = sumW R (q + 1) := ⟨_, rfl⟩
              rw [← hS1] at hsucc
              have HS1 := hide hS1
              unfold wt at hwq hsucc
              obtain ⟨S0, hS0⟩ : ∃ S0, S0 = sumW R q := ⟨_, rfl⟩
              rw [← hS0] at hsucc hRq
              rw [← hS0]
              generalize (R q).name = n7 at *
              generalize (R q).val = v7' at *
              generalize (R q).nev = b7' at *
              have hn7 : n7.size ≤ 1000 := by omega
              have hv7 : v7'.size ≤ 1000 := by omega
              obtain ⟨x7, hx7⟩ : ∃ x7 : Int, x7 = ((n7.size + v7'.size + 32 : Nat) : Int) := ⟨_, rfl⟩
              have hw7 : IntKind.i64.wrap ((S0 : Int) + x7) = (S1 : Int) := by rw [IntWalk.i64_in _ (by omega)]; omega
              have Hx7 := hide hx7
              have alq := (Below.refl wr.heap.size wr).alloc (Nat.le_refl _) (.cells #[.string n7, .string v7', .bool b7'] 52)
              have Eq := hide (hbq.of alq)
              obtain ⟨u0, u1, u2⟩ := rowT (heap_alloc_new wr (.cells #[.string n7, .string v7', .bool b7'] 52))
              clear hS1 hS0 hsucc hwq hx7 hc7 hbq alq hRq
              go_wp2_with fail
              refine (weight21 n7 v7' b7' hn7 hv7 _).mono ?_
              rintro e w8 ⟨rfl, hw8⟩
              rw [← Hx7.out]
              have E8 : Hid (Below w7.heap.size w7 w8) := by
                rw [hw8]
                exact Eq.out.alloc Eq.out.size _
              clear hw8 Eq
              go_wp2_with fail
              go_roundw
              case rel => exact ⟨q + 1, by omega, by go_num, by rw [HS1.out], E8.out⟩
              case measure => simp [intOf]; omega
            · obtain rfl : m = q := by omega
              have T8 := hide (T7.out.below hbq)
              have E8 := hide (E7.out.of hbq)
              rw [HRs.out]
              obtain ⟨S9, hS9⟩ : ∃ S9, S9 = sumW G m := ⟨_, rfl⟩
              have hs9 : decide ((mx : Int) < (S9 : Int)) = false := decide_eq_false (by have := Hs.out; omega)
              have hs9' : decide (mx < S9) = false := decide_eq_false (by have := Hs.out; omega)
              have HS9 := hide hS9
              rw [← hS9]
              clear hbq hRq hS9
              go_wp2_with fail
              refine (size21 T8.out).mono ?_
              rintro e wl ⟨rfl, rfl⟩
              rw [← HS9.out]
              go_wp2_with fail
              refine (max21 T8.out).mono ?_
              rintro e wl ⟨rfl, rfl⟩
              go_wp2_with fail
              go_roundw
              case rel => exact ⟨k + 1, by omega, by go_num, _, _, _, _, T8.out, Hs.out, by omega, E8.out⟩
              case measure => simp [intOf]; omega
      · have hd : decide (0 ≤ ds) = false := decide_eq_false h0
        clear h0
        go_wp2_with fail
        refine (add21 T1.out E1.out.size (by omega) ⟨nm, vl, nv⟩ (by unfold wt; simp only; omega)).mono ?_
        rintro e w2 ⟨j, g', rfl, hj, _, hen, hf2, _, hcase⟩
        have E2 := hide (E1.out.trans hf2.below)
        have D2 := hide (hf2.row D1.out (fun h => Hdl.out _ h rfl))
        have hwx : wt ⟨nm, vl, nv⟩ = nm.size + vl.size + 32 := rfl
        rw [hwx] at hen hcase
        obtain ⟨xw, hxw⟩ : ∃ xw : Int, xw = ((nm.size + vl.size + 32 : Nat) : Int) := ⟨_, rfl⟩
        obtain ⟨X, hX⟩ : ∃ X, X = nm.size + vl.size + 32 := ⟨_, rfl⟩
        rw [← hX] at hen hcase
        have Hxw := hide hxw
        have Hxx : Hid (xw = (X : Int)) := by show _ = _; rw [hxw, hX]
        have hn1 : nm.size ≤ 1000 := by omega
        have hv1 : vl.size ≤ 1000 := by omega
        clear hwx hxw t0 t1 t2 t3 hf2 D1 E1 T1
        rcases hcase with ⟨hbig, ht2⟩ | ⟨hbig, ht2⟩
        · have e0 : m - j = 0 := by
            rcases hen with h | h
            · omega
            · omega
          rw [e0] at ht2
          have T2 := hide ht2
          have Hbig := hide hbig
          clear hbig ht2 hen e0 hX
          go_wp2_with fail
          refine (atNo21 T2.out 1 (.inr (by omega))).mono ?_
          rintro e w3 ⟨rfl, hb3⟩
          have al3 := (Below.refl w3.heap.size w3).alloc (Nat.le_refl _) (.cells #[.string ⟨#[]⟩, .string ⟨#[]⟩, .bool false] 52)
          have T3 := hide ((T2.out.below hb3).below al3)
          have E3 := hide ((E2.out.of hb3).of al3)
          obtain ⟨d0, d1, d2, d3⟩ := row4T (keepRow (keepRow D2.out hb3) al3)
          clear hb3 al3 T2 E2 D2
          go_wp2_with fail
          refine (weight21 nm vl nv hn1 hv1 _).mono ?_
          rintro e w4 ⟨rfl, hw4⟩
          rw [← Hxw.out]
          have al4 : Below (w3.alloc (.cells #[.string ⟨#[]⟩, .string ⟨#[]⟩, .bool false] 52)).heap.size (w3.alloc (.cells #[.string ⟨#[]⟩, .string ⟨#[]⟩, .bool false] 52)) w4 := by rw [hw4]; exact (Below.refl _ _).alloc (Nat.le_refl _) _
          have T4 := hide (T3.out.below al4)
          have E4 := hide (E3.out.of al4)
          have hle : decide (xw ≤ (mx : Int)) = false := decide_eq_false (by have h1 := Hxx.out; have h2 := Hbig.out; omega)
          clear hw4 al4 T3 E3 d0 d1 d2 d3
          go_wp2_with fail
          refine (max21 T4.out).mono ?_
          rintro e wl ⟨rfl, rfl⟩
          generalize shF j G = G2 at *
          have Hs := hide (show sumW G2 0 ≤ mx from Nat.zero_le _)
          have hN60 : 0 ≤ 60 := by omega
          have HT := hide T4.out.sum
          have hmx := T4.out.mx
          go_wp2_with fail
          refine (all21 T4.out (by omega)).mono ?_
          rintro e w7 ⟨v7, rfl, ho7, hb7⟩
          obtain ⟨A7, c7, rfl, _, _⟩ := ho7.rd
          have T7 := hide (T4.out.below hb7)
          have E7 := hide (E4.out.of hb7)
          have O7 := hide ho7
          have W7 : Hid (∀ i, i < 0 → wt (G2 i) ≤ 500) := T4.out.wl
          obtain ⟨R, hR⟩ : ∃ R : Nat → Fd, R = fun i => G2 (0 - 1 - i) := ⟨_, rfl⟩
          have HRs : Hid (sumW R (0) = sumW G2 (0)) := by show _ = _; rw [hR]; exact sumW_rev _ _
          have HRw : Hid (∀ i, i < 0 → wt (R i) ≤ 500) := fun i hi => by rw [hR]; exact W7.out _ (by omega)
          rw [← hR] at O7
          clear ho7 hb7 hR W7
          go_wp2_with fail
          generalize wr = wo at *
          go_loopw [11, 81] (fun s i wr => ∃ q : Nat, q ≤ 0 ∧ i = .int .i64 q ∧ s = .int .i64 (sumW R q : Int) ∧ Below w7.heap.size w7 wr) (fun _ i _ => 0 - (intOf i).toNat)
          case atStart => exact ⟨0, Nat.zero_le _, rfl, rfl, Below.refl _ _⟩
          case round =>
            obtain ⟨q, hq, rfl, rfl, hbq⟩ := hrel
            have hRq : sumW R q ≤ 500 * q := sumW_le fun i hi => HRw.out i (by omega)
            by_cases hlq : q < 0
            · exact absurd hlq (Nat.not_lt_zero _)
            · obtain rfl : 0 = q := by omega
              have T8 := hide (T7.out.below hbq)
              have E8 := hide (E7.out.of hbq)
              rw [HRs.out]
              obtain ⟨S9, hS9⟩ : ∃ S9, S9 = sumW G2 0 := ⟨_, rfl⟩
              have hs9 : decide ((mx : Int) < (S9 : Int)) = false := decide_eq_false (by have := Hs.out; omega)
              have hs9' : decide (mx < S9) = false := decide_eq_false (by have := Hs.out; omega)
              have HS9 := hide hS9
              rw [← hS9]
              clear hbq hRq hS9
              go_wp2_with fail
              refine (size21 T8.out).mono ?_
              rintro e wl ⟨rfl, rfl⟩
              rw [← HS9.out]
              go_wp2_with fail
              refine (max21 T8.out).mono ?_
              rintro e wl ⟨rfl, rfl⟩
              go_wp2_with fail
              go_roundw
              case rel => exact ⟨k + 1, by omega, by go_num, _, _, _, _, T8.out, Hs.out, by omega, E8.out⟩
              case measure => simp [intOf]; omega
        · have hs2' : sumW (shF j G) (m - j) + X ≤ mx := by
            rcases hen with h | h
            · rw [h, Nat.sub_self]; show 0 + X ≤ mx; omega
            · omega
          obtain ⟨N, hN⟩ : ∃ N, N = m - j := ⟨_, rfl⟩
          rw [← hN] at ht2 hs2'
          have hNk : N ≤ k := by omega
          have T2 := hide ht2
          have Hbig := hide hbig
          have HXX := hide hX
          clear hbig ht2 hen hX hN
          have hlast : appFd N (shF j G) ⟨nm, vl, false⟩ N = ⟨nm, vl, false⟩ := by unfold appFd; rw [if_neg (Nat.lt_irrefl _)]
          go_wp2_with fail
          refine (at21 T2.out (by omega) N (by omega) 1 (by omega)).mono ?_
          rw [hlast]
          rintro e w3 ⟨rfl, hb3⟩
          have al3 := (Below.refl w3.heap.size w3).alloc (Nat.le_refl _) (.cells #[.string nm, .string vl, .bool false] 52)
          have T3 := hide ((T2.out.below hb3).below al3)
          have E3 := hide ((E2.out.of hb3).of al3)
          obtain ⟨d0, d1, d2, d3⟩ := row4T (keepRow (keepRow D2.out hb3) al3)
          have R3 := hide (heap_alloc_new w3 (.cells #[.string nm, .string vl, .bool false] 52))
          have D3 := hide (keepRow (keepRow D2.out hb3) al3)
          clear hb3 al3 T2 E2 D2 hlast
          go_wp2_with fail
          refine (weight21 nm vl nv hn1 hv1 _).mono ?_
          rintro e w4 ⟨rfl, hw4⟩
          rw [← Hxw.out]
          have al4 : Below (w3.alloc (.cells #[.string nm, .string vl, .bool false] 52)).heap.size (w3.alloc (.cells #[.string nm, .string vl, .bool false] 52)) w4 := by rw [hw4]; exact (Below.refl _ _).alloc (Nat.le_refl _) _
          have T4 := hide (T3.out.below al4)
          have E4 := hide (E3.out.of al4)
          obtain ⟨r0, r1, r2⟩ := rowT (keepRow R3.out al4)
          have hle : decide (xw ≤ (mx : Int)) = true := decide_eq_true (by have h1 := Hxx.out; have h2 := Hbig.out; omega)
          have hnn : (nm.toList == nm.toList) = true := beq_self_eq_true _
          have hvv : (vl.toList == vl.toList) = true := beq_self_eq_true _
          clear d0 d1 d2 d3
          obtain ⟨d0, d1, d2, d3⟩ := row4T (keepRow D3.out al4)
          clear hw4 al4 T3 E3 D3 R3
          go_wp2_with fail
          refine (max21 T4.out).mono ?_
          rintro e wl ⟨rfl, rfl⟩
          have hsA : sumW (appFd N (shF j G) ⟨nm, vl, false⟩) (N + 1) ≤ mx := by
            rw [sumW_app]
            show _ + (nm.size + vl.size + 32) ≤ mx
            rw [← HXX.out]
            exact hs2'
          generalize appFd N (shF j G) ⟨nm, vl, false⟩ = G2 at *
          have Hs := hide (show sumW G2 (N + 1) ≤ mx from hsA)
          have hN60 : (N + 1) ≤ 60 := by omega
          have HT := hide T4.out.sum
          have hmx := T4.out.mx
          go_wp2_with fail
          refine (all21 T4.out (by omega)).mono ?_
          rintro e w7 ⟨v7, rfl, ho7, hb7⟩
          obtain ⟨A7, c7, rfl, _, _⟩ := ho7.rd
          have T7 := hide (T4.out.below hb7)
          have E7 := hide (E4.out.of hb7)
          have O7 := hide ho7
          have W7 : Hid (∀ i, i < (N + 1) → wt (G2 i) ≤ 500) := T4.out.wl
          obtain ⟨R, hR⟩ : ∃ R : Nat → Fd, R = fun i => G2 ((N + 1) - 1 - i) := ⟨_, rfl⟩
          have HRs : Hid (sumW R ((N + 1)) = sumW G2 ((N + 1))) := by show _ = _; rw [hR]; exact sumW_rev _ _
          have HRw : Hid (∀ i, i < (N + 1) → wt (R i) ≤ 500) := fun i hi => by rw [hR]; exact W7.out _ (by omega)
          rw [← hR] at O7
          clear ho7 hb7 hR W7
          go_wp2_with fail
          generalize wr = wo at *
          go_loopw [11, 81] (fun s i wr => ∃ q : Nat, q ≤ (N + 1) ∧ i = .int .i64 q ∧ s = .int .i64 (sumW R q : Int) ∧ Below w7.heap.size w7 wr) (fun _ i _ => (N + 1) - (intOf i).toNat)
          case atStart => exact ⟨0, Nat.zero_le _, rfl, rfl, Below.refl _ _⟩
          case round =>
            obtain ⟨q, hq, rfl, rfl, hbq⟩ := hrel
            have hRq : sumW R q ≤ 500 * q := sumW_le fun i hi => HRw.out i (by omega)
            by_cases hlq : q < (N + 1)
            · have hlq' : (q : Int) < ((N + 1) : Int) := by omega
              obtain ⟨b7, o7, e7, hc7⟩ := (O7.out.rdS2.below36O hbq).2.2.2 (by omega)
              cases e7
              have y0 := hc7 (q * 3) (by omega)
              have y1 := hc7 (q * 3 + 1) (by omega)
              have y2 := hc7 (q * 3 + 2) (by omega)
              rw [fdV_0] at y0
              rw [fdV_1, ← Nat.add_assoc] at y1
              rw [fdV_2, ← Nat.add_assoc] at y2
              have hwq := HRw.out q hlq
              have hsucc : sumW R (q + 1) = sumW R q + wt (R q) := rfl
              obtain ⟨S1, hS1⟩ : ∃ S1, S1 = sumW R (q + 1) := ⟨_, rfl⟩
              rw [← hS1] at hsucc
              have HS1 := hide hS1
              unfold wt at hwq hsucc
              obtain ⟨S0, hS0⟩ : ∃ S0, S0 = sumW R q := ⟨_, rfl⟩
              rw [← hS0] at hsucc hRq
              rw [← hS0]
              generalize (R q).name = n7 at *
              generalize (R q).val = v7' at *
              generalize (R q).nev = b7' at *
              have hn7 : n7.size ≤ 1000 := by omega
              have hv7 : v7'.size ≤ 1000 := by omega
              obtain ⟨x7, hx7⟩ : ∃ x7 : Int, x7 = ((n7.size + v7'.size + 32 : Nat) : Int) := ⟨_, rfl⟩
              have hw7 : IntKind.i64.wrap ((S0 : Int) + x7) = (S1 : Int) := by rw [IntWalk.i64_in _ (by omega)]; omega
              have Hx7 := hide hx7
              have alq := (Below.refl wr.heap.size wr).alloc (Nat.le_refl _) (.cells #[.string n7, .string v7', .bool b7'] 52)
              have Eq := hide (hbq.of alq)
              obtain ⟨u0, u1, u2⟩ := rowT (heap_alloc_new wr (.cells #[.string n7, .string v7', .bool b7'] 52))
              clear hS1 hS0 hsucc hwq hx7 hc7 hbq alq hRq
              go_wp2_with fail
              refine (weight21 n7 v7' b7' hn7 hv7 _).mono ?_
              rintro e w8 ⟨rfl, hw8⟩
              rw [← Hx7.out]
              have E8 : Hid (Below w7.heap.size w7 w8) := by
                rw [hw8]
                exact Eq.out.alloc Eq.out.size _
              clear hw8 Eq
              go_wp2_with fail
              go_roundw
              case rel => exact ⟨q + 1, by omega, by go_num, by rw [HS1.out], E8.out⟩
              case measure => simp [intOf]; omega
            · obtain rfl : (N + 1) = q := by omega
              have T8 := hide (T7.out.below hbq)
              have E8 := hide (E7.out.of hbq)
              rw [HRs.out]
              obtain ⟨S9, hS9⟩ : ∃ S9, S9 = sumW G2 (N + 1) := ⟨_, rfl⟩
              have hs9 : decide ((mx : Int) < (S9 : Int)) = false := decide_eq_false (by have := Hs.out; omega)
              have hs9' : decide (mx < S9) = false := decide_eq_false (by have := Hs.out; omega)
              have HS9 := hide hS9
              rw [← hS9]
              clear hbq hRq hS9
              go_wp2_with fail
              refine (size21 T8.out).mono ?_
              rintro e wl ⟨rfl, rfl⟩
              rw [← HS9.out]
              go_wp2_with fail
              refine (max21 T8.out).mono ?_
              rintro e wl ⟨rfl, rfl⟩
              go_wp2_with fail
              go_roundw
              case rel => exact ⟨k + 1, by omega, by go_num, _, _, _, _, T8.out, Hs.out, by omega, E8.out⟩
              case measure => simp [intOf]; omega
    · obtain rfl : n = k := by omega
      go_wp2_with fail
      refine (alive21 _).mono ?_
      rintro e w2 ⟨rfl, hb2⟩
      go_wp2_with fail
      go_ret
      exact ⟨rfl, hbl.of hb2⟩
end Go.Proofs.Yteikpdolickkaaa
