/- Layer 21: whatever is added, and however large the table may be. -/
import Derived.Test.YteikpdolickkaaaDz7
namespace Go.Proofs.Yteikpdolickkaaa
open Go.RowKit Go.Deep Go.ChangeShapes Go.WideShapes

theorem row4U {w : World} {p : Nat} {T : TypeId} {a b c d : Value} (h : w.heap[p]? = some (.cells #[a, b, c, d] T (0, 0))) : w.cell? ⟨p, 0, none⟩ = some a ∧ w.cell? ⟨p, 1, none⟩ = some b ∧ w.cell? ⟨p, 2, none⟩ = some c ∧ w.cell? ⟨p, 3, none⟩ = some d := by
  refine ⟨?_, ?_, ?_, ?_⟩ <;> simp [World.cell?, h]
theorem nilRd21 (w : World) (F : Nat → Value) : RdV 3 w none 0 0 F := ⟨Nat.le_refl _, by simp [maxLen], fun _ => rfl, fun h => absurd h (Nat.lt_irrefl _)⟩
set_option maxRecDepth 20000 in
set_option maxHeartbeats 6400000 in
theorem plays_walk21 (mx : Int) (A : Option Addr) (n c : Nat) (F : Nat → Td) (w : World) (ha : RdTd w A n c F) :
    Calls Try.prog 4 #[.int .i64 mx, .slice A n c] w (Yes w) := by
  have Ha := hide ha
  have hn63 : (n : Int) ≤ 9223372036854775807 := by have h1 := ha.1; have h2 := ha.2.1; simp only [maxLen] at h2; omega
  clear ha
  go_enter Try.func4, Try.ntmps4
  go_wp2_with fail
  refine (large21 Ha.out).mono ?_
  rintro e w0 ⟨h1, rfl⟩
  rcases h1 with rfl | ⟨rfl, h60, hsm⟩
  · go_wp2_with fail
    refine (alive21 _).mono ?_
    rintro e w2 ⟨rfl, hb2⟩
    go_wp2_with fail
    go_ret
    exact ⟨rfl, hb2⟩
  by_cases hmx : 0 ≤ mx ∧ mx ≤ 2147483647
  rotate_left
  · have hdm : decide (0 ≤ mx ∧ mx ≤ 2147483647) = false := decide_eq_false hmx
    go_wp2_with fail
    refine (newNo21 mx hmx w).mono ?_
    rintro e w1 ⟨rfl, rfl⟩
    go_wp2_with fail
    refine (rmay21 mx w).mono ?_
    rintro e w1 ⟨rfl, rfl⟩
    rw [hdm]
    go_wp2_with fail
    refine (alive21 _).mono ?_
    rintro e w2 ⟨rfl, hb2⟩
    go_wp2_with fail
    go_ret
    exact ⟨rfl, hb2⟩
  have hdm : decide (0 ≤ mx ∧ mx ≤ 2147483647) = true := decide_eq_true hmx
  obtain ⟨m0, rfl⟩ : ∃ m0 : Nat, mx = (m0 : Int) := ⟨mx.toNat, by omega⟩
  have Hn := hide h60
  have Hsm := hide hsm
  have T0 := hide (TOk.new (B := w.heap.size) w m0 (Nat.le_refl _) (by omega) fun _ => fda)
  have E0 := hide ((Below.refl w.heap.size w).alloc (Nat.le_refl _) (.cells #[.slice none 0 0, .int .i64 0, .int .i64 (m0 : Int)] 68))
  have S0 : Hid (w.heap.size < (w.alloc (.cells #[.slice none 0 0, .int .i64 0, .int .i64 (m0 : Int)] 68)).heap.size) := by show _ < _; simp
  clear h60 hsm
  go_wp2_with fail
  refine (new21 (m0 : Int) hmx w).mono ?_
  rintro e z ⟨rfl, rfl⟩
  generalize w.alloc (.cells #[.slice none 0 0, .int .i64 0, .int .i64 (m0 : Int)] 68) = z at *
  go_wp2_with fail
  refine (rmay21 (m0 : Int) z).mono ?_
  rintro e w1 ⟨rfl, rfl⟩
  rw [hdm]
  have al := (Below.refl z.heap.size z).alloc (Nat.le_refl _) (.cells #[.slice none 0 0, .int .i64 (m0 : Int)] 50)
  have P0 : Hid (PT w.heap.size (z.alloc (.cells #[.slice none 0 0, .int .i64 (m0 : Int)] 50)) w.heap.size none z.heap.size 0 m0 (fun _ => fda) none 0) :=
    ⟨T0.out.below al, heap_alloc_new z _, nilRd21 _ _, fun a ha => (by cases ha), Nat.le_of_lt S0.out, fun hq => by
      rcases hq with hq | hq
      · have := S0.out; omega
      · cases hq⟩
  have E1 := hide (E0.out.of al)
  clear al T0 E0 hmx hdm
  go_wp2_with fail
  generalize hpr : z.heap.size = pr at *
  generalize z.alloc (.cells #[.slice none 0 0, .int .i64 (m0 : Int)] 50) = Z at *
  clear hpr S0
  go_loopw [37] (fun i wr => ∃ k : Nat, k ≤ n ∧ i = .int .i64 k ∧ ∃ (g : Option Nat) (m mx : Nat) (G : Nat → Fd) (A1 : Option Addr) (c1 : Nat), PT w.heap.size wr w.heap.size g pr m mx G A1 c1 ∧ m ≤ k ∧ Below w.heap.size w wr) (fun i _ => n - (intOf i).toNat)
  case atStart => exact ⟨0, Nat.zero_le _, rfl, _, _, _, _, _, _, P0.out, Nat.le_refl _, E1.out⟩
  case round =>
    obtain ⟨k, hk, rfl, g, m, mx, G, A1, c1, hp, hmk, hbl⟩ := hrel
    clear P0 E1
    by_cases hlt : k < n
    · have hkn' : (k : Int) < (n : Int) := by omega
      obtain ⟨b, off, rfl, hc0, hc1, hc2, hc3⟩ := (Ha.out.below hbl).at_ hlt
      obtain ⟨hs1, hs2⟩ := Hsm.out k hlt
      have hds := bounds_i64 (Ha.out.2.2.2.2 k hlt).2.2
      have hn60 := Hn.out
      generalize F k = Dk at *
      obtain ⟨⟨nm, vl, nv⟩, ds⟩ := Dk
      simp only at hc0 hc1 hc2 hc3 hs1 hs2 hds
      have al := (Below.refl wr.heap.size wr).alloc (Nat.le_refl _) (.cells #[.string nm, .string vl, .bool nv, .int .i64 ds] 54)
      have P1 := hide (hp.below al)
      have E1 := hide (hbl.of al)
      have D1 := hide (heap_alloc_new wr (.cells #[.string nm, .string vl, .bool nv, .int .i64 ds] 54))
      have Hpr : Hid (wr.heap.size ≠ pr) := by show _ ≠ _; have := rowLt hp.row; omega
      have Hdl : Hid (∀ i, tfp w.heap.size g i → i ≠ wr.heap.size) := fun i hi => by show _ ≠ _; have := (hp.t.lt i hi).2; omega
      have hmx := hp.t.mx
      obtain ⟨t0, t1, t2, t3⟩ := row4U D1.out
      clear hp hbl al
      by_cases h0 : ds < 0
      · have hd : decide (ds < 0) = true := decide_eq_true h0
        clear h0
        go_wp2_with fail
        refine (add21 P1.out.t E1.out.size (by omega) ⟨nm, vl, nv⟩ (by unfold wt; simp only; omega)).mono ?_
        rintro e w2 ⟨j, g', rfl, hj, hj1, hj2, hf2, hg', hcase⟩
        have E2 := hide (E1.out.trans hf2.below)
        have D2 := hide (hf2.row D1.out (fun h => Hdl.out _ h rfl))
        have HC := hide hcase
        have Hj1 := hide hj1
        have Hj2 := hide hj2
        have HX : Hid (w2.heap[pr]? = some (.cells #[.slice A1 m c1, .int .i64 (mx : Int)] 50 (0, 0)) ∧ RdV 3 w2 A1 m c1 (fdV (rvF m G)) ∧ (∀ a, A1 = some a → w.heap.size ≤ a.block ∧ a.block < w2.heap.size ∧ ¬ tfp w.heap.size g' a.block ∧ a.block ≠ pr) ∧ ¬ tfp w.heap.size g' pr) := by
          rcases HC.out with ⟨_, ht⟩ | ⟨_, ht⟩
          · exact P1.out.rest hf2 ht hg'
          · exact P1.out.rest hf2 ht hg'
        clear hf2 hcase hj1 hj2 hg' t0 t1 t2 t3 D1 E1
        obtain ⟨d0, d1, d2, d3⟩ := row4U D2.out
        obtain ⟨r0, r1⟩ := row2 HX.out.1
        go_wp2_with fail
        refine (radd21 HX.out.2.1 (by omega) P1.out.wl (by omega) (by omega) ⟨nm, vl, nv⟩ (by unfold wt; simp only; omega)).mono ?_
        rintro e w3 ⟨A3, N, c3, rfl, hb3, hr3⟩
        obtain ⟨G3, ht3, hrd3, had3, hN⟩ := added21 hj Hj1.out Hj2.out HC.out hb3 hr3
        have HT3 := hide ht3
        have HR3 := hide hrd3
        have HP3 : Hid (¬ tfp w.heap.size g' pr) := HX.out.2.2.2
        have hw2 := E2.out.size
        have HA3 : Hid (∀ a, A3 = some a → w.heap.size ≤ a.block ∧ a.block < w3.heap.size ∧ ¬ tfp w.heap.size g' a.block ∧ a.block ≠ pr) := fun a ha => by
          obtain ⟨h1, h2⟩ := had3 a ha
          refine ⟨by omega, h2, fun hq => ?_, fun hq => by have := rowLt HX.out.1; omega⟩
          rcases HC.out with ⟨_, ht⟩ | ⟨_, ht⟩
          · have := (ht.lt _ hq).2; omega
          · have := (ht.lt _ hq).2; omega
        have KR := hide (keepRow HX.out.1 hb3)
        have E3 := hide (E2.out.of hb3)
        have D3 := hide (keepRow D2.out hb3)
        clear ht3 hrd3 had3 hr3 hb3 HC Hj1 Hj2 E2 D2 HX r0 r1 d0 d1 d2 d3 hw2
        have K0 := frozenRow KR.out 0
        have K1 := frozenRow KR.out 1
        obtain ⟨r0, r1⟩ := row2 KR.out
        have P4 : Hid (PT w.heap.size ((w3.setCell ⟨pr, 0, none⟩ (.slice A3 N c3)).setCell ⟨pr, 1, none⟩ (.int .i64 (mx : Int))) w.heap.size g' pr N mx G3 A3 c3) := PT.store HT3.out KR.out HR3.out HA3.out P1.out.hp HP3.out
        have E4 : Hid (Below w.heap.size w ((w3.setCell ⟨pr, 0, none⟩ (.slice A3 N c3)).setCell ⟨pr, 1, none⟩ (.int .i64 (mx : Int)))) := (E3.out.setCell P1.out.hp _).setCell P1.out.hp _
        have D4 : Hid (((w3.setCell ⟨pr, 0, none⟩ (.slice A3 N c3)).setCell ⟨pr, 1, none⟩ (.int .i64 (mx : Int))).heap[wr.heap.size]? = some (.cells #[.string nm, .string vl, .bool nv, .int .i64 ds] 54 (0, 0))) := by
          show _ = _
          rw [Below.heap_setCell _ ⟨pr, 1, none⟩ _ _ Hpr.out, Below.heap_setCell _ ⟨pr, 0, none⟩ _ _ Hpr.out]
          exact D3.out
        obtain ⟨q0, q1⟩ := row2 P4.out.row
        obtain ⟨e0, e1, e2, e3⟩ := row4U D4.out
        go_wp2_with fail
        refine (alike21 P4.out.t (by omega) P4.out.rd nm vl).mono ?_
        rintro e w9 ⟨rfl, hb9⟩
        have P9 := hide (P4.out.below hb9)
        have E9 := hide (E4.out.of hb9)
        clear hb9
        go_wp2_with fail
        go_roundw
        case rel => exact ⟨k + 1, by omega, by go_num, _, _, _, _, _, _, P9.out, by omega, E9.out⟩
        case measure => simp [intOf]; omega
      · have hd : decide (ds < 0) = false := decide_eq_false h0
        by_cases hx : ds ≤ 2147483647
        · obtain ⟨x, rfl⟩ : ∃ x : Nat, ds = (x : Int) := ⟨ds.toNat, by omega⟩
          have hdm : decide (0 ≤ (x : Int) ∧ (x : Int) ≤ 2147483647) = true := decide_eq_true ⟨by omega, hx⟩
          clear h0
          go_wp2_with fail
          refine (resize21 P1.out.t E1.out.size (by omega) x (by omega)).mono ?_
          rintro e w2 ⟨j, rfl, hj, hj1, hj2, ht2, hf2⟩
          have HX : Hid (w2.heap[pr]? = some (.cells #[.slice A1 m c1, .int .i64 (mx : Int)] 50 (0, 0)) ∧ RdV 3 w2 A1 m c1 (fdV (rvF m G)) ∧ (∀ a, A1 = some a → w.heap.size ≤ a.block ∧ a.block < w2.heap.size ∧ ¬ tfp w.heap.size g a.block ∧ a.block ≠ pr) ∧ ¬ tfp w.heap.size g pr) := P1.out.rest hf2 ht2 (.inl rfl)
          have HT2 := hide ht2
          have Hj1 := hide hj1
          have Hj2 := hide hj2
          have E2 := hide (E1.out.trans hf2.below)
          have D2 := hide (hf2.row D1.out (fun h => Hdl.out _ h rfl))
          clear hf2 ht2 hj1 hj2 t0 t1 t2 t3 D1 E1
          obtain ⟨d0, d1, d2, d3⟩ := row4U D2.out
          obtain ⟨r0, r1⟩ := row2 HX.out.1
          go_wp2_with fail
          refine (rmay21 (x : Int) _).mono ?_
          rintro e wl ⟨rfl, rfl⟩
          rw [hdm]
          go_wp2_with fail
          refine (rresize21 HX.out.2.1 (fun a ha => (HX.out.2.2.1 a ha).2.1) (by omega) P1.out.wl (x : Int)).mono ?_
          rintro e w3 ⟨A3, N, c3, rfl, hk3, hr3, hA3, hb3⟩
          obtain ⟨ht3, hrd3, hN⟩ := resizedB21 hj Hj1.out Hj2.out HT2.out hb3 hk3 hr3
          have HT3 := hide ht3
          have HR3 := hide hrd3
          have HP3 : Hid (¬ tfp w.heap.size g pr) := HX.out.2.2.2
          have HA3 : Hid (∀ a, A3 = some a → w.heap.size ≤ a.block ∧ a.block < w3.heap.size ∧ ¬ tfp w.heap.size g a.block ∧ a.block ≠ pr) := fun a ha => by
            obtain ⟨a0, h1, h2⟩ := hA3 a ha
            have h3 := HX.out.2.2.1 a0 h1
            rw [h2] at h3
            exact ⟨h3.1, Nat.lt_of_lt_of_le h3.2.1 hb3.size, h3.2.2⟩
          have KR := hide (keepRow HX.out.1 hb3)
          have E3 := hide (E2.out.of hb3)
          have D3 := hide (keepRow D2.out hb3)
          generalize shF j G = G3 at *
          clear ht3 hrd3 hk3 hr3 hA3 hb3 HT2 Hj1 Hj2 E2 D2 HX r0 r1 d0 d1 d2 d3
          have K0 := frozenRow KR.out 0
          have K1 := frozenRow KR.out 1
          obtain ⟨r0, r1⟩ := row2 KR.out
          have P4 : Hid (PT w.heap.size ((w3.setCell ⟨pr, 0, none⟩ (.slice A3 N c3)).setCell ⟨pr, 1, none⟩ (.int .i64 (x : Int))) w.heap.size g pr N x G3 A3 c3) := PT.store HT3.out KR.out HR3.out HA3.out P1.out.hp HP3.out
          have E4 : Hid (Below w.heap.size w ((w3.setCell ⟨pr, 0, none⟩ (.slice A3 N c3)).setCell ⟨pr, 1, none⟩ (.int .i64 (x : Int)))) := (E3.out.setCell P1.out.hp _).setCell P1.out.hp _
          have D4 : Hid (((w3.setCell ⟨pr, 0, none⟩ (.slice A3 N c3)).setCell ⟨pr, 1, none⟩ (.int .i64 (x : Int))).heap[wr.heap.size]? = some (.cells #[.string nm, .string vl, .bool nv, .int .i64 (x : Int)] 54 (0, 0))) := by
            show _ = _
            rw [Below.heap_setCell _ ⟨pr, 1, none⟩ _ _ Hpr.out, Below.heap_setCell _ ⟨pr, 0, none⟩ _ _ Hpr.out]
            exact D3.out
          obtain ⟨q0, q1⟩ := row2 P4.out.row
          obtain ⟨e0, e1, e2, e3⟩ := row4U D4.out
          go_wp2_with fail
          refine (rmay21 (x : Int) _).mono ?_
          rintro e wl ⟨rfl, rfl⟩
          rw [hdm]
          go_wp2_with fail
          refine (rmay21 (x : Int) _).mono ?_
          rintro e wl ⟨rfl, rfl⟩
          rw [hdm]
          clear q0 q1 e0 e1 e2 e3
          obtain ⟨r0, r1⟩ := row2 P4.out.row
          obtain ⟨d0, d1, d2, d3⟩ := row4U D4.out
          go_wp2_with fail
          refine (alike21 P4.out.t (by omega) P4.out.rd nm vl).mono ?_
          rintro e w9 ⟨rfl, hb9⟩
          have P9 := hide (P4.out.below hb9)
          have E9 := hide (E4.out.of hb9)
          clear hb9 r0 r1 d0 d1 d2 d3
          go_wp2_with fail
          go_roundw
          case rel => exact ⟨k + 1, by omega, by go_num, _, _, _, _, _, _, P9.out, by omega, E9.out⟩
          case measure => simp [intOf]; omega
        · have hdm : decide (0 ≤ ds ∧ ds ≤ 2147483647) = false := decide_eq_false fun h => hx h.2
          clear h0
          go_wp2_with fail
          refine (resizeNo21 ds (by omega)).mono ?_
          rintro e w2 ⟨rfl, rfl⟩
          go_wp2_with fail
          refine (rmay21 ds _).mono ?_
          rintro e wl ⟨rfl, rfl⟩
          rw [hdm]
          go_wp2_with fail
          refine (rmay21 ds _).mono ?_
          rintro e wl ⟨rfl, rfl⟩
          rw [hdm]
          go_wp2_with fail
          refine (rmay21 ds _).mono ?_
          rintro e wl ⟨rfl, rfl⟩
          rw [hdm]
          clear t0 t1 t2 t3
          obtain ⟨r0, r1⟩ := row2 P1.out.row
          obtain ⟨d0, d1, d2, d3⟩ := row4U D1.out
          go_wp2_with fail
          refine (alike21 P1.out.t (by omega) P1.out.rd nm vl).mono ?_
          rintro e w9 ⟨rfl, hb9⟩
          have P9 := hide (P1.out.below hb9)
          have E9 := hide (E1.out.of hb9)
          clear hb9 r0 r1 d0 d1 d2 d3
          go_wp2_with fail
          go_roundw
          case rel => exact ⟨k + 1, by omega, by go_num, _, _, _, _, _, _, P9.out, by omega, E9.out⟩
          case measure => simp [intOf]; omega
    · obtain rfl : n = k := by omega
      go_wp2_with fail
      refine (alive21 _).mono ?_
      rintro e w2 ⟨rfl, hb2⟩
      go_wp2_with fail
      go_ret
      exact ⟨rfl, hbl.of hb2⟩
end Go.Proofs.Yteikpdolickkaaa
