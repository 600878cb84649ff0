/- Layer 21: Find; the reference's May, Weight, Size, fit. -/
import Derived.Test.YteikpdolickkaaaDz1
namespace Go.Proofs.Yteikpdolickkaaa
open Go.RowKit Go.Deep

theorem str_eq21 {a b : ByteArray} (h : a = b) : (a.toList == b.toList) = true := by subst h; simp
theorem str_ne21 {a b : ByteArray} (h : a ≠ b) : (a.toList == b.toList) = false := by
  have : ¬ a.toList = b.toList := fun e => h (Go.WideShapes.bytes_inj (by rw [← ByteArray.toList_eq, ← ByteArray.toList_eq]; exact e))
  simpa using this
set_option maxRecDepth 20000 in
set_option maxHeartbeats 3200000 in
theorem find21 {B : Nat} {w : World} {p : Nat} {g : Option Nat} {n max : Nat} {F : Nat → Fd} (h : TOk B w p g n max F) (hn : n ≤ 100) (nm vl : ByteArray) :
    Calls Try.prog 100 #[.pointer (some ⟨p, 0, none⟩), .string nm, .string vl] w fun e w' => ∃ i b, e = .returned (.tuple #[.int .i64 i, .bool b]) ∧ FiR (rvF n F) n nm vl i b ∧ Below w.heap.size w w' := by
  have HT := hide h
  obtain ⟨L, hL⟩ : ∃ L, L = rvF n F := ⟨_, rfl⟩
  have HL := hide hL
  rw [← hL]
  clear h hL
  go_enter Try.func100, Try.ntmps100
  go_wp2_with fail
  go_loopw [8, 9] (fun f i wr => ∃ (k : Nat) (Q I : Int), k ≤ n ∧ f = .int .i64 Q ∧ i = .int .i64 I ∧ I = (k : Int) + 1 ∧ (∀ j, j < k → ¬ ((L j).name = nm ∧ (L j).val = vl)) ∧ ((Q = 0 ∧ ∀ j, j < k → (L j).name ≠ nm) ∨ ∃ q : Nat, q < k ∧ Q = (q : Int) + 1 ∧ (L q).name = nm ∧ ∀ j, j < q → (L j).name ≠ nm) ∧ Below w.heap.size w wr) (fun _ i _ => n + 1 - (intOf i).toNat)
  case atStart => exact ⟨0, 0, 1, Nat.zero_le _, rfl, rfl, rfl, fun j h => absurd h (by omega), .inl ⟨rfl, fun j h => absurd h (by omega)⟩, Below.refl _ _⟩
  case round =>
    obtain ⟨k, Q, I, hk, rfl, rfl, hI, hno, hF, hB⟩ := hrel
    have Hno := hide hno
    have HF := hide hF
    have HB := hide hB
    have HI := hide hI
    have T1 := hide (HT.out.below hB)
    have hwI : IntKind.i64.wrap (I + 1) = I + 1 := IntWalk.i64_in _ (by omega)
    have hI0 : 0 ≤ I := by omega
    by_cases hlt : k < n
    · have hd : decide (I ≤ (n : Int)) = true := decide_eq_true (by omega)
      clear hno hF hB hI
      go_wp2_with fail
      refine (len21 T1.out).mono ?_
      rintro e wl ⟨rfl, rfl⟩
      go_wp2_with fail
      refine (at21 T1.out (by omega) (n - 1 - k) (by omega) I (by have := HI.out; omega)).mono ?_
      obtain ⟨N, hN⟩ : ∃ N, N = (F (n - 1 - k)).name := ⟨_, rfl⟩
      obtain ⟨V, hV⟩ : ∃ V, V = (F (n - 1 - k)).val := ⟨_, rfl⟩
      obtain ⟨X, hX⟩ : ∃ X, X = (F (n - 1 - k)).nev := ⟨_, rfl⟩
      rw [← hN, ← hV, ← hX]
      have HN : Hid ((L k).name = N) := by show _ = _; rw [HL.out, hN]; rfl
      have HV : Hid ((L k).val = V) := by show _ = _; rw [HL.out, hV]; rfl
      clear hN hV hX
      rintro e w1 ⟨rfl, hb1⟩
      have al := (Below.refl w1.heap.size w1).alloc (Nat.le_refl _) (.cells #[.string N, .string V, .bool X] 52)
      have HA := hide ((HB.out.of hb1).of al)
      obtain ⟨c0, c1, c2⟩ := rowT (heap_alloc_new w1 (.cells #[.string N, .string V, .bool X] 52))
      clear hb1 al T1
      by_cases hn1 : N = nm
      · have t1 : (!N.toList == nm.toList) = false := by rw [str_eq21 hn1]; rfl
        by_cases hv : V = vl
        · have t2 := str_eq21 hv
          have HR : Hid (FiR L n nm vl I true) := .inl ⟨rfl, k, hlt, HI.out, by rw [HN.out, hn1], by rw [HV.out, hv], Hno.out⟩
          clear hn1 hv
          go_wp2_with fail
          go_ret2
          exact ⟨_, _, rfl, HR.out, HA.out⟩
        · have t2 := str_ne21 hv
          have Hno' : Hid (∀ j, j < k + 1 → ¬ ((L j).name = nm ∧ (L j).val = vl)) := fun j hj => by
            by_cases e : j = k
            · subst e
              exact fun h => hv (by rw [← HV.out]; exact h.2)
            · exact Hno.out j (by omega)
          have Hn := hide hn1
          clear hn1 hv
          by_cases hF0 : Q = 0
          · have t3 : (Q == 0) = true := by simpa using hF0
            have HF' : Hid (∃ q : Nat, q < k + 1 ∧ I = (q : Int) + 1 ∧ (L q).name = nm ∧ ∀ j, j < q → (L j).name ≠ nm) := by
              refine ⟨k, by omega, HI.out, by rw [HN.out, Hn.out], ?_⟩
              rcases HF.out with ⟨_, h⟩ | ⟨q, _, e, _⟩
              · exact h
              · omega
            clear hF0
            go_wp2_with fail
            exact ⟨⟨k + 1, I, I + 1, by omega, rfl, rfl, by have := HI.out; omega, Hno'.out, .inr HF'.out, HA.out⟩, by have := HI.out; simp [intOf]; omega⟩
          · have t3 : (Q == 0) = false := by simpa using hF0
            have HF' : Hid (∃ q : Nat, q < k + 1 ∧ Q = (q : Int) + 1 ∧ (L q).name = nm ∧ ∀ j, j < q → (L j).name ≠ nm) := by
              rcases HF.out with ⟨e, _⟩ | ⟨q, hq, e, h1, h2⟩
              · exact absurd e hF0
              · exact ⟨q, by omega, e, h1, h2⟩
            clear hF0
            go_wp2_with fail
            exact ⟨⟨k + 1, Q, I + 1, by omega, rfl, rfl, by have := HI.out; omega, Hno'.out, .inr HF'.out, HA.out⟩, by have := HI.out; simp [intOf]; omega⟩
      · have t1 : (!N.toList == nm.toList) = true := by rw [str_ne21 hn1]; rfl
        have hnk : (L k).name ≠ nm := by rw [HN.out]; exact hn1
        have Hno' : Hid (∀ j, j < k + 1 → ¬ ((L j).name = nm ∧ (L j).val = vl)) := fun j hj => by
          by_cases e : j = k
          · subst e
            exact fun h => hnk h.1
          · exact Hno.out j (by omega)
        have HF' : Hid ((Q = 0 ∧ ∀ j, j < k + 1 → (L j).name ≠ nm) ∨ ∃ q : Nat, q < k + 1 ∧ Q = (q : Int) + 1 ∧ (L q).name = nm ∧ ∀ j, j < q → (L j).name ≠ nm) := by
          rcases HF.out with ⟨e, h⟩ | ⟨q, hq, e, h1, h2⟩
          · refine .inl ⟨e, fun j hj => ?_⟩
            by_cases e : j = k
            · subst e
              exact hnk
            · exact h j (by omega)
          · exact .inr ⟨q, by omega, e, h1, h2⟩
        clear hn1 hnk
        go_wp2_with fail
        exact ⟨⟨k + 1, Q, I + 1, by omega, rfl, rfl, by have := HI.out; omega, Hno'.out, HF'.out, HA.out⟩, by have := HI.out; simp [intOf]; omega⟩
    · obtain rfl : n = k := by omega
      have hd : decide (I ≤ (n : Int)) = false := decide_eq_false (by omega)
      clear hno hF hB hI
      go_wp2_with fail
      refine (len21 T1.out).mono ?_
      rintro e wl ⟨rfl, rfl⟩
      go_wp2_with fail
      go_ret2
      exact ⟨_, _, rfl, .inr ⟨rfl, Hno.out, HF.out⟩, HB.out⟩
theorem rmay21 (x : Int) (w : World) : Calls Try.prog 23 #[.int .i64 x] w fun e w' => e = .returned (.bool (decide (0 ≤ x ∧ x ≤ 2147483647))) ∧ w = w' := by
  by_cases h0 : 0 ≤ x
  · have d0 : decide (0 ≤ x) = true := decide_eq_true h0
    by_cases h1 : x ≤ 2147483647
    · have d1 : decide (x ≤ 2147483647) = true := decide_eq_true h1
      have e : decide (0 ≤ x ∧ x ≤ 2147483647) = true := decide_eq_true ⟨h0, h1⟩
      rw [e]
      clear h0 h1
      go_enter Try.func23, Try.ntmps23
      go_wp2
      go_ret
      exact ⟨rfl, rfl⟩
    · have d1 : decide (x ≤ 2147483647) = false := decide_eq_false h1
      have e : decide (0 ≤ x ∧ x ≤ 2147483647) = false := decide_eq_false (fun h => h1 h.2)
      rw [e]
      clear h0 h1
      go_enter Try.func23, Try.ntmps23
      go_wp2
      go_ret
      exact ⟨rfl, rfl⟩
  · have d0 : decide (0 ≤ x) = false := decide_eq_false h0
    have e : decide (0 ≤ x ∧ x ≤ 2147483647) = false := decide_eq_false (fun h => h0 h.1)
    rw [e]
    clear h0
    go_enter Try.func23, Try.ntmps23
    go_wp2
    go_ret
    exact ⟨rfl, rfl⟩
theorem rweight21 (a b : ByteArray) (c : Bool) (ha : a.size ≤ 1000) (hb : b.size ≤ 1000) (w : World) : Calls Try.prog 98 #[.agg #[.string a, .string b, .bool c]] w fun e w' => e = .returned (.int .i64 ((a.size + b.size + 32 : Nat) : Int)) ∧ w' = w.alloc (.cells #[.string a, .string b, .bool c] 52) := by
  have hw1 : IntKind.i64.wrap ((a.size : Int) + (b.size : Int)) = (a.size : Int) + (b.size : Int) := IntWalk.i64_in _ (by omega)
  have hw2 : IntKind.i64.wrap ((a.size : Int) + (b.size : Int) + 32) = (a.size : Int) + (b.size : Int) + 32 := IntWalk.i64_in _ (by omega)
  have e : ((a.size + b.size + 32 : Nat) : Int) = (a.size : Int) + (b.size : Int) + 32 := by omega
  rw [e]
  go_enter Try.func98, Try.ntmps98
  go_wp2
  go_ret
  exact ⟨rfl, rfl⟩
/-- The weight of one more of a row. -/
theorem row_at21 {w : World} {A : Option Addr} {n c : Nat} {L : Nat → Fd} (h : RdV 3 w A n c (fdV L)) {k : Nat} (hk : k < n) : ∃ b off, A = some ⟨b, off, none⟩ ∧ w.cell? ⟨b, off + k * 3, none⟩ = some (.string (L k).name) ∧ w.cell? ⟨b, off + k * 3 + 1, none⟩ = some (.string (L k).val) ∧ w.cell? ⟨b, off + k * 3 + 2, none⟩ = some (.bool (L k).nev) := by
  obtain ⟨b, off, rfl, hc⟩ := h.2.2.2 (by omega)
  have q0 := hc (k * 3) (by omega)
  have q1 := hc (k * 3 + 1) (by omega)
  have q2 := hc (k * 3 + 2) (by omega)
  rw [fdV_0] at q0
  rw [fdV_1, ← Nat.add_assoc] at q1
  rw [fdV_2, ← Nat.add_assoc] at q2
  exact ⟨b, off, rfl, q0, q1, q2⟩
set_option maxRecDepth 20000 in
set_option maxHeartbeats 1600000 in
theorem rsize21 {w : World} {A : Option Addr} {n c : Nat} {mx : Int} {L : Nat → Fd} (h : RdV 3 w A n c (fdV L)) (hn : n ≤ 100) (hw : ∀ i, i < n → wt (L i) ≤ 500) :
    Calls Try.prog 103 #[.agg #[.slice A n c, .int .i64 mx]] w fun e w' => e = .returned (.int .i64 (sumW L n : Int)) ∧ Below w.heap.size w w' := by
  have R0 := hide (heap_alloc_new w (.cells #[.slice A n c, .int .i64 mx] 50))
  have E0 := hide ((Below.refl w.heap.size w).alloc (Nat.le_refl _) (.cells #[.slice A n c, .int .i64 mx] 50))
  have H := hide h
  have HW := hide hw
  clear h hw
  go_enter Try.func103, Try.ntmps103
  go_wp2_with fail
  generalize w.alloc (.cells #[.slice A n c, .int .i64 mx] 50) = W0 at *
  go_loopw [3, 4] (fun s i wr => ∃ k : Nat, k ≤ n ∧ i = .int .i64 k ∧ s = .int .i64 (sumW L k : Int) ∧ Below W0.heap.size W0 wr) (fun _ i _ => n - (intOf i).toNat)
  case atStart => exact ⟨0, Nat.zero_le _, rfl, rfl, Below.refl _ _⟩
  case round =>
    obtain ⟨k, hk, rfl, rfl, hbl⟩ := hrel
    obtain ⟨t0, t1⟩ := row2 (keepRow R0.out hbl)
    have E1 := hide (E0.out.of hbl)
    have HB := hide hbl
    have hRk : sumW L k ≤ 500 * k := sumW_le fun i hi => HW.out i (by omega)
    by_cases hlt : k < n
    · have hlt' : (k : Int) < (n : Int) := by omega
      obtain ⟨b, off, rfl, q0, q1, q2⟩ := row_at21 (H.out.below36O E1.out) hlt
      have hwk := HW.out k hlt
      have hsucc : sumW L (k + 1) = sumW L k + wt (L k) := rfl
      obtain ⟨S1, hS1⟩ : ∃ S1, S1 = sumW L (k + 1) := ⟨_, rfl⟩
      rw [← hS1] at hsucc
      have HS1 := hide hS1
      unfold wt at hwk hsucc
      obtain ⟨S0, hS0⟩ : ∃ S0, S0 = sumW L k := ⟨_, rfl⟩
      rw [← hS0] at hsucc hRk
      rw [← hS0]
      generalize (L k).name = nm at *
      generalize (L k).val = vl at *
      generalize (L k).nev = nv at *
      have hn1 : nm.size ≤ 1000 := by omega
      have hv1 : vl.size ≤ 1000 := by omega
      obtain ⟨x, hx⟩ : ∃ x : Int, x = ((nm.size + vl.size + 32 : Nat) : Int) := ⟨_, rfl⟩
      have hwx : IntKind.i64.wrap ((S0 : Int) + x) = (S1 : Int) := by rw [IntWalk.i64_in _ (by omega)]; omega
      have Hx := hide hx
      clear hS1 hS0 hsucc hwk hx hbl hRk
      go_wp2_with fail
      refine (rweight21 nm vl nv hn1 hv1 _).mono ?_
      rintro e w2 ⟨rfl, hw2⟩
      rw [← Hx.out]
      have E2 : Hid (Below W0.heap.size W0 w2) := by
        rw [hw2]
        exact HB.out.alloc HB.out.size _
      clear hw2
      go_wp2_with fail
      go_roundw
      case rel => exact ⟨k + 1, by omega, by go_num, by rw [HS1.out], E2.out⟩
      case measure => simp [intOf]; omega
    · obtain rfl : n = k := by omega
      clear hbl
      go_wp2_with fail
      go_ret
      exact ⟨rfl, E1.out⟩
set_option maxRecDepth 20000 in
set_option maxHeartbeats 1600000 in
theorem rfit21 {w : World} {A : Option Addr} {n c : Nat} {most : Int} {L : Nat → Fd} (h : RdV 3 w A n c (fdV L)) (hn : n ≤ 100) (hw : ∀ i, i < n → wt (L i) ≤ 500) :
    Calls Try.prog 99 #[.slice A n c, .int .i64 most] w fun e w' => ∃ A' k c', e = .returned (.slice A' k c') ∧ FitP L n most k ∧ RdV 3 w' A' k c' (fdV L) ∧ (∀ a, A' = some a → ∃ a0, A = some a0 ∧ a0.block = a.block) ∧ Below w.heap.size w w' := by
  have H := hide h
  have HW := hide hw
  have hnc := h.1
  clear h hw
  go_enter Try.func99, Try.ntmps99
  go_wp2_with fail
  go_loopw [5, 6] (fun s i wr => ∃ k : Nat, k ≤ n ∧ i = .int .i64 k ∧ s = .int .i64 (sumW L k : Int) ∧ (∀ i, i < k → (sumW L (i + 1) : Int) ≤ most) ∧ Below w.heap.size w wr) (fun _ i _ => n - (intOf i).toNat)
  case atStart => exact ⟨0, Nat.zero_le _, rfl, rfl, fun i hi => absurd hi (by omega), Below.refl _ _⟩
  case round =>
    obtain ⟨k, hk, rfl, rfl, hmo, hbl⟩ := hrel
    have HB := hide hbl
    have HM := hide hmo
    have hRk : sumW L k ≤ 500 * k := sumW_le fun i hi => HW.out i (by omega)
    by_cases hlt : k < n
    · have hlt' : (k : Int) < (n : Int) := by omega
      obtain ⟨b, off, rfl, q0, q1, q2⟩ := row_at21 (H.out.below36O hbl) hlt
      have hwk := HW.out k hlt
      have hsucc : sumW L (k + 1) = sumW L k + wt (L k) := rfl
      obtain ⟨S1, hS1⟩ : ∃ S1, S1 = sumW L (k + 1) := ⟨_, rfl⟩
      rw [← hS1] at hsucc
      have HS1 := hide hS1
      unfold wt at hwk hsucc
      obtain ⟨S0, hS0⟩ : ∃ S0, S0 = sumW L k := ⟨_, rfl⟩
      rw [← hS0] at hsucc hRk
      rw [← hS0]
      generalize (L k).name = nm at *
      generalize (L k).val = vl at *
      generalize (L k).nev = nv at *
      have hn1 : nm.size ≤ 1000 := by omega
      have hv1 : vl.size ≤ 1000 := by omega
      obtain ⟨x, hx⟩ : ∃ x : Int, x = ((nm.size + vl.size + 32 : Nat) : Int) := ⟨_, rfl⟩
      have hwx : IntKind.i64.wrap ((S0 : Int) + x) = (S1 : Int) := by rw [IntWalk.i64_in _ (by omega)]; omega
      have Hx := hide hx
      clear hS1 hS0 hsucc hwk hx hbl hRk hmo
      by_cases hbig : most < (S1 : Int)
      · have hd : decide (most < (S1 : Int)) = true := decide_eq_true hbig
        have Hbig := hide hbig
        have kr := fun W => cutS_h (P := Try.prog) 48 52 3 Try.underlying48 fd_elem fd_size (some ⟨b, off, none⟩) n c k (by omega) .i64 W
        clear hbig
        go_wp2_with fail
        refine (rweight21 nm vl nv hn1 hv1 _).mono ?_
        rintro e w2 ⟨rfl, hw2⟩
        rw [← Hx.out]
        have E2 : Hid (Below w.heap.size w w2) := by
          rw [hw2]
          exact HB.out.alloc HB.out.size _
        clear hw2
        go_wp2_with fail
        all_goals
          go_ret
          refine ⟨_, _, _, rfl, ⟨by omega, HM.out, .inr (by rw [← HS1.out]; exact Hbig.out)⟩, ?_, ?_, E2.out⟩
          · have hr := H.out.below36O E2.out
            refine ⟨by omega, hr.2.1, fun e => ?_, fun hk => ?_⟩
            · first | cases e | (unfold cutS at e; split at e <;> cases e)
            · obtain ⟨b', o', e', hc⟩ := hr.2.2.2 (by omega)
              cases e'
              exact ⟨b, off, by first | rfl | (unfold cutS; split <;> simp [Addr.add]), fun i hi => hc i (by omega)⟩
          · intro a ha
            refine ⟨_, rfl, ?_⟩
            first | (cases ha; rfl) | (unfold cutS at ha; split at ha <;> (cases ha; rfl))
      · have hd : decide (most < (S1 : Int)) = false := decide_eq_false hbig
        have Hbig : Hid ((S1 : Int) ≤ most) := by show _ ≤ _; omega
        clear hbig
        go_wp2_with fail
        refine (rweight21 nm vl nv hn1 hv1 _).mono ?_
        rintro e w2 ⟨rfl, hw2⟩
        rw [← Hx.out]
        have E2 : Hid (Below w.heap.size w w2) := by
          rw [hw2]
          exact HB.out.alloc HB.out.size _
        clear hw2
        go_wp2_with fail
        go_roundw
        case rel => exact ⟨k + 1, by omega, by go_num, by rw [HS1.out], fun i hi => (by
          by_cases e : i = k
          · subst e; rw [← HS1.out]; exact Hbig.out
          · exact HM.out i (by omega)), E2.out⟩
        case measure => simp [intOf]; omega
    · obtain rfl : n = k := by omega
      clear hbl hmo
      go_wp2_with fail
      go_ret
      exact ⟨_, _, _, rfl, ⟨Nat.le_refl _, HM.out, .inl rfl⟩, H.out.below36O HB.out, fun a ha => ⟨a, ha, rfl⟩, HB.out⟩
end Go.Proofs.Yteikpdolickkaaa
