/- Dz1, Dz2, Dz3, Dz4, Dz5, Dz6, Dz7, Dz9 in one text. -/
import Derived.Test.YtnkcbljhgcgpaaaDoorMY
import Derived.Deep.Cut
namespace Go.Proofs.YtnkcbljhgcgpaaaDoor
set_option linter.unusedVariables false
set_option linter.unusedSimpArgs false
section
open Go.RowKit Go.Deep

def rvF (n : Nat) (F : Nat → Fd) : Nat → Fd := fun i => F (n - 1 - i)
theorem sumW_mono (L : Nat → Fd) {a b : Nat} (h : a ≤ b) : sumW L a ≤ sumW L b := by
  induction b with
  | zero => rw [show a = 0 by omega]; exact Nat.le_refl _
  | succ b ih =>
    by_cases e : a = b + 1
    · rw [e]; exact Nat.le_refl _
    · have := ih (by omega)
      show sumW L a ≤ sumW L b + wt (L b)
      omega
theorem sumW_rvF (F : Nat → Fd) {n k : Nat} (h : k ≤ n) : sumW (rvF n F) k = sumW (shF (n - k) F) k := by
  rw [← sumW_rev (shF (n - k) F) k]
  refine sumW_congr fun i hi => ?_
  unfold rvF shF
  congr 1
  omega
/-- As many of the first as come to at most so much. -/
def FitP (L : Nat → Fd) (n : Nat) (most : Int) (k : Nat) : Prop := k ≤ n ∧ (∀ i, i < k → (sumW L (i + 1) : Int) ≤ most) ∧ (k = n ∨ most < (sumW L (k + 1) : Int))
theorem fit_same {F : Nat → Fd} {n j k : Nat} {most : Int} (hj : j ≤ n) (h1 : ∀ i, i < j → most < (sumW (shF i F) (n - i) : Int)) (h2 : j = n ∨ (sumW (shF j F) (n - j) : Int) ≤ most) (hk : FitP (rvF n F) n most k) : k = n - j := by
  obtain ⟨k1, k2, k3⟩ := hk
  rcases Nat.lt_trichotomy k (n - j) with h | h | h
  · exfalso
    have a : (sumW (shF j F) (n - j) : Int) ≤ most := by
      rcases h2 with h2 | h2
      · omega
      · exact h2
    have b : most < (sumW (rvF n F) (k + 1) : Int) := by
      rcases k3 with k3 | k3
      · omega
      · exact k3
    have c := sumW_mono (rvF n F) (show k + 1 ≤ n - j by omega)
    rw [sumW_rvF F (show n - j ≤ n by omega), show n - (n - j) = j by omega] at c
    omega
  · exact h
  · exfalso
    have a := h1 (n - k) (by omega)
    rw [show n - (n - k) = k by omega, ← sumW_rvF F k1] at a
    have b := k2 (k - 1) (by omega)
    rw [show k - 1 + 1 = k by omega] at b
    omega
theorem rvF_sh (F : Nat → Fd) {n j : Nat} (hj : j ≤ n) : ∀ i, i < n - j → rvF (n - j) (shF j F) i = rvF n F i := fun i hi => by
  unfold rvF shF
  congr 1
  omega
def consFd (f : Fd) (L : Nat → Fd) : Nat → Fd := fun i => if i < 1 then f else L (i - 1)
theorem rvF_app (F : Nat → Fd) (f : Fd) (n : Nat) : ∀ i, i < n + 1 → rvF (n + 1) (appFd n F f) i = consFd f (rvF n F) i := fun i hi => by
  unfold rvF appFd consFd
  by_cases h : i < 1
  · rw [if_pos h, if_neg (by omega)]
  · rw [if_neg h, if_pos (by omega)]
    congr 1
    omega
theorem consFd_congr {f : Fd} {L M : Nat → Fd} {n : Nat} (h : ∀ i, i < n → L i = M i) : ∀ i, i < n + 1 → consFd f L i = consFd f M i := fun i hi => by
  unfold consFd
  by_cases e : i < 1
  · rw [if_pos e, if_pos e]
  · rw [if_neg e, if_neg e]
    exact h _ (by omega)
/-- Where a field stands. -/
def FiR (L : Nat → Fd) (m : Nat) (nm vl : ByteArray) (i : Int) (b : Bool) : Prop :=
  (b = true ∧ ∃ q : Nat, q < m ∧ i = (q : Int) + 1 ∧ (L q).name = nm ∧ (L q).val = vl ∧ ∀ j, j < q → ¬ ((L j).name = nm ∧ (L j).val = vl)) ∨
    (b = false ∧ (∀ j, j < m → ¬ ((L j).name = nm ∧ (L j).val = vl)) ∧ ((i = 0 ∧ ∀ j, j < m → (L j).name ≠ nm) ∨ ∃ q : Nat, q < m ∧ i = (q : Int) + 1 ∧ (L q).name = nm ∧ ∀ j, j < q → (L j).name ≠ nm))
theorem FiR.same {L : Nat → Fd} {m : Nat} {nm vl : ByteArray} {i j : Int} {b d : Bool} (h : FiR L m nm vl i b) (k : FiR L m nm vl j d) : i = j ∧ b = d := by
  rcases h with ⟨rfl, q, h1, rfl, h3, h4, h5⟩ | ⟨rfl, h1, h2⟩
  · rcases k with ⟨rfl, r, k1, rfl, k3, k4, k5⟩ | ⟨rfl, k1, k2⟩
    · have : q = r := by
        rcases Nat.lt_trichotomy q r with h | h | h
        · exact absurd ⟨h3, h4⟩ (k5 q h)
        · exact h
        · exact absurd ⟨k3, k4⟩ (h5 r h)
      subst this
      exact ⟨rfl, rfl⟩
    · exact absurd ⟨h3, h4⟩ (k1 q h1)
  · rcases k with ⟨rfl, r, k1, rfl, k3, k4, k5⟩ | ⟨rfl, k1, k2⟩
    · exact absurd ⟨k3, k4⟩ (h1 r k1)
    · refine ⟨?_, rfl⟩
      rcases h2 with ⟨rfl, h2⟩ | ⟨q, h2, rfl, h3, h4⟩
      · rcases k2 with ⟨rfl, k2⟩ | ⟨r, k2, rfl, k3, k4⟩
        · rfl
        · exact absurd k3 (h2 r k2)
      · rcases k2 with ⟨rfl, k2⟩ | ⟨r, k2, rfl, k3, k4⟩
        · exact absurd h3 (k2 q h2)
        · have : q = r := by
            rcases Nat.lt_trichotomy q r with h | h | h
            · exact absurd h3 (k4 q h)
            · exact h
            · exact absurd k3 (h4 r h)
          subst this
          rfl
theorem FiR.congr {L M : Nat → Fd} {m : Nat} {nm vl : ByteArray} {i : Int} {b : Bool} (h : FiR L m nm vl i b) (e : ∀ j, j < m → L j = M j) : FiR M m nm vl i b := by
  rcases h with ⟨rfl, q, h1, rfl, h3, h4, h5⟩ | ⟨rfl, h1, h2⟩
  · exact .inl ⟨rfl, q, h1, rfl, by rw [← e q h1]; exact h3, by rw [← e q h1]; exact h4, fun j hj => by rw [← e j (by omega)]; exact h5 j hj⟩
  · refine .inr ⟨rfl, fun j hj => by rw [← e j hj]; exact h1 j hj, ?_⟩
    rcases h2 with ⟨rfl, h2⟩ | ⟨q, h2, rfl, h3, h4⟩
    · exact .inl ⟨rfl, fun j hj => by rw [← e j hj]; exact h2 j hj⟩
    · exact .inr ⟨q, h2, rfl, by rw [← e q h2]; exact h3, fun j hj => by rw [← e j (by omega)]; exact h4 j hj⟩
theorem FiR.range {L : Nat → Fd} {m : Nat} {nm vl : ByteArray} {i : Int} {b : Bool} (h : FiR L m nm vl i b) : i = 0 ∨ ∃ q : Nat, q < m ∧ i = (q : Int) + 1 := by
  rcases h with ⟨_, q, h1, e, _⟩ | ⟨_, _, ⟨e, _⟩ | ⟨q, h1, e, _⟩⟩
  · exact .inr ⟨q, h1, e⟩
  · exact .inl e
  · exact .inr ⟨q, h1, e⟩
end

section
open Go.RowKit Go.Deep

theorem str_eq21 {a b : ByteArray} (h : a = b) : (a.toList == b.toList) = true := by subst h; simp
theorem str_ne21 {a b : ByteArray} (h : a ≠ b) : (a.toList == b.toList) = false := by
  have : ¬ a.toList = b.toList := fun e => h (Go.WideShapes.bytes_inj (by rw [← ByteArray.toList_eq, ← ByteArray.toList_eq]; exact e))
  simpa using this
set_option maxRecDepth 20000 in
set_option maxHeartbeats 3200000 in
theorem find21 {B : Nat} {w : World} {p : Nat} {g : Option Nat} {n max : Nat} {F : Nat → Fd} (h : TOk B w p g n max F) (hn : n ≤ 1000000) (nm vl : ByteArray) :
    Calls Tryd.prog 87 #[.pointer (some ⟨p, 0, none⟩), .string nm, .string vl] w fun e w' => ∃ i b, e = .returned (.tuple #[.int .i64 i, .bool b]) ∧ FiR (rvF n F) n nm vl i b ∧ Below w.heap.size w w' := by
  have HT := hide h
  obtain ⟨L, hL⟩ : ∃ L, L = rvF n F := ⟨_, rfl⟩
  have HL := hide hL
  rw [← hL]
  clear h hL
  go_enter Tryd.func87, Tryd.ntmps87
  go_wp2_with fail
  go_loopw [8, 9] (fun f i wr => ∃ (k : Nat) (Q I : Int), k ≤ n ∧ f = .int .i64 Q ∧ i = .int .i64 I ∧ I = (k : Int) + 1 ∧ (∀ j, j < k → ¬ ((L j).name = nm ∧ (L j).val = vl)) ∧ ((Q = 0 ∧ ∀ j, j < k → (L j).name ≠ nm) ∨ ∃ q : Nat, q < k ∧ Q = (q : Int) + 1 ∧ (L q).name = nm ∧ ∀ j, j < q → (L j).name ≠ nm) ∧ Below w.heap.size w wr) (fun _ i _ => n + 1 - (intOf i).toNat)
  case atStart => exact ⟨0, 0, 1, Nat.zero_le _, rfl, rfl, rfl, fun j h => absurd h (by omega), .inl ⟨rfl, fun j h => absurd h (by omega)⟩, Below.refl _ _⟩
  case round =>
    obtain ⟨k, Q, I, hk, rfl, rfl, hI, hno, hF, hB⟩ := hrel
    have Hno := hide hno
    have HF := hide hF
    have HB := hide hB
    have HI := hide hI
    have T1 := hide (HT.out.below hB)
    have hwI : IntKind.i64.wrap (I + 1) = I + 1 := IntWalk.i64_in _ (by omega)
    have hI0 : 0 ≤ I := by omega
    by_cases hlt : k < n
    · have hd : decide (I ≤ (n : Int)) = true := decide_eq_true (by omega)
      clear hno hF hB hI
      go_wp2_with fail
      refine (len21 T1.out).mono ?_
      rintro e wl ⟨rfl, rfl⟩
      go_wp2_with fail
      refine (at21 T1.out (by omega) (n - 1 - k) (by omega) I (by have := HI.out; omega)).mono ?_
      obtain ⟨N, hN⟩ : ∃ N, N = (F (n - 1 - k)).name := ⟨_, rfl⟩
      obtain ⟨V, hV⟩ : ∃ V, V = (F (n - 1 - k)).val := ⟨_, rfl⟩
      obtain ⟨X, hX⟩ : ∃ X, X = (F (n - 1 - k)).nev := ⟨_, rfl⟩
      rw [← hN, ← hV, ← hX]
      have HN : Hid ((L k).name = N) := by show _ = _; rw [HL.out, hN]; rfl
      have HV : Hid ((L k).val = V) := by show _ = _; rw [HL.out, hV]; rfl
      clear hN hV hX
      rintro e w1 ⟨rfl, hb1⟩
      have al := (Below.refl w1.heap.size w1).alloc (Nat.le_refl _) (.cells #[.string N, .string V, .bool X] 51)
      have HA := hide ((HB.out.of hb1).of al)
      obtain ⟨c0, c1, c2⟩ := rowT (heap_alloc_new w1 (.cells #[.string N, .string V, .bool X] 51))
      clear hb1 al T1
      by_cases hn1 : N = nm
      · have t1 : (!N.toList == nm.toList) = false := by rw [str_eq21 hn1]; rfl
        by_cases hv : V = vl
        · have t2 := str_eq21 hv
          have HR : Hid (FiR L n nm vl I true) := .inl ⟨rfl, k, hlt, HI.out, by rw [HN.out, hn1], by rw [HV.out, hv], Hno.out⟩
          clear hn1 hv
          go_wp2_with fail
          go_ret2
          exact ⟨_, _, rfl, HR.out, HA.out⟩
        · have t2 := str_ne21 hv
          have Hno' : Hid (∀ j, j < k + 1 → ¬ ((L j).name = nm ∧ (L j).val = vl)) := fun j hj => by
            by_cases e : j = k
            · subst e
              exact fun h => hv (by rw [← HV.out]; exact h.2)
            · exact Hno.out j (by omega)
          have Hn := hide hn1
          clear hn1 hv
          by_cases hF0 : Q = 0
          · have t3 : (Q == 0) = true := by simpa using hF0
            have HF' : Hid (∃ q : Nat, q < k + 1 ∧ I = (q : Int) + 1 ∧ (L q).name = nm ∧ ∀ j, j < q → (L j).name ≠ nm) := by
              refine ⟨k, by omega, HI.out, by rw [HN.out, Hn.out], ?_⟩
              rcases HF.out with ⟨_, h⟩ | ⟨q, _, e, _⟩
              · exact h
              · omega
            clear hF0
            go_wp2_with fail
            exact ⟨⟨k + 1, I, I + 1, by omega, rfl, rfl, by have := HI.out; omega, Hno'.out, .inr HF'.out, HA.out⟩, by have := HI.out; simp [intOf]; omega⟩
          · have t3 : (Q == 0) = false := by simpa using hF0
            have HF' : Hid (∃ q : Nat, q < k + 1 ∧ Q = (q : Int) + 1 ∧ (L q).name = nm ∧ ∀ j, j < q → (L j).name ≠ nm) := by
              rcases HF.out with ⟨e, _⟩ | ⟨q, hq, e, h1, h2⟩
              · exact absurd e hF0
              · exact ⟨q, by omega, e, h1, h2⟩
            clear hF0
            go_wp2_with fail
            exact ⟨⟨k + 1, Q, I + 1, by omega, rfl, rfl, by have := HI.out; omega, Hno'.out, .inr HF'.out, HA.out⟩, by have := HI.out; simp [intOf]; omega⟩
      · have t1 : (!N.toList == nm.toList) = true := by rw [str_ne21 hn1]; rfl
        have hnk : (L k).name ≠ nm := by rw [HN.out]; exact hn1
        have Hno' : Hid (∀ j, j < k + 1 → ¬ ((L j).name = nm ∧ (L j).val = vl)) := fun j hj => by
          by_cases e : j = k
          · subst e
            exact fun h => hnk h.1
          · exact Hno.out j (by omega)
        have HF' : Hid ((Q = 0 ∧ ∀ j, j < k + 1 → (L j).name ≠ nm) ∨ ∃ q : Nat, q < k + 1 ∧ Q = (q : Int) + 1 ∧ (L q).name = nm ∧ ∀ j, j < q → (L j).name ≠ nm) := by
          rcases HF.out with ⟨e, h⟩ | ⟨q, hq, e, h1, h2⟩
          · refine .inl ⟨e, fun j hj => ?_⟩
            by_cases e : j = k
            · subst e
              exact hnk
            · exact h j (by omega)
          · exact .inr ⟨q, by omega, e, h1, h2⟩
        clear hn1 hnk
        go_wp2_with fail
        exact ⟨⟨k + 1, Q, I + 1, by omega, rfl, rfl, by have := HI.out; omega, Hno'.out, HF'.out, HA.out⟩, by have := HI.out; simp [intOf]; omega⟩
    · obtain rfl : n = k := by omega
      have hd : decide (I ≤ (n : Int)) = false := decide_eq_false (by omega)
      clear hno hF hB hI
      go_wp2_with fail
      refine (len21 T1.out).mono ?_
      rintro e wl ⟨rfl, rfl⟩
      go_wp2_with fail
      go_ret2
      exact ⟨_, _, rfl, .inr ⟨rfl, Hno.out, HF.out⟩, HB.out⟩
theorem rmay21 (x : Int) (w : World) : Calls Tryd.prog 21 #[.int .i64 x] w fun e w' => e = .returned (.bool (decide (0 ≤ x ∧ x ≤ 2147483647))) ∧ w = w' := by
  by_cases h0 : 0 ≤ x
  · have d0 : decide (0 ≤ x) = true := decide_eq_true h0
    by_cases h1 : x ≤ 2147483647
    · have d1 : decide (x ≤ 2147483647) = true := decide_eq_true h1
      have e : decide (0 ≤ x ∧ x ≤ 2147483647) = true := decide_eq_true ⟨h0, h1⟩
      rw [e]
      clear h0 h1
      go_enter Tryd.func21, Tryd.ntmps21
      go_wp2
      go_ret
      exact ⟨rfl, rfl⟩
    · have d1 : decide (x ≤ 2147483647) = false := decide_eq_false h1
      have e : decide (0 ≤ x ∧ x ≤ 2147483647) = false := decide_eq_false (fun h => h1 h.2)
      rw [e]
      clear h0 h1
      go_enter Tryd.func21, Tryd.ntmps21
      go_wp2
      go_ret
      exact ⟨rfl, rfl⟩
  · have d0 : decide (0 ≤ x) = false := decide_eq_false h0
    have e : decide (0 ≤ x ∧ x ≤ 2147483647) = false := decide_eq_false (fun h => h0 h.1)
    rw [e]
    clear h0
    go_enter Tryd.func21, Tryd.ntmps21
    go_wp2
    go_ret
    exact ⟨rfl, rfl⟩
theorem rweight21 (a b : ByteArray) (c : Bool) (ha : a.size ≤ 1000000) (hb : b.size ≤ 1000000) (w : World) : Calls Tryd.prog 20 #[.agg #[.string a, .string b, .bool c]] w fun e w' => e = .returned (.int .i64 ((a.size + b.size + 32 : Nat) : Int)) ∧ w' = w.alloc (.cells #[.string a, .string b, .bool c] 51) := by
  have hw1 : IntKind.i64.wrap ((a.size : Int) + (b.size : Int)) = (a.size : Int) + (b.size : Int) := IntWalk.i64_in _ (by omega)
  have hw2 : IntKind.i64.wrap ((a.size : Int) + (b.size : Int) + 32) = (a.size : Int) + (b.size : Int) + 32 := IntWalk.i64_in _ (by omega)
  have e : ((a.size + b.size + 32 : Nat) : Int) = (a.size : Int) + (b.size : Int) + 32 := by omega
  rw [e]
  go_enter Tryd.func20, Tryd.ntmps20
  go_wp2
  go_ret
  exact ⟨rfl, rfl⟩
/-- The weight of one more of a row. -/
theorem row_at21 {w : World} {A : Option Addr} {n c : Nat} {L : Nat → Fd} (h : RdV 3 w A n c (fdV L)) {k : Nat} (hk : k < n) : ∃ b off, A = some ⟨b, off, none⟩ ∧ w.cell? ⟨b, off + k * 3, none⟩ = some (.string (L k).name) ∧ w.cell? ⟨b, off + k * 3 + 1, none⟩ = some (.string (L k).val) ∧ w.cell? ⟨b, off + k * 3 + 2, none⟩ = some (.bool (L k).nev) := by
  obtain ⟨b, off, rfl, hc⟩ := h.2.2.2 (by omega)
  have q0 := hc (k * 3) (by omega)
  have q1 := hc (k * 3 + 1) (by omega)
  have q2 := hc (k * 3 + 2) (by omega)
  rw [fdV_0] at q0
  rw [fdV_1, ← Nat.add_assoc] at q1
  rw [fdV_2, ← Nat.add_assoc] at q2
  exact ⟨b, off, rfl, q0, q1, q2⟩
set_option maxRecDepth 20000 in
set_option maxHeartbeats 1600000 in
theorem rsize21 {w : World} {A : Option Addr} {n c : Nat} {mx : Int} {L : Nat → Fd} (h : RdV 3 w A n c (fdV L)) (hn : n ≤ 1000000) (hw : ∀ i, i < n → wt (L i) ≤ 1000000) :
    Calls Tryd.prog 17 #[.agg #[.slice A n c, .int .i64 mx]] w fun e w' => e = .returned (.int .i64 (sumW L n : Int)) ∧ Below w.heap.size w w' := by
  have R0 := hide (heap_alloc_new w (.cells #[.slice A n c, .int .i64 mx] 37))
  have E0 := hide ((Below.refl w.heap.size w).alloc (Nat.le_refl _) (.cells #[.slice A n c, .int .i64 mx] 37))
  have H := hide h
  have HW := hide hw
  clear h hw
  go_enter Tryd.func17, Tryd.ntmps17
  go_wp2_with fail
  generalize w.alloc (.cells #[.slice A n c, .int .i64 mx] 37) = W0 at *
  go_loopw [3, 4] (fun s i wr => ∃ k : Nat, k ≤ n ∧ i = .int .i64 k ∧ s = .int .i64 (sumW L k : Int) ∧ Below W0.heap.size W0 wr) (fun _ i _ => n - (intOf i).toNat)
  case atStart => exact ⟨0, Nat.zero_le _, rfl, rfl, Below.refl _ _⟩
  case round =>
    obtain ⟨k, hk, rfl, rfl, hbl⟩ := hrel
    obtain ⟨t0, t1⟩ := row2 (keepRow R0.out hbl)
    have E1 := hide (E0.out.of hbl)
    have HB := hide hbl
    have hRk : sumW L k ≤ 1000000 * k := sumW_le fun i hi => HW.out i (by omega)
    by_cases hlt : k < n
    · have hlt' : (k : Int) < (n : Int) := by omega
      obtain ⟨b, off, rfl, q0, q1, q2⟩ := row_at21 (H.out.below36O E1.out) hlt
      have hwk := HW.out k hlt
      have hsucc : sumW L (k + 1) = sumW L k + wt (L k) := rfl
      obtain ⟨S1, hS1⟩ : ∃ S1, S1 = sumW L (k + 1) := ⟨_, rfl⟩
      rw [← hS1] at hsucc
      have HS1 := hide hS1
      unfold wt at hwk hsucc
      obtain ⟨S0, hS0⟩ : ∃ S0, S0 = sumW L k := ⟨_, rfl⟩
      rw [← hS0] at hsucc hRk
      rw [← hS0]
      generalize (L k).name = nm at *
      generalize (L k).val = vl at *
      generalize (L k).nev = nv at *
      have hn1 : nm.size ≤ 1000000 := by omega
      have hv1 : vl.size ≤ 1000000 := by omega
      obtain ⟨x, hx⟩ : ∃ x : Int, x = ((nm.size + vl.size + 32 : Nat) : Int) := ⟨_, rfl⟩
      have hwx : IntKind.i64.wrap ((S0 : Int) + x) = (S1 : Int) := by rw [IntWalk.i64_in _ (by omega)]; omega
      have Hx := hide hx
      clear hS1 hS0 hsucc hwk hx hbl hRk
      go_wp2_with fail
      refine (rweight21 nm vl nv hn1 hv1 _).mono ?_
      rintro e w2 ⟨rfl, hw2⟩
      rw [← Hx.out]
      have E2 : Hid (Below W0.heap.size W0 w2) := by
        rw [hw2]
        exact HB.out.alloc HB.out.size _
      clear hw2
      go_wp2_with fail
      go_roundw
      case rel => exact ⟨k + 1, by omega, by go_num, by rw [HS1.out], E2.out⟩
      case measure => simp [intOf]; omega
    · obtain rfl : n = k := by omega
      clear hbl
      go_wp2_with fail
      go_ret
      exact ⟨rfl, E1.out⟩
set_option maxRecDepth 20000 in
set_option maxHeartbeats 1600000 in
theorem rfit21 {w : World} {A : Option Addr} {n c : Nat} {most : Int} {L : Nat → Fd} (h : RdV 3 w A n c (fdV L)) (hn : n ≤ 1000000) (hw : ∀ i, i < n → wt (L i) ≤ 1000000) :
    Calls Tryd.prog 59 #[.slice A n c, .int .i64 most] w fun e w' => ∃ A' k c', e = .returned (.slice A' k c') ∧ FitP L n most k ∧ RdV 3 w' A' k c' (fdV L) ∧ (∀ a, A' = some a → ∃ a0, A = some a0 ∧ a0.block = a.block) ∧ Below w.heap.size w w' := by
  have H := hide h
  have HW := hide hw
  have hnc := h.1
  clear h hw
  go_enter Tryd.func59, Tryd.ntmps59
  go_wp2_with fail
  go_loopw [5, 6] (fun s i wr => ∃ k : Nat, k ≤ n ∧ i = .int .i64 k ∧ s = .int .i64 (sumW L k : Int) ∧ (∀ i, i < k → (sumW L (i + 1) : Int) ≤ most) ∧ Below w.heap.size w wr) (fun _ i _ => n - (intOf i).toNat)
  case atStart => exact ⟨0, Nat.zero_le _, rfl, rfl, fun i hi => absurd hi (by omega), Below.refl _ _⟩
  case round =>
    obtain ⟨k, hk, rfl, rfl, hmo, hbl⟩ := hrel
    have HB := hide hbl
    have HM := hide hmo
    have hRk : sumW L k ≤ 1000000 * k := sumW_le fun i hi => HW.out i (by omega)
    by_cases hlt : k < n
    · have hlt' : (k : Int) < (n : Int) := by omega
      obtain ⟨b, off, rfl, q0, q1, q2⟩ := row_at21 (H.out.below36O hbl) hlt
      have hwk := HW.out k hlt
      have hsucc : sumW L (k + 1) = sumW L k + wt (L k) := rfl
      obtain ⟨S1, hS1⟩ : ∃ S1, S1 = sumW L (k + 1) := ⟨_, rfl⟩
      rw [← hS1] at hsucc
      have HS1 := hide hS1
      unfold wt at hwk hsucc
      obtain ⟨S0, hS0⟩ : ∃ S0, S0 = sumW L k := ⟨_, rfl⟩
      rw [← hS0] at hsucc hRk
      rw [← hS0]
      generalize (L k).name = nm at *
      generalize (L k).val = vl at *
      generalize (L k).nev = nv at *
      have hn1 : nm.size ≤ 1000000 := by omega
      have hv1 : vl.size ≤ 1000000 := by omega
      obtain ⟨x, hx⟩ : ∃ x : Int, x = ((nm.size + vl.size + 32 : Nat) : Int) := ⟨_, rfl⟩
      have hwx : IntKind.i64.wrap ((S0 : Int) + x) = (S1 : Int) := by rw [IntWalk.i64_in _ (by omega)]; omega
      have Hx := hide hx
      clear hS1 hS0 hsucc hwk hx hbl hRk hmo
      by_cases hbig : most < (S1 : Int)
      · have hd : decide (most < (S1 : Int)) = true := decide_eq_true hbig
        have Hbig := hide hbig
        have kr := fun W => cutS_h (P := Tryd.prog) 25 51 3 Tryd.underlying25 fd_elem fd_size (some ⟨b, off, none⟩) n c k (by omega) .i64 W
        clear hbig
        go_wp2_with fail
        refine (rweight21 nm vl nv hn1 hv1 _).mono ?_
        rintro e w2 ⟨rfl, hw2⟩
        rw [← Hx.out]
        have E2 : Hid (Below w.heap.size w w2) := by
          rw [hw2]
          exact HB.out.alloc HB.out.size _
        clear hw2
        go_wp2_with fail
        all_goals
          go_ret
          refine ⟨_, _, _, rfl, ⟨by omega, HM.out, .inr (by rw [← HS1.out]; exact Hbig.out)⟩, ?_, ?_, E2.out⟩
          · have hr := H.out.below36O E2.out
            refine ⟨by omega, hr.2.1, fun e => ?_, fun hk => ?_⟩
            · first | cases e | (unfold cutS at e; split at e <;> cases e)
            · obtain ⟨b', o', e', hc⟩ := hr.2.2.2 (by omega)
              cases e'
              exact ⟨b, off, by first | rfl | (unfold cutS; split <;> simp [Addr.add]), fun i hi => hc i (by omega)⟩
          · intro a ha
            refine ⟨_, rfl, ?_⟩
            first | (cases ha; rfl) | (unfold cutS at ha; split at ha <;> (cases ha; rfl))
      · have hd : decide (most < (S1 : Int)) = false := decide_eq_false hbig
        have Hbig : Hid ((S1 : Int) ≤ most) := by show _ ≤ _; omega
        clear hbig
        go_wp2_with fail
        refine (rweight21 nm vl nv hn1 hv1 _).mono ?_
        rintro e w2 ⟨rfl, hw2⟩
        rw [← Hx.out]
        have E2 : Hid (Below w.heap.size w w2) := by
          rw [hw2]
          exact HB.out.alloc HB.out.size _
        clear hw2
        go_wp2_with fail
        go_roundw
        case rel => exact ⟨k + 1, by omega, by go_num, by rw [HS1.out], fun i hi => (by
          by_cases e : i = k
          · subst e; rw [← HS1.out]; exact Hbig.out
          · exact HM.out i (by omega)), E2.out⟩
        case measure => simp [intOf]; omega
    · obtain rfl : n = k := by omega
      clear hbl hmo
      go_wp2_with fail
      go_ret
      exact ⟨_, _, _, rfl, ⟨Nat.le_refl _, HM.out, .inl rfl⟩, H.out.below36O HB.out, fun a ha => ⟨a, ha, rfl⟩, HB.out⟩
end

section
open Go.RowKit Go.Deep

/-- What stands at a place. -/
def AtR (L : Nat → Fd) (n : Nat) (i : Int) (nm vl : ByteArray) (nv has : Bool) : Prop :=
  ((i < 1 ∨ (n : Int) < i) ∧ nm = ⟨#[]⟩ ∧ vl = ⟨#[]⟩ ∧ nv = false ∧ has = false) ∨ ∃ q : Nat, q < n ∧ i = (q : Int) + 1 ∧ nm = (L q).name ∧ vl = (L q).val ∧ nv = (L q).nev ∧ has = true
theorem AtR.same {L : Nat → Fd} {n : Nat} {i : Int} {nm vl nm2 vl2 : ByteArray} {nv has nv2 has2 : Bool} (h : AtR L n i nm vl nv has) (k : AtR L n i nm2 vl2 nv2 has2) : nm = nm2 ∧ vl = vl2 ∧ nv = nv2 ∧ has = has2 := by
  rcases h with ⟨h0, rfl, rfl, rfl, rfl⟩ | ⟨q, hq, hi, rfl, rfl, rfl, rfl⟩
  · rcases k with ⟨_, rfl, rfl, rfl, rfl⟩ | ⟨r, hr, hi, _⟩
    · exact ⟨rfl, rfl, rfl, rfl⟩
    · omega
  · rcases k with ⟨h0, _⟩ | ⟨r, hr, hi2, rfl, rfl, rfl, rfl⟩
    · omega
    · obtain rfl : q = r := by omega
      exact ⟨rfl, rfl, rfl, rfl⟩
theorem at21R {B : Nat} {w : World} {p : Nat} {g : Option Nat} {n max : Nat} {F : Nat → Fd} (h : TOk B w p g n max F) (hn : n ≤ 1000000) (i : Int) :
    Calls Tryd.prog 77 #[.pointer (some ⟨p, 0, none⟩), .int .i64 i] w fun e w' => ∃ nm vl nv has, e = .returned (.tuple #[.agg #[.string nm, .string vl, .bool nv], .bool has]) ∧ AtR (rvF n F) n i nm vl nv has ∧ Below w.heap.size w w' := by
  by_cases hi : i < 1 ∨ (n : Int) < i
  · refine (atNo21 h i hi).mono ?_
    rintro e w' ⟨rfl, hb⟩
    exact ⟨_, _, _, _, rfl, .inl ⟨hi, rfl, rfl, rfl, rfl⟩, hb⟩
  · obtain ⟨q, hq⟩ : ∃ q : Nat, i = (q : Int) + 1 := ⟨(i - 1).toNat, by omega⟩
    refine (at21 h hn (n - 1 - q) (by omega) i (by omega)).mono ?_
    rintro e w' ⟨rfl, hb⟩
    exact ⟨_, _, _, _, rfl, .inr ⟨q, by omega, hq, rfl, rfl, rfl, rfl⟩, hb⟩
set_option maxRecDepth 20000 in
set_option maxHeartbeats 1600000 in
theorem rat21 {w : World} {A : Option Addr} {n c : Nat} {mx : Int} {L : Nat → Fd} (h : RdV 3 w A n c (fdV L)) (hn : n ≤ 1000000) (i : Int) (hi0 : -9223372036854775808 ≤ i) :
    Calls Tryd.prog 61 #[.agg #[.slice A n c, .int .i64 mx], .int .i64 i] w fun e w' => ∃ nm vl nv has, e = .returned (.tuple #[.agg #[.string nm, .string vl, .bool nv], .bool has]) ∧ AtR L n i nm vl nv has ∧ Below w.heap.size w w' := by
  have al0 := (Below.refl w.heap.size w).alloc (Nat.le_refl _) (.cells #[.slice A n c, .int .i64 mx] 37)
  have al := al0.alloc al0.size (.cells #[.string ⟨#[]⟩, .string ⟨#[]⟩, .bool false] 51)
  have R0 := keepRow (heap_alloc_new w (.cells #[.slice A n c, .int .i64 mx] 37)) ((Below.refl _ _).alloc (Nat.le_refl _) (.cells #[.string ⟨#[]⟩, .string ⟨#[]⟩, .bool false] 51))
  have R1 := heap_alloc_new (w.alloc (.cells #[.slice A n c, .int .i64 mx] 37)) (.cells #[.string ⟨#[]⟩, .string ⟨#[]⟩, .bool false] 51)
  have hq : (w.alloc (.cells #[.slice A n c, .int .i64 mx] 37)).heap.size = w.heap.size + 1 := by simp
  rw [hq] at R1
  obtain ⟨t0, t1⟩ := row2 R0
  obtain ⟨c0, c1, c2⟩ := rowT R1
  have z0 := frozenRow R1 0
  have z1 := frozenRow R1 1
  have z2 := frozenRow R1 2
  have H := hide (h.below36O al)
  have hnc := h.1
  have E := hide al
  clear h al0 al R0 R1 hq
  by_cases h1 : i < 1
  · have hd : decide (i < 1) = true := decide_eq_true h1
    have HI := hide h1
    clear h1
    go_enter Tryd.func61, Tryd.ntmps61
    go_wp2_with fail
    refine bodyPost_ret (v := .tuple #[.agg #[.string ⟨#[]⟩, .string ⟨#[]⟩, .bool false], .bool false]) ?_ rfl ⟨_, _, _, _, rfl, .inl ⟨.inl HI.out, rfl, rfl, rfl, rfl⟩, ?_⟩
    · rw [results_cell_tmp rfl]
      go_simp
    · go_grown
  · have hd : decide (i < 1) = false := decide_eq_false h1
    by_cases h2 : (n : Int) < i
    · have hd2 : decide ((n : Int) < i) = true := decide_eq_true h2
      have HI := hide h2
      clear h1 h2
      go_enter Tryd.func61, Tryd.ntmps61
      go_wp2_with fail
      refine bodyPost_ret (v := .tuple #[.agg #[.string ⟨#[]⟩, .string ⟨#[]⟩, .bool false], .bool false]) ?_ rfl ⟨_, _, _, _, rfl, .inl ⟨.inr HI.out, rfl, rfl, rfl, rfl⟩, ?_⟩
      · rw [results_cell_tmp rfl]
        go_simp
      · go_grown
    · have hd2 : decide ((n : Int) < i) = false := decide_eq_false h2
      obtain ⟨q, rfl⟩ : ∃ q : Nat, i = (q : Int) + 1 := ⟨(i - 1).toNat, by omega⟩
      have hqn : q < n := by omega
      obtain ⟨b, off, rfl, q0, q1, q2⟩ := row_at21 H.out hqn
      have hw : IntKind.i64.wrap ((q : Int) + 1 - 1) = (q : Int) := by rw [IntWalk.i64_in _ (by omega)]; omega
      have hqn' : (q : Int) < (n : Int) := by omega
      obtain ⟨N, hN⟩ : ∃ N, N = (L q).name := ⟨_, rfl⟩
      obtain ⟨V, hV⟩ : ∃ V, V = (L q).val := ⟨_, rfl⟩
      obtain ⟨X, hX⟩ : ∃ X, X = (L q).nev := ⟨_, rfl⟩
      rw [← hN] at q0
      rw [← hV] at q1
      rw [← hX] at q2
      have HR : Hid (AtR L n ((q : Int) + 1) N V X true) := .inr ⟨q, hqn, rfl, hN, hV, hX, rfl⟩
      clear h1 h2 hN hV hX
      have hp0 := Nat.le_succ w.heap.size
      go_enter Tryd.func61, Tryd.ntmps61
      go_wp2_with fail
      refine bodyPost_ret (v := .tuple #[.agg #[.string N, .string V, .bool X], .bool true]) ?_ rfl ⟨_, _, _, _, rfl, HR.out, ?_⟩
      · rw [results_cell_tmp rfl]
        go_simp
      · first | go_grown | exact ((E.out.setCell hp0 _).setCell hp0 _).setCell hp0 _
def FiE (L : Nat → Fd) (n : Nat) (nm vl : ByteArray) (w : World) (e : Ending) (w' : World) : Prop := ∃ i b, e = .returned (.tuple #[.int .i64 i, .bool b]) ∧ FiR L n nm vl i b ∧ Below w.heap.size w w'
set_option maxRecDepth 20000 in
set_option maxHeartbeats 3200000 in
theorem rfind21 {w : World} {A : Option Addr} {n c : Nat} {mx : Int} {L : Nat → Fd} (h : RdV 3 w A n c (fdV L)) (hn : n ≤ 1000000) (nm vl : ByteArray) :
    Calls Tryd.prog 92 #[.agg #[.slice A n c, .int .i64 mx], .string nm, .string vl] w (FiE L n nm vl w) := by
  have R0 := hide (heap_alloc_new w (.cells #[.slice A n c, .int .i64 mx] 37))
  have E0 := hide ((Below.refl w.heap.size w).alloc (Nat.le_refl _) (.cells #[.slice A n c, .int .i64 mx] 37))
  have H := hide (h.below36O E0.out)
  clear h
  go_enter Tryd.func92, Tryd.ntmps92
  go_wp2_with fail
  generalize w.alloc (.cells #[.slice A n c, .int .i64 mx] 37) = W0 at *
  obtain ⟨t0, t1⟩ := row2 R0.out
  go_loopw [8] (fun i wr => ∃ k : Nat, k ≤ n ∧ i = .int .i64 k ∧ (∀ j, j < k → ¬ ((L j).name = nm ∧ (L j).val = vl)) ∧ wr = W0) (fun i _ => n - (intOf i).toNat)
  case atStart => exact ⟨0, Nat.zero_le _, rfl, fun j h => absurd h (by omega), rfl⟩
  case round =>
    obtain ⟨k, hk, rfl, hno, hw⟩ := hrel
    obtain rfl : W0 = wr := hw.symm
    have Hno := hide hno
    clear hno
    by_cases hlt : k < n
    · have hlt' : (k : Int) < (n : Int) := by omega
      obtain ⟨b, off, rfl, q0, q1, q2⟩ := row_at21 H.out hlt
      obtain ⟨N, hN⟩ : ∃ N, N = (L k).name := ⟨_, rfl⟩
      obtain ⟨V, hV⟩ : ∃ V, V = (L k).val := ⟨_, rfl⟩
      rw [← hN] at q0
      rw [← hV] at q1
      have HN := hide hN
      have HV := hide hV
      clear hN hV
      by_cases hn1 : N = nm
      · have e1 := str_eq21 hn1
        by_cases hv : V = vl
        · have e2 := str_eq21 hv
          have HR : Hid (FiR L n nm vl ((k : Int) + 1) true) := .inl ⟨rfl, k, hlt, rfl, by rw [← HN.out, hn1], by rw [← HV.out, hv], Hno.out⟩
          clear hn1 hv
          go_wp2_with fail
          go_ret2
          exact ⟨_, _, rfl, HR.out, E0.out⟩
        · have e2 := str_ne21 hv
          have Hno' : Hid (∀ j, j < k + 1 → ¬ ((L j).name = nm ∧ (L j).val = vl)) := fun j hj => by
            by_cases e : j = k
            · subst e
              exact fun h => hv (by rw [HV.out]; exact h.2)
            · exact Hno.out j (by omega)
          clear hn1 hv
          go_wp2_with fail
          go_roundw
          case rel => exact ⟨k + 1, by omega, by go_num, Hno'.out, trivial⟩
          case measure => simp [intOf]; omega
      · have e1 := str_ne21 hn1
        have Hno' : Hid (∀ j, j < k + 1 → ¬ ((L j).name = nm ∧ (L j).val = vl)) := fun j hj => by
          by_cases e : j = k
          · subst e
            exact fun h => hn1 (by rw [HN.out]; exact h.1)
          · exact Hno.out j (by omega)
        clear hn1
        go_wp2_with fail
        go_roundw
        case rel => exact ⟨k + 1, by omega, by go_num, Hno'.out, trivial⟩
        case measure => simp [intOf]; omega
    · obtain rfl : n = k := by omega
      go_wp2_with fail
      go_loopw [9] (fun i wr => ∃ k : Nat, k ≤ n ∧ i = .int .i64 k ∧ (∀ j, j < k → (L j).name ≠ nm) ∧ wr = W0) (fun i _ => n - (intOf i).toNat)
      case atStart => exact ⟨0, Nat.zero_le _, rfl, fun j h => absurd h (by omega), rfl⟩
      case round =>
        obtain ⟨k, hk, rfl, hno, hw⟩ := hrel
        obtain rfl : W0 = wr := hw.symm
        have Hn2 := hide hno
        clear hno
        by_cases hlt : k < n
        · have hlt' : (k : Int) < (n : Int) := by omega
          obtain ⟨b, off, rfl, q0, q1, q2⟩ := row_at21 H.out hlt
          obtain ⟨N, hN⟩ : ∃ N, N = (L k).name := ⟨_, rfl⟩
          rw [← hN] at q0
          have HN := hide hN
          clear hN
          by_cases hn1 : N = nm
          · have e1 := str_eq21 hn1
            have HR : Hid (FiR L n nm vl ((k : Int) + 1) false) := .inr ⟨rfl, Hno.out, .inr ⟨k, hlt, rfl, by rw [← HN.out, hn1], Hn2.out⟩⟩
            clear hn1
            go_wp2_with fail
            go_ret2
            exact ⟨_, _, rfl, HR.out, E0.out⟩
          · have e1 := str_ne21 hn1
            have Hn3 : Hid (∀ j, j < k + 1 → (L j).name ≠ nm) := fun j hj => by
              by_cases e : j = k
              · subst e
                exact fun h => hn1 (by rw [HN.out]; exact h)
              · exact Hn2.out j (by omega)
            clear hn1
            go_wp2_with fail
            go_roundw
            case rel => exact ⟨k + 1, by omega, by go_num, Hn3.out, trivial⟩
            case measure => simp [intOf]; omega
        · obtain rfl : n = k := by omega
          go_wp2_with fail
          go_ret2
          exact ⟨_, _, rfl, .inr ⟨rfl, Hno.out, .inl ⟨rfl, Hn2.out⟩⟩, E0.out⟩
set_option maxRecDepth 20000 in
set_option maxHeartbeats 1600000 in
theorem rsame21 {w : World} {A A2 : Option Addr} {n c c2 : Nat} {L : Nat → Fd} (h : RdV 3 w A n c (fdV L)) (k : RdV 3 w A2 n c2 (fdV L)) (hn : n ≤ 1000000) :
    Calls Tryd.prog 15 #[.slice A n c, .slice A2 n c2] w fun e w' => e = .returned (.bool true) ∧ Below w.heap.size w w' := by
  have H := hide h
  have K := hide k
  have hnn : ((n : Int) != (n : Int)) = false := by simp
  have hnn2 : (n != n) = false := by simp
  clear h k
  go_enter Tryd.func15, Tryd.ntmps15
  go_wp2_with fail
  go_loopw [5] (fun i wr => ∃ k : Nat, k ≤ n ∧ i = .int .i64 k ∧ Below w.heap.size w wr) (fun i _ => n - (intOf i).toNat)
  case atStart => exact ⟨0, Nat.zero_le _, rfl, Below.refl _ _⟩
  case round =>
    obtain ⟨k, hk, rfl, hbl⟩ := hrel
    by_cases hlt : k < n
    · have hlt' : (k : Int) < (n : Int) := by omega
      obtain ⟨b, off, rfl, q0, q1, q2⟩ := row_at21 (H.out.below36O hbl) hlt
      obtain ⟨b2, off2, rfl, r0, r1, r2⟩ := row_at21 (K.out.below36O hbl) hlt
      have HB := hide hbl
      generalize (L k).name = nm at *
      generalize (L k).val = vl at *
      generalize (L k).nev = nv at *
      have e1 := str_eq21 (rfl : nm = nm)
      have e2 := str_eq21 (rfl : vl = vl)
      have e3 : (nv == nv) = true := by simp
      clear hbl
      go_wp2_with fail
      go_quiet (fail)
      all_goals
        go_wp2_with fail
        go_roundw
        case rel => exact ⟨k + 1, by omega, by go_num, by first | exact HB.out | exact HB.out.drew | exact HB.out.of (drawn_below ⟨_, rfl⟩ _)⟩
        case measure => simp [intOf]; omega
    · obtain rfl : n = k := by omega
      go_wp2_with fail
      go_ret
      exact ⟨rfl, hbl⟩
end

section
open Go.RowKit Go.Deep

section
variable {P : Program} {e : TypeId} {w : World} {ops : Array Oper} {o : Oper} {a : Act} {K : Act → World → Prop} {Q : Exit → Act → World → Prop} {E : Prop}
theorem step_appD (hgd : o.guard = none) (s x : Operand) (t : TypeId) (ho : o.op = .call { callee := .builtin .append, args := #[s, x], argTypes := #[t, t] })
    (sz : Nat) (i : TypeInfo) (z : Value) (bytes : Nat) (ht : P.underlying t = some (.slice e)) (hi : P.info? e = some i) (hz : i.zero = some z) (hsize : i.size = sz) (hby : i.bytes = bytes) (hzs : z.cells.size = sz) (hs0 : 0 < sz)
    (B : Nat) (v : Value) (n : Nat) (F : Nat → Value) (hs : a.eval s = v) (hown : OwnV sz e B w v n F) (A : Option Addr) (m c : Nat) (G : Nat → Value) (hx : a.eval x = .slice A m c) (hr : RdV sz w A m c G) (hG : ∀ i, i < m * sz → (G i).oneCell' = true)
    (h63 : n + m ≤ maxLen) (hbytes : (n + m) * bytes ≤ 140737488355328) (hbase : B ≤ w.heap.size)
    (h : ∀ v' w', OwnV sz e B w' v' (n + m) (catV (n * sz) F G) → w.grownBy w' v.ownBlock → (v'.ownBlock = v.ownBlock ∨ v'.ownBlock = some w.heap.size) → K (a.put o.dst v') w') :
    if Region.wanted o (yielded ops a.tmps) = true then Oper.wp P o a w K Q else E := by
  rw [if_pos (by simp [Region.wanted, hgd])]
  obtain ⟨v', w', hrun, h2, h3, h4⟩ := run_appV (P := P) sz t o.type i z bytes ht hi hz hsize hby hzs hs0 B v n F hown A m c G hr hG h63 hbytes hbase
  unfold Oper.wp execOp
  simp only [ho, resolve, invoke, builtin, Sem.run_bind, Sem.run_pure, Result.andThen_ok, List.map_toArray, List.map_cons, List.map_nil, hs, hx, hrun]
  exact h v' w' h2 h3 h4
end
theorem results_cellD {fn : Func} {p : Tmp} {ty : TypeId} (h : fn.results = #[.cell p ty]) (tmps : Array Value) (P : Program) (w : World) :
    (results fn tmps).run P w = ((asAddr (tmps.getD p undef)).run P w).andThen fun a w' => (loadVar ty a).run P w' := by
  simp [results, h]
abbrev ini : Value := .agg #[.int .i64 4096, .int .i64 1, .int .i64 4294967296, .int .i64 65535, .int .i64 16384, .int .i64 4294967296]
theorem RdV.set21 {s : Nat} {w : World} {A : Option Addr} {n c : Nat} {F : Nat → Value} (h : RdV s w A n c F) {q : Nat} (hq : ∀ a, A = some a → a.block ≠ q) (j : Nat) (u : Value) : RdV s (w.setCell ⟨q, j, none⟩ u) A n c F :=
  ⟨h.1, h.2.1, h.2.2.1, fun hn => by
    obtain ⟨b, off, hA, hc⟩ := h.2.2.2 hn
    refine ⟨b, off, hA, fun i hi => ?_⟩
    rw [World.cell?_setCell_other _ _ _ _ (fun hh => hq _ hA (by injection hh with h6 _ _; exact h6.symm))]
    exact hc i hi⟩
theorem set2t {w : World} {p : Nat} {T : TypeId} {a0 a1 : Value} (h : w.heap[p]? = some (.cells #[a0, a1] T (0, 0))) (b0 b1 : Value) :
    ((w.setCell ⟨p, 0, none⟩ b0).setCell ⟨p, 1, none⟩ b1).heap[p]? = some (.cells #[b0, b1] T (0, 0)) := by
  have h1 := setRow w p 0 b0 h
  have h2 := setRow _ p 1 b1 h1
  simp only [List.setIfInBounds_toArray, List.set_cons_zero, List.set_cons_succ] at h2
  exact h2
set_option maxRecDepth 20000 in
set_option maxHeartbeats 1600000 in
theorem rresize21 {w : World} {A : Option Addr} {n c : Nat} {mx : Int} {L : Nat → Fd} (h : RdV 3 w A n c (fdV L)) (hA : ∀ a, A = some a → a.block < w.heap.size) (hn : n ≤ 1000000) (hw : ∀ i, i < n → wt (L i) ≤ 1000000) (x : Int) :
    Calls Tryd.prog 35 #[.agg #[.slice A n c, .int .i64 mx], .int .i64 x] w fun e w' => ∃ A' k c', e = .returned (.agg #[.slice A' k c', .int .i64 x]) ∧ FitP L n x k ∧ RdV 3 w' A' k c' (fdV L) ∧ (∀ a, A' = some a → ∃ a0, A = some a0 ∧ a0.block = a.block) ∧ Below w.heap.size w w' := by
  have al0 := (Below.refl w.heap.size w).alloc (Nat.le_refl _) (.cells #[.slice A n c, .int .i64 mx] 37)
  have al := al0.alloc al0.size (.cells #[.slice none 0 0, .int .i64 0] 37)
  have R0 := keepRow (heap_alloc_new w (.cells #[.slice A n c, .int .i64 mx] 37)) ((Below.refl _ _).alloc (Nat.le_refl _) (.cells #[.slice none 0 0, .int .i64 0] 37))
  have R1 := heap_alloc_new (w.alloc (.cells #[.slice A n c, .int .i64 mx] 37)) (.cells #[.slice none 0 0, .int .i64 0] 37)
  have hq : (w.alloc (.cells #[.slice A n c, .int .i64 mx] 37)).heap.size = w.heap.size + 1 := by simp
  rw [hq] at R1
  have H0 := hide (h.below36O al)
  have HA := hide hA
  have HW := hide hw
  have E := hide al
  have HR1 := hide R1
  have HR0 := hide R0
  clear h hA hw al0 al R0 R1 hq
  go_enter Tryd.func35, Tryd.ntmps35
  go_upto_region 1 with (fail)
  generalize (w.alloc (.cells #[.slice A n c, .int .i64 mx] 37)).alloc (.cells #[.slice none 0 0, .int .i64 0] 37) = W0 at *
  obtain ⟨t0, t1⟩ := row2 HR0.out
  go_wp2_with fail
  refine (rfit21 (most := x) H0.out hn HW.out).mono ?_
  rintro e w2 ⟨A', k, c', rfl, hfit, hr, hA', hb⟩
  have K1 := keepRow HR1.out hb
  obtain ⟨s0, s1⟩ := row2 K1
  have z0 := frozenRow K1 0
  have z1 := frozenRow K1 1
  have HF := hide hfit
  have HA' := hide hA'
  have E2 := hide (E.out.of hb)
  have Hne : Hid (∀ a, A' = some a → a.block ≠ w.heap.size + 1) := fun a ha => by
    obtain ⟨a0, h1, h2⟩ := HA'.out a ha
    have := HA.out a0 h1
    omega
  have HR := hide hr
  clear hfit hA' hb K1 hr t0 t1
  go_wp2_with fail
  refine bodyPost_ret (v := .agg #[.slice A' k c', .int .i64 x]) ?_ rfl ⟨_, _, _, rfl, HF.out, (HR.out.set21 Hne.out 0 _).set21 Hne.out 1 _, HA'.out, (E2.out.setCell (Nat.le_succ _) _).setCell (Nat.le_succ _) _⟩
  rw [results_cellD rfl]
  go_simp
end

section
open Go.RowKit Go.Deep Go.ChangeShapes Go.WideShapes

end

section
open Go.RowKit Go.Deep

theorem consFd_cat (f : Fd) (L : Nat → Fd) : catV (1 * 3) (fdV fun _ => f) (fdV L) = fdV (consFd f L) := by
  rw [fdV_cat]
  rfl
theorem ownV_at21 {s : Nat} {e : TypeId} {B : Nat} {w w' : World} {v : Value} {n : Nat} {F : Nat → Value} (h : OwnV s e B w v n F) (hb : ∀ i, v.ownBlock = some i → w'.heap[i]? = w.heap[i]?) : OwnV s e B w' v n F := by
  refine ⟨h.1, ?_⟩
  rcases h.2 with h2 | ⟨g, cap, cur, hv, hg, hh, r⟩
  · exact .inl h2
  · exact .inr ⟨g, cap, cur, hv, hg, (hb g (by rw [hv]; rfl)).trans hh, r⟩
theorem cs2_21 {W : World} {p : Nat} {a : Addr} {u x y : Value} (h : W.cell? a = some u) (hne : a.block ≠ p) : ((W.setCell ⟨p, 0, none⟩ x).setCell ⟨p, 1, none⟩ y).cell? a = some u := by
  rw [World.cell?_setCell_other _ _ _ _ (fun hh => hne (by rw [← hh])), World.cell?_setCell_other _ _ _ _ (fun hh => hne (by rw [← hh]))]
  exact h
theorem heap3_21 (w : World) (a1 a2 a3 : Array Value) (T1 T2 T3 : TypeId) : (((w.alloc (.cells a1 T1)).alloc (.cells a2 T2)).alloc (.cells a3 T3)).heap[w.heap.size]? = some (.cells a1 T1 (0, 0)) ∧ (((w.alloc (.cells a1 T1)).alloc (.cells a2 T2)).alloc (.cells a3 T3)).heap[w.heap.size + 1]? = some (.cells a2 T2 (0, 0)) ∧ (((w.alloc (.cells a1 T1)).alloc (.cells a2 T2)).alloc (.cells a3 T3)).heap[w.heap.size + 1 + 1]? = some (.cells a3 T3 (0, 0)) ∧ Below w.heap.size w (((w.alloc (.cells a1 T1)).alloc (.cells a2 T2)).alloc (.cells a3 T3)) := by
  refine ⟨keepRow (keepRow (heap_alloc_new w (.cells a1 T1)) ((Below.refl _ _).alloc (Nat.le_refl _) (.cells a2 T2))) ((Below.refl _ _).alloc (Nat.le_refl _) (.cells a3 T3)), ?_, ?_, (((Below.refl w.heap.size w).alloc (Nat.le_refl _) _).alloc (by simp) _).alloc (by simp; omega) _⟩
  · have h := keepRow (heap_alloc_new (w.alloc (.cells a1 T1)) (.cells a2 T2)) ((Below.refl _ _).alloc (Nat.le_refl _) (.cells a3 T3))
    have e : (w.alloc (.cells a1 T1)).heap.size = w.heap.size + 1 := by simp
    rw [e] at h
    exact h
  · have h := heap_alloc_new ((w.alloc (.cells a1 T1)).alloc (.cells a2 T2)) (.cells a3 T3)
    have e : ((w.alloc (.cells a1 T1)).alloc (.cells a2 T2)).heap.size = w.heap.size + 1 + 1 := by simp
    rw [e] at h
    exact h
set_option maxRecDepth 20000 in
set_option maxHeartbeats 3200000 in
theorem radd21 {w : World} {A : Option Addr} {n c : Nat} {mx : Int} {L : Nat → Fd} (h : RdV 3 w A n c (fdV L)) (hn : n ≤ 1000000) (hw : ∀ i, i < n → wt (L i) ≤ 1000000) (hmx0 : 0 ≤ mx) (hmx : mx ≤ 2147483647) (f : Fd) (hf : wt f ≤ 1000000) :
    Calls Tryd.prog 37 #[.agg #[.slice A n c, .int .i64 mx], .agg #[.string f.name, .string f.val, .bool f.nev]] w fun e w' => ∃ A' n' c', e = .returned (.agg #[.slice A' n' c', .int .i64 mx]) ∧ Below w.heap.size w w' ∧ ((mx < (wt f : Int) ∧ A' = none ∧ n' = 0 ∧ c' = 0) ∨ ((wt f : Int) ≤ mx ∧ ∃ k, FitP L n (mx - (wt f : Int)) k ∧ n' = k + 1 ∧ OwnV 3 51 w.heap.size w' (.slice A' n' c') n' (fdV (consFd ⟨f.name, f.val, false⟩ L)))) := by
  obtain ⟨nm, vl, nv⟩ := f
  have hw0 : nm.size + vl.size + 32 ≤ 1000000 := hf
  show Calls _ _ #[_, .agg #[.string nm, .string vl, .bool nv]] _ _
  obtain ⟨X, hX⟩ : ∃ X, X = nm.size + vl.size + 32 := ⟨_, rfl⟩
  have hwt : wt ⟨nm, vl, nv⟩ = X := hX.symm
  rw [hwt]
  obtain ⟨xw, hxw⟩ : ∃ xw : Int, xw = ((nm.size + vl.size + 32 : Nat) : Int) := ⟨_, rfl⟩
  have hxX : (X : Int) = xw := by rw [hxw, hX]
  rw [hxX]
  have Hxw := hide hxw
  have hx500 : xw ≤ 1000000 := by omega
  have hx0 : 0 ≤ xw := by omega
  have hn1 : nm.size ≤ 1000000 := by omega
  have hv1 : vl.size ≤ 1000000 := by omega
  have H := hide h
  have HW := hide hw
  clear h hw hxX hxw hX hwt hf
  go_enter Tryd.func37, Tryd.ntmps37
  go_upto_region 2 with (fail)
  refine absD _ (fun W => W.heap[w.heap.size]? = some (.cells #[.slice A n c, .int .i64 mx] 37 (0, 0)) ∧ W.heap[w.heap.size + 1]? = some (.cells #[.string nm, .string vl, .bool false] 51 (0, 0)) ∧ W.heap[w.heap.size + 1 + 1]? = some (.cells #[.slice none 0 0, .int .i64 0] 37 (0, 0)) ∧ Below w.heap.size w W) ?_ ?_
  · exact heap3_21 w _ _ _ _ _ _
  intro W0 ⟨r0, r1, r2, e0⟩
  have R0 := hide r0
  have R1 := hide r1
  have R2 := hide r2
  have E0 := hide e0
  clear r0 r1 r2 e0
  obtain ⟨t0, t1⟩ := row2 R0.out
  obtain ⟨f0, f1, f2⟩ := rowT R1.out
  have H0 := hide (H.out.below36O E0.out)
  go_region_held3 (fun W => (W.cell? ⟨w.heap.size, 0, none⟩ = some (.slice A n c) ∧ W.cell? ⟨w.heap.size, 1, none⟩ = some (.int .i64 mx)) ∧ (W.cell? ⟨w.heap.size + 1, 0, none⟩ = some (.string nm) ∧ W.cell? ⟨w.heap.size + 1, 1, none⟩ = some (.string vl) ∧ W.cell? ⟨w.heap.size + 1, 2, none⟩ = some (.bool false)))
    ((first | exact ⟨⟨t0, t1⟩, ⟨f0, f1, f2⟩⟩ | exact S5.out | (go_keep; done)))
    ((first
      | (go_at_call 20; (with_reducible refine (rweight21 nm vl false hn1 hv1 _).mono ?_); rintro e w5 ⟨rfl, hw5⟩; rw [← Hxw.out]; have hb5 : Below W0.drew.heap.size W0.drew w5 := (by rw [hw5]; exact (Below.refl _ _).alloc (Nat.le_refl _) _); have B5 := hide hb5; have keep5 := fun {a : Addr} {v : Value} (h : W0.cell? a = some v) => (hb5.cell (World.block_lt_of_cell? W0 _ h)).trans h; have S5 := hide (And.intro (And.intro (keep5 t0) (keep5 t1)) (And.intro (keep5 f0) (And.intro (keep5 f1) (keep5 f2)))); clear keep5 hw5 hb5)))
  all_goals
    have R5 := hide (keepRow (w := W0.drew) R2.out B5.out)
    have E5 := hide ((E0.out.drew).of B5.out)
    have H5 := hide (RdV.below36O (w := W0.drew) H0.out B5.out)
    clear R0 R1 R2 E0 H0 B5 t0 t1 f0 f1 f2
    obtain ⟨⟨t0, t1⟩, f0, f1, f2⟩ := S5.out
    obtain ⟨g0, g1⟩ := row2 R5.out
    have z0 := frozenRow R5.out 0
    have z1 := frozenRow R5.out 1
    have hp2 : w.heap.size ≤ w.heap.size + 1 + 1 := by omega
    by_cases hbig : mx < xw
    · have hd : decide (mx < xw) = true := decide_eq_true hbig
      have Hbig := hide hbig
      clear hbig
      rw [hd]
      go_wp2_with fail
      refine bodyPost_ret (v := .agg #[.slice none 0 0, .int .i64 mx]) ?_ rfl ⟨_, _, _, rfl, (E5.out.setCell hp2 _).setCell hp2 _, .inl ⟨Hbig.out, rfl, rfl, rfl⟩⟩
      rw [results_cellD rfl]
      go_simp
    · have hd : decide (mx < xw) = false := decide_eq_false hbig
      have Hbig : Hid (xw ≤ mx) := by show _ ≤ _; omega
      clear hbig g0 g1 z0 z1
      obtain ⟨i0, hi, hz0, hz1, hz2⟩ := info_parts field_info
      have hsub : IntKind.i64.wrap (mx - xw) = mx - xw := IntWalk.i64_in _ (by omega)
      have hsz5 := E5.out.size
      have hp5 := rowLt R5.out
      have L2 : Hid (OwnV 3 51 w.heap.size ((w5.alloc (.cells #[.string nm, .string vl, .bool false] 51)).alloc (.cells #[.string nm, .string vl, .bool false] 51)) (.slice (some ⟨w5.heap.size + 1, 0, none⟩) 1 1) 1 (fdV fun _ => ⟨nm, vl, false⟩)) := by
        have h := OwnV.lit 3 51 w.heap.size (w5.alloc (.cells #[.string nm, .string vl, .bool false] 51)) (fdV fun _ => ⟨nm, vl, false⟩) #[.string nm, .string vl, .bool false] 1 (by simp; omega) (by simp [maxLen]) rfl
        have e : (w5.alloc (.cells #[.string nm, .string vl, .bool false] 51)).heap.size = w5.heap.size + 1 := by simp
        rw [e] at h
        exact h
      rw [hd]
      go_upto_region 4 with (fail)
      go_region_held3 (fun W => (W.cell? ⟨w.heap.size, 0, none⟩ = some (.slice A n c) ∧ W.cell? ⟨w.heap.size, 1, none⟩ = some (.int .i64 mx)) ∧ (W.cell? ⟨w.heap.size + 1, 0, none⟩ = some (.string nm) ∧ W.cell? ⟨w.heap.size + 1, 1, none⟩ = some (.string vl) ∧ W.cell? ⟨w.heap.size + 1, 2, none⟩ = some (.bool false)))
        ((first | exact S5.out | exact S7.out | exact S8.out | (go_keep; done) | exact ⟨⟨cs2_21 S8.out.1.1 (by simp; omega), cs2_21 S8.out.1.2 (by simp; omega)⟩, cs2_21 S8.out.2.1 (by simp), cs2_21 S8.out.2.2.1 (by simp), cs2_21 S8.out.2.2.2 (by simp)⟩))
        ((first
          | (go_at_call 20; (with_reducible refine (rweight21 nm vl false hn1 hv1 _).mono ?_); rintro e w6 ⟨rfl, rfl⟩; rw [← Hxw.out])
          | (go_at_call 59; (with_reducible refine (rfit21 (H5.out.below36O (by go_grown)) hn HW.out).mono ?_); rintro e w7 ⟨A7, k, c7, rfl, hfit, hr7, hA7, hb7⟩; have E7 : Below w5.heap.size w5 w7 := Below.of (by go_grown) hb7; have HF7 := hide hfit; clear hfit hA7; have keep7 := fun {a : Addr} {v : Value} (h : w5.cell? a = some v) => (E7.cell (World.block_lt_of_cell? w5 _ h)).trans h; have S7 := hide (And.intro (And.intro (keep7 t0) (keep7 t1)) (And.intro (keep7 f0) (And.intro (keep7 f1) (keep7 f2)))); clear keep7)
          | (refine step_appD rfl (.tmp 15) (.tmp 23) _ rfl 3 i0 _ 40 Tryd.underlying25 hi hz0 hz1 hz2 rfl (by omega) w.heap.size _ 1 (fdV fun _ => ⟨nm, vl, false⟩) rfl ((OwnV.lit 3 51 w.heap.size w5 (fdV fun _ => ⟨nm, vl, false⟩) #[.string nm, .string vl, .bool false] 1 hsz5 (by simp [maxLen]) rfl).below (Below.of (by go_grown) hb7)) _ k c7 (fdV L) rfl hr7 (fdV_one _ _) (by have := HF7.out.1; simp only [maxLen]; omega) (by have := HF7.out.1; omega) (Nat.le_trans hsz5 E7.size) ?_; intro v8 w8 hown8 hg8 hob8; obtain ⟨A8, c8, rfl, _, _⟩ := hown8.rd; have E8 : Below w5.heap.size w5 w8 := E7.grown hg8 E7.size (fun j e => by cases e; exact Nat.le_refl _); have Hob : ∀ j, (Value.slice A8 (1 + k) c8).ownBlock = some j → w5.heap.size ≤ j := (fun j e => by rcases hob8 with h | h <;> (rw [h] at e; cases e) <;> first | exact Nat.le_refl _ | exact E7.size); have keep8 := fun {a : Addr} {v : Value} (h : w5.cell? a = some v) => (E8.cell (World.block_lt_of_cell? w5 _ h)).trans h; have S8 := hide (And.intro (And.intro (keep8 t0) (keep8 t1)) (And.intro (keep8 f0) (And.intro (keep8 f1) (keep8 f2)))); clear keep8; have K8 := keepRow R5.out E8; obtain ⟨y0, y1⟩ := row2 K8; have fz0 := frozenRow K8 0; have fz1 := frozenRow K8 1)
          | (refine step_appD rfl (.tmp 15) (.tmp 23) _ rfl 3 i0 _ 40 Tryd.underlying25 hi hz0 hz1 hz2 rfl (by omega) w.heap.size _ 1 (fdV fun _ => ⟨nm, vl, false⟩) rfl (L2.out.below (Below.of (by go_grown) hb7)) _ k c7 (fdV L) rfl hr7 (fdV_one _ _) (by have := HF7.out.1; simp only [maxLen]; omega) (by have := HF7.out.1; omega) (Nat.le_trans hsz5 E7.size) ?_; intro v8 w8 hown8 hg8 hob8; obtain ⟨A8, c8, rfl, _, _⟩ := hown8.rd; have E8 : Below w5.heap.size w5 w8 := E7.grown hg8 E7.size (fun j e => by cases e; simp); have Hob : ∀ j, (Value.slice A8 (1 + k) c8).ownBlock = some j → w5.heap.size ≤ j := (fun j e => by rcases hob8 with h | h <;> (rw [h] at e; cases e) <;> first | exact Nat.le_succ _ | exact E7.size); have keep8 := fun {a : Addr} {v : Value} (h : w5.cell? a = some v) => (E8.cell (World.block_lt_of_cell? w5 _ h)).trans h; have S8 := hide (And.intro (And.intro (keep8 t0) (keep8 t1)) (And.intro (keep8 f0) (And.intro (keep8 f1) (keep8 f2)))); clear keep8; have K8 := keepRow R5.out E8; obtain ⟨y0, y1⟩ := row2 K8; have fz0 := frozenRow K8 0; have fz1 := frozenRow K8 1)
          | (refine step_appD rfl (.tmp 15) (.tmp 23) _ rfl 3 i0 _ 40 Tryd.underlying25 hi hz0 hz1 hz2 rfl (by omega) w.heap.size _ 1 (fdV fun _ => ⟨nm, vl, false⟩) rfl (OwnV.lit 3 51 w.heap.size w7 (fdV fun _ => ⟨nm, vl, false⟩) #[.string nm, .string vl, .bool false] 1 (Nat.le_trans hsz5 E7.size) (by simp [maxLen]) rfl) _ k c7 (fdV L) rfl (hr7.below36O ((Below.refl _ _).alloc (Nat.le_refl _) _)) (fdV_one _ _) (by have := HF7.out.1; simp only [maxLen]; omega) (by have := HF7.out.1; omega) (Nat.le_trans hsz5 (Nat.le_trans E7.size (by simp))) ?_; intro v8 w8 hown8 hg8 hob8; obtain ⟨A8, c8, rfl, _, _⟩ := hown8.rd; have E8 : Below w5.heap.size w5 w8 := (E7.alloc E7.size _).grown hg8 (Nat.le_trans E7.size (by simp)) (fun j e => by cases e; exact E7.size); have Hob : ∀ j, (Value.slice A8 (1 + k) c8).ownBlock = some j → w5.heap.size ≤ j := (fun j e => by rcases hob8 with h | h <;> (rw [h] at e; cases e) <;> first | exact E7.size | exact Nat.le_trans E7.size (by simp)); have keep8 := fun {a : Addr} {v : Value} (h : w5.cell? a = some v) => (E8.cell (World.block_lt_of_cell? w5 _ h)).trans h; have S8 := hide (And.intro (And.intro (keep8 t0) (keep8 t1)) (And.intro (keep8 f0) (And.intro (keep8 f1) (keep8 f2)))); clear keep8; have K8 := keepRow R5.out E8; obtain ⟨y0, y1⟩ := row2 K8; have fz0 := frozenRow K8 0; have fz1 := frozenRow K8 1)))
      all_goals
        rw [consFd_cat] at hown8
        go_wp2_with fail
        refine bodyPost_ret (v := .agg #[.slice A8 (1 + k) c8, .int .i64 mx]) ?_ rfl ⟨_, _, _, rfl, ((E5.out.of E8).setCell hp2 _).setCell hp2 _, .inr ⟨Hbig.out, k, HF7.out, Nat.add_comm 1 k, ownV_at21 hown8 fun j hj => ?_⟩⟩
        · rw [results_cellD rfl]
          go_simp
        · have h9 := Hob j hj
          have h8 : j ≠ w.heap.size + 1 + 1 := by omega
          rw [Below.heap_setCell _ ⟨w.heap.size + 1 + 1, 1, none⟩ _ _ h8, Below.heap_setCell _ ⟨w.heap.size + 1 + 1, 0, none⟩ _ _ h8]
end

section
open Go.RowKit Go.Deep Go.ChangeShapes Go.WideShapes

/-- The program's table at p, the document's in a variable at pr. -/
structure PT (B : Nat) (w : World) (p : Nat) (g : Option Nat) (pr n mx : Nat) (F : Nat → Fd) (A : Option Addr) (c : Nat) : Prop where
  t : TOk B w p g n mx F
  row : w.heap[pr]? = some (.cells #[.slice A n c, .int .i64 (mx : Int)] 37 (0, 0))
  rd : RdV 3 w A n c (fdV (rvF n F))
  ad : ∀ a, A = some a → B ≤ a.block ∧ a.block < w.heap.size ∧ ¬ tfp p g a.block ∧ a.block ≠ pr
  hp : B ≤ pr
  ap : ¬ tfp p g pr
section
variable {B : Nat} {w w' : World} {p : Nat} {g : Option Nat} {pr n mx : Nat} {F : Nat → Fd} {A : Option Addr} {c : Nat}
theorem PT.below (h : PT B w p g pr n mx F A c) (hb : Below w.heap.size w w') : PT B w' p g pr n mx F A c :=
  ⟨h.t.below hb, keepRow h.row hb, h.rd.below36O hb, fun a ha => ⟨(h.ad a ha).1, Nat.lt_of_lt_of_le (h.ad a ha).2.1 hb.size, (h.ad a ha).2.2⟩, h.hp, h.ap⟩
theorem RdV.at21 {s : Nat} {F : Nat → Value} (h : RdV s w A n c F) (hk : ∀ a, A = some a → w'.heap[a.block]? = w.heap[a.block]?) : RdV s w' A n c F :=
  ⟨h.1, h.2.1, h.2.2.1, fun hn => by
    obtain ⟨b, off, hA, hc⟩ := h.2.2.2 hn
    refine ⟨b, off, hA, fun i hi => ?_⟩
    have h1 := hk _ hA
    have h2 := hc i hi
    rw [← h2]
    unfold World.cell?
    simp only at h1 ⊢
    rw [h1]⟩
theorem RdV.congr21 {F G : Nat → Value} {s : Nat} (h : RdV s w A n c F) (e : ∀ i, i < n * s → F i = G i) : RdV s w A n c G :=
  ⟨h.1, h.2.1, h.2.2.1, fun hn => by
    obtain ⟨b, off, hA, hc⟩ := h.2.2.2 hn
    exact ⟨b, off, hA, fun i hi => by rw [hc i hi, e i hi]⟩⟩
theorem PT.wl (h : PT B w p g pr n mx F A c) : ∀ i, i < n → wt (rvF n F i) ≤ 1000000 := fun i hi => h.t.wl _ (by omega)
/-- The document's side is untouched by what is done with the program's. -/
theorem PT.rest {G : Nat → Fd} {g' : Option Nat} {n' mx' : Nat} (h : PT B w p g pr n mx F A c) (hf : FrO B (tfp p g) w w') (ht : TOk B w' p g' n' mx' G) (hg : g' = g ∨ ∀ b, g' = some b → w.heap.size ≤ b) :
    w'.heap[pr]? = some (.cells #[.slice A n c, .int .i64 (mx : Int)] 37 (0, 0)) ∧ RdV 3 w' A n c (fdV (rvF n F)) ∧ (∀ a, A = some a → B ≤ a.block ∧ a.block < w'.heap.size ∧ ¬ tfp p g' a.block ∧ a.block ≠ pr) ∧ ¬ tfp p g' pr := by
  have hlt := rowLt h.row
  refine ⟨hf.row h.row h.ap, h.rd.at21 fun a ha => hf.keep _ (h.ad a ha).2.1 (h.ad a ha).2.2.1, fun a ha => ⟨(h.ad a ha).1, Nat.lt_of_lt_of_le (h.ad a ha).2.1 hf.below.size, fun hq => ?_, (h.ad a ha).2.2.2⟩, fun hq => ?_⟩
  · rcases hq with hq | hq
    · exact (h.ad a ha).2.2.1 (.inl hq)
    · rcases hg with e | e
      · exact (h.ad a ha).2.2.1 (.inr (e ▸ hq))
      · have := e _ hq
        have := (h.ad a ha).2.1
        omega
  · rcases hq with hq | hq
    · exact h.ap (.inl hq)
    · rcases hg with e | e
      · exact h.ap (.inr (e ▸ hq))
      · have := e _ hq
        omega
/-- A new table is put into the document's variable. -/
theorem PT.store {x0 x1 : Value} {A' : Option Addr} {c' : Nat} (ht : TOk B w p g n mx F) (hr : w.heap[pr]? = some (.cells #[x0, x1] 37 (0, 0))) (rd : RdV 3 w A' n c' (fdV (rvF n F))) (ad : ∀ a, A' = some a → B ≤ a.block ∧ a.block < w.heap.size ∧ ¬ tfp p g a.block ∧ a.block ≠ pr) (hp : B ≤ pr) (ap : ¬ tfp p g pr) :
    PT B ((w.setCell ⟨pr, 0, none⟩ (.slice A' n c')).setCell ⟨pr, 1, none⟩ (.int .i64 (mx : Int))) p g pr n mx F A' c' :=
  ⟨ht.at_ fun i hi => by rw [Below.heap_setCell _ ⟨pr, 1, none⟩ _ _ (fun e => by subst e; exact ap hi), Below.heap_setCell _ ⟨pr, 0, none⟩ _ _ (fun e => by subst e; exact ap hi)],
   set2t hr _ _, (rd.set21 (fun a ha => (ad a ha).2.2.2) 0 _).set21 (fun a ha => (ad a ha).2.2.2) 1 _, fun a ha => ⟨(ad a ha).1, by simpa [World.setCell] using (ad a ha).2.1, (ad a ha).2.2⟩, hp, ap⟩
end
theorem ad_below {B : Nat} {w w' : World} {p : Nat} {g : Option Nat} {pr : Nat} {A : Option Addr} (h : ∀ a, A = some a → B ≤ a.block ∧ a.block < w.heap.size ∧ ¬ tfp p g a.block ∧ a.block ≠ pr) (hb : Below w.heap.size w w') : ∀ a, A = some a → B ≤ a.block ∧ a.block < w'.heap.size ∧ ¬ tfp p g a.block ∧ a.block ≠ pr :=
  fun a ha => ⟨(h a ha).1, Nat.lt_of_lt_of_le (h a ha).2.1 hb.size, (h a ha).2.2⟩
/-- What was resized on both sides is the same. -/
theorem resized21 {F : Nat → Fd} {n j k : Nat} {x : Int} (hj : j ≤ n) (h1 : ∀ i, i < j → x < (sumW (shF i F) (n - i) : Int)) (h2 : j = n ∨ (sumW (shF j F) (n - j) : Int) ≤ x) (hk : FitP (rvF n F) n x k) : k = n - j ∧ ∀ i, i < (n - j) * 3 → fdV (rvF n F) i = fdV (rvF (n - j) (shF j F)) i :=
  ⟨fit_same hj h1 h2 hk, fun i hi => (fdV_congr (rvF_sh F hj) i hi).symm⟩
theorem added21 {B : Nat} {w2 w3 : World} {p : Nat} {g' : Option Nat} {n mx j : Nat} {F : Nat → Fd} {f : Fd} {A' : Option Addr} {n' c' : Nat} (hj : j ≤ n) (h1 : ∀ i, i < j → (mx : Int) - (wt f : Int) < (sumW (shF i F) (n - i) : Int)) (h2 : j = n ∨ (sumW (shF j F) (n - j) : Int) ≤ (mx : Int) - (wt f : Int))
    (hc : (mx < wt f ∧ TOk B w2 p g' (n - j) mx (shF j F)) ∨ (wt f ≤ mx ∧ TOk B w2 p g' (n - j + 1) mx (appFd (n - j) (shF j F) ⟨f.name, f.val, false⟩))) (hb : Below w2.heap.size w2 w3)
    (hr : ((mx : Int) < (wt f : Int) ∧ A' = none ∧ n' = 0 ∧ c' = 0) ∨ ((wt f : Int) ≤ (mx : Int) ∧ ∃ k, FitP (rvF n F) n ((mx : Int) - (wt f : Int)) k ∧ n' = k + 1 ∧ OwnV 3 51 w2.heap.size w3 (.slice A' n' c') n' (fdV (consFd ⟨f.name, f.val, false⟩ (rvF n F))))) :
    ∃ G2, TOk B w3 p g' n' mx G2 ∧ RdV 3 w3 A' n' c' (fdV (rvF n' G2)) ∧ (∀ a, A' = some a → w2.heap.size ≤ a.block ∧ a.block < w3.heap.size) ∧ n' ≤ n + 1 := by
  rcases hc with ⟨hbig, ht⟩ | ⟨hle, ht⟩
  · rcases hr with ⟨_, rfl, rfl, rfl⟩ | ⟨hle, _⟩
    · have e0 : n - j = 0 := by
        rcases h2 with h | h
        · omega
        · omega
      rw [e0] at ht
      exact ⟨shF j F, ht.below hb, ⟨Nat.le_refl _, by simp [maxLen], fun _ => rfl, fun h => absurd h (Nat.lt_irrefl _)⟩, fun a ha => (by cases ha), Nat.zero_le _⟩
    · omega
  · rcases hr with ⟨h, _⟩ | ⟨_, k, hk, rfl, ho⟩
    · omega
    · obtain rfl := fit_same hj h1 h2 hk
      refine ⟨appFd (n - j) (shF j F) ⟨f.name, f.val, false⟩, ht.below hb, ?_, ?_, by omega⟩
      · exact ho.rdS2.congr21 fun i hi => (fdV_congr (fun q hq => ((rvF_app (shF j F) ⟨f.name, f.val, false⟩ (n - j) q hq).trans (consFd_congr (rvF_sh F hj) q hq)).symm) i hi)
      · intro a ha
        subst ha
        exact World.ownsRow.lt ho a.block rfl
theorem resizedB21 {B : Nat} {w2 w3 : World} {p : Nat} {g : Option Nat} {n x j : Nat} {F : Nat → Fd} {A' : Option Addr} {k c' : Nat} (hj : j ≤ n) (h1 : ∀ i, i < j → (x : Int) < (sumW (shF i F) (n - i) : Int)) (h2 : j = n ∨ (sumW (shF j F) (n - j) : Int) ≤ (x : Int))
    (ht : TOk B w2 p g (n - j) x (shF j F)) (hb : Below w2.heap.size w2 w3) (hk : FitP (rvF n F) n (x : Int) k) (hr : RdV 3 w3 A' k c' (fdV (rvF n F))) : TOk B w3 p g k x (shF j F) ∧ RdV 3 w3 A' k c' (fdV (rvF k (shF j F))) ∧ k ≤ n := by
  obtain rfl := fit_same hj h1 h2 hk
  exact ⟨ht.below hb, hr.congr21 fun i hi => (fdV_congr (rvF_sh F hj) i hi).symm, by omega⟩
end

section
open Go.RowKit Go.Deep Go.ChangeShapes Go.WideShapes

theorem addNil21 (a b : ByteArray) (c : Bool) (w : World) : Calls Tryd.prog 54 #[.pointer none, .agg #[.string a, .string b, .bool c]] w fun e w' => e = .returned (.tuple #[]) ∧ Below w.heap.size w w' := by
  have E := hide ((Below.refl w.heap.size w).alloc (Nat.le_refl _) (.cells #[.string a, .string b, .bool c] 51))
  go_enter Tryd.func54, Tryd.ntmps54
  go_wp2_with fail
  refine bodyPost_ret (results_none rfl _ _ _) rfl ?_
  exact ⟨rfl, E.out⟩
theorem resizeNil21 (x : Int) (w : World) : Calls Tryd.prog 43 #[.pointer none, .int .i64 x] w fun e w' => e = .returned (.int .i64 2) ∧ w = w' := by
  go_enter Tryd.func43, Tryd.ntmps43
  go_wp2
  go_ret
  exact ⟨rfl, rfl⟩
theorem lenNil21 (w : World) : Calls Tryd.prog 88 #[.pointer none] w fun e w' => e = .returned (.int .i64 0) ∧ w = w' := by
  go_enter Tryd.func88, Tryd.ntmps88
  go_wp2
  go_ret
  exact ⟨rfl, rfl⟩
theorem sizeNil21 (w : World) : Calls Tryd.prog 39 #[.pointer none] w fun e w' => e = .returned (.int .i64 0) ∧ w = w' := by
  go_enter Tryd.func39, Tryd.ntmps39
  go_wp2
  go_ret
  exact ⟨rfl, rfl⟩
theorem maxNil21 (w : World) : Calls Tryd.prog 38 #[.pointer none] w fun e w' => e = .returned (.int .i64 0) ∧ w = w' := by
  go_enter Tryd.func38, Tryd.ntmps38
  go_wp2
  go_ret
  exact ⟨rfl, rfl⟩
theorem copyNil21 (w : World) : Calls Tryd.prog 31 #[.pointer none] w fun e w' => e = .returned (.pointer none) ∧ w = w' := by
  go_enter Tryd.func31, Tryd.ntmps31
  go_wp2
  go_ret
  exact ⟨rfl, rfl⟩
theorem allNil21 (w : World) : Calls Tryd.prog 40 #[.pointer none] w fun e w' => e = .returned (.slice none 0 0) ∧ w = w' := by
  go_enter Tryd.func40, Tryd.ntmps40
  go_wp2
  go_ret
  exact ⟨rfl, rfl⟩
set_option maxRecDepth 20000 in
theorem atNil21 (w : World) : Calls Tryd.prog 77 #[.pointer none, .int .i64 1] w fun e w' => e = .returned (.tuple #[.agg #[.string ⟨#[]⟩, .string ⟨#[]⟩, .bool false], .bool false]) ∧ Below w.heap.size w w' := by
  have R := heap_alloc_new w (.cells #[.string ⟨#[]⟩, .string ⟨#[]⟩, .bool false] 51)
  obtain ⟨c0, c1, c2⟩ := rowT R
  clear R
  go_enter Tryd.func77, Tryd.ntmps77
  go_wp2_with fail
  refine (lenNil21 _).mono ?_
  rintro e w0 ⟨rfl, rfl⟩
  go_wp2_with fail
  refine bodyPost_ret (v := .tuple #[.agg #[.string ⟨#[]⟩, .string ⟨#[]⟩, .bool false], .bool false]) ?_ rfl ⟨rfl, ?_⟩
  · rw [results_cell_tmp rfl]
    go_simp
  · go_grown
set_option maxRecDepth 20000 in
set_option maxHeartbeats 1600000 in
theorem copy21 {B : Nat} {w : World} {p : Nat} {g : Option Nat} {n max : Nat} {F : Nat → Fd} (h : TOk B w p g n max F) (hn : n ≤ 1000000) :
    Calls Tryd.prog 31 #[.pointer (some ⟨p, 0, none⟩)] w fun e w' => ∃ p' g', e = .returned (.pointer (some ⟨p', 0, none⟩)) ∧ TOk w.heap.size w' p' g' n max F ∧ Below w.heap.size w w' := by
  obtain ⟨A, c, T, h1, h2, h3⟩ := h.row
  obtain ⟨c0, c1, c2⟩ := rowT h1
  have Hr := hide h3.rdS
  have hmx := h.mx
  have HW := hide h.wl
  have H1 := hide h1
  clear h1 h2 h3 h
  obtain ⟨S, hS⟩ : ∃ S : Int, S = (sumW F n : Int) := ⟨_, rfl⟩
  have HS := hide hS
  rw [← hS] at c1
  clear hS
  go_enter Tryd.func31, Tryd.ntmps31
  go_wp2_with fail
  go_region_held3 (fun W => W.cell? ⟨p, 0, none⟩ = some (.slice A n c) ∧ W.cell? ⟨p, 1, none⟩ = some (.int .i64 S) ∧ W.cell? ⟨p, 2, none⟩ = some (.int .i64 (max : Int)))
    ((first | exact ⟨c0, c1, c2⟩ | exact S1.out | (go_keep; done)))
    ((first
      | (go_at_call 48; (with_reducible refine (cloneF21 A n c F _ (Hr.out.below36O (Below.refl _ _).drew) hn).mono ?_); rintro e w1 ⟨v, rfl, ho, hb1⟩; obtain ⟨A1, c1', rfl, _, _⟩ := ho.rd; have HO := hide ho; have Hb : Hid (Below w.heap.size w w1) := (Below.refl w.heap.size w).drew.of hb1; have S1 := hide (And.intro ((hb1.cell (World.block_lt_of_cell? w _ c0)).trans c0) (And.intro ((hb1.cell (World.block_lt_of_cell? w _ c1)).trans c1) ((hb1.cell (World.block_lt_of_cell? w _ c2)).trans c2))))))
  all_goals
    go_wp2_with fail
    go_ret
    refine ⟨w1.heap.size, (Value.slice A1 n c1').ownBlock, rfl, ⟨⟨_, ⟨27, ?_⟩, rfl, (HO.out.toO.base (Nat.le_refl _)).below ((Below.refl _ _).alloc (Nat.le_refl _) _)⟩, Hb.out.size, fun e => ?_, hmx, HW.out⟩, Hb.out.alloc Hb.out.size _⟩
    · rw [← HS.out]
      exact heap_alloc_new w1 _
    · have := (World.ownsRow.lt HO.out _ e).2
      omega
end
end Go.Proofs.YtnkcbljhgcgpaaaDoor
