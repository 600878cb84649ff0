/- Layer 6: the contracts of 'pair.Total' and of its reference. -/
import Derived.Test.YtfgifdgbhikegaaPaiM
import Derived.Test.YtfgifdgbhikegaaVal
import Derived.BigRegion
import Derived.Laws.ResultCell
namespace Go.Proofs.Ytfgifdgbhikegaa
open Go.RowKit

/-- An element of what is summed up: a pair of amounts, or none. -/
def Elt (V : Value) : Option (Int × Int) → Prop
  | some p => PV V p.1 p.2
  | none => (∃ x y, V = .complex .f64 x y) ∧ ∀ w, Calls Try.prog 56 #[V] w fun e w' => e = .returned (.bool false) ∧ w = w'
/-- The sum of the first k, and the error; behind an error nothing changes. -/
def tst (K : Nat → Option (Int × Int)) : Nat → Int × Int × Int
  | 0 => (0, 0, 0)
  | k + 1 => if (tst K k).2.2 = 0 then (match K k with
      | none => (0, 0, 4)
      | some p => if AmP ((tst K k).1 + p.1) ∧ AmP ((tst K k).2.1 + p.2) then ((tst K k).1 + p.1, (tst K k).2.1 + p.2, 0) else (0, 0, 5)) else tst K k
theorem tst_stay {K : Nat → Option (Int × Int)} {k : Nat} (h : (tst K k).2.2 ≠ 0) : ∀ m, k ≤ m → tst K m = tst K k := by
  intro m hm
  induction m with
  | zero => obtain rfl : k = 0 := by omega
            rfl
  | succ m ih =>
    by_cases hk : k ≤ m
    · have e := ih hk
      have e2 : tst K (m + 1) = tst K m := by
        rw [tst, if_neg (by rw [e]; exact h)]
      rw [e2, e]
    · obtain rfl : k = m + 1 := by omega
      rfl
theorem tst_none {K : Nat → Option (Int × Int)} {k : Nat} {a b : Int} (h : tst K k = (a, b, 0)) (hK : K k = none) : tst K (k + 1) = (0, 0, 4) := by
  rw [tst, h, hK]
  simp
theorem tst_over {K : Nat → Option (Int × Int)} {k : Nat} {a b : Int} {p : Int × Int} (h : tst K k = (a, b, 0)) (hK : K k = some p) (ho : ¬ (AmP (a + p.1) ∧ AmP (b + p.2))) : tst K (k + 1) = (0, 0, 5) := by
  rw [tst, h, hK]
  simp [ho]
theorem tst_ok {K : Nat → Option (Int × Int)} {k : Nat} {a b : Int} {p : Int × Int} (h : tst K k = (a, b, 0)) (hK : K k = some p) (ho : AmP (a + p.1) ∧ AmP (b + p.2)) : tst K (k + 1) = (a + p.1, b + p.2, 0) := by
  rw [tst, h, hK]
  simp [ho]
def TotV (v : Value) (t : Int × Int × Int) : Prop := (t.2.2 = 0 ∧ PV v t.1 t.2.1) ∨ (t.2.2 ≠ 0 ∧ v = .complex .f64 0 0)
def TotRes (t : Int × Int × Int) (w : World) (e : Ending) (w' : World) : Prop := ∃ v, TotV v t ∧ e = .returned (.tuple #[v, .int .i64 t.2.2]) ∧ w = w'
theorem pv00 : PV (.complex .f64 0 0) 0 0 := ⟨0, 0, rfl, ⟨val_zero, am0⟩, ⟨val_zero, am0⟩⟩

set_option maxHeartbeats 1600000 in
theorem total_any (A : Option Addr) (n c : Nat) (V : Nat → Value) (K : Nat → Option (Int × Int)) (w : World) (ha : RdV 1 w A n c V) (hK : ∀ i, i < n → Elt (V i) (K i)) (hn : n ≤ 100000) :
    Calls Try.prog 21 #[.slice A n c] w (TotRes (tst K n) w) := by
  have Ha := hide ha
  have HK := hide hK
  clear ha hK
  obtain ⟨T, hT⟩ : ∃ T, tst K n = T := ⟨_, rfl⟩
  have HT := hide hT
  rw [hT]
  clear hT
  go_enter Try.func21, Try.ntmps21
  go_wp2
  go_loop [4, 9] (fun v i => ∃ (k : Nat) (a b : Int), k ≤ n ∧ i = .int .i64 k ∧ tst K k = (a, b, 0) ∧ PV v a b) (fun _ i => n - (intOf i).toNat)
  case atStart => exact ⟨0, 0, 0, Nat.zero_le _, rfl, rfl, pv00⟩
  case round =>
    obtain ⟨k, a, b, hk, rfl, ht, hpv⟩ := hrel
    have Ht := hide ht
    obtain ⟨p, q, rfl, hp, hq⟩ := hpv
    have Hp := hide hp
    have Hq := hide hq
    clear ht hp hq
    by_cases hlt : k < n
    · obtain ⟨b0, off, rfl, hcc⟩ := Ha.out.2.2.2 (show 0 < n by omega)
      have hcell := hcc k (by omega)
      have hkn : (k : Int) < (n : Int) := by omega
      have he := HK.out k hlt
      clear hcc
      cases hKk : K k with
      | none =>
        rw [hKk] at he
        obtain ⟨⟨x, y, hV⟩, hno⟩ := he
        have HTe : Hid (T = (0, 0, 4)) := by
          show T = _
          rw [← HT.out, tst_stay (k := k + 1) (by rw [tst_none Ht.out hKk]; decide) n (by omega), tst_none Ht.out hKk]
        rw [hV] at hcell hno
        have Hno := hide hno
        clear hno hV hKk
        go_wp2_with fail
        refine (Hno.out _).mono ?_
        rintro e w' ⟨rfl, rfl⟩
        go_wp2_with fail
        go_ret2
        exact ⟨.complex .f64 0 0, by rw [HTe.out]; exact .inr ⟨by decide, rfl⟩, by rw [HTe.out]; rfl, rfl⟩
      | some pr =>
        rw [hKk] at he
        obtain ⟨x, y, hV, hx, hy⟩ := he
        rw [hV] at hcell
        have p1 := isPair_yes hx hy
        obtain ⟨re, im, hs, v1, v2⟩ := sum_pv Hp.out Hq.out hx hy
        have c1 := fun w => run_complex_sum (P := Try.prog) w .add (Or.inl rfl) 24 .f64 p q _ _ re im hs
        have p2 := isPair_dec v1 v2
        by_cases hz : AmP (a + pr.1) ∧ AmP (b + pr.2)
        · rw [decide_eq_true hz] at p2
          have Hnext := hide (tst_ok Ht.out hKk hz)
          have Hpv : Hid (PV (.complex .f64 re im) (a + pr.1) (b + pr.2)) := ⟨re, im, rfl, ⟨v1, hz.1⟩, ⟨v2, hz.2⟩⟩
          clear hV hKk hx hy hs v1 v2 hz
          go_wp2_with fail
          refine (p1 _).mono ?_
          rintro e w' ⟨rfl, rfl⟩
          go_wp2_with fail
          refine (p2 _).mono ?_
          rintro e w' ⟨rfl, rfl⟩
          go_wp2_with fail
          go_round
          case rel => exact ⟨k + 1, _, _, by omega, by go_num, Hnext.out, Hpv.out⟩
          case measure => simp [intOf]; omega
        · rw [decide_eq_false hz] at p2
          have HTe : Hid (T = (0, 0, 5)) := by
            show T = _
            rw [← HT.out, tst_stay (k := k + 1) (by rw [tst_over Ht.out hKk hz]; decide) n (by omega), tst_over Ht.out hKk hz]
          clear hV hKk hx hy hs v1 v2 hz
          go_wp2_with fail
          refine (p1 _).mono ?_
          rintro e w' ⟨rfl, rfl⟩
          go_wp2_with fail
          refine (p2 _).mono ?_
          rintro e w' ⟨rfl, rfl⟩
          go_wp2_with fail
          go_ret2
          exact ⟨.complex .f64 0 0, by rw [HTe.out]; exact .inr ⟨by decide, rfl⟩, by rw [HTe.out]; rfl, rfl⟩
    · obtain rfl : k = n := by omega
      have HTe : Hid (T = (a, b, 0)) := by rw [← HT.out]; exact Ht.out
      go_wp2_with fail
      go_ret2
      exact ⟨.complex .f64 p q, by rw [HTe.out]; exact .inl ⟨rfl, p, q, rfl, Hp.out, Hq.out⟩, by rw [HTe.out]; rfl, rfl⟩

/-! ### the reference -/
def KK (F G : Nat → Int) (i : Nat) : Option (Int × Int) := if AmP (F i) ∧ AmP (G i) then some (F i, G i) else none
set_option maxHeartbeats 6400000 in
theorem rtotal_any (A : Option Addr) (n c : Nat) (F G : Nat → Int) (w : World) (ha : Rd2 w A n c F G) (hn : n ≤ 100000) :
    Calls Try.prog 22 #[.slice A n c] w fun e w' => e = .returned (.tuple #[.agg #[.int .i64 (tst (KK F G) n).1, .int .i64 (tst (KK F G) n).2.1], .int .i64 (tst (KK F G) n).2.2]) ∧ Below w.heap.size w w' := by
  have Ha := hide ha
  clear ha
  obtain ⟨T, hT⟩ : ∃ T, tst (KK F G) n = T := ⟨_, rfl⟩
  have HT := hide hT
  rw [hT]
  clear hT
  obtain ⟨W0, hW0⟩ : ∃ W0, W0 = (w.alloc (.cells #[.int .i64 0, .int .i64 0] 29)).alloc (.cells #[.int .i64 0, .int .i64 0] 29) := ⟨_, rfl⟩
  have R2 : Hid (W0.heap[w.heap.size]? = some (.cells #[.int .i64 0, .int .i64 0] 29 (0, 0))) := by
    rw [hW0]
    exact keepRow (heap_alloc_new w _) ((Below.refl _ _).alloc (Nat.le_refl _) _)
  have R4 : Hid (W0.heap[w.heap.size + 1]? = some (.cells #[.int .i64 0, .int .i64 0] 29 (0, 0))) := by
    rw [hW0]
    exact heap_alloc_new' _ _ (by simp)
  have B0 : Hid (Below w.heap.size w W0) := by
    rw [hW0]
    exact ((Below.refl _ _).alloc (Nat.le_refl _) _).alloc (by simp) _
  have HW0 := hide hW0
  clear hW0
  go_enter Try.func22, Try.ntmps22
  go_wp2
  rw [← HW0.out]
  go_loopw [5] (fun i wr => ∃ (k : Nat) (a b : Int), k ≤ n ∧ i = .int .i64 k ∧ tst (KK F G) k = (a, b, 0) ∧ (AmP a ∧ AmP b) ∧ wr.heap[w.heap.size]? = some (.cells #[.int .i64 0, .int .i64 0] 29 (0, 0)) ∧ wr.heap[w.heap.size + 1]? = some (.cells #[.int .i64 a, .int .i64 b] 29 (0, 0)) ∧ Below w.heap.size w wr) (fun i _ => n - (intOf i).toNat)
  case atStart => exact ⟨0, 0, 0, Nat.zero_le _, rfl, rfl, ⟨am0, am0⟩, R2.out, R4.out, B0.out⟩
  case round =>
    obtain ⟨k, a, b, hk, rfl, ht, hab, hR2, hR4, hB⟩ := hrel
    have Ht := hide ht
    have Hab := hide hab
    have H2 := hide hR2
    have H4 := hide hR4
    have HB := hide hB
    clear ht hab hR2 hR4 hB R2 R4 B0
    by_cases hlt : k < n
    · obtain ⟨b0, off, rfl, hc0, hc1⟩ := (Ha.out.below HB.out).at_ hlt
      have hkn : (k : Int) < (n : Int) := by omega
      have r1 := right_any (F k) (G k)
      by_cases hr : AmP (F k) ∧ AmP (G k)
      · have hKk : KK F G k = some (F k, G k) := if_pos hr
        rw [decide_eq_true hr] at r1
        have Hr := hide hr
        have HKk := hide hKk
        clear hr hKk
        go_wp2_with fail
        refine (r1 _).mono ?_
        rintro e w1 ⟨rfl, hb1⟩
        have G2 := hide (keepRow H2.out hb1)
        have G4 := hide (keepRow H4.out hb1)
        have GB := hide (HB.out.of hb1)
        clear hb1 hc0 hc1 r1 H2 H4 HB
        obtain ⟨b0', off', hA, hc0, hc1⟩ := (Ha.out.below GB.out).at_ hlt
        obtain ⟨rfl, rfl⟩ : b0 = b0' ∧ off = off' := by simpa using hA
        obtain ⟨q0, q1⟩ := row2 G4.out
        have z0 := frozenRow G4.out 0
        have z1 := frozenRow G4.out 1
        have w0 : IntKind.i64.wrap (a + F k) = a + F k := IntWalk.i64_in _ (by have h1 := Hab.out; have h2 := Hr.out; unfold AmP at h1 h2; omega)
        have w2 : IntKind.i64.wrap (b + G k) = b + G k := IntWalk.i64_in _ (by have h1 := Hab.out; have h2 := Hr.out; unfold AmP at h1 h2; omega)
        clear hA
        go_wp2_with fail
        go_region
        go_wp2_with fail
        refine abs_world _ (fun W => W.heap[w.heap.size]? = some (.cells #[.int .i64 0, .int .i64 0] 29 (0, 0)) ∧ W.heap[w.heap.size + 1]? = some (.cells #[.int .i64 (a + F k), .int .i64 (b + G k)] 29 (0, 0)) ∧ Below w.heap.size w W) ?_ ?_
        · have e1 : ((w1.setCell ⟨w.heap.size + 1, 0, none⟩ (.int .i64 (a + F k))).setCell ⟨w.heap.size + 1, 1, none⟩ (.int .i64 (b + G k))).heap[w.heap.size]? = some (.cells #[.int .i64 0, .int .i64 0] 29 (0, 0)) := keepOne (p := w.heap.size + 1) (keepOne (p := w.heap.size + 1) G2.out (grown_set _ _ 0 _) (by omega)) (grown_set _ _ 1 _) (by omega)
          have e2 : ((w1.setCell ⟨w.heap.size + 1, 0, none⟩ (.int .i64 (a + F k))).setCell ⟨w.heap.size + 1, 1, none⟩ (.int .i64 (b + G k))).heap[w.heap.size + 1]? = some (.cells #[.int .i64 (a + F k), .int .i64 (b + G k)] 29 (0, 0)) := setRow _ _ 1 _ (setRow _ _ 0 _ G4.out)
          have e3 : Below w.heap.size w ((w1.setCell ⟨w.heap.size + 1, 0, none⟩ (.int .i64 (a + F k))).setCell ⟨w.heap.size + 1, 1, none⟩ (.int .i64 (b + G k))) := (GB.out.setCell (by simp) _).setCell (by simp) _
          exact ⟨e1, e2, e3.drew⟩
        rintro W3 ⟨hR2, hR4, hB3⟩
        have M2 := hide hR2
        have M4 := hide hR4
        have MB := hide hB3
        clear hR2 hR4 hB3 q0 q1 z0 z1 G2 G4 GB hc0 hc1
        have r2 := right_any (a + F k) (b + G k)
        by_cases hz : AmP (a + F k) ∧ AmP (b + G k)
        · rw [decide_eq_true hz] at r2
          have Hz := hide hz
          have Hnext := hide (tst_ok Ht.out HKk.out hz)
          clear hz
          refine (r2 _).mono ?_
          rintro e w4 ⟨rfl, hb4⟩
          have N2 := hide (keepRow M2.out hb4)
          have N4 := hide (keepRow M4.out hb4)
          have NB := hide (MB.out.of hb4)
          clear hb4
          go_wp2_with fail
          go_roundw
          case rel => exact ⟨k + 1, _, _, by omega, by go_num, Hnext.out, Hz.out, N2.out, N4.out, NB.out⟩
          case measure => simp [intOf]; omega
        · rw [decide_eq_false hz] at r2
          have HTe : Hid (T = (0, 0, 5)) := by
            show T = _
            rw [← HT.out, tst_stay (k := k + 1) (by rw [tst_over Ht.out HKk.out hz]; decide) n (by omega), tst_over Ht.out HKk.out hz]
          clear hz
          refine (r2 _).mono ?_
          rintro e w4 ⟨rfl, hb4⟩
          have N2 := hide (keepRow M2.out hb4)
          have NB := hide (MB.out.of hb4)
          clear hb4
          obtain ⟨q0, q1⟩ := row2 N2.out
          have z0 := frozenRow N2.out 0
          have z1 := frozenRow N2.out 1
          go_wp2_with fail
          refine bodyPost_ret (v := .tuple #[.agg #[.int .i64 0, .int .i64 0], .int .i64 5]) ?_ rfl ⟨by rw [HTe.out], ?_⟩
          · rw [results_cell_tmp rfl]
            go_simp
          · exact (NB.out.setCell (by simp) _).setCell (by simp) _
      · have hKk : KK F G k = none := if_neg hr
        rw [decide_eq_false hr] at r1
        have HTe : Hid (T = (0, 0, 4)) := by
          show T = _
          rw [← HT.out, tst_stay (k := k + 1) (by rw [tst_none Ht.out hKk]; decide) n (by omega), tst_none Ht.out hKk]
        clear hr hKk
        go_wp2_with fail
        refine (r1 _).mono ?_
        rintro e w1 ⟨rfl, hb1⟩
        have G2 := hide (keepRow H2.out hb1)
        have GB := hide (HB.out.of hb1)
        clear hb1
        obtain ⟨q0, q1⟩ := row2 G2.out
        have z0 := frozenRow G2.out 0
        have z1 := frozenRow G2.out 1
        go_wp2_with fail
        refine bodyPost_ret (v := .tuple #[.agg #[.int .i64 0, .int .i64 0], .int .i64 4]) ?_ rfl ⟨by rw [HTe.out], ?_⟩
        · rw [results_cell_tmp rfl]
          go_simp
        · exact (GB.out.setCell (by simp) _).setCell (by simp) _
    · obtain rfl : k = n := by omega
      have HTe : Hid (T = (a, b, 0)) := by rw [← HT.out]; exact Ht.out
      obtain ⟨q0, q1⟩ := row2 H2.out
      have z0 := frozenRow H2.out 0
      have z1 := frozenRow H2.out 1
      obtain ⟨p0, p1⟩ := row2 H4.out
      go_wp2_with fail
      refine bodyPost_ret (v := .tuple #[.agg #[.int .i64 a, .int .i64 b], .int .i64 0]) ?_ rfl ⟨by rw [HTe.out], ?_⟩
      · rw [results_cell_tmp rfl]
        go_simp
      · exact (HB.out.setCell (by simp) _).setCell (by simp) _
end Go.Proofs.Ytfgifdgbhikegaa
