/- Layer 32: the reference's Ack. -/
import Derived.Test.YteikpdolickkaaaPf3
namespace Go.Proofs.Yteikpdolickkaaa
open Go.RowKit Go.Deep Go.ChangeShapes Go.WideShapes

theorem seq_appF (l k : Nat) (x : Int) (h : x = ((l + k : Nat) : Int)) : ∀ i, i < k + 1 → catF k (fun i => ((l + i : Nat) : Int)) (fun _ => x) i = ((l + i : Nat) : Int) := by
  intro i hi
  unfold catF
  by_cases h2 : i < k
  · rw [if_pos h2]
  · rw [if_neg h2, h, show i = k by omega]
set_option maxRecDepth 20000 in
set_option maxHeartbeats 1600000 in
theorem rack32 {w : World} {A1 : Option Addr} {m c1 a : Nat} {A : Option Addr} {n c l : Nat} {f : Nat → Int} (ho : Rd .i64 w A n c f) (hf : ∀ i, i < n → f i = ((l + i : Nat) : Int)) (hn : n = m + 1 - l) (hlm : l ≤ m) (hm : m ≤ 60) (ham : a ≤ m) :
    Calls Try.prog 52 #[.agg #[.slice A1 m c1, .int .i64 (a : Int), .slice A n c]] w fun e w' => Below w.heap.size w w' ∧ ((a = m ∧ e = .returned (.tuple #[.agg #[.slice A1 m c1, .int .i64 (a : Int), .slice A n c], .bool false])) ∨ (a < m ∧ ∃ vn, e = .returned (.tuple #[.agg #[.slice A1 m c1, .int .i64 ((a + 1 : Nat) : Int), vn], .bool true]) ∧ Own .i64 3 w.heap.size w' vn (m + 1 - (l + (a + 1 - l))) (fun i => ((l + (a + 1 - l) + i : Nat) : Int)))) := by
  have Ho := hide ho
  have Hn := hide hn
  have Hf := hide hf
  clear ho hn hf
  obtain ⟨i0, hi, hz0, hz1, hz2⟩ := info_parts int_info32
  have R0 := hide (keepRow (heap_alloc_new w (.cells #[.slice A1 m c1, .int .i64 (a : Int), .slice A n c] 95)) ((Below.refl _ _).alloc (Nat.le_refl _) (.cells #[.slice none 0 0, .int .i64 0, .slice none 0 0] 95)))
  have R1 := hide (heap_alloc_new (w.alloc (.cells #[.slice A1 m c1, .int .i64 (a : Int), .slice A n c] 95)) (.cells #[.slice none 0 0, .int .i64 0, .slice none 0 0] 95))
  have E0 := hide (((Below.refl w.heap.size w).alloc (Nat.le_refl _) (.cells #[.slice A1 m c1, .int .i64 (a : Int), .slice A n c] 95)).alloc (by simp) (.cells #[.slice none 0 0, .int .i64 0, .slice none 0 0] 95))
  by_cases hq : a = m
  · have hd : ((a : Int) == (m : Int)) = true := by rw [hq]; exact beq_self_eq_true _
    have Hq := hide hq
    clear hq
    go_enter Try.func52, Try.ntmps52
    go_upto_region 1 with (fail)
    have hq : (w.alloc (.cells #[.slice A1 m c1, .int .i64 (a : Int), .slice A n c] 95)).heap.size = w.heap.size + 1 := by simp
    rw [hq] at R1
    clear hq
    generalize (w.alloc (.cells #[.slice A1 m c1, .int .i64 (a : Int), .slice A n c] 95)).alloc (.cells #[.slice none 0 0, .int .i64 0, .slice none 0 0] 95) = W0 at *
    obtain ⟨t0, t1, t2⟩ := rowQ R0.out
    obtain ⟨g0, g1, g2⟩ := rowQ R1.out
    have z0 := frozenRow R1.out 0
    have z1 := frozenRow R1.out 1
    have z2 := frozenRow R1.out 2
    go_wp2_with fail
    refine bodyPost_ret (v := .tuple #[.agg #[.slice A1 m c1, .int .i64 (a : Int), .slice A n c], .bool false]) ?_ rfl ⟨set3b E0.out (Nat.le_succ _) _ _ _, .inl ⟨Hq.out, rfl⟩⟩
    rw [results_cell_tmp rfl]
    go_simp
  · have hd : ((a : Int) == (m : Int)) = false := by
      simp only [beq_eq_false_iff_ne]
      omega
    have Hq : Hid (a < m) := by show _ < _; omega
    clear hq
    obtain ⟨a1, ha1⟩ : ∃ a1, a1 = a + 1 := ⟨_, rfl⟩
    rw [← ha1]
    have Ha1 := hide ha1
    clear ha1
    have hw : IntKind.i64.wrap ((a : Int) + 1) = (a1 : Int) := by
      have h2 := Hq.out
      have h1 := Ha1.out
      rw [IntWalk.i64_in _ (by omega)]; omega
    obtain ⟨l', hl'⟩ : ∃ l', l' = l + (a1 - l) := ⟨_, rfl⟩
    rw [← hl']
    have Hl' := hide hl'
    clear hl'
    go_enter Try.func52, Try.ntmps52
    go_upto_region 1 with (fail)
    have hq : (w.alloc (.cells #[.slice A1 m c1, .int .i64 (a : Int), .slice A n c] 95)).heap.size = w.heap.size + 1 := by simp
    rw [hq] at R1
    clear hq
    generalize (w.alloc (.cells #[.slice A1 m c1, .int .i64 (a : Int), .slice A n c] 95)).alloc (.cells #[.slice none 0 0, .int .i64 0, .slice none 0 0] 95) = W0 at *
    obtain ⟨t0, t1, t2⟩ := rowQ R0.out
    have f1 := frozenRow R0.out 1
    have k1 := setRow W0 w.heap.size 1 (.int .i64 (a1 : Int)) R0.out
    have k2 := (Below.heap_setCell W0 ⟨w.heap.size, 1, none⟩ (.int .i64 (a1 : Int)) (w.heap.size + 1) (Nat.succ_ne_self _)).trans R1.out
    simp only [List.setIfInBounds_toArray, List.set_cons_zero, List.set_cons_succ] at k1
    have K1 := hide k1
    have K2 := hide k2
    have E1 : Hid (Below w.heap.size w (W0.setCell ⟨w.heap.size, 1, none⟩ (.int .i64 (a1 : Int)))) := E0.out.setCell (Nat.le_refl _) _
    clear k1 k2
    go_wp2_with fail
    generalize W0.setCell ⟨w.heap.size, 1, none⟩ (.int .i64 (a1 : Int)) = W1 at *
    clear t0 t1 t2 f1 R0 R1 E0
    go_loopw [4, 5] (fun v i wr => ∃ j : Nat, j ≤ n ∧ i = .int .i64 j ∧ Own .i64 3 W1.heap.size wr v (l + j - l') (fun i => ((l' + i : Nat) : Int)) ∧ Below W1.heap.size W1 wr) (fun _ i _ => n - (intOf i).toNat)
    case atStart => exact ⟨0, Nat.zero_le _, rfl, by rw [show l + 0 - l' = 0 by have := Hl'.out; omega]; exact Own.nil _ _ _ _ _, Below.refl _ _⟩
    case round =>
      obtain ⟨j, hj, rfl, hov, hbl⟩ := hrel
      have HO := hide hov
      have HE := hide hbl
      obtain ⟨t0, t1, t2⟩ := rowQ (keepRow K1.out hbl)
      obtain ⟨Av, cv, rfl, _, _⟩ := hov.rd
      have hn60 : n ≤ 61 := by have := Hn.out; omega
      clear hov hbl
      by_cases hjn : j < n
      · have hjn' : (j : Int) < (n : Int) := by omega
        obtain ⟨b, off, rfl, hc⟩ := (Ho.out.below (E1.out.of HE.out)).at_ hjn
        have hfj := Hf.out j hjn
        by_cases hx : a1 ≤ l + j
        · have hd2 : decide ((a1 : Int) ≤ f j) = true := decide_eq_true (by omega)
          have e1 : Hid (l + (j + 1) - l' = l + j - l' + 1) := by show _ = _; have := Hl'.out; omega
          have Hx : Hid (f j = ((l' + (l + j - l') : Nat) : Int)) := by show _ = _; have := Hl'.out; rw [hfj]; omega
          clear hx hfj
          go_wp2_with fail
          go_quiet (fail)
          go_upto_region 9 with (fail)
          generalize hwd : wr.drewN nq = w2
          have O2 : Hid (Own .i64 3 W1.heap.size w2 (.slice Av (l + j - l') cv) (l + j - l') (fun i => ((l' + i : Nat) : Int))) := by rw [← hwd]; exact (id HO.out)
          have E2 : Hid (Below W1.heap.size W1 w2) := by rw [← hwd]; exact HE.out.trans (drawn_below ⟨_, rfl⟩ _)
          have hc2 : w2.cell? ⟨b, off + j, none⟩ = some (.int .i64 (f j)) := by rw [← hwd]; exact hc
          obtain ⟨s0, s1, s2⟩ := rowQ (keepRow K1.out E2.out)
          clear hwd HO HE t0 t1 t2 hc
          have hsz : w2.heap.size < (w2.alloc (.cells #[.int .i64 (f j)] 3)).heap.size := by simp
          go_wp2_with (at_builtin; refine wp_app rfl (.tmp 32) (.tmp 38) _ rfl i0 0 8 Try.underlying93 hi hz0 hz1 hz2 W1.heap.size _ (l + j - l') (fun i => ((l' + i : Nat) : Int)) rfl (O2.out.alloc _) (some ⟨w2.heap.size, 0, none⟩) 1 1 (fun _ => (f j)) rfl (Own.lit .i64 3 0 w2 (fun _ => (f j)) #[.int .i64 (f j)] 1 (Nat.zero_le _) (by simp [maxLen]) rfl).rdS (by simp only [maxLen]; omega) (by omega) (Nat.le_trans E2.out.size (Nat.le_of_lt hsz)) ?_; intro v3 w3 hown3 hg3)
          go_roundw
          case rel =>
            refine ⟨j + 1, by omega, by go_num, ?_, (E2.out.alloc E2.out.size _).grown hg3 (Nat.le_trans E2.out.size (Nat.le_of_lt hsz)) (fun k e => (World.ownsRow.lt O2.out k e).1)⟩
            rw [e1.out]
            exact hown3.congr (seq_appF l' (l + j - l') (f j) Hx.out)
          case measure => simp [intOf]; omega
        · have hd2 : decide ((a1 : Int) ≤ f j) = false := decide_eq_false (by omega)
          have e1 : Hid (l + (j + 1) - l' = l + j - l') := by show _ = _; have := Hl'.out; omega
          clear hx hfj
          go_wp2_with fail
          go_quiet (fail)
          go_wp2_with fail
          go_roundw
          case rel => exact ⟨j + 1, by omega, by go_num, by rw [e1.out]; exact (id HO.out), HE.out.trans (drawn_below ⟨_, rfl⟩ _)⟩
          case measure => simp [intOf]; omega
      · obtain rfl : n = j := by omega
        have hcnt : l + n - l' = m + 1 - l' := by have := Hn.out; omega
        rw [hcnt] at HO
        rw [hcnt]
        have f2 := frozenRow (keepRow K1.out HE.out) 2
        have k1 := setRow wr w.heap.size 2 (.slice Av (m + 1 - l') cv) (keepRow K1.out HE.out)
        have K4 := hide ((Below.heap_setCell wr ⟨w.heap.size, 2, none⟩ (.slice Av (m + 1 - l') cv) (w.heap.size + 1) (Nat.succ_ne_self _)).trans (keepRow K2.out HE.out))
        simp only [List.setIfInBounds_toArray, List.set_cons_zero, List.set_cons_succ] at k1
        obtain ⟨x0, x1, x2⟩ := rowQ k1
        have hp0 := rowLt K1.out
        have hp1 := rowLt K2.out
        have O3 : Hid (Own .i64 3 W1.heap.size (wr.setCell ⟨w.heap.size, 2, none⟩ (.slice Av (m + 1 - l') cv)) (.slice Av (m + 1 - l') cv) (m + 1 - l') (fun i => ((l' + i : Nat) : Int))) := ownsRow_setCell_below HO.out (a := ⟨w.heap.size, 2, none⟩) hp0 _
        have E3 : Hid (Below w.heap.size w (wr.setCell ⟨w.heap.size, 2, none⟩ (.slice Av (m + 1 - l') cv))) := (E1.out.of HE.out).setCell (Nat.le_refl _) _
        have hz : Hid (W1.heap.size ≤ (wr.setCell ⟨w.heap.size, 2, none⟩ (.slice Av (m + 1 - l') cv)).heap.size) := by show _ ≤ _; have := HE.out.size; simpa [World.setCell] using this
        clear k1 hcnt
        go_wp2_with fail
        have hl1 := Hl'.out
        have hq1 := Hq.out
        have ha1 := Ha1.out
        refine (risen32 (m := m) O3.out.rdS (by omega) (by omega) (l := l') (by simp) (fun i _ => show (l' : Int) ≤ ((l' + i : Nat) : Int) by omega) (by omega) (by omega)).mono ?_
        rintro e w4 ⟨vn, rfl, hvn, hb4⟩
        have hzz := hz.out
        obtain ⟨A4, c4, rfl, _, _⟩ := hvn.rd
        have k2 := keepRow K4.out hb4
        obtain ⟨g0, g1, g2⟩ := rowQ k2
        have z0 := frozenRow k2 0
        have z1 := frozenRow k2 1
        have z2 := frozenRow k2 2
        have O5 := hide (own_set3 hvn (Nat.lt_of_lt_of_le hp1 hzz) E3.out.size (.slice A1 m c1) (.int .i64 (a1 : Int)) (.slice A4 (m + 1 - l') c4))
        have E4 := hide (set3b (E3.out.of hb4) (Nat.le_succ w.heap.size) (.slice A1 m c1) (.int .i64 (a1 : Int)) (.slice A4 (m + 1 - l') c4))
        clear k2 hvn hb4 hzz hl1 hq1 ha1
        go_wp2_with fail
        refine bodyPost_ret (v := .tuple #[.agg #[.slice A1 m c1, .int .i64 (a1 : Int), .slice A4 (m + 1 - l') c4], .bool true]) ?_ rfl ⟨E4.out, .inr ⟨Hq.out, _, rfl, O5.out⟩⟩
        rw [results_cell_tmp rfl]
        go_simp
end Go.Proofs.Yteikpdolickkaaa
