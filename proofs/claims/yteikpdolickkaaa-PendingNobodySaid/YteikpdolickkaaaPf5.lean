/- Layer 32: the reference's Named and Keep. -/
import Derived.Test.YteikpdolickkaaaPf4
namespace Go.Proofs.Yteikpdolickkaaa
open Go.RowKit Go.Deep Go.ChangeShapes Go.WideShapes

set_option maxRecDepth 20000 in
set_option maxHeartbeats 1600000 in
theorem rnamed32 {w : World} {A1 : Option Addr} {m c1 : Nat} {a : Int} {A : Option Addr} {n c l : Nat} {f : Nat → Int} (ho : Rd .i64 w A n c f) (hn : 0 < n) (h0 : f 0 = (l : Int)) (hl : l ≤ 60) {A2 : Option Addr} {n2 c2 : Nat} {bb : Nat → Bool} (hb : RdB w A2 n2 c2 bb) (hn2 : n2 ≤ 60) :
    Calls Try.prog 55 #[.agg #[.slice A1 m c1, .int .i64 a, .slice A n c], .slice A2 n2 c2] w fun e w' => ∃ v k h, e = .returned v ∧ Own .i64 3 w.heap.size w' v k h ∧ k ≤ 60 ∧ (∀ x : Int, (∃ t, t < k ∧ h t = x) ↔ ∃ i, i < n2 ∧ bb i = true ∧ x = ((l + i : Nat) : Int)) ∧ Below w.heap.size w w' := by
  have Ho := hide ho
  have H0 := hide h0
  have Hb := hide hb
  clear ho h0 hb
  obtain ⟨i0, hi, hz0, hz1, hz2⟩ := info_parts int_info32
  have R0 := hide (heap_alloc_new w (.cells #[.slice A1 m c1, .int .i64 a, .slice A n c] 95))
  have E0 := hide ((Below.refl w.heap.size w).alloc (Nat.le_refl _) (.cells #[.slice A1 m c1, .int .i64 a, .slice A n c] 95))
  go_enter Try.func55, Try.ntmps55
  go_wp2_with fail
  generalize w.alloc (.cells #[.slice A1 m c1, .int .i64 a, .slice A n c] 95) = W0 at *
  go_loopw [5, 6] (fun v i wr => ∃ j : Nat, j ≤ n2 ∧ i = .int .i64 j ∧ ∃ k h, Own .i64 3 W0.heap.size wr v k h ∧ k ≤ j ∧ (∀ x : Int, (∃ t, t < k ∧ h t = x) ↔ ∃ i, i < j ∧ bb i = true ∧ x = ((l + i : Nat) : Int)) ∧ Below W0.heap.size W0 wr) (fun _ i _ => n2 - (intOf i).toNat)
  case atStart => exact ⟨0, Nat.zero_le _, rfl, 0, fun _ => 0, Own.nil _ _ _ _ _, Nat.le_refl _, fun x => ⟨fun ⟨t, h, _⟩ => absurd h (by omega), fun ⟨t, h, _⟩ => absurd h (by omega)⟩, Below.refl _ _⟩
  case round =>
    obtain ⟨j, hj, rfl, k, h, hov, hkj, hiff, hbl⟩ := hrel
    have HO := hide hov
    have HE := hide hbl
    have HI := hide hiff
    obtain ⟨t0, t1, t2⟩ := rowQ (keepRow R0.out hbl)
    obtain ⟨Av, cv, rfl, _, _⟩ := hov.rd
    clear hov hbl hiff
    by_cases hjn : j < n2
    · have hjn' : (j : Int) < (n2 : Int) := by omega
      obtain ⟨b, off, rfl, hc⟩ := (Hb.out.below (E0.out.of HE.out)).2.2.2 (by omega)
      have hcj := hc j hjn
      clear hc
      cases hbj : bb j with
      | false =>
        have HB := hide hbj
        rw [hbj] at hcj
        clear hbj
        go_wp2_with fail
        go_roundw
        case rel =>
          refine ⟨j + 1, by omega, by go_num, k, h, HO.out, by omega, fun x => ⟨fun hx => ?_, fun ⟨i, hi1, hi2, hi3⟩ => ?_⟩, HE.out⟩
          · obtain ⟨i, hi1, hi2⟩ := (HI.out x).1 hx
            exact ⟨i, by omega, hi2⟩
          · refine (HI.out x).2 ⟨i, ?_, hi2, hi3⟩
            rcases Nat.lt_or_ge i j with h1 | h1
            · exact h1
            · obtain rfl : i = j := by omega
              rw [HB.out] at hi2
              cases hi2
        case measure => simp [intOf]; omega
      | true =>
        have HB := hide hbj
        rw [hbj] at hcj
        clear hbj
        obtain ⟨bo, oo, rfl, hco⟩ := (Ho.out.below (E0.out.of HE.out)).at_ hn
        rw [H0.out, Nat.add_zero] at hco
        obtain ⟨xj, hxj⟩ : ∃ xj : Int, xj = ((l + j : Nat) : Int) := ⟨_, rfl⟩
        have hw : IntKind.i64.wrap ((l : Int) + (j : Int)) = xj := by rw [IntWalk.i64_in _ (by omega), hxj]; omega
        have Hxj := hide hxj
        have hn' : (0 : Int) < (n : Int) := by omega
        clear hxj
        have hsz : wr.heap.size < (wr.alloc (.cells #[.int .i64 xj] 3)).heap.size := by simp
        go_wp2_with (at_builtin; refine wp_app rfl (.tmp 17) (.tmp 24) _ rfl i0 0 8 Try.underlying93 hi hz0 hz1 hz2 W0.heap.size _ k h rfl (HO.out.alloc _) (some ⟨wr.heap.size, 0, none⟩) 1 1 (fun _ => xj) rfl (Own.lit .i64 3 0 wr (fun _ => xj) #[.int .i64 xj] 1 (Nat.zero_le _) (by simp [maxLen]) rfl).rdS (by simp only [maxLen]; omega) (by omega) (Nat.le_trans HE.out.size (Nat.le_of_lt hsz)) ?_; intro v3 w3 hown3 hg3)
        go_roundw
        case rel =>
          refine ⟨j + 1, by omega, by go_num, k + 1, _, hown3, by omega, fun x => ⟨fun ⟨t, ht1, ht2⟩ => ?_, fun ⟨i, hi1, hi2, hi3⟩ => ?_⟩, (HE.out.alloc HE.out.size _).grown hg3 (Nat.le_trans HE.out.size (Nat.le_of_lt hsz)) (fun k e => (World.ownsRow.lt HO.out k e).1)⟩
          · unfold catF at ht2
            by_cases ht : t < k
            · rw [if_pos ht] at ht2
              obtain ⟨i, hi1, hi2⟩ := (HI.out x).1 ⟨t, ht, ht2⟩
              exact ⟨i, by omega, hi2⟩
            · rw [if_neg ht] at ht2
              exact ⟨j, by omega, HB.out, by rw [← ht2]; exact Hxj.out⟩
          · by_cases hij : i < j
            · obtain ⟨t, ht1, ht2⟩ := (HI.out x).2 ⟨i, hij, hi2, hi3⟩
              exact ⟨t, by omega, by unfold catF; rw [if_pos ht1]; exact ht2⟩
            · obtain rfl : i = j := by omega
              exact ⟨k, by omega, by unfold catF; rw [if_neg (Nat.lt_irrefl _), hi3]; exact Hxj.out⟩
        case measure => simp [intOf]; omega
    · obtain rfl : n2 = j := by omega
      go_wp2_with fail
      go_ret
      exact ⟨_, k, h, rfl, Own.baseT HO.out E0.out.size, by omega, HI.out, E0.out.of HE.out⟩
/-- Which are kept. -/
def Pk (h : Nat → Int) (ks l : Nat) (i : Nat) : Prop := ∃ t, t < ks ∧ h t = ((l + i : Nat) : Int)
set_option maxRecDepth 20000 in
set_option maxHeartbeats 1600000 in
theorem rkeep32 {w : World} {A1 : Option Addr} {m c1 : Nat} {a : Int} {A : Option Addr} {n c l : Nat} {f : Nat → Int} (ho : Rd .i64 w A n c f) (hf : ∀ i, i < n → f i = ((l + i : Nat) : Int)) (hn : n = m + 1 - l) (hlm : l ≤ m) (hm : m ≤ 60) {A2 : Option Addr} {ks c2 : Nat} {h : Nat → Int} (hs : Rd .i64 w A2 ks c2 h) :
    Calls Try.prog 54 #[.agg #[.slice A1 m c1, .int .i64 a, .slice A n c], .slice A2 ks c2] w fun e w' => Below w.heap.size w w' ∧ (((∀ i, i < n → ¬ Pk h ks l i) ∧ e = .returned (.tuple #[.agg #[.slice A1 m c1, .int .i64 a, .slice A n c], .bool false])) ∨
      ∃ i, i < n ∧ Pk h ks l i ∧ (∀ j, j < i → ¬ Pk h ks l j) ∧ ∃ vn, e = .returned (.tuple #[.agg #[.slice A1 m c1, .int .i64 a, vn], .bool true]) ∧ Own .i64 3 w.heap.size w' vn (m + 1 - (l + i)) (fun j => ((l + i + j : Nat) : Int))) := by
  have Ho := hide ho
  have Hf := hide hf
  have Hn := hide hn
  have Hs := hide hs
  clear ho hf hn hs
  obtain ⟨i0, hi, hz0, hz1, hz2⟩ := info_parts int_info32
  have R0 := hide (keepRow (heap_alloc_new w (.cells #[.slice A1 m c1, .int .i64 a, .slice A n c] 95)) ((Below.refl _ _).alloc (Nat.le_refl _) (.cells #[.slice none 0 0, .int .i64 0, .slice none 0 0] 95)))
  have R1 := hide (heap_alloc_new (w.alloc (.cells #[.slice A1 m c1, .int .i64 a, .slice A n c] 95)) (.cells #[.slice none 0 0, .int .i64 0, .slice none 0 0] 95))
  have E0 := hide (((Below.refl w.heap.size w).alloc (Nat.le_refl _) (.cells #[.slice A1 m c1, .int .i64 a, .slice A n c] 95)).alloc (by simp) (.cells #[.slice none 0 0, .int .i64 0, .slice none 0 0] 95))
  go_enter Try.func54, Try.ntmps54
  go_wp2_with fail
  have hq : (w.alloc (.cells #[.slice A1 m c1, .int .i64 a, .slice A n c] 95)).heap.size = w.heap.size + 1 := by simp
  rw [hq] at R1
  clear hq
  generalize (w.alloc (.cells #[.slice A1 m c1, .int .i64 a, .slice A n c] 95)).alloc (.cells #[.slice none 0 0, .int .i64 0, .slice none 0 0] 95) = W0 at *
  go_loopw [6, 7] (fun v i wr => ∃ j : Nat, j ≤ n ∧ i = .int .i64 j ∧ ∃ k g, Own .i64 3 W0.heap.size wr v k g ∧ k ≤ j ∧ ((k = 0 ∧ ∀ i, i < j → ¬ Pk h ks l i) ∨ ∃ i, i < j ∧ Pk h ks l i ∧ (∀ x, x < i → ¬ Pk h ks l x) ∧ 0 < k ∧ g 0 = ((l + i : Nat) : Int) ∧ ∀ t, t < k → ((l + i : Nat) : Int) ≤ g t) ∧ Below W0.heap.size W0 wr) (fun _ i _ => n - (intOf i).toNat)
  case atStart => exact ⟨0, Nat.zero_le _, rfl, 0, fun _ => 0, Own.nil _ _ _ _ _, Nat.le_refl _, .inl ⟨rfl, fun i hi => absurd hi (by omega)⟩, Below.refl _ _⟩
  case round =>
    obtain ⟨j, hj, rfl, k, g, hov, hkj, hcase, hbl⟩ := hrel
    have HO := hide hov
    have HE := hide hbl
    have HC := hide hcase
    obtain ⟨t0, t1, t2⟩ := rowQ (keepRow R0.out hbl)
    obtain ⟨Av, cv, rfl, _, _⟩ := hov.rd
    have hn61 : n ≤ 61 := by have := Hn.out; omega
    clear hov hbl hcase
    by_cases hjn : j < n
    · have hjn' : (j : Int) < (n : Int) := by omega
      obtain ⟨b, off, rfl, hc⟩ := (Ho.out.below (E0.out.of HE.out)).at_ hjn
      have Hfj := hide (Hf.out j hjn)
      go_wp2_with fail
      refine (has32 (Hs.out.below (E0.out.of HE.out)) (f j)).mono ?_
      rintro e wl ⟨⟨hyes, rfl⟩ | ⟨hno, rfl⟩, rfl⟩
      · have Hyes : Hid (Pk h ks l j) := by
          obtain ⟨t, ht1, ht2⟩ := hyes
          exact ⟨t, ht1, by rw [ht2]; exact Hfj.out⟩
        clear hyes
        have hsz : wr.heap.size < (wr.alloc (.cells #[.int .i64 (f j)] 3)).heap.size := by simp
        go_wp2_with (at_builtin; refine wp_app rfl (.tmp 22) (.tmp 28) _ rfl i0 0 8 Try.underlying93 hi hz0 hz1 hz2 W0.heap.size _ k g rfl (HO.out.alloc _) (some ⟨wr.heap.size, 0, none⟩) 1 1 (fun _ => f j) rfl (Own.lit .i64 3 0 wr (fun _ => f j) #[.int .i64 (f j)] 1 (Nat.zero_le _) (by simp [maxLen]) rfl).rdS (by simp only [maxLen]; omega) (by omega) (Nat.le_trans HE.out.size (Nat.le_of_lt hsz)) ?_; intro v3 w3 hown3 hg3)
        go_roundw
        case rel =>
          refine ⟨j + 1, by omega, by go_num, k + 1, _, hown3, by omega, .inr ?_, (HE.out.alloc HE.out.size _).grown hg3 (Nat.le_trans HE.out.size (Nat.le_of_lt hsz)) (fun k e => (World.ownsRow.lt HO.out k e).1)⟩
          rcases HC.out with ⟨rfl, hnone⟩ | ⟨i, hi1, hi2, hi3, hk0, hg0, hgm⟩
          · refine ⟨j, by omega, Hyes.out, hnone, by omega, ?_, fun t ht => ?_⟩
            · unfold catF; rw [if_neg (by omega)]; exact Hfj.out
            · unfold catF; rw [if_neg (by omega), Hfj.out]; exact Int.le_refl _
          · refine ⟨i, by omega, hi2, hi3, by omega, ?_, fun t ht => ?_⟩
            · unfold catF; rw [if_pos hk0]; exact hg0
            · unfold catF
              by_cases htk : t < k
              · rw [if_pos htk]; exact hgm t htk
              · rw [if_neg htk]
                show ((l + i : Nat) : Int) ≤ f j
                rw [Hfj.out]
                omega
        case measure => simp [intOf]; omega
      · have Hno : Hid (¬ Pk h ks l j) := fun ⟨t, ht1, ht2⟩ => hno t ht1 (by rw [ht2]; exact Hfj.out.symm)
        clear hno
        go_wp2_with fail
        go_roundw
        case rel =>
          refine ⟨j + 1, by omega, by go_num, k, g, HO.out, by omega, ?_, HE.out⟩
          rcases HC.out with ⟨rfl, hnone⟩ | ⟨i, hi1, hr⟩
          · refine .inl ⟨rfl, fun i hi => ?_⟩
            rcases Nat.lt_or_ge i j with h1 | h1
            · exact hnone i h1
            · obtain rfl : i = j := by omega
              exact Hno.out
          · exact .inr ⟨i, by omega, hr⟩
        case measure => simp [intOf]; omega
    · obtain rfl : n = j := by omega
      rcases HC.out with ⟨rfl, hnone⟩ | ⟨i, hi1, hi2, hi3, hk0, hg0, hgm⟩
      · have Hnone := hide hnone
        clear hnone
        have k1 := keepRow R1.out HE.out
        obtain ⟨g0, g1, g2⟩ := rowQ k1
        have z0 := frozenRow k1 0
        have z1 := frozenRow k1 1
        have z2 := frozenRow k1 2
        clear k1
        go_wp2_with fail
        refine bodyPost_ret (v := .tuple #[.agg #[.slice A1 m c1, .int .i64 a, .slice A n c], .bool false]) ?_ rfl ⟨set3b (E0.out.of HE.out) (Nat.le_succ _) _ _ _, .inl ⟨Hnone.out, rfl⟩⟩
        rw [results_cell_tmp rfl]
        go_simp
      · have Hi := hide (And.intro hi1 (And.intro hi2 hi3))
        have Hg := hide (And.intro hg0 hgm)
        have hd : ((k : Int) == 0) = false := by
          simp only [beq_eq_false_iff_ne]
          omega
        obtain ⟨l', hl'⟩ : ∃ l', l' = l + i := ⟨_, rfl⟩
        rw [← hl'] at Hg
        have Hl' := hide hl'
        clear hl' hi1 hi2 hi3 hg0 hgm
        have f2 := frozenRow (keepRow R0.out HE.out) 2
        have k1 := setRow wr w.heap.size 2 (.slice Av k cv) (keepRow R0.out HE.out)
        have K4 := hide ((Below.heap_setCell wr ⟨w.heap.size, 2, none⟩ (.slice Av k cv) (w.heap.size + 1) (Nat.succ_ne_self _)).trans (keepRow R1.out HE.out))
        simp only [List.setIfInBounds_toArray, List.set_cons_zero, List.set_cons_succ] at k1
        obtain ⟨x0, x1, x2⟩ := rowQ k1
        have hp0 := rowLt R0.out
        have hp1 := rowLt R1.out
        have O3 : Hid (Own .i64 3 W0.heap.size (wr.setCell ⟨w.heap.size, 2, none⟩ (.slice Av k cv)) (.slice Av k cv) k g) := ownsRow_setCell_below HO.out (a := ⟨w.heap.size, 2, none⟩) hp0 _
        have E3 : Hid (Below w.heap.size w (wr.setCell ⟨w.heap.size, 2, none⟩ (.slice Av k cv))) := (E0.out.of HE.out).setCell (Nat.le_refl _) _
        have hz : Hid (W0.heap.size ≤ (wr.setCell ⟨w.heap.size, 2, none⟩ (.slice Av k cv)).heap.size) := by show _ ≤ _; have := HE.out.size; simpa [World.setCell] using this
        clear k1
        go_wp2_with fail
        have hl1 := Hl'.out
        have hq1 := Hi.out.1
        have hn1 := Hn.out
        refine (risen32 (m := m) O3.out.rdS hk0 (by omega) (l := l') Hg.out.1 Hg.out.2 (by omega) (by omega)).mono ?_
        rintro e w4 ⟨vn, rfl, hvn, hb4⟩
        have hzz := hz.out
        obtain ⟨A4, c4, rfl, _, _⟩ := hvn.rd
        have k2 := keepRow K4.out hb4
        obtain ⟨g0, g1, g2⟩ := rowQ k2
        have z0 := frozenRow k2 0
        have z1 := frozenRow k2 1
        have z2 := frozenRow k2 2
        have O5 := own_set3 hvn (Nat.lt_of_lt_of_le hp1 hzz) E3.out.size (.slice A1 m c1) (.int .i64 a) (.slice A4 (m + 1 - l') c4)
        have E4 := hide (set3b (E3.out.of hb4) (Nat.le_succ w.heap.size) (.slice A1 m c1) (.int .i64 a) (.slice A4 (m + 1 - l') c4))
        have H5 := hide O5
        clear k2 hvn hb4 hzz hl1 hq1 hn1 O5
        go_wp2_with fail
        refine bodyPost_ret (v := .tuple #[.agg #[.slice A1 m c1, .int .i64 a, .slice A4 (m + 1 - l') c4], .bool true]) ?_ rfl ⟨E4.out, .inr ⟨i, Hi.out.1, Hi.out.2.1, Hi.out.2.2, _, rfl, by have h5 := H5.out; rw [Hl'.out] at h5 ⊢; exact h5⟩⟩
        rw [results_cell_tmp rfl]
        go_simp
end Go.Proofs.Yteikpdolickkaaa
