/- Layer 32: the reference's has and risen. -/
import Derived.Test.YteikpdolickkaaaPe6
import Derived.Test.YteikpdolickkaaaSetB
namespace Go.Proofs.Yteikpdolickkaaa
open Go.RowKit Go.Deep Go.ChangeShapes Go.WideShapes

set_option maxRecDepth 20000 in
theorem has32 {w : World} {A : Option Addr} {n c : Nat} {f : Nat → Int} (ha : Rd .i64 w A n c f) (x : Int) :
    Calls Try.prog 119 #[.slice A n c, .int .i64 x] w fun e w' => ((∃ i, i < n ∧ f i = x) ∧ e = .returned (.bool true) ∨ (∀ i, i < n → f i ≠ x) ∧ e = .returned (.bool false)) ∧ w = w' := by
  have Ha := hide ha
  have hn63 : (n : Int) ≤ 9223372036854775807 := by have h1 := ha.1; have h2 := ha.2.1; simp only [maxLen] at h2; omega
  clear ha
  go_enter Try.func119, Try.ntmps119
  go_wp2
  go_loopw [5] (fun i wr => ∃ k : Nat, k ≤ n ∧ i = .int .i64 k ∧ (∀ j, j < k → f j ≠ x) ∧ wr = w) (fun i _ => n - (intOf i).toNat)
  case atStart => exact ⟨0, Nat.zero_le _, rfl, fun j hj => absurd hj (by omega), rfl⟩
  case round =>
    obtain ⟨k, hk, rfl, hno, rfl⟩ := hrel
    have Hno := hide hno
    clear hno
    by_cases hlt : k < n
    · have hlt' : (k : Int) < (n : Int) := by omega
      obtain ⟨b, off, rfl, hc⟩ := Ha.out.at_ hlt
      by_cases hf : f k = x
      · have hd : (f k == x) = true := by simpa using hf
        have Hf := hide hf
        clear hf
        go_wp2
        go_ret
        exact ⟨.inl ⟨⟨k, hlt, Hf.out⟩, rfl⟩, rfl⟩
      · have hd : (f k == x) = false := by simpa using hf
        have Hf := hide hf
        clear hf
        go_wp2
        go_roundw
        case rel => exact ⟨k + 1, by omega, by go_num, (fun j hj => (by
          by_cases hjk : j = k
          · subst hjk; exact Hf.out
          · exact Hno.out j (by omega))), trivial⟩
        case measure => simp [intOf]; omega
    · obtain rfl : n = k := by omega
      go_wp2
      go_ret
      exact ⟨.inr ⟨Hno.out, rfl⟩, rfl⟩
theorem int_info32 : (Try.prog.info? 3).map (fun i => (i.zero, i.size, i.bytes)) = some (some (.int .i64 0), 1, 8) := by kernel_rfl
/-- How many have risen so far. -/
def cntR (l x i : Nat) : Nat := if x < l then 0 else if i = 0 then x - l else x - l + 1
theorem seq_app (l k x : Nat) (h : x = l + k) : ∀ i, i < k + 1 → catF k (fun i => ((l + i : Nat) : Int)) (fun _ => (x : Int)) i = ((l + i : Nat) : Int) := by
  intro i hi
  unfold catF
  by_cases h2 : i < k
  · rw [if_pos h2]
  · rw [if_neg h2, h, show i = k by omega]
set_option maxRecDepth 20000 in
set_option maxHeartbeats 1600000 in
theorem risen32 {w : World} {A1 : Option Addr} {m c1 : Nat} {a : Int} {A : Option Addr} {n c l : Nat} {f : Nat → Int} (ha : Rd .i64 w A n c f) (hn : 0 < n) (hn2 : n ≤ 100) (h0 : f 0 = (l : Int)) (hmin : ∀ i, i < n → (l : Int) ≤ f i) (hl : l ≤ m) (hm : m ≤ 100) :
    Calls Try.prog 116 #[.agg #[.slice A1 m c1, .int .i64 a, .slice A n c]] w fun e w' => ∃ v, e = .returned (.agg #[.slice A1 m c1, .int .i64 a, v]) ∧ Own .i64 3 w.heap.size w' v (m + 1 - l) (fun i => ((l + i : Nat) : Int)) ∧ Below w.heap.size w w' := by
  have Ha := hide ha
  have Hmin := hide hmin
  have H0 := hide h0
  clear ha hmin h0
  obtain ⟨i0, hi, hz0, hz1, hz2⟩ := info_parts int_info32
  have R0 := hide (keepRow (heap_alloc_new w (.cells #[.slice A1 m c1, .int .i64 a, .slice A n c] 95)) ((Below.refl _ _).alloc (Nat.le_refl _) (.cells #[.slice none 0 0, .int .i64 0, .slice none 0 0] 95)))
  have R1 := hide (heap_alloc_new (w.alloc (.cells #[.slice A1 m c1, .int .i64 a, .slice A n c] 95)) (.cells #[.slice none 0 0, .int .i64 0, .slice none 0 0] 95))
  have E0 := hide (((Below.refl w.heap.size w).alloc (Nat.le_refl _) (.cells #[.slice A1 m c1, .int .i64 a, .slice A n c] 95)).alloc (by simp) (.cells #[.slice none 0 0, .int .i64 0, .slice none 0 0] 95))
  go_enter Try.func116, Try.ntmps116
  go_wp2_with fail
  have hq : (w.alloc (.cells #[.slice A1 m c1, .int .i64 a, .slice A n c] 95)).heap.size = w.heap.size + 1 := by simp
  rw [hq] at R1
  clear hq
  generalize (w.alloc (.cells #[.slice A1 m c1, .int .i64 a, .slice A n c] 95)).alloc (.cells #[.slice none 0 0, .int .i64 0, .slice none 0 0] 95) = W0 at *
  go_loopw [3, 4] (fun v i wr => ∃ x : Nat, x ≤ m + 1 ∧ i = .int .i64 x ∧ Own .i64 3 W0.heap.size wr v (x - l) (fun i => ((l + i : Nat) : Int)) ∧ Below W0.heap.size W0 wr) (fun _ i _ => m + 1 - (intOf i).toNat)
  case atStart => exact ⟨0, Nat.zero_le _, rfl, by rw [Nat.zero_sub]; exact Own.nil _ _ _ _ _, Below.refl _ _⟩
  case round =>
    obtain ⟨x, hx, rfl, ho, hbl⟩ := hrel
    have HO := hide ho
    have HE := hide hbl
    obtain ⟨t0, t1, t2⟩ := rowQ (keepRow R0.out hbl)
    clear ho hbl
    by_cases hlt : x ≤ m
    · have hd : decide ((x : Int) ≤ (m : Int)) = true := decide_eq_true (by omega)
      have hd' : decide (x ≤ m) = true := decide_eq_true hlt
      generalize wr = wo at *
      go_wp2_with fail
      go_loopw [3, 5] (fun v i wr => ∃ j : Nat, j ≤ n ∧ i = .int .i64 j ∧ Own .i64 3 W0.heap.size wr v (cntR l x j) (fun i => ((l + i : Nat) : Int)) ∧ Below W0.heap.size W0 wr) (fun _ i _ => n - (intOf i).toNat)
      case atStart =>
        refine ⟨0, Nat.zero_le _, rfl, ?_, HE.out⟩
        have e : cntR l x 0 = x - l := by
          unfold cntR
          by_cases h : x < l
          · rw [if_pos h]; omega
          · rw [if_neg h, if_pos rfl]
        rw [e]
        exact HO.out
      case round =>
        obtain ⟨j, hj, rfl, ho2, hbl2⟩ := hrel
        clear HO HE t0 t1 t2
        have HO := hide ho2
        have HE := hide hbl2
        obtain ⟨t0, t1, t2⟩ := rowQ (keepRow R0.out hbl2)
        obtain ⟨Av, cv, rfl, hrv, _⟩ := ho2.rd
        have Hrv := hide hrv
        clear ho2 hbl2 hrv
        by_cases hjn : j < n
        · have hjn' : (j : Int) < (n : Int) := by omega
          obtain ⟨b, off, rfl, hc⟩ := (Ha.out.below (E0.out.of HE.out)).at_ hjn
          have hmj := Hmin.out j hjn
          by_cases hxl : x < l
          · have hd2 : decide (f j ≤ (x : Int)) = false := decide_eq_false (by omega)
            have e1 : Hid (cntR l x j = cntR l x (j + 1)) := by show _ = _; unfold cntR; rw [if_pos hxl, if_pos hxl]
            clear hmj
            go_wp2_with fail
            go_roundw
            case rel => exact ⟨j + 1, by omega, by go_num, by rw [← e1.out]; exact HO.out, HE.out⟩
            case measure => simp [intOf]; omega
          · by_cases hj0 : j = 0
            · subst hj0
              have hd2 : decide (f 0 ≤ (x : Int)) = true := decide_eq_true (by rw [H0.out]; omega)
              have e0 : cntR l x 0 = x - l := by unfold cntR; rw [if_neg hxl, if_pos rfl]
              have e1 : Hid (cntR l x (0 + 1) = (x - l) + 1) := by show _ = _; unfold cntR; rw [if_neg hxl, if_neg (by omega)]
              rw [e0] at HO Hrv
              rw [e0]
              rw [Nat.add_zero, H0.out] at hc
              rw [H0.out] at hd2
              clear e0 hmj
              go_wp2_with fail
              refine (has32 Hrv.out (x : Int)).mono ?_
              rintro e wl ⟨⟨⟨i, hi1, hi2⟩, _⟩ | ⟨_, rfl⟩, rfl⟩
              · omega
              have hsz : wr.heap.size < (wr.alloc (.cells #[.int .i64 (x : Int)] 3)).heap.size := by simp
              go_wp2_with (at_builtin; refine wp_app rfl (.tmp 33) (.tmp 35) _ rfl i0 0 8 Try.underlying93 hi hz0 hz1 hz2 W0.heap.size _ (x - l) (fun i => ((l + i : Nat) : Int)) rfl (HO.out.alloc _) (some ⟨wr.heap.size, 0, none⟩) 1 1 (fun _ => (x : Int)) rfl (Own.lit .i64 3 0 wr (fun _ => (x : Int)) #[.int .i64 (x : Int)] 1 (Nat.zero_le _) (by simp [maxLen]) rfl).rdS (by simp only [maxLen]; omega) (by omega) (Nat.le_trans HE.out.size (Nat.le_of_lt hsz)) ?_; intro v2 w2 hown2 hg2)
              go_roundw
              case rel =>
                refine ⟨0 + 1, by omega, by go_num, ?_, (HE.out.alloc HE.out.size _).grown hg2 (Nat.le_trans HE.out.size (Nat.le_of_lt hsz)) (fun k e => (World.ownsRow.lt HO.out k e).1)⟩
                rw [e1.out]
                exact hown2.congr (seq_app l (x - l) x (by omega))
              case measure => simp [intOf]; omega
            · have e0 : cntR l x j = x - l + 1 := by unfold cntR; rw [if_neg hxl, if_neg hj0]
              have e1 : Hid (cntR l x (j + 1) = x - l + 1) := by show _ = _; unfold cntR; rw [if_neg hxl, if_neg (by omega)]
              rw [e0] at HO Hrv
              rw [e0]
              clear e0 hmj
              by_cases hfx : f j ≤ (x : Int)
              · have hd2 : decide (f j ≤ (x : Int)) = true := decide_eq_true hfx
                clear hfx
                go_wp2_with fail
                refine (has32 Hrv.out (x : Int)).mono ?_
                rintro e wl ⟨hcase, rfl⟩
                obtain rfl : e = .returned (.bool true) := by
                  rcases hcase with ⟨_, h⟩ | ⟨hno, _⟩
                  · exact h
                  · exact absurd (show ((l + (x - l) : Nat) : Int) = (x : Int) by omega) (hno (x - l) (by omega))
                clear hcase
                go_wp2_with fail
                go_roundw
                case rel => exact ⟨j + 1, by omega, by go_num, by rw [e1.out]; exact HO.out, HE.out⟩
                case measure => simp [intOf]; omega
              · have hd2 : decide (f j ≤ (x : Int)) = false := decide_eq_false hfx
                clear hfx
                go_wp2_with fail
                go_roundw
                case rel => exact ⟨j + 1, by omega, by go_num, by rw [e1.out]; exact HO.out, HE.out⟩
                case measure => simp [intOf]; omega
        · obtain rfl : n = j := by omega
          have e0 : Hid (cntR l x n = x + 1 - l) := by
            show _ = _
            unfold cntR
            by_cases hxl : x < l
            · rw [if_pos hxl]; omega
            · rw [if_neg hxl, if_neg (by omega)]; omega
          go_wp2_with fail
          go_roundw
          case rel => exact ⟨x + 1, by omega, by go_num, by rw [← e0.out]; exact HO.out, HE.out⟩
          case measure => simp [intOf]; omega
    · obtain rfl : x = m + 1 := by omega
      have hd : decide (((m + 1 : Nat) : Int) ≤ (m : Int)) = false := decide_eq_false (by omega)
      have hd' : decide (m + 1 ≤ m) = false := decide_eq_false (by omega)
      obtain ⟨Av, cv, rfl, _, _⟩ := HO.out.rd
      have f2 := frozenRow (keepRow R0.out HE.out) 2
      have hne : w.heap.size ≠ w.heap.size + 1 := by omega
      have K0 := setRow wr w.heap.size 2 (.slice Av (m + 1 - l) cv) (keepRow R0.out HE.out)
      have K1 := (Below.heap_setCell wr ⟨w.heap.size, 2, none⟩ (.slice Av (m + 1 - l) cv) (w.heap.size + 1) (Nat.succ_ne_self _)).trans (keepRow R1.out HE.out)
      simp only [List.setIfInBounds_toArray, List.set_cons_zero, List.set_cons_succ] at K0
      obtain ⟨x0, x1, x2⟩ := rowQ K0
      obtain ⟨y0, y1, y2⟩ := rowQ K1
      have z0 := frozenRow K1 0
      have z1 := frozenRow K1 1
      have z2 := frozenRow K1 2
      have hb0 := rowLt R0.out
      have hb1 := rowLt R1.out
      have O3 : Hid (Own .i64 3 w.heap.size ((((wr.setCell ⟨w.heap.size, 2, none⟩ (.slice Av (m + 1 - l) cv)).setCell ⟨w.heap.size + 1, 0, none⟩ (.slice A1 m c1)).setCell ⟨w.heap.size + 1, 1, none⟩ (.int .i64 a)).setCell ⟨w.heap.size + 1, 2, none⟩ (.slice Av (m + 1 - l) cv)) (.slice Av (m + 1 - l) cv) (m + 1 - l) (fun i => ((l + i : Nat) : Int))) :=
        Own.baseT (ownsRow_setCell_below (ownsRow_setCell_below (ownsRow_setCell_below (ownsRow_setCell_below HO.out (a := ⟨w.heap.size, 2, none⟩) hb0 _) (a := ⟨w.heap.size + 1, 0, none⟩) hb1 _) (a := ⟨w.heap.size + 1, 1, none⟩) hb1 _) (a := ⟨w.heap.size + 1, 2, none⟩) hb1 _) E0.out.size
      clear K0 K1
      go_wp2_with fail
      refine bodyPost_ret (v := .agg #[.slice A1 m c1, .int .i64 a, .slice Av (m + 1 - l) cv]) ?_ rfl ⟨_, rfl, O3.out, ?_⟩
      · rw [results_cellS rfl]
        go_simp
      · exact ((((E0.out.of HE.out).setCell (Nat.le_refl _) _).setCell (Nat.le_succ _) _).setCell (Nat.le_succ _) _).setCell (Nat.le_succ _) _
end Go.Proofs.Yteikpdolickkaaa
