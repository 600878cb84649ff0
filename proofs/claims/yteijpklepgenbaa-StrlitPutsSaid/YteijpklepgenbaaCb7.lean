/- Layer 16: the contracts of the reference: rows, lengths, the order, the codes. -/
import Derived.Test.YteijpklepgenbaaCb6
namespace Go.Proofs.Yteijpklepgenbaa
open Go.RowKit

/-- A call that hands back integers of its own. -/
def Ints (w : World) (n : Nat) (f : Nat → Int) (e : Ending) (w' : World) : Prop := ∃ v, e = .returned v ∧ Own .i64 3 w.heap.size w' v n f ∧ Below w.heap.size w w'
set_option maxRecDepth 100000 in
set_option maxHeartbeats 3200000 in
theorem row_any (r : Nat) (z : Int) (w : World) (hz : z = (r : Int)) (hr : r ≤ 16) : Calls Try.prog 45 #[.int .i64 z] w (Ints w (if r < 16 then 16 else 1) (fun i => (len (16 * r + i) : Int))) := by
  subst hz
  have : r = 0 ∨ r = 1 ∨ r = 2 ∨ r = 3 ∨ r = 4 ∨ r = 5 ∨ r = 6 ∨ r = 7 ∨ r = 8 ∨ r = 9 ∨ r = 10 ∨ r = 11 ∨ r = 12 ∨ r = 13 ∨ r = 14 ∨ r = 15 ∨ r = 16 := by omega
  rcases this with rfl | rfl | rfl | rfl | rfl | rfl | rfl | rfl | rfl | rfl | rfl | rfl | rfl | rfl | rfl | rfl | rfl
  all_goals
    clear hr
    go_enter Try.func45, Try.ntmps45
    go_wp2_with fail
    go_ret
    refine ⟨_, rfl, ?_, (Below.refl _ _).alloc (Nat.le_refl _) _⟩
    refine Own.lit .i64 3 w.heap.size w _ _ _ (Nat.le_refl _) (by simp [maxLen]) ?_
    kernel_rfl

theorem lens_step (r : Nat) (hr : r ≤ 16) : ∀ i, i < min (16 * r) 257 + (if r < 16 then 16 else 1) → catF (min (16 * r) 257) (fun i => (len i : Int)) (fun i => (len (16 * r + i) : Int)) i = (len i : Int) := by
  intro i hi
  have e : min (16 * r) 257 = 16 * r := by omega
  rw [e]
  unfold catF
  by_cases h : i < 16 * r
  · rw [if_pos h]
  · rw [if_neg h]
    show (len (16 * r + (i - 16 * r)) : Int) = _
    rw [show 16 * r + (i - 16 * r) = i by omega]
set_option maxHeartbeats 1600000 in
theorem lens_any (w : World) : Calls Try.prog 37 #[] w (Ints w 257 (fun i => (len i : Int))) := by
  obtain ⟨i0, hi, hz0, hz1, hz2⟩ := info_parts int_info
  go_enter Try.func37, Try.ntmps37
  go_wp2_with fail
  go_loopw [1, 2] (fun out i wr => ∃ r : Nat, r ≤ 17 ∧ i = .int .i64 r ∧ Own .i64 3 w.heap.size wr out (min (16 * r) 257) (fun i => (len i : Int)) ∧ Below w.heap.size w wr) (fun _ i _ => 17 - (intOf i).toNat)
  case atStart => exact ⟨0, Nat.zero_le _, rfl, Own.nil _ _ _ _ _, Below.refl _ _⟩
  case round =>
    obtain ⟨r, hr, rfl, hown, hb⟩ := hrel
    have Hown := hide hown
    have HB := hide hb
    clear hown hb
    by_cases hlt : r < 17
    · have hd : decide ((r : Int) < 17) = true := by simp; omega
      have Hst := hide (lens_step r (by omega))
      have Hn : Hid (min (16 * r) 257 + (if r < 16 then 16 else 1) = min (16 * (r + 1)) 257) := by
        show _ = _
        split <;> omega
      have hle : min (16 * r) 257 ≤ 257 := by omega
      have hl2 : (if r < 16 then 16 else 1) ≤ 16 := by split <;> omega
      generalize min (16 * r) 257 = n at *
      go_wp2_with fail
      refine (row_any r _ _ rfl (by omega)).mono ?_
      generalize (if r < 16 then 16 else 1) = m at *
      rintro e w1 ⟨v1, rfl, ho1, hb1⟩
      obtain ⟨A1, c1, rfl, hr1, _⟩ := ho1.rd
      have Hr1 := hide hr1
      have Ho1 := hide (Hown.out.below hb1)
      have HB1 := hide (HB.out.of hb1)
      have hs1 := HB1.out.size
      clear ho1 hr1 hb1
      go_wp2_with (at_builtin; refine wp_app rfl (.tmp 7) (.tmp 9) _ rfl i0 0 8 Try.underlying52 hi hz0 hz1 hz2 w.heap.size _ n _ rfl Ho1.out _ _ _ _ rfl Hr1.out (by simp only [maxLen]; omega) (by omega) hs1 ?_; intro v2 w2 hown2 hg2)
      have HB2 := hide (HB1.out.grown hg2 hs1 (fun j e => (World.ownsRow.lt Ho1.out j e).1))
      have Ho2 := hide (hown2.congr Hst.out)
      clear hown2 hg2
      go_roundw
      case rel => exact ⟨r + 1, by omega, by go_num, by rw [← Hn.out]; exact Ho2.out, HB2.out⟩
      case measure => simp [intOf]; omega
    · obtain rfl : r = 17 := by omega
      go_wp2_with fail
      go_ret
      exact ⟨_, rfl, Hown.out, HB.out⟩

/-! ### the order -/
theorem bg_mono : ∀ j, j < 31 → bg j ≤ bg (j + 1) := fun j hj => by rw [bg_succ j hj]; omega
theorem bg_31 : bg 31 = 257 := by decide +kernel
theorem bg_1 : bg 1 = 0 := by decide +kernel
theorem bg_cnt (n s : Nat) (hn : n < 31) (hs : s ≤ 257) : bg n + cnt n s ≤ 257 + 257 := by
  have := bg_bd n (by omega)
  have := cnt_le n s hs
  omega
set_option maxHeartbeats 3200000 in
theorem rorder_any (w : World) : Calls Try.prog 43 #[] w (Ints w 257 (fun i => (ord i : Int))) := by
  obtain ⟨i0, hi, hz0, hz1, hz2⟩ := info_parts int_info
  go_enter Try.func43, Try.ntmps43
  go_wp2_with fail
  refine (lens_any _).mono ?_
  rintro e w1 ⟨v1, rfl, ho1, hb1⟩
  obtain ⟨A1, c1, rfl, hr1, _⟩ := ho1.rd
  obtain ⟨lb, lo, rfl, _⟩ := hr1.at_ (i := 0) (by omega)
  have Hr1 := hide hr1
  have HB1 := hide hb1
  have hs1 := hb1.size
  clear ho1 hr1 hb1
  go_wp2_with fail
  go_loopw [2, 3] (fun out i wr => ∃ n : Nat, 1 ≤ n ∧ n ≤ 31 ∧ i = .int .i64 n ∧ Own .i64 3 w1.heap.size wr out (bg n) (fun i => (ord i : Int)) ∧ Below w1.heap.size w1 wr) (fun _ i _ => 31 - (intOf i).toNat)
  case atStart => exact ⟨1, Nat.le_refl _, by omega, rfl, by rw [bg_1]; exact Own.nil _ _ _ _ _, Below.refl _ _⟩
  case round =>
    obtain ⟨n, hn1, hn, rfl, hown, hb⟩ := hrel
    have Hown := hide hown
    have HB := hide hb
    clear hown hb
    by_cases hlt : n < 31
    · have hd : decide ((n : Int) ≤ 30) = true := by simp; omega
      go_wp2_with fail
      go_loopw [2, 4] (fun out i wr => ∃ s : Nat, s ≤ 257 ∧ i = .int .i64 s ∧ Own .i64 3 w1.heap.size wr out (bg n + cnt n s) (fun i => (ord i : Int)) ∧ Below w1.heap.size w1 wr) (fun _ i _ => 257 - (intOf i).toNat)
      case atStart => exact ⟨0, Nat.zero_le _, rfl, by rw [cnt_zero]; exact Hown.out, HB.out⟩
      case round =>
        obtain ⟨s, hs, rfl, hown, hb⟩ := hrel
        clear Hown HB
        have Hown := hide hown
        have HB := hide hb
        clear hown hb
        by_cases hls : s < 257
        · have hd2 : decide ((s : Int) ≤ 256) = true := by simp; omega
          obtain ⟨b', o', e1, hc⟩ := (Hr1.out.below HB.out).at_ (i := s) hls
          obtain ⟨rfl, rfl⟩ : lb = b' ∧ lo = o' := by simpa using e1
          have hs0 : (0 : Int) ≤ (s : Int) := by omega
          have hs2 : (s : Int) < 257 := by omega
          clear e1
          by_cases heq : len s = n
          · have dt : ((len s : Int) == (n : Int)) = true := by simp; omega
            have dt' : (len s == n) = true := by simpa using heq
            have Hpl : Hid (bg n + cnt n s = rnk s) := by
              show _ = _
              rw [← heq]
              exact place_of s hls
            have Hcn : Hid (bg n + cnt n s + 1 = bg n + cnt n (s + 1)) := by
              show _ = _
              rw [cnt_succ n s hls, if_pos heq]
              omega
            have hrs := rnk_bd s hls
            clear heq
            generalize bg n + cnt n s = m at *
            generalize len s = ls at *
            have hml : m ≤ 257 := by have := Hpl.out; omega
            have Hos : Hid (ord m = s) := by
              show _ = _
              rw [Hpl.out]
              exact hrs.2
            have hsz := HB.out.size
            clear hrs
            go_wp2_with (at_builtin; refine wp_app rfl (.tmp 20) (.tmp 22) _ rfl i0 0 8 Try.underlying52 hi hz0 hz1 hz2 w1.heap.size _ m _ rfl (Hown.out.alloc _) _ 1 1 _ rfl (Rd.one .i64 3 _ _) (by simp only [maxLen]; omega) (by omega) (by simp; omega) ?_; intro v2 w2 hown2 hg2)
            have HB2 := hide ((HB.out.alloc hsz _).grown hg2 (by simp; omega) (fun j e => (World.ownsRow.lt Hown.out j e).1))
            have Ho2 : Hid (Own .i64 3 w1.heap.size w2 v2 (m + 1) (fun i => (ord i : Int))) := hown2.congr (fun i hi' => by
              unfold catF
              by_cases h : i < m
              · rw [if_pos h]
              · obtain rfl : i = m := by omega
                rw [if_neg h, Hos.out]
                rfl)
            clear hown2 hg2
            go_roundw
            case rel => exact ⟨s + 1, by omega, by go_num, by rw [← Hcn.out]; exact Ho2.out, HB2.out⟩
            case measure => simp [intOf]; omega
          · have dt : ((len s : Int) == (n : Int)) = false := by simp; omega
            have dt' : (len s == n) = false := by simpa using heq
            have Hcn : Hid (bg n + cnt n s = bg n + cnt n (s + 1)) := by
              show _ = _
              rw [cnt_succ n s hls, if_neg heq]
              omega
            clear heq
            go_wp2_with fail
            go_roundw
            case rel => exact ⟨s + 1, by omega, by go_num, by rw [← Hcn.out]; exact Hown.out, HB.out⟩
            case measure => simp [intOf]; omega
        · obtain rfl : s = 257 := by omega
          have Hbn := hide (bg_succ n hlt)
          go_wp2_with fail
          go_roundw
          case rel => exact ⟨n + 1, by omega, by omega, by go_num, by rw [Hbn.out]; exact Hown.out, HB.out⟩
          case measure => simp [intOf]; omega
    · obtain rfl : n = 31 := by omega
      go_wp2_with fail
      go_ret
      exact ⟨_, rfl, by have h := Hown.out; rw [bg_31] at h; exact h.baseB hs1, HB1.out.of HB.out⟩
end Go.Proofs.Yteijpklepgenbaa
