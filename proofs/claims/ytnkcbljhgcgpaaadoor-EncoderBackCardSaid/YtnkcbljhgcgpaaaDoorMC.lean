/- Cb6, Cb7, Cb8, Cb9, CbA, CbB in one text. -/
import Derived.Test.YtnkcbljhgcgpaaaDoorMB
namespace Go.Proofs.YtnkcbljhgcgpaaaDoor
set_option linter.unusedVariables false
set_option linter.unusedSimpArgs false
section
open Go.RowKit

def zeroC : Nat → Value := fun i => if i = 514 then .slice none 0 0 else .int .i64 0
theorem zero_cells : (List.replicate 514 (.int .i64 0) ++ [.slice none 0 0] ++ List.replicate 32 (.int .i64 0) : List Value) = rowV 547 zeroC := by kernel_rfl
/-- A book that nobody made. -/
def Zero (W : World) (B : Nat) : Prop := Blk W B 165 547 zeroC
theorem Zero.int {W : World} {B : Nat} (h : Zero W B) (j : Nat) (hj : j < 547) (hne : j ≠ 514) : W.cell? ⟨B, j, none⟩ = some (.int .i64 0) := by
  rw [Blk.cell h hj]
  simp [zeroC, hne]
theorem Zero.sl {W : World} {B : Nat} (h : Zero W B) : W.cell? ⟨B, 514, none⟩ = some (.slice none 0 0) := by
  rw [Blk.cell h (j := 514) (by omega)]
  rfl
theorem code_zero (B : Nat) (s : Int) (w : World) (h : Zero w B) : Calls Tryd.prog 113 #[.pointer (some ⟨B, 0, none⟩), .int .i64 s] w (Coded w 0 0) := by
  by_cases hs : 0 ≤ s ∧ s < 257
  · obtain ⟨S, rfl⟩ := Int.eq_ofNat_of_zero_le hs.1
    have hS : S < 257 := by omega
    exact code_at B S hS 0 0 w (Blk.lt h) (h.int (257 + S) (by omega) (by omega)) (h.int S (by omega) (by omega))
  · exact code_out B s w hs
def NotFound (w : World) (e : Ending) (w' : World) : Prop := e = .returned (.tuple #[.int .i64 0, .bool false]) ∧ Drawn w w'
theorem find_none (c n : Int) (w : World) : Calls Tryd.prog 109 #[.pointer none, .int .i64 c, .int .i64 n] w (NotFound w) := by
  go_enter Tryd.func109, Tryd.ntmps109
  go_wp2_with fail
  go_ret2
  exact ⟨rfl, Drawn.refl _⟩
theorem find_out (B : Nat) (c n : Int) (w : World) (h : n < 1 ∨ 30 < n) : Calls Tryd.prog 109 #[.pointer (some ⟨B, 0, none⟩), .int .i64 c, .int .i64 n] w (NotFound w) := by
  by_cases h0 : n < 1
  · have d0 : decide (n < 1) = true := by simpa using h0
    go_enter Tryd.func109, Tryd.ntmps109
    go_wp2_with fail
    go_ret2
    exact ⟨rfl, Drawn.refl _⟩
  · have d0 : decide (n < 1) = false := by simpa using h0
    have d1 : decide (30 < n) = true := by simp; omega
    go_enter Tryd.func109, Tryd.ntmps109
    go_wp2_with fail
    go_ret2
    exact ⟨rfl, Drawn.refl _⟩
theorem cints_elem : Tryd.prog.elem 30 = 3 := by kernel_rfl
theorem int_size : (Tryd.prog.info? 3).map (·.size) = some 1 := by kernel_rfl
theorem cints_cut (A : Option Addr) (n c lo hi : Nat) (h1 : lo ≤ hi) (hc : hi ≤ c) (W : World) :
    (Instr.slice 30 (.slice A n c) (some (.int .i64 (lo : Int))) (some (.int .i64 (hi : Int))) none).run Tryd.prog W = .ok (.slice (cutA A c lo) (hi - lo) (c - lo)) W :=
  cut_lh 30 3 Tryd.underlying30 cints_elem int_size A n c lo hi h1 hc .i64 .i64 W
theorem find_zero (B L : Nat) (c : Int) (w : World) (h : Zero w B) (h1 : 1 ≤ L) (h2 : L ≤ 30) : Calls Tryd.prog 109 #[.pointer (some ⟨B, 0, none⟩), .int .i64 c, .int .i64 (L : Int)] w (NotFound w) := by
  have d0 : decide ((L : Int) < 1) = false := by simp; omega
  have d1 : decide (30 < (L : Int)) = false := by simp; omega
  have c1 := h.sl
  have c2 := h.int (515 + L) (by omega) (by omega)
  have c3 := h.int (515 + (L + 1)) (by omega) (by omega)
  have hB := Blk.lt h
  have l0 : (0 : Int) ≤ (L : Int) := by omega
  have l1 : (L : Int) < 32 := by omega
  have l2 : (0 : Int) ≤ (L : Int) + 1 := by omega
  have l3 : (L : Int) + 1 < 32 := by omega
  have l4 : ((L : Int) + 1).toNat = L + 1 := by omega
  have hw : IntKind.i64.wrap ((L : Int) + 1) = (L : Int) + 1 := IntWalk.i64_in _ (by omega)
  have hcut : ∀ W, (Instr.slice 30 (.slice none 0 0) (some (.int .i64 0)) (some (.int .i64 0)) none).run Tryd.prog W = .ok (.slice none 0 0) W := fun W => cints_cut none 0 0 0 0 (Nat.le_refl _) (Nat.le_refl _) W
  clear h
  go_enter Tryd.func109, Tryd.ntmps109
  go_wp2_with fail
  go_quiet (fail)
  go_wp2_with fail
  go_ret2
  exact ⟨rfl, Drawn.of _ _⟩
theorem find_zeroI (B : Nat) (c n : Int) (w : World) (h : Zero w B) : Calls Tryd.prog 109 #[.pointer (some ⟨B, 0, none⟩), .int .i64 c, .int .i64 n] w (NotFound w) := by
  by_cases hn : n < 1 ∨ 30 < n
  · exact find_out B c n w hn
  · obtain ⟨L, rfl⟩ := Int.eq_ofNat_of_zero_le (show 0 ≤ n by omega)
    exact find_zero B L c w h (by omega) (by omega)
theorem int_info : (Tryd.prog.info? 3).map (fun i => (i.zero, i.size, i.bytes)) = some (some (.int .i64 0), 1, 8) := by kernel_rfl
end

section
open Go.RowKit

/-- A call that hands back integers of its own. -/
def Ints (w : World) (n : Nat) (f : Nat → Int) (e : Ending) (w' : World) : Prop := ∃ v, e = .returned v ∧ Own .i64 3 w.heap.size w' v n f ∧ Below w.heap.size w w'
set_option maxRecDepth 100000 in
set_option maxHeartbeats 3200000 in
theorem row_any (r : Nat) (z : Int) (w : World) (hz : z = (r : Int)) (hr : r ≤ 16) : Calls Tryd.prog 111 #[.int .i64 z] w (Ints w (if r < 16 then 16 else 1) (fun i => (len (16 * r + i) : Int))) := by
  subst hz
  have : r = 0 ∨ r = 1 ∨ r = 2 ∨ r = 3 ∨ r = 4 ∨ r = 5 ∨ r = 6 ∨ r = 7 ∨ r = 8 ∨ r = 9 ∨ r = 10 ∨ r = 11 ∨ r = 12 ∨ r = 13 ∨ r = 14 ∨ r = 15 ∨ r = 16 := by omega
  rcases this with rfl | rfl | rfl | rfl | rfl | rfl | rfl | rfl | rfl | rfl | rfl | rfl | rfl | rfl | rfl | rfl | rfl
  all_goals
    clear hr
    go_enter Tryd.func111, Tryd.ntmps111
    go_wp2_with fail
    go_ret
    refine ⟨_, rfl, ?_, (Below.refl _ _).alloc (Nat.le_refl _) _⟩
    refine Own.lit .i64 3 w.heap.size w _ _ _ (Nat.le_refl _) (by simp [maxLen]) ?_
    kernel_rfl

theorem lens_step (r : Nat) (hr : r ≤ 16) : ∀ i, i < min (16 * r) 257 + (if r < 16 then 16 else 1) → catF (min (16 * r) 257) (fun i => (len i : Int)) (fun i => (len (16 * r + i) : Int)) i = (len i : Int) := by
  intro i hi
  have e : min (16 * r) 257 = 16 * r := by omega
  rw [e]
  unfold catF
  by_cases h : i < 16 * r
  · rw [if_pos h]
  · rw [if_neg h]
    show (len (16 * r + (i - 16 * r)) : Int) = _
    rw [show 16 * r + (i - 16 * r) = i by omega]
set_option maxHeartbeats 1600000 in
theorem lens_any (w : World) : Calls Tryd.prog 97 #[] w (Ints w 257 (fun i => (len i : Int))) := by
  obtain ⟨i0, hi, hz0, hz1, hz2⟩ := info_parts int_info
  go_enter Tryd.func97, Tryd.ntmps97
  go_wp2_with fail
  go_loopw [1, 2] (fun out i wr => ∃ r : Nat, r ≤ 17 ∧ i = .int .i64 r ∧ Own .i64 3 w.heap.size wr out (min (16 * r) 257) (fun i => (len i : Int)) ∧ Below w.heap.size w wr) (fun _ i _ => 17 - (intOf i).toNat)
  case atStart => exact ⟨0, Nat.zero_le _, rfl, Own.nil _ _ _ _ _, Below.refl _ _⟩
  case round =>
    obtain ⟨r, hr, rfl, hown, hb⟩ := hrel
    have Hown := hide hown
    have HB := hide hb
    clear hown hb
    by_cases hlt : r < 17
    · have hd : decide ((r : Int) < 17) = true := by simp; omega
      have Hst := hide (lens_step r (by omega))
      have Hn : Hid (min (16 * r) 257 + (if r < 16 then 16 else 1) = min (16 * (r + 1)) 257) := by
        show _ = _
        split <;> omega
      have hle : min (16 * r) 257 ≤ 257 := by omega
      have hl2 : (if r < 16 then 16 else 1) ≤ 16 := by split <;> omega
      generalize min (16 * r) 257 = n at *
      go_wp2_with fail
      refine (row_any r _ _ rfl (by omega)).mono ?_
      generalize (if r < 16 then 16 else 1) = m at *
      rintro e w1 ⟨v1, rfl, ho1, hb1⟩
      obtain ⟨A1, c1, rfl, hr1, _⟩ := ho1.rd
      have Hr1 := hide hr1
      have Ho1 := hide (Hown.out.below hb1)
      have HB1 := hide (HB.out.of hb1)
      have hs1 := HB1.out.size
      clear ho1 hr1 hb1
      go_wp2_with (at_builtin; refine wp_app rfl (.tmp 7) (.tmp 9) _ rfl i0 0 8 Tryd.underlying30 hi hz0 hz1 hz2 w.heap.size _ n _ rfl Ho1.out _ _ _ _ rfl Hr1.out (by simp only [maxLen]; omega) (by omega) hs1 ?_; intro v2 w2 hown2 hg2)
      have HB2 := hide (HB1.out.grown hg2 hs1 (fun j e => (World.ownsRow.lt Ho1.out j e).1))
      have Ho2 := hide (hown2.congr Hst.out)
      clear hown2 hg2
      go_roundw
      case rel => exact ⟨r + 1, by omega, by go_num, by rw [← Hn.out]; exact Ho2.out, HB2.out⟩
      case measure => simp [intOf]; omega
    · obtain rfl : r = 17 := by omega
      go_wp2_with fail
      go_ret
      exact ⟨_, rfl, Hown.out, HB.out⟩

/-! ### the order -/
theorem bg_mono : ∀ j, j < 31 → bg j ≤ bg (j + 1) := fun j hj => by rw [bg_succ j hj]; omega
theorem bg_31 : bg 31 = 257 := by decide +kernel
theorem bg_1 : bg 1 = 0 := by decide +kernel
theorem bg_cnt (n s : Nat) (hn : n < 31) (hs : s ≤ 257) : bg n + cnt n s ≤ 257 + 257 := by
  have := bg_bd n (by omega)
  have := cnt_le n s hs
  omega
set_option maxHeartbeats 3200000 in
theorem rorder_any (w : World) : Calls Tryd.prog 110 #[] w (Ints w 257 (fun i => (ord i : Int))) := by
  obtain ⟨i0, hi, hz0, hz1, hz2⟩ := info_parts int_info
  go_enter Tryd.func110, Tryd.ntmps110
  go_wp2_with fail
  refine (lens_any _).mono ?_
  rintro e w1 ⟨v1, rfl, ho1, hb1⟩
  obtain ⟨A1, c1, rfl, hr1, _⟩ := ho1.rd
  obtain ⟨lb, lo, rfl, _⟩ := hr1.at_ (i := 0) (by omega)
  have Hr1 := hide hr1
  have HB1 := hide hb1
  have hs1 := hb1.size
  clear ho1 hr1 hb1
  go_wp2_with fail
  go_loopw [2, 3] (fun out i wr => ∃ n : Nat, 1 ≤ n ∧ n ≤ 31 ∧ i = .int .i64 n ∧ Own .i64 3 w1.heap.size wr out (bg n) (fun i => (ord i : Int)) ∧ Below w1.heap.size w1 wr) (fun _ i _ => 31 - (intOf i).toNat)
  case atStart => exact ⟨1, Nat.le_refl _, by omega, rfl, by rw [bg_1]; exact Own.nil _ _ _ _ _, Below.refl _ _⟩
  case round =>
    obtain ⟨n, hn1, hn, rfl, hown, hb⟩ := hrel
    have Hown := hide hown
    have HB := hide hb
    clear hown hb
    by_cases hlt : n < 31
    · have hd : decide ((n : Int) ≤ 30) = true := by simp; omega
      go_wp2_with fail
      go_loopw [2, 4] (fun out i wr => ∃ s : Nat, s ≤ 257 ∧ i = .int .i64 s ∧ Own .i64 3 w1.heap.size wr out (bg n + cnt n s) (fun i => (ord i : Int)) ∧ Below w1.heap.size w1 wr) (fun _ i _ => 257 - (intOf i).toNat)
      case atStart => exact ⟨0, Nat.zero_le _, rfl, by rw [cnt_zero]; exact Hown.out, HB.out⟩
      case round =>
        obtain ⟨s, hs, rfl, hown, hb⟩ := hrel
        clear Hown HB
        have Hown := hide hown
        have HB := hide hb
        clear hown hb
        by_cases hls : s < 257
        · have hd2 : decide ((s : Int) ≤ 256) = true := by simp; omega
          obtain ⟨b', o', e1, hc⟩ := (Hr1.out.below HB.out).at_ (i := s) hls
          obtain ⟨rfl, rfl⟩ : lb = b' ∧ lo = o' := by simpa using e1
          have hs0 : (0 : Int) ≤ (s : Int) := by omega
          have hs2 : (s : Int) < 257 := by omega
          clear e1
          by_cases heq : len s = n
          · have dt : ((len s : Int) == (n : Int)) = true := by simp; omega
            have dt' : (len s == n) = true := by simpa using heq
            have Hpl : Hid (bg n + cnt n s = rnk s) := by
              show _ = _
              rw [← heq]
              exact place_of s hls
            have Hcn : Hid (bg n + cnt n s + 1 = bg n + cnt n (s + 1)) := by
              show _ = _
              rw [cnt_succ n s hls, if_pos heq]
              omega
            have hrs := rnk_bd s hls
            clear heq
            generalize bg n + cnt n s = m at *
            generalize len s = ls at *
            have hml : m ≤ 257 := by have := Hpl.out; omega
            have Hos : Hid (ord m = s) := by
              show _ = _
              rw [Hpl.out]
              exact hrs.2
            have hsz := HB.out.size
            clear hrs
            go_wp2_with (at_builtin; refine wp_app rfl (.tmp 20) (.tmp 22) _ rfl i0 0 8 Tryd.underlying30 hi hz0 hz1 hz2 w1.heap.size _ m _ rfl (Hown.out.alloc _) _ 1 1 _ rfl (Rd.one .i64 3 _ _) (by simp only [maxLen]; omega) (by omega) (by simp; omega) ?_; intro v2 w2 hown2 hg2)
            have HB2 := hide ((HB.out.alloc hsz _).grown hg2 (by simp; omega) (fun j e => (World.ownsRow.lt Hown.out j e).1))
            have Ho2 : Hid (Own .i64 3 w1.heap.size w2 v2 (m + 1) (fun i => (ord i : Int))) := hown2.congr (fun i hi' => by
              unfold catF
              by_cases h : i < m
              · rw [if_pos h]
              · obtain rfl : i = m := by omega
                rw [if_neg h, Hos.out]
                rfl)
            clear hown2 hg2
            go_roundw
            case rel => exact ⟨s + 1, by omega, by go_num, by rw [← Hcn.out]; exact Ho2.out, HB2.out⟩
            case measure => simp [intOf]; omega
          · have dt : ((len s : Int) == (n : Int)) = false := by simp; omega
            have dt' : (len s == n) = false := by simpa using heq
            have Hcn : Hid (bg n + cnt n s = bg n + cnt n (s + 1)) := by
              show _ = _
              rw [cnt_succ n s hls, if_neg heq]
              omega
            clear heq
            go_wp2_with fail
            go_roundw
            case rel => exact ⟨s + 1, by omega, by go_num, by rw [← Hcn.out]; exact Hown.out, HB.out⟩
            case measure => simp [intOf]; omega
        · obtain rfl : s = 257 := by omega
          have Hbn := hide (bg_succ n hlt)
          go_wp2_with fail
          go_roundw
          case rel => exact ⟨n + 1, by omega, by omega, by go_num, by rw [Hbn.out]; exact Hown.out, HB.out⟩
          case measure => simp [intOf]; omega
    · obtain rfl : n = 31 := by omega
      go_wp2_with fail
      go_ret
      exact ⟨_, rfl, by have h := Hown.out; rw [bg_31] at h; exact h.baseB hs1, HB1.out.of HB.out⟩
end

section
open Go.RowKit

/-! ### the codes -/
theorem len_ord_bd (i : Nat) (hi : i < 257) : 5 ≤ len (ord i) ∧ len (ord i) ≤ 30 := len_bd _ (ord_bd i hi).1
set_option maxRecDepth 100000 in
set_option maxHeartbeats 6400000 in
theorem codes_any (w : World) : Calls Tryd.prog 96 #[] w (Ints w 257 (fun s => (cd (rnk s) : Int))) := by
  obtain ⟨i0, hi, hz0, hz1, hz2⟩ := info_parts int_info
  go_enter Tryd.func96, Tryd.ntmps96
  go_wp2_with fail
  refine (lens_any _).mono ?_
  rintro e w1 ⟨v1, rfl, ho1, hb1⟩
  obtain ⟨A1, c1, rfl, hr1, _⟩ := ho1.rd
  obtain ⟨lb, lo, rfl, _⟩ := hr1.at_ (i := 0) (by omega)
  have Hr1 := hide hr1
  have HB1 := hide hb1
  clear ho1 hr1 hb1
  go_wp2_with fail
  refine (rorder_any _).mono ?_
  rintro e w2 ⟨v2, rfl, ho2, hb2⟩
  obtain ⟨A2, c2, rfl, hr2, _⟩ := ho2.rd
  obtain ⟨ob, oo, rfl, _⟩ := hr2.at_ (i := 0) (by omega)
  have Hr2 := hide hr2
  have Hr1' := hide (Hr1.out.below hb2)
  have HB2 := hide (HB1.out.of hb2)
  have hs2 := HB2.out.size
  clear ho2 hr2 hb2 Hr1 HB1
  go_wp2_with (at_make; refine wp_mk rfl _ _ _ rfl i0 0 8 Tryd.underlying30 hi hz0 hz1 hz2 w2.heap.size _ _ _ _ 257 rfl rfl rfl rfl (by omega) (by simp [maxLen]) (Nat.le_refl _) ?_; intro w3 hown3 hg3 _)
  have hb3 : Below w2.heap.size w2 w3 := (Below.refl _ _).grown hg3 (Nat.le_refl _) (fun _ e => by cases e)
  have Hown3 := hide hown3
  have HB3 := hide hb3
  clear hown3 hg3 hb3
  go_loopw [4, 5] (fun c i wr => ∃ (k : Nat) (z : Nat), k ≤ 257 ∧ i = .int .i64 k ∧ c = .int .i64 z ∧ (0 < k → z = cd (k - 1)) ∧ (k = 0 → z = 0) ∧ Own .i64 3 w2.heap.size wr (.slice (some ⟨w2.heap.size, 0, none⟩) 257 257) 257 (b4 k) ∧ Below w2.heap.size w2 wr) (fun _ i _ => 257 - (intOf i).toNat)
  case atStart => exact ⟨0, 0, Nat.zero_le _, rfl, rfl, fun h => absurd h (by omega), fun _ => rfl, Hown3.out.congr (fun i _ => by simp [b4, oneF]), HB3.out⟩
  case round =>
    obtain ⟨k, z, hk, rfl, rfl, hz1', hz2', hown, hb⟩ := hrel
    have Hown := hide hown
    have HB := hide hb
    clear hown hb Hown3 HB3
    by_cases hlt : k < 257
    · have hd : decide ((k : Int) < 257) = true := by simp; omega
      have hd' : decide (k < 257) = true := by simpa using hlt
      have hRo := Hr2.out.below HB.out
      have hRl := Hr1'.out.below HB.out
      obtain ⟨b', o', e1, hoc⟩ := hRo.at_ (i := k) hlt
      obtain ⟨rfl, rfl⟩ : ob = b' ∧ oo = o' := by simpa using e1
      have hob := ord_bd k hlt
      obtain ⟨S, hS⟩ : ∃ S, ord k = S := ⟨_, rfl⟩
      have hcd := cd_of k hlt
      have hLb := len_ord_bd k hlt
      rw [hS] at hob hcd hoc hLb
      obtain ⟨b', o', e2, hlc⟩ := hRl.at_ (i := S) hob.1
      obtain ⟨rfl, rfl⟩ : lb = b' ∧ lo = o' := by simpa using e2
      have hk0 : (0 : Int) ≤ (k : Int) := by omega
      have hk1 : (k : Int) < 257 := by omega
      have hS0 : (0 : Int) ≤ (S : Int) := by omega
      have hS1 : (S : Int) < 257 := by omega
      have hcell := Hown.out.cell hob.1
      have hfz := Hown.out.frozen S
      have HO' : Hid (Own .i64 3 w2.heap.size (wr.setCell ⟨w2.heap.size, S, none⟩ (.int .i64 (cd k : Int))) (.slice (some ⟨w2.heap.size, 0, none⟩) 257 257) 257 (b4 (k + 1))) :=
        (Hown.out.set S (cd k : Int)).congr (b4_succ k hlt S hS)
      have HB' : Hid (Below w2.heap.size w2 (wr.setCell ⟨w2.heap.size, S, none⟩ (.int .i64 (cd k : Int)))) := HB.out.setCell (Nat.le_refl _) _
      obtain ⟨L, hL⟩ : ∃ L, len S = L := ⟨_, rfl⟩
      rw [hL] at hcd hlc hLb
      clear e1 e2 hRo hRl
      by_cases hk00 : k = 0
      · have hz0' := hz2' hk00
        have hcz : cd k = 0 := by rw [hk00]; decide +kernel
        rw [hcz] at HO' HB'
        subst hz0'
        subst hk00
        have HcD := hide hcz
        rw [Nat.add_zero] at hoc
        clear hz1' hz2' hcd hcz hS hL
        go_wp2_with fail
        go_roundw
        case rel => exact ⟨1, 0, by omega, rfl, rfl, fun _ => by have := HcD.out; simpa using this.symm, fun h => absurd h (by omega), HO'.out, HB'.out⟩
        case measure => simp [intOf]
      · have hpos : decide ((0 : Int) < (k : Int)) = true := by simp; omega
        have hpos' : decide (0 < k) = true := by simp; omega
        obtain ⟨j, rfl⟩ : ∃ j, k = j + 1 := ⟨k - 1, by omega⟩
        have hzj := hz1' (by omega)
        rw [Nat.add_sub_cancel] at hzj
        obtain ⟨b', o', e1, hoj⟩ := (Hr2.out.below HB.out).at_ (i := j) (by omega)
        obtain ⟨rfl, rfl⟩ : ob = b' ∧ oo = o' := by simpa using e1
        have hbj := ord_bd j (by omega)
        have hLj := len_ord_bd j (by omega)
        obtain ⟨T, hT⟩ : ∃ T, ord j = T := ⟨_, rfl⟩
        rw [hT] at hbj hoj hLj
        obtain ⟨b', o', e2, hlj⟩ := (Hr1'.out.below HB.out).at_ (i := T) hbj.1
        obtain ⟨rfl, rfl⟩ : lb = b' ∧ lo = o' := by simpa using e2
        have hah : ah (j + 1) = len T := by unfold ah; rw [if_neg (by omega), Nat.add_sub_cancel, hT]
        have hpc : pc (j + 1) = z + 1 := by unfold pc; rw [if_neg (by omega), Nat.add_sub_cancel, hzj]
        rw [hah, hpc] at hcd
        obtain ⟨a, ha⟩ : ∃ a, len T = a := ⟨_, rfl⟩
        rw [ha] at hcd hlj hLj
        obtain ⟨hal, hpm, hcl⟩ := hcd
        have hT0 : (0 : Int) ≤ (T : Int) := by omega
        have hT1 : (T : Int) < 257 := by omega
        have hz30 : z + 1 ≤ 1073741824 := by
          have h1 : 1 ≤ 2 ^ (L - a) := Nat.one_le_two_pow
          have h2 : z + 1 ≤ (z + 1) * 2 ^ (L - a) := Nat.le_mul_of_pos_right _ h1
          omega
        have hj1 : ((j + 1 : Nat) : Int) - 1 = (j : Int) := by omega
        have hj0 : (0 : Int) ≤ (j : Int) := by omega
        have hj2 : (j : Int) < 257 := by omega
        have HPM := hide hpm
        clear hz1' hz2' hzj hS hL hah hpc hT ha e1 e2 hpm hk00
        go_wp2_with fail
        go_loop [4, 6] (fun c n => ∃ d y : Nat, a + d ≤ L ∧ n = .int .i64 ((a + d : Nat) : Int) ∧ c = .int .i64 (y : Int) ∧ y = (z + 1) * 2 ^ d) (fun _ n => L - (intOf n).toNat)
        case atStart => exact ⟨0, z + 1, by omega, by simp, by simp, by simp⟩
        case round =>
          obtain ⟨d, y, hdL, rfl, rfl, hy⟩ := hrel
          have Hy := hide hy
          have hyb : y ≤ 1073741824 := by
            have h1 : 2 ^ d ≤ 2 ^ (L - a) := Nat.pow_le_pow_right (by omega) (by omega)
            have h2 : (z + 1) * 2 ^ d ≤ (z + 1) * 2 ^ (L - a) := Nat.mul_le_mul_left _ h1
            have := HPM.out
            omega
          clear hy
          by_cases hdl : a + d < L
          · have dt : decide (((a + d : Nat) : Int) < (L : Int)) = true := by simp; omega
            have dt' : decide (a + d < L) = true := by simpa using hdl
            have Hy2 : Hid (2 * y = (z + 1) * 2 ^ (d + 1)) := by
              show _ = _
              rw [Hy.out, Nat.pow_succ, Nat.mul_comm 2, Nat.mul_assoc]
            generalize hm : a + d = m at *
            have Hm := hide hm
            clear hm
            go_wp2_with fail
            go_round
            case rel => exact ⟨d + 1, 2 * y, by have := Hm.out; omega, by have := Hm.out; rw [show a + (d + 1) = m + 1 by omega]; simp, by simp, Hy2.out⟩
            case measure => simp [intOf]; omega
          · have dt : decide (((a + d : Nat) : Int) < (L : Int)) = false := by simp; omega
            have dt' : decide (a + d < L) = false := by simpa using hdl
            have Hye : Hid (y = cd (j + 1)) := by
              show _ = _
              rw [Hy.out, ← HPM.out, show d = L - a by omega]
            generalize hm : a + d = m at *
            clear hm
            have HO2 := hide HO'.out
            have HB2' := hide HB'.out
            rw [← Hye.out] at HO2 HB2'
            clear HO' HB'
            go_wp2_with fail
            go_roundw
            case rel => exact ⟨j + 1 + 1, y, by omega, by go_num, rfl, fun _ => by rw [Hye.out, Nat.add_sub_cancel], fun h => absurd h (by omega), HO2.out, HB2'.out⟩
            case measure => simp [intOf]; omega
    · obtain rfl : k = 257 := by omega
      have hd : decide ((257 : Int) < 257) = false := by decide
      go_wp2_with fail
      go_ret
      exact ⟨_, rfl, (Hown.out.congr (fun i hi' => by unfold b4; rw [if_pos (rnk_bd i hi').1])).baseB hs2, HB2.out.of HB.out⟩
end

section
open Go.RowKit

/-- What a search hands back. -/
def Found (c n : Int) (s : Int) (b : Bool) : Prop :=
  (b = true ∧ ∃ S : Nat, S < 257 ∧ s = S ∧ (cd (rnk S) : Int) = c ∧ (len S : Int) = n) ∨ (b = false ∧ s = 0 ∧ ∀ S : Nat, S < 257 → ¬ ((cd (rnk S) : Int) = c ∧ (len S : Int) = n))
theorem st_inj {i j : Nat} (hi : i < 257) (hj : j < 257) (h : st i = st j) : i = j := by
  rcases Nat.lt_trichotomy i j with h1 | h1 | h1
  · have := st_lt h1 hj
    have := wd_pos i
    omega
  · exact h1
  · have := st_lt h1 hi
    have := wd_pos j
    omega
theorem code_inj {S T : Nat} (hS : S < 257) (hT : T < 257) (h1 : cd (rnk S) = cd (rnk T)) (h2 : len S = len T) : S = T := by
  have a := rnk_bd S hS
  have b := rnk_bd T hT
  have h : st (rnk S) = st (rnk T) := by
    unfold st
    rw [a.2, b.2, h1, h2]
  have := st_inj a.1 b.1 h
  rw [← a.2, this, b.2]
theorem Found.same {c n s t : Int} {b d : Bool} (h : Found c n s b) (k : Found c n t d) : s = t ∧ b = d := by
  rcases h with ⟨rfl, S, hS, rfl, h1, h2⟩ | ⟨rfl, rfl, h1⟩
  · rcases k with ⟨rfl, T, hT, rfl, k1, k2⟩ | ⟨rfl, rfl, k1⟩
    · have := code_inj hS hT (by omega) (by omega)
      subst this
      exact ⟨rfl, rfl⟩
    · exact absurd ⟨h1, h2⟩ (k1 S hS)
  · rcases k with ⟨rfl, T, hT, rfl, k1, k2⟩ | ⟨rfl, rfl, k1⟩
    · exact absurd ⟨k1, k2⟩ (h1 T hT)
    · exact ⟨rfl, rfl⟩
def FoundE (c n : Int) (w : World) (e : Ending) (w' : World) : Prop := ∃ s b, e = .returned (.tuple #[.int .i64 s, .bool b]) ∧ Found c n s b ∧ Below w.heap.size w w'

/-! ### the reference's -/
end

section
open Go.RowKit

theorem grp : ∀ L, L < 31 → ∀ d, d < bg (L + 1) - bg L → len (ord (bg L + d)) = L ∧ cd (bg L + d) = cd (bg L) + d := fun L hL d hd => by
  have h := all_lt (p := fun L => (List.range (bg (L + 1) - bg L)).all fun d => decide (len (ord (bg L + d)) = L ∧ cd (bg L + d) = cd (bg L) + d)) (by decide +kernel) L hL
  have k := all_lt (p := fun d => decide (len (ord (bg L + d)) = L ∧ cd (bg L + d) = cd (bg L) + d)) h d hd
  simpa using k
theorem grp2 : ∀ i, i < 257 → bg (len (ord i)) ≤ i ∧ i < bg (len (ord i) + 1) := fun i hi => by
  have h := all_lt (p := fun i => decide (bg (len (ord i)) ≤ i ∧ i < bg (len (ord i) + 1))) (by decide +kernel) i hi
  simpa using h
/-- Of a symbol with a code of so many bits: its place, and its code. -/
theorem sym_at {S L : Nat} (hS : S < 257) (h : len S = L) (hL : L < 31) : bg L ≤ rnk S ∧ rnk S < bg (L + 1) ∧ cd (rnk S) = cd (bg L) + (rnk S - bg L) := by
  have hr := rnk_bd S hS
  have h2 := grp2 (rnk S) hr.1
  rw [hr.2, h] at h2
  have h3 := (grp L hL (rnk S - bg L) (by omega)).2
  rw [show bg L + (rnk S - bg L) = rnk S by omega] at h3
  exact ⟨h2.1, h2.2, h3⟩
theorem Book.sl {W : World} {B : Nat} (h : Book W B) : ∃ og, W.cell? ⟨B, 514, none⟩ = some (.slice (some ⟨og, 0, none⟩) 257 257) ∧ Rd .i64 W (some ⟨og, 0, none⟩) 257 257 (fun i => (ord i : Int)) := by
  obtain ⟨og, h1, h2⟩ := h
  refine ⟨og, ?_, h2⟩
  rw [h1.cell (j := 514) (by omega)]
  rfl
theorem Book.be {W : World} {B : Nat} (h : Book W B) (j : Nat) (hj : j < 32) : W.cell? ⟨B, 515 + j, none⟩ = some (.int .i64 (bg j : Int)) := by
  obtain ⟨og, h1, _⟩ := h
  rw [h1.cell (j := 515 + j) (by omega)]
  have e1 : ¬ 515 + j < 257 := by omega
  have e2 : ¬ 515 + j < 514 := by omega
  have e3 : ¬ 515 + j = 514 := by omega
  simp [bookC, e1, e2, e3]
def FoundD (c n : Int) (w : World) (e : Ending) (w' : World) : Prop := ∃ s b, e = .returned (.tuple #[.int .i64 s, .bool b]) ∧ Found c n s b ∧ Drawn w w'
theorem found_no {c n : Int} (h : ∀ S : Nat, S < 257 → ¬ ((cd (rnk S) : Int) = c ∧ (len S : Int) = n)) : Found c n 0 false := .inr ⟨rfl, rfl, h⟩

set_option maxRecDepth 100000 in
set_option maxHeartbeats 3200000 in
theorem find_any (B L : Nat) (c : Int) (w : World) (h : Book w B) (h1 : 1 ≤ L) (h2 : L ≤ 30) (hc0 : -9223372036854775808 ≤ c) (hc1 : c ≤ 9223372036854775807) :
    Calls Tryd.prog 109 #[.pointer (some ⟨B, 0, none⟩), .int .i64 c, .int .i64 (L : Int)] w (FoundD c (L : Int) w) := by
  have d0 : decide ((L : Int) < 1) = false := by simp; omega
  have d1 : decide (30 < (L : Int)) = false := by simp; omega
  obtain ⟨og, k1, hrd⟩ := h.sl
  have k2 := h.be L (by omega)
  have k3 := h.be (L + 1) (by omega)
  have hB := h.lt
  have l0 : (0 : Int) ≤ (L : Int) := by omega
  have l1 : (L : Int) < 32 := by omega
  have l2 : (0 : Int) ≤ (L : Int) + 1 := by omega
  have l3 : (L : Int) + 1 < 32 := by omega
  have l4 : ((L : Int) + 1).toNat = L + 1 := by omega
  have hw : IntKind.i64.wrap ((L : Int) + 1) = (L : Int) + 1 := IntWalk.i64_in _ (by omega)
  have hmo := bg_mono L (by omega)
  have hhi := bg_bd (L + 1) (by omega)
  have Hg := hide (grp L (by omega))
  have Hsym : Hid (∀ S : Nat, S < 257 → len S = L → bg L ≤ rnk S ∧ rnk S < bg (L + 1) ∧ cd (rnk S) = cd (bg L) + (rnk S - bg L)) := fun S hS e => sym_at hS e (by omega)
  have HBk := hide h
  obtain ⟨lo, hlo⟩ : ∃ lo, bg L = lo := ⟨_, rfl⟩
  obtain ⟨hi, hhi'⟩ : ∃ hi, bg (L + 1) = hi := ⟨_, rfl⟩
  rw [hlo] at k2 hmo Hg Hsym
  rw [hhi'] at k3 hmo hhi Hg Hsym
  have hcut := cints_cut (some ⟨og, 0, none⟩) 257 257 lo hi hmo hhi
  have Hrl := hide (hrd.cutR (lo := lo) (hi := hi) hmo hhi)
  generalize cutA (some ⟨og, 0, none⟩) 257 lo = A5 at *
  clear h hrd hlo hhi'
  by_cases hq : hi = lo
  · have hq0 : hi - lo = 0 := by omega
    rw [hq0] at hcut
    have HF : Hid (Found c (L : Int) 0 false) := found_no fun S hS hh => by
      have := Hsym.out S hS (by omega)
      omega
    clear hq hq0
    go_enter Tryd.func109, Tryd.ntmps109
    go_wp2_with fail
    go_quiet (fail)
    clear hw
    go_wp2_with fail
    go_ret2
    exact ⟨_, _, rfl, HF.out, Drawn.of _ _⟩
  have hqp : 0 < hi - lo := by omega
  obtain ⟨b5, o5, rfl, hs0⟩ := Hrl.out.at_ (i := 0) hqp
  obtain ⟨S0, hS0⟩ : ∃ S0, ord lo = S0 := ⟨_, rfl⟩
  rw [Nat.add_zero, Nat.add_zero, hS0] at hs0
  have hob := ord_bd lo (by omega)
  rw [hS0] at hob
  have k4 := HBk.out.co S0 hob.1
  rw [hob.2] at k4
  have hcb := (cd_of lo (by omega)).2.2
  obtain ⟨x, hx⟩ : ∃ x, cd lo = x := ⟨_, rfl⟩
  rw [hx] at k4 hcb Hsym Hg
  have s0 : (0 : Int) ≤ (S0 : Int) := by omega
  have s1 : (S0 : Int) < 257 := by omega
  obtain ⟨q, hqq⟩ : ∃ q, hi - lo = q := ⟨_, rfl⟩
  rw [hqq] at hcut hqp
  have dq : ((q : Int) == 0) = false := by simp; omega
  have dq' : (q == 0) = false := by simp; omega
  have q0 : (0 : Int) < (q : Int) := by omega
  have Hqq := hide hqq
  clear hS0 hx hqq hq
  by_cases hlt : c < (x : Int)
  · have dc : decide (c < (x : Int)) = true := by simpa using hlt
    have HF : Hid (Found c (L : Int) 0 false) := found_no fun S hS hh => by
      have := Hsym.out S hS (by omega)
      omega
    clear hlt
    go_enter Tryd.func109, Tryd.ntmps109
    go_wp2_with fail
    go_quiet (fail)
    go_wp2_with fail
    go_quiet (fail)
    clear hw
    go_wp2_with fail
    go_ret2
    exact ⟨_, _, rfl, HF.out, Drawn.of _ _⟩
  have dc : decide (c < (x : Int)) = false := by simpa using hlt
  have hcx : 0 ≤ c - (x : Int) := by omega
  obtain ⟨d, hd⟩ := Int.eq_ofNat_of_zero_le hcx
  have Hd := hide hd
  by_cases hge : q ≤ d
  · have dg : decide ((q : Int) ≤ (d : Int)) = true := by simp; omega
    have dg' : decide (q ≤ d) = true := by simpa using hge
    have HF : Hid (Found c (L : Int) 0 false) := found_no fun S hS hh => by
      have := Hsym.out S hS (by omega)
      have := Hd.out
      have := Hqq.out
      omega
    clear hge hlt
    go_enter Tryd.func109, Tryd.ntmps109
    go_wp2_with fail
    go_quiet (fail)
    go_wp2_with fail
    go_quiet (fail)
    clear hw
    go_wp2_with fail
    go_ret2
    exact ⟨_, _, rfl, HF.out, Drawn.of _ _⟩
  · have dg : decide ((q : Int) ≤ (d : Int)) = false := by simp; omega
    have dg' : decide (q ≤ d) = false := by simpa using hge
    have hdq : d < hi - lo := by have := Hqq.out; omega
    obtain ⟨b6, o6, e6, hsd⟩ := Hrl.out.at_ (i := d) hdq
    obtain ⟨rfl, rfl⟩ : b5 = b6 ∧ o5 = o6 := by simpa using e6
    have hod := ord_bd (lo + d) (by omega)
    have hgd := Hg.out d hdq
    obtain ⟨S, hS⟩ : ∃ S, ord (lo + d) = S := ⟨_, rfl⟩
    rw [hS] at hod hgd hsd
    have HF : Hid (Found c (L : Int) (S : Int) true) := .inl ⟨rfl, S, hod.1, rfl, by rw [hod.2, hgd.2]; omega, by rw [hgd.1]⟩
    have dd0 : (0 : Int) ≤ (d : Int) := by omega
    have dd1 : (d : Int) < (q : Int) := by omega
    clear hge hlt e6 hS hod hgd
    go_enter Tryd.func109, Tryd.ntmps109
    go_wp2_with fail
    go_quiet (fail)
    go_wp2_with fail
    go_quiet (fail)
    clear hw
    go_wp2_with fail
    go_ret2
    exact ⟨_, _, rfl, HF.out, Drawn.of _ _⟩
theorem findI (B : Nat) (c n : Int) (w : World) (h : Book w B) (hc0 : -9223372036854775808 ≤ c) (hc1 : c ≤ 9223372036854775807) :
    Calls Tryd.prog 109 #[.pointer (some ⟨B, 0, none⟩), .int .i64 c, .int .i64 n] w (FoundD c n w) := by
  by_cases hn : n < 1 ∨ 30 < n
  · refine (find_out B c n w hn).mono fun e w' hh => ⟨_, _, hh.1, found_no fun S hS k => ?_, hh.2⟩
    have := len_bd S hS
    omega
  · obtain ⟨L, rfl⟩ := Int.eq_ofNat_of_zero_le (show 0 ≤ n by omega)
    exact find_any B L c w h (by omega) (by omega) hc0 hc1
end

section
open Go.RowKit

theorem cellKeepB {w w' : World} (hb : Below w.heap.size w w') {a : Addr} {v : Value} (h : w.cell? a = some v) : w'.cell? a = some v := (hb.cell (World.block_lt_of_cell? w _ h)).trans h
theorem rlen_out (s : Int) (w : World) (h : ¬ (0 ≤ s ∧ s < 257)) : Calls Tryd.prog 103 #[.int .i64 s] w fun e w' => e = .returned (.int .i64 0) ∧ Below w.heap.size w w' := by
  by_cases h0 : s < 0
  · have d0 : decide (s < 0) = true := by simpa using h0
    go_enter Tryd.func103, Tryd.ntmps103
    go_wp2_with fail
    go_ret
    exact ⟨rfl, Below.refl _ _⟩
  · have d0 : decide (s < 0) = false := by simpa using h0
    have d1 : decide (256 < s) = true := by simp; omega
    go_enter Tryd.func103, Tryd.ntmps103
    go_wp2_with fail
    go_ret
    exact ⟨rfl, Below.refl _ _⟩
theorem rlen_at (S : Nat) (w : World) (hS : S < 257) : Calls Tryd.prog 103 #[.int .i64 (S : Int)] w fun e w' => e = .returned (.int .i64 (len S : Int)) ∧ Below w.heap.size w w' := by
  have d0 : decide ((S : Int) < 0) = false := by simp
  have d1 : decide (256 < (S : Int)) = false := by simp; omega
  have hS0 : (0 : Int) ≤ (S : Int) := by omega
  have hS1 : (S : Int) ≤ 256 := by omega
  have hm : (S : Int) % 16 = ((S % 16 : Nat) : Int) := by omega
  have Hq := hide (show (S : Int) / 16 = ((S / 16 : Nat) : Int) by omega)
  obtain ⟨m, hmm⟩ : ∃ m, (if S / 16 < 16 then 16 else 1) = m := ⟨_, rfl⟩
  have hml : S % 16 < m := by rw [← hmm]; split <;> omega
  have hlen : len (16 * (S / 16) + S % 16) = len S := by rw [Nat.div_add_mod]
  have Hm := hide hmm
  have HL := hide hlen
  obtain ⟨r, hr⟩ : ∃ r, S % 16 = r := ⟨_, rfl⟩
  rw [hr] at hm hml HL
  have r0 : (0 : Int) ≤ (r : Int) := by omega
  have r1 : (r : Int) < (m : Int) := by omega
  have hq16 : S / 16 ≤ 16 := by omega
  clear hmm hlen hr
  go_enter Tryd.func103, Tryd.ntmps103
  go_wp2_with fail
  refine (row_any (S / 16) _ _ Hq.out hq16).mono ?_
  rw [Hm.out]
  rintro e w1 ⟨v1, rfl, ho1, hb1⟩
  obtain ⟨A1, c1, rfl, hr1, _⟩ := ho1.rd
  obtain ⟨b', o', rfl, hc0⟩ := hr1.at_ (i := r) hml
  have hc : w1.cell? ⟨b', o' + r, none⟩ = some (.int .i64 (len (16 * (S / 16) + r) : Int)) := hc0
  rw [HL.out] at hc
  clear hc0
  have HB1 := hide hb1
  clear ho1 hr1 hb1
  go_wp2_with fail
  go_ret
  exact ⟨rfl, HB1.out⟩
theorem rlen_any (s : Int) (w : World) : Calls Tryd.prog 103 #[.int .i64 s] w fun e w' => e = .returned (.int .i64 (lnI s)) ∧ Below w.heap.size w w' := by
  by_cases hs : 0 ≤ s ∧ s < 257
  · obtain ⟨S, rfl⟩ := Int.eq_ofNat_of_zero_le hs.1
    unfold lnI
    rw [if_pos hs]
    exact rlen_at S w (by omega)
  · unfold lnI
    rw [if_neg hs]
    exact rlen_out s w hs
end
end Go.Proofs.YtnkcbljhgcgpaaaDoor
