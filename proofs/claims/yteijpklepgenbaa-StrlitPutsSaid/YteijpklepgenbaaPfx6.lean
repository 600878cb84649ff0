/- Layer 18: the contract of the reference's Get. -/
import Derived.Test.YteijpklepgenbaaPfx5
namespace Go.Proofs.Yteijpklepgenbaa
open Go.RowKit

set_option maxHeartbeats 1600000 in
theorem rpow7 (k : Nat) (z : Int) (w : World) (hz : z = 7 * ((k : Int) - 1)) (h1 : 1 ≤ k) (h2 : k ≤ 5) : Calls Try.prog 30 #[.int .i64 z] w fun e w' => e = .returned (.int .i64 (un k)) ∧ w = w' := by
  have : (z = 0 ∧ un k = 1) ∨ (z = 7 ∧ un k = 128) ∨ (z = 14 ∧ un k = 16384) ∨ (z = 21 ∧ un k = 2097152) ∨ (z = 28 ∧ un k = 268435456) := by
    have : k = 1 ∨ k = 2 ∨ k = 3 ∨ k = 4 ∨ k = 5 := by omega
    rcases this with rfl | rfl | rfl | rfl | rfl
    · exact .inl ⟨by omega, rfl⟩
    · exact .inr (.inl ⟨by omega, rfl⟩)
    · exact .inr (.inr (.inl ⟨by omega, rfl⟩))
    · exact .inr (.inr (.inr (.inl ⟨by omega, rfl⟩)))
    · exact .inr (.inr (.inr (.inr ⟨by omega, rfl⟩)))
  clear hz h1 h2
  generalize un k = r at *
  rcases this with ⟨rfl, rfl⟩ | ⟨rfl, rfl⟩ | ⟨rfl, rfl⟩ | ⟨rfl, rfl⟩ | ⟨rfl, rfl⟩
  all_goals
    go_enter Try.func30, Try.ntmps30
    go_wp2
    go_rounds 29
    go_ret
    exact ⟨rfl, rfl⟩

theorem rpget_arg (A : Option Addr) (n c : Nat) (b : Int) (w : World) (hb : b < 1 ∨ 8 < b) :
    Calls Try.prog 18 #[.slice A n c, .int .i64 b] w (Got (0, 0, 1) w) := by
  rcases hb with hb | hb
  · have d0 : decide (b < 1) = true := by simpa using hb
    go_enter Try.func18, Try.ntmps18
    go_wp2_with fail
    go_ret3
    exact ⟨rfl, Drawn.refl _⟩
  · have d0 : decide (b < 1) = false := by simp; omega
    have d1 : decide (8 < b) = true := by simpa using hb
    go_enter Try.func18, Try.ntmps18
    go_wp2_with fail
    go_ret3
    exact ⟨rfl, Drawn.refl _⟩
theorem rpget_none (A : Option Addr) (c : Nat) (b : Int) (w : World) (h1 : 1 ≤ b) (h2 : b ≤ 8) :
    Calls Try.prog 18 #[.slice A 0 c, .int .i64 b] w (Got (0, 0, 3) w) := by
  have d0 : decide (b < 1) = false := by simp; omega
  have d1 : decide (8 < b) = false := by simp; omega
  go_enter Try.func18, Try.ntmps18
  go_wp2_with fail
  go_ret3
  exact ⟨rfl, Drawn.refl _⟩

set_option maxHeartbeats 3200000 in
theorem rpget_ok (A : Option Addr) (n c : Nat) (f : Nat → Int) (b : Int) (w : World) (ha : Rd .u8 w A n c f) (hb : Byt n f) (h0 : 0 < n) (hn : n ≤ 100000) (h1 : 1 ≤ b) (h2 : b ≤ 8) :
    Calls Try.prog 18 #[.slice A n c, .int .i64 b] w (Got (pg f n b) w) := by
  have Ha := hide ha
  have Hb := hide hb
  have hb8 := p8_bd h1 h2
  have hb0 := (hb 0 h0).1
  have hb1 := (hb 0 h0).2
  obtain ⟨x0, hx0⟩ : ∃ x, f 0 % p8 b = x := ⟨_, rfl⟩
  have hx1 : 0 ≤ x0 := by rw [← hx0]; exact Int.emod_nonneg _ (by omega)
  have hx2 : x0 < p8 b := by rw [← hx0]; exact Int.emod_lt_of_pos _ (by omega)
  obtain ⟨R, hR⟩ : ∃ R, pg f n b = R := ⟨_, rfl⟩
  rw [hR]
  have hR' : (if x0 < p8 b - 1 then (x0, 1, 0) else gt f n 5 1 x0) = R := by
    rw [← hR]
    unfold pg
    have e0 : ¬ (b < 1 ∨ 8 < b) := by omega
    have e1 : ¬ n = 0 := by omega
    rw [if_neg e0, if_neg e1, hx0]
  have HR := hide hR'
  clear ha hb hR hR'
  obtain ⟨b0, off, rfl, hc0⟩ := Ha.out.at_ (i := 0) h0
  have hn0 : (0 : Int) < (n : Int) := by omega
  simp only [Nat.add_zero] at hc0
  have d00 : decide (b < 1) = false := by simp; omega
  have d01 : decide (8 < b) = false := by simp; omega
  have d2 : ((n : Int) == 0) = false := by simp; omega
  have hp2 : 2 ≤ p8 b := hb8.1
  have hp3 : p8 b ≤ 256 := hb8.2
  have hpp : p8 b - 1 + 1 = p8 b := by omega
  by_cases hs : x0 < p8 b - 1
  · have d1 : decide (x0 < p8 b - 1) = true := by simpa using hs
    have Hs : Hid (R = (x0, 1, 0)) := by
      have := HR.out
      rw [if_pos hs] at this
      exact this.symm
    go_enter Try.func18, Try.ntmps18
    go_wp2_with fail
    refine (rpow8 b _ h1 h2).mono ?_
    rintro e w' ⟨rfl, rfl⟩
    go_wp2_with fail
    go_ret3
    exact Got.yes (by rw [hx0]; exact Hs.out) (Drawn.refl _)
  · have d1 : decide (x0 < p8 b - 1) = false := by simpa using hs
    have Hs : Hid (gt f n 5 1 x0 = R) := by
      have := HR.out
      rw [if_neg hs] at this
      exact this
    go_enter Try.func18, Try.ntmps18
    go_wp2_with fail
    refine (rpow8 b _ h1 h2).mono ?_
    rintro e w' ⟨rfl, rfl⟩
    go_wp2_with fail
    go_loopw [8, 9] (fun v i wr => ∃ (fu k : Nat) (acc : Int), i = .int .i64 k ∧ v = .int .i64 acc ∧ fu + k = 6 ∧ 1 ≤ k ∧ 0 ≤ acc ∧ acc ≤ 300 * un k ∧ gt f n fu k acc = R ∧ Drawn w wr) (fun _ i _ => 6 - (intOf i).toNat)
    case atStart => exact ⟨5, 1, x0, rfl, by rw [hx0], rfl, Nat.le_refl _, hx1, by have : un 1 = 1 := rfl; omega, Hs.out, Drawn.refl _⟩
    case round =>
      obtain ⟨fu, k, acc, rfl, rfl, hfu, hk, ha0, ha1, hgt, hd⟩ := hrel
      have Hgt := hide hgt
      have Hfu := hide hfu
      have Hd := hide hd
      clear Hs hc0 hx0 hs d1 hpp
      rcases fu with _ | fu
      · have hk5 : decide ((k : Int) ≤ 5) = false := by simp; omega
        have Hr : Hid (R = (0, 0, 5)) := Hgt.out.symm
        clear hgt hfu hd
        go_wp2_with fail
        go_ret3
        exact Got.no Hr.out Hd.out
      have hk5 : decide ((k : Int) ≤ 5) = true := by simp; omega
      have hk55 : k ≤ 5 := by omega
      by_cases he : n ≤ k
      · have Hr : Hid (R = (0, 0, 3)) := Hgt.out.symm.trans (gt_short he)
        have dk : decide ((n : Int) ≤ (k : Int)) = true := by simp; omega
        have dk' : decide (n ≤ k) = true := by simpa using he
        clear hgt hfu hd
        go_wp2_with fail
        go_ret3
        exact Got.no Hr.out Hd.out
      have dk : decide ((n : Int) ≤ (k : Int)) = false := by simp; omega
      have dk' : decide (n ≤ k) = false := by simpa using he
      have hlt : k < n := by omega
      have hlt' : (k : Int) < (n : Int) := by omega
      have hk0 : (0 : Int) ≤ (k : Int) := by omega
      obtain ⟨b1, o1, e1, hc1⟩ := (Ha.out.drawn hd).at_ hlt
      obtain ⟨rfl, rfl⟩ : b0 = b1 ∧ off = o1 := by simpa using e1
      have hbk := Hb.out k hlt
      have hbk0 := hbk.1
      have hbk1 := hbk.2
      have hub := un_bd5 hk hk55
      have hus := un_succ hk
      have hu0 : 0 ≤ un k := by omega
      have hX0 : 0 ≤ f k % 128 * un k := Int.mul_nonneg (by omega) hu0
      have hX1 : f k % 128 * un k ≤ 127 * un k := Int.mul_le_mul_of_nonneg_right (by omega) hu0
      have hX2 : f k % 128 * un k ≤ 34091302912 := by omega
      have hs0 : 0 ≤ acc + f k % 128 * un k := by omega
      have Hs1 := hide (show acc + f k % 128 * un k ≤ 300 * un (k + 1) by omega)
      have hs2 : acc + f k % 128 * un k ≤ 10307921510400 := by omega
      have hw0 : IntKind.i64.wrap (f k) = f k := IntWalk.i64_in _ (by omega)
      have ht : (f k).tmod 128 = f k % 128 := Int.tmod_eq_emod_of_nonneg hbk0
      have hw1 : IntKind.i64.wrap (f k % 128) = f k % 128 := IntWalk.i64_in _ (by omega)
      have hw2 : IntKind.i64.wrap ((k : Int) - 1) = (k : Int) - 1 := IntWalk.i64_in _ (by omega)
      have hw3 : IntKind.i64.wrap (7 * ((k : Int) - 1)) = 7 * ((k : Int) - 1) := IntWalk.i64_in _ (by omega)
      have hw4 : IntKind.i64.wrap (f k % 128 * un k) = f k % 128 * un k := IntWalk.i64_in _ (by omega)
      have hw5 : IntKind.i64.wrap (acc + f k % 128 * un k) = acc + f k % 128 * un k := IntWalk.i64_in _ (by omega)
      clear hgt hfu he e1 hus hX1 hd
      by_cases h128 : f k < 128
      · have dg1 : decide (f k < 128) = true := by simpa using h128
        by_cases hbig : 2147483647 < acc + f k % 128 * un k
        · have dg2 : decide (2147483647 < acc + f k % 128 * un k) = true := by simpa using hbig
          have Hr : Hid (R = (0, 0, 5)) := Hgt.out.symm.trans (gt_range hlt h128 hbig)
          go_wp2_with fail
          go_quiet ((go_at_call 30; exact Calls.quiet_of_same ((rpow7 k _ _ rfl hk hk55).mono fun _ _ hh => ⟨hh.1, hh.2.symm⟩)))
          clear hw0 ht hw1 hw2 hw3 hw4 hw5
          go_wp2_with fail
          go_ret3
          exact Got.no Hr.out (Hd.out.trans (Drawn.of _ _))
        · have dg2 : decide (2147483647 < acc + f k % 128 * un k) = false := by simpa using hbig
          have Hr : Hid (R = (acc + f k % 128 * un k, (k : Int) + 1, 0)) := Hgt.out.symm.trans (gt_ok hlt h128 hbig)
          go_wp2_with fail
          go_quiet ((go_at_call 30; exact Calls.quiet_of_same ((rpow7 k _ _ rfl hk hk55).mono fun _ _ hh => ⟨hh.1, hh.2.symm⟩)))
          clear hw0 ht hw1 hw2 hw3 hw4 hw5
          go_wp2_with fail
          go_ret3
          exact Got.yes Hr.out (Hd.out.trans (Drawn.of _ _))
      · have dg1 : decide (f k < 128) = false := by simpa using h128
        have Hr : Hid (gt f n fu (k + 1) (acc + f k % 128 * un k) = R) := by
          have h := Hgt.out
          rw [gt_more hlt h128] at h
          exact h
        go_wp2_with fail
        go_quiet ((go_at_call 30; exact Calls.quiet_of_same ((rpow7 k _ _ rfl hk hk55).mono fun _ _ hh => ⟨hh.1, hh.2.symm⟩)))
        clear hw0 ht hw1 hw2 hw3 hw4 hw5
        go_wp2_with fail
        go_roundw
        case rel => exact ⟨fu, k + 1, _, by go_num, rfl, by have := Hfu.out; omega, by omega, hs0, Hs1.out, Hr.out, Hd.out.trans (Drawn.of _ _)⟩
        case measure => simp [intOf]; omega
end Go.Proofs.Yteijpklepgenbaa
