/- The chapter's example of layer 5, and the walk of the law on what is read. -/
import Derived.Test.YtgjnmjakpiceiabBit7
namespace Go.Proofs.Ytgjnmjakpiceiab
open Go.RowKit

/-- It returns true, and nothing that was there is written. -/
def Yes (w : World) (e : Ending) (w' : World) : Prop := e = .returned (.bool true) ∧ Below w.heap.size w w'
theorem _root_.Go.RowKit.Below.of {w w1 w' : World} (h : Below w.heap.size w w1) (k : Below w1.heap.size w1 w') : Below w.heap.size w w' := h.trans (k.mono h.size)
theorem rsame_yes (A C : Option Addr) (n c d : Nat) (f g : Nat → Int) (w : World) (ha : Rd .u8 w A n c f) (hb : Rd .u8 w C n d g) (h : ∀ i, i < n → f i = g i) :
    Calls Try.prog 19 #[.slice A n c, .slice C n d] w fun e w' => e = .returned (.bool true) ∧ Drawn w w' := by
  have h1 := rsame_any A C n n c d f g w ha hb
  rw [sameB_yes rfl h] at h1
  exact h1
theorem Rd.one' (w : World) {b : Nat} (hb : b = w.heap.size) (x : Int) : Rd .u8 (w.alloc (.cells #[.int .u8 x] 5)) (some ⟨b, 0, none⟩) 1 1 (oneF x) := by
  subst hb
  exact Rd.one .u8 5 w x

/-- A row that was just declared. -/
theorem Row.new (w : World) (g : Nat → Int) : Row w.heap.size (w.alloc (.cells #[.slice none 0 0, .int .i64 0] 39)) w.heap.size 0 g :=
  ⟨.slice none 0 0, heap_alloc_new w _, Own.nil _ _ _ _ _, by omega⟩
theorem put23 (w : World) : Calls Try.prog 17 #[.pointer (some ⟨w.heap.size, 0, none⟩), .int .i64 2, .int .i64 3] (w.alloc (.cells #[.slice none 0 0, .int .i64 0] 39)) fun e w' =>
    e = .returned (.int .i64 0) ∧ Row w.heap.size w' w.heap.size 3 (bitsOf 2 3) ∧ Below w.heap.size (w.alloc (.cells #[.slice none 0 0, .int .i64 0] 39)) w' := by
  have h := rowPut_ok w.heap.size w.heap.size 0 3 2 (oneF 0) _ (Row.new w _) (Nat.le_refl _) (fun i hi => absurd hi (by omega)) (by omega) (by omega) (by decide) (by omega)
  refine h.mono fun e w' ⟨h1, h2, h3, _⟩ => ⟨h1, ?_, h3⟩
  rw [Nat.zero_add] at h2
  exact h2.congr fun i _ => by simp [catF]
theorem bits95 (p : Nat) (w : World) (h : Rdr w p 1 (oneF 95) 0) : Calls Try.prog 14 #[.pointer (some ⟨p, 0, none⟩), .int .i64 3] w fun e w' =>
    e = .returned (.tuple #[.int .i64 2, .int .i64 0]) ∧ w.grownBy w' (some p) := by
  have h := bits_ok p 1 0 3 (oneF 95) w h (fun _ _ => by simp [oneF]) (by omega) (by omega)
  rw [show bnum (fun j => bitF (oneF 95) (0 + j)) 3 = 2 by decide] at h
  exact h.mono fun e w' hh => ⟨hh.1, hh.2.2⟩
theorem bytes95 : ∀ i, i < (3 + 7) / 8 → byF (bitsOf 2 3) 3 i = oneF 95 i := by
  intro i hi
  obtain rfl : i = 0 := by omega
  decide

set_option maxHeartbeats 400000 in
theorem alive5 (w : World) : Calls Try.prog 9 #[] w (Yes w) := by
  go_enter Try.func9, Try.ntmps9
  go_wp2_with fail
  refine (put23 _).mono ?_
  rintro e w1 ⟨rfl, hr1, hb1⟩
  have Hr1 := hide hr1
  have hB1 : Below w.heap.size w w1 := ((Below.refl _ _).alloc (Nat.le_refl _) _).trans hb1
  have hs1 := hB1.size
  clear hr1 hb1
  go_wp2_with fail
  refine (of_any _ 1 1 (oneF 95) _ (Rd.one .u8 5 w1 95) (by omega)).mono ?_
  rintro e w2 ⟨p, rfl, hp, hr2, hb2⟩
  have Hr2 := hide hr2
  have hB2 : Below w1.heap.size w1 w2 := ((Below.refl _ _).alloc (Nat.le_refl _) _).of hb2
  have hp1 : w1.heap.size < p := by simp at hp; omega
  have hs2 := hB2.size
  clear hr2 hb2 hp
  go_wp2_with fail
  refine (bits95 p _ Hr2.out).mono ?_
  rintro e w3 ⟨rfl, hg3⟩
  have hB3 : Below w1.heap.size w1 w3 := hB2.grown hg3 hs2 (fun k e => by cases e; omega)
  have hs3 := hB3.size
  have Hrow : Hid (Row w.heap.size w3 w.heap.size 3 (bitsOf 2 3)) := Hr1.out.below hB3
  clear hg3
  go_wp2_with fail
  refine (rowBytes _ _ _ _ _ Hrow.out).mono ?_
  rintro e w4 ⟨v, rfl, ho, hb4⟩
  obtain ⟨A4, c4, rfl, hr4, _⟩ := ho.rd
  have Hr4 := hide hr4
  clear ho hr4
  go_wp2_with fail
  refine (rsame_yes _ _ _ _ _ _ (oneF 95) _ (Hr4.out.alloc _) (Rd.one' _ (by simp) 95) bytes95).mono ?_
  rintro e w5 ⟨rfl, hd5⟩
  go_wp2_with fail
  go_ret
  exact ⟨rfl, (((hB1.of hB3).of hb4).of ((Below.refl _ _).alloc (Nat.le_refl _) _)).of (drawn_below hd5 _)⟩

theorem ints_cut (C : Option Addr) (q cc k : Nat) (hk : k ≤ q) (W : World) :
    (Instr.slice 23 (.slice C q cc) (some (.int .i64 (k : Int))) none none).run Try.prog W = .ok (.slice (cutA C cc k) (q - k) (cc - k)) W :=
  cut_l 23 3 Try.underlying23 ints_elem i64_size C q cc k hk .i64 W
theorem bnum_one (g : Nat → Int) : bnum g 1 = g 0 := by simp [bnum]
/-- What the rounds of the law on reading hand on. -/
def RS (w : World) (p n : Nat) (f : Nat → Int) (t q : Nat) (C : Option Addr) (cc : Nat) (wr : World) : Prop :=
  q + t = 8 * n ∧ Rd .i64 wr C q cc (fun j => bitF f (t + j)) ∧ (∀ a, C = some a → a.block ≠ p) ∧ Rdr wr p n f t ∧ w.heap.size ≤ p ∧ Below w.heap.size w wr
theorem RS.cut {w wr w1 : World} {p n t q cc : Nat} {f : Nat → Int} {C : Option Addr} (h : RS w p n f t q C cc wr) (hg : wr.grownBy w1 (some p)) {k : Nat} (hk : k ≤ q) (hr : Rdr w1 p n f (t + k)) :
    RS w p n f (t + k) (q - k) (cutA C cc k) (cc - k) w1 := by
  obtain ⟨h1, h2, h3, h4, h5, h6⟩ := h
  refine ⟨by omega, ((h2.other hg (fun b off e => h3 _ e)).cutR (lo := k) (hi := q) hk (Nat.le_refl _)).congr fun j _ => by rw [Nat.add_assoc], fun a e => ?_, hr, h5, h6.grown hg h6.size (fun j e => by cases e; exact h5)⟩
  obtain ⟨b, e1, e2⟩ := cutA_block e
  rw [← e2]
  exact h3 b e1
theorem RS.drawn {w wr w1 : World} {p n t q cc : Nat} {f : Nat → Int} {C : Option Addr} (h : RS w p n f t q C cc wr) (hd : Drawn wr w1) : RS w p n f t q C cc w1 := by
  obtain ⟨h1, h2, h3, h4, h5, h6⟩ := h
  exact ⟨h1, h2.drawn hd, h3, h4.drawn hd, h5, h6.trans (drawn_below hd _)⟩

set_option maxRecDepth 100000 in
set_option maxHeartbeats 4000000 in
theorem reads_walk (A : Option Addr) (n c : Nat) (f : Nat → Int) (L : Option Addr) (m cl : Nat) (l : Nat → Int) (w : World) (ha : Rd .u8 w A n c f) (hb : Byt n f) (hl : Rd .i64 w L m cl l) :
    Calls Try.prog 3 #[.slice A n c, .slice L m cl] w (Yes w) := by
  have Ha := hide ha
  have Hb := hide hb
  have Hl := hide hl
  clear ha hb hl
  by_cases hn : (500 : Int) < (n : Int)
  · have hd : decide ((500 : Int) < (n : Int)) = true := by simpa using hn
    go_enter Try.func3, Try.ntmps3
    go_wp2_with (go_at_call 9; refine (alive5 _).mono ?_; rintro e w' ⟨rfl, hb⟩)
    go_ret
    exact ⟨rfl, hb⟩
  have hdn : decide ((500 : Int) < (n : Int)) = false := by simpa using hn
  by_cases hm : (100 : Int) < (m : Int)
  · have hd : decide ((100 : Int) < (m : Int)) = true := by simpa using hm
    go_enter Try.func3, Try.ntmps3
    go_wp2_with (go_at_call 9; refine (alive5 _).mono ?_; rintro e w' ⟨rfl, hb⟩)
    go_ret
    exact ⟨rfl, hb⟩
  have hdm : decide ((100 : Int) < (m : Int)) = false := by simpa using hm
  go_enter Try.func3, Try.ntmps3
  go_wp2_with fail
  refine (of_any A n c f _ Ha.out (by omega)).mono ?_
  rintro e w1 ⟨p, rfl, hp, hr1, hb1⟩
  have Hr1 := hide hr1
  clear hr1
  go_wp2_with fail
  refine (rbits_any A n c f _ (Ha.out.below hb1) Hb.out (by omega)).mono ?_
  rintro e w2 ⟨v, rfl, ho, hb2⟩
  obtain ⟨C, cc, rfl, hr2, hbl⟩ := ho.rd
  have hpl := Hr1.out.lt
  have hs0 : RS w p n f 0 (8 * n) C cc w2 := ⟨by omega, hr2.congr fun j _ => by rw [Nat.zero_add], fun a e => by have := hbl a e; omega, Hr1.out.below hb2, hp, hb1.of hb2⟩
  have Hs0 := hide hs0
  clear ho hr2 hbl hs0 hb1 hb2
  go_wp2_with fail
  go_loopw [7, 39] (fun sl i wr => ∃ k t q : Nat, ∃ C cc, k ≤ m ∧ i = .int .i64 k ∧ sl = .slice C q cc ∧ RS w p n f t q C cc wr) (fun _ i _ => m - (intOf i).toNat)
  case atStart => exact ⟨0, 0, 8 * n, C, cc, Nat.zero_le _, rfl, rfl, Hs0.out⟩
  case round =>
    obtain ⟨k, t, q, C, cc, hk, rfl, rfl, hrs⟩ := hrel
    have Hrs := hide hrs
    have hqt := hrs.1
    have hwb := hrs.2.2.2.2.2
    clear hrs Hs0
    by_cases hlt : k < m
    · obtain ⟨bl, offl, rfl, hcell⟩ := (Hl.out.below hwb).at_ hlt
      clear hwb
      by_cases hz : l k < 0
      · by_cases hq : q = 0
        · subst hq
          have hT : t = 8 * n := by omega
          subst hT
          clear hqt hk
          have hk : k ≤ m := by omega
          have Hcut : Hid (∀ W : World, (Instr.slice 23 (.slice C 0 cc) (some (.int .i64 0)) none none).run Try.prog W = .ok (.slice (cutA C cc 0) (0 - 0) (cc - 0)) W) := fun W => ints_cut C 0 cc 0 (by omega) W
          go_wp2_with fail
          refine (bit_none p n f _ Hrs.out.2.2.2.1).mono ?_
          rintro e w3 ⟨rfl, hd3⟩
          have HRS : Hid (RS w p n f (8 * n + 0) (0 - 0) (cutA C cc 0) (cc - 0) w3) := Hrs.out.cut (drawn_grown hd3 _) (Nat.le_refl _) (Hrs.out.2.2.2.1.drawn hd3)
          go_wp2_with fail
          refine (rnum_bad C 0 cc 1 _ (by omega) (by decide)).mono ?_
          rintro e w4 ⟨rfl, rfl⟩
          rw [show bitsE 0 1 = 3 from rfl]
          have hcut := Hcut.out
          go_wp2_with fail
          clear hcut
          go_wp2_with fail
          refine (bitNil _).mono ?_
          rintro e w5 ⟨rfl, rfl⟩
          go_wp2_with fail
          refine (left_any p n (8 * n + 0) f _ HRS.out.2.2.2.1).mono ?_
          rintro e w6 ⟨rfl, hd6⟩
          rw [show 8 * n - (8 * n + 0) = 0 - 0 by omega]
          go_wp2_with fail
          refine (leftNil _).mono ?_
          rintro e w7 ⟨rfl, rfl⟩
          go_wp2_with fail
          go_roundw
          case rel => exact ⟨k + 1, 8 * n + 0, 0 - 0, cutA C cc 0, cc - 0, by omega, by go_num, rfl, HRS.out.drawn hd6⟩
          case measure => simp [intOf]; omega
        · have hcut : ∀ W : World, (Instr.slice 23 (.slice C q cc) (some (.int .i64 1)) none none).run Try.prog W = .ok (.slice (cutA C cc 1) (q - 1) (cc - 1)) W := fun W => ints_cut C q cc 1 (by omega) W
          have Hcut := hide hcut
          clear hcut
          go_wp2_with fail
          refine (bit_one p n t f _ Hrs.out.2.2.2.1 Hb.out (by omega)).mono ?_
          rintro e w3 ⟨rfl, hr3, hg3⟩
          have HRS : Hid (RS w p n f (t + 1) (q - 1) (cutA C cc 1) (cc - 1) w3) := Hrs.out.cut hg3 (by omega) hr3
          have Hall : Hid (Rd .i64 w3 C q cc (fun j => bitF f (t + j))) := Hrs.out.2.1.other hg3 (fun b off e => Hrs.out.2.2.1 _ e)
          clear hr3 hg3
          go_wp2_with fail
          refine (rnum_ok C q cc 1 _ _ Hall.out (fun i _ => bitF_bd _) (by omega) (by omega)).mono ?_
          rintro e w4 ⟨rfl, rfl⟩
          rw [bnum_one]
          simp only [Nat.add_zero]
          have hcut := Hcut.out
          go_wp2_with fail
          clear hcut
          go_wp2_with fail
          refine (bitNil _).mono ?_
          rintro e w5 ⟨rfl, rfl⟩
          go_wp2_with fail
          refine (left_any p n (t + 1) f _ HRS.out.2.2.2.1).mono ?_
          rintro e w6 ⟨rfl, hd6⟩
          rw [show 8 * n - (t + 1) = q - 1 by omega]
          go_wp2_with fail
          refine (leftNil _).mono ?_
          rintro e w7 ⟨rfl, rfl⟩
          go_wp2_with fail
          go_roundw
          case rel => exact ⟨k + 1, t + 1, q - 1, cutA C cc 1, cc - 1, by omega, by go_num, rfl, HRS.out.drawn hd6⟩
          case measure => simp [intOf]; omega
      · obtain ⟨s, hs⟩ := Int.eq_ofNat_of_zero_le (show 0 ≤ l k by omega)
        have hs2 : l k = (s : Int) := hs
        rw [hs2] at hcell hz
        clear hs hs2 hz
        by_cases he : bitsE q s = 0
        · obtain ⟨_, e2, e3⟩ := bitsE_ok he
          have hs32 : s ≤ 32 := by omega
          have hsq : s ≤ q := by omega
          clear he e2 e3
          have Hcut := hide (ints_cut C q cc s hsq)
          go_wp2_with fail
          refine (bits_ok p n t s f _ Hrs.out.2.2.2.1 Hb.out hs32 (by omega)).mono ?_
          rintro e w3 ⟨rfl, hr3, hg3⟩
          have HRS : Hid (RS w p n f (t + s) (q - s) (cutA C cc s) (cc - s) w3) := Hrs.out.cut hg3 hsq hr3
          have Hall : Hid (Rd .i64 w3 C q cc (fun j => bitF f (t + j))) := Hrs.out.2.1.other hg3 (fun b off e => Hrs.out.2.2.1 _ e)
          clear hr3 hg3
          generalize hX : bnum (fun j => bitF f (t + j)) s = X
          have HX := hide hX
          clear hX
          go_wp2_with fail
          refine (rnum_ok C q cc s _ _ Hall.out (fun i _ => bitF_bd _) hs32 hsq).mono ?_
          rintro e w4 ⟨rfl, rfl⟩
          rw [HX.out]
          have hcut := Hcut.out
          go_wp2_with fail
          clear hcut
          go_wp2_with fail
          refine (bitNil _).mono ?_
          rintro e w5 ⟨rfl, rfl⟩
          go_wp2_with fail
          refine (left_any p n (t + s) f _ HRS.out.2.2.2.1).mono ?_
          rintro e w6 ⟨rfl, hd6⟩
          rw [show 8 * n - (t + s) = q - s by omega]
          go_wp2_with fail
          refine (leftNil _).mono ?_
          rintro e w7 ⟨rfl, rfl⟩
          go_wp2_with fail
          go_roundw
          case rel => exact ⟨k + 1, t + s, q - s, cutA C cc s, cc - s, by omega, by go_num, rfl, HRS.out.drawn hd6⟩
          case measure => simp [intOf]; omega
        · have Hcut : Hid (∀ W : World, (Instr.slice 23 (.slice C q cc) (some (.int .i64 0)) none none).run Try.prog W = .ok (.slice (cutA C cc 0) (q - 0) (cc - 0)) W) := fun W => ints_cut C q cc 0 (by omega) W
          have He := hide he
          clear he
          have Hq : Hid (8 * n - t = q) := by unfold Hid; omega
          go_wp2_with fail
          refine (bits_bad p n t s f _ Hrs.out.2.2.2.1 (by rw [Hq.out]; exact He.out)).mono ?_
          rintro e w3 ⟨rfl, hd3⟩
          rw [Hq.out]
          have HRS : Hid (RS w p n f (t + 0) (q - 0) (cutA C cc 0) (cc - 0) w3) := Hrs.out.cut (drawn_grown hd3 _) (Nat.zero_le _) (Hrs.out.2.2.2.1.drawn hd3)
          generalize hX : bitsE q s = X
          have HX := hide hX
          clear hX
          go_wp2_with fail
          refine (rnum_bad C q cc s _ (by omega) He.out).mono ?_
          rintro e w4 ⟨rfl, rfl⟩
          rw [HX.out]
          have hcut := Hcut.out
          go_wp2_with fail
          clear hcut
          go_wp2_with fail
          refine (bitNil _).mono ?_
          rintro e w5 ⟨rfl, rfl⟩
          go_wp2_with fail
          refine (left_any p n (t + 0) f _ HRS.out.2.2.2.1).mono ?_
          rintro e w6 ⟨rfl, hd6⟩
          rw [show 8 * n - (t + 0) = q - 0 by omega]
          go_wp2_with fail
          refine (leftNil _).mono ?_
          rintro e w7 ⟨rfl, rfl⟩
          go_wp2_with fail
          go_roundw
          case rel => exact ⟨k + 1, t + 0, q - 0, cutA C cc 0, cc - 0, by omega, by go_num, rfl, HRS.out.drawn hd6⟩
          case measure => simp [intOf]; omega
    · have hkm : k = m := by omega
      subst hkm
      clear hwb
      go_wp2_with fail
      refine (alive5 _).mono ?_
      rintro e w4 ⟨rfl, hb4⟩
      go_wp2_with fail
      go_ret
      exact ⟨rfl, Hrs.out.2.2.2.2.2.of hb4⟩
end Go.Proofs.Ytgjnmjakpiceiab
