/- The walk of the law on cursors that are not there. -/
import Derived.Test.YtgjnmjakpiceiaaCurW
namespace Go.Proofs.Ytgjnmjakpiceiaa
open Go.RowKit

/-- What a step of nobody answers. -/
def NoRes (w : World) (er : Int) (e : Ending) (w' : World) : Prop := e = .returned (.tuple #[.int .i64 0, .slice none 0 0, .int .i64 er]) ∧ Below w.heap.size w w'

theorem nil_num (s : Int) (w : World) : Calls Try.prog 22 #[.pointer none, .agg #[.int .i64 0, .int .i64 s]] w (NoRes w (getE 0 s)) := by
  have hbx : Below w.heap.size w (w.alloc (.cells #[.int .i64 0, .int .i64 s] 41)) := (Below.refl _ _).alloc (Nat.le_refl _) _
  have Hx := hide hbx
  clear hbx
  go_enter Try.func22, Try.ntmps22
  go_wp2_with fail
  refine (numberNil s _).mono ?_
  rintro e w1 ⟨rfl, rfl⟩
  go_wp2_with fail
  go_ret3
  exact ⟨rfl, Hx.out⟩

theorem nil_neg (s : Int) (h1 : s < 0) (w : World) : Calls Try.prog 22 #[.pointer none, .agg #[.int .i64 1, .int .i64 s]] w (NoRes w 1) := by
  have hbx : Below w.heap.size w (w.alloc (.cells #[.int .i64 1, .int .i64 s] 41)) := (Below.refl _ _).alloc (Nat.le_refl _) _
  have Hx := hide hbx
  clear hbx
  go_enter Try.func22, Try.ntmps22
  go_wp2_with fail
  refine (bytes_neg none s _ h1).mono ?_
  rintro e w1 ⟨rfl, rfl⟩
  go_wp2_with fail
  go_ret3
  exact ⟨rfl, Hx.out⟩

theorem nil_short (s : Int) (h1 : 0 < s) (w : World) : Calls Try.prog 22 #[.pointer none, .agg #[.int .i64 1, .int .i64 s]] w (NoRes w 3) := by
  have hbx : Below w.heap.size w (w.alloc (.cells #[.int .i64 1, .int .i64 s] 41)) := (Below.refl _ _).alloc (Nat.le_refl _) _
  have Hx := hide hbx
  clear hbx
  go_enter Try.func22, Try.ntmps22
  go_wp2_with fail
  refine (bytesNil_short s _ h1).mono ?_
  rintro e w1 ⟨rfl, rfl⟩
  go_wp2_with fail
  go_ret3
  exact ⟨rfl, Hx.out⟩

theorem nil_bytes  (w : World) : Calls Try.prog 22 #[.pointer none, .agg #[.int .i64 1, .int .i64 0]] w (NoRes w 0) := by
  have hbx : Below w.heap.size w (w.alloc (.cells #[.int .i64 1, .int .i64 0] 41)) := (Below.refl _ _).alloc (Nat.le_refl _) _
  have Hx := hide hbx
  clear hbx
  go_enter Try.func22, Try.ntmps22
  go_wp2_with fail
  refine (bytesNil_none _).mono ?_
  rintro e w1 ⟨rfl, rfl⟩
  go_wp2_with fail
  go_ret3
  exact ⟨rfl, Hx.out⟩

theorem nil_rest (call s : Int) (h0 : (call == 0) = false) (h1 : (call == 1) = false) (w : World) : Calls Try.prog 22 #[.pointer none, .agg #[.int .i64 call, .int .i64 s]] w (NoRes w 0) := by
  have hbx : Below w.heap.size w (w.alloc (.cells #[.int .i64 call, .int .i64 s] 41)) := (Below.refl _ _).alloc (Nat.le_refl _) _
  have Hx := hide hbx
  clear hbx
  go_enter Try.func22, Try.ntmps22
  go_wp2_with fail
  refine (restNil _).mono ?_
  rintro e w1 ⟨rfl, rfl⟩
  go_wp2_with fail
  go_ret3
  exact ⟨rfl, Hx.out⟩

theorem Cur.zero (w : World) (f : Nat → Int) : Cur (w.alloc (.cells #[.slice none 0 0, .int .i64 0] 51)) w.heap.size 0 f 0 :=
  ⟨none, 0, heap_alloc_new w _, Rd.nil _ _ _, fun a e => (by cases e), by omega, by omega⟩

set_option maxRecDepth 100000 in
set_option maxHeartbeats 8000000 in
theorem nobody_walk (L : Option Addr) (m cl : Nat) (F G : Nat → Int) (w : World) (hl : Rd2 w L m cl F G) :
    Calls Try.prog 9 #[.slice L m cl] w (Yes w) := by
  have Hl := hide hl
  clear hl
  by_cases hm : (60 : Int) < (m : Int)
  · go_enter Try.func9, Try.ntmps9
    go_wp2_with (go_at_call 20; refine (alive2 _).mono ?_; rintro e w' ⟨rfl, hb⟩)
    go_ret
    exact ⟨rfl, hb⟩
  have Hs1 : Hid (Cur (w.alloc (.cells #[.slice none 0 0, .int .i64 0] 51)) w.heap.size 0 (oneF 0) 0 ∧ Below w.heap.size w (w.alloc (.cells #[.slice none 0 0, .int .i64 0] 51))) := ⟨Cur.zero w _, (Below.refl _ _).alloc (Nat.le_refl _) _⟩
  go_enter Try.func9, Try.ntmps9
  go_wp2_with fail
  go_loopw [23] (fun i wr => ∃ k : Nat, k ≤ m ∧ i = .int .i64 k ∧ Cur wr w.heap.size 0 (oneF 0) 0 ∧ Below w.heap.size w wr) (fun i _ => m - (intOf i).toNat)
  case atStart => exact ⟨0, Nat.zero_le _, rfl, Hs1.out.1, Hs1.out.2⟩
  case round =>
    obtain ⟨k, hk, rfl, hcur, hwb⟩ := hrel
    have Hcur := hide hcur
    have Hwb := hide hwb
    have hsz := hwb.size
    have hpl := hcur.lt
    clear hcur Hs1
    by_cases hlt : k < m
    · obtain ⟨bl, offl, rfl, hc0, hc1⟩ := (Hl.out.below hwb).at_ hlt
      clear hwb
      by_cases hf0 : F k = 0
      · rw [hf0] at hc0
        clear hf0
        have hblk0 : (wr.alloc (.cells #[.int .i64 0, .int .i64 (G k)] 41)).heap[wr.heap.size]? = some (.cells #[.int .i64 0, .int .i64 (G k)] 41 (0, 0)) := heap_alloc_new wr _
        have Hblk0 := hide hblk0
        clear hblk0
        go_wp2_with fail
        refine (nil_num (G k) _).mono ?_
        rintro e w2 ⟨rfl, hb2⟩
        have hB2 : Below wr.heap.size wr w2 := ((Below.refl _ _).alloc (Nat.le_refl _) _).of hb2
        have hblk2 : w2.heap[wr.heap.size]? = some (.cells #[.int .i64 0, .int .i64 (G k)] 41 (0, 0)) := (hb2.block _ (by simp)).trans Hblk0.out
        obtain ⟨y0, y1⟩ := cells2 hblk2
        have Hcur2 := hide (Hcur.out.below hB2)
        have Hblk2 := hide hblk2
        have hs2 := hB2.size
        clear hb2 hblk2
        go_wp2_with fail
        refine (step_numbad w.heap.size 0 0 (G k) (by unfold getE; split <;> (try split) <;> omega) _ _ Hcur2.out).mono ?_
        rintro e w3 ⟨A1, c1, rfl, hr1, hcur3, hg3⟩
        have hblk3 : w3.heap[wr.heap.size]? = some (.cells #[.int .i64 0, .int .i64 (G k)] 41 (0, 0)) := (hg3.block wr.heap.size (Array.getElem?_eq_some_iff.1 Hblk2.out).1 (fun e => by have := Option.some.inj e; omega)).trans Hblk2.out
        obtain ⟨z0, z1⟩ := cells2 hblk3
        have hB3 : Below w.heap.size w w3 := (Hwb.out.trans (hB2.mono hsz)).grown hg3 (by have := hB2.size; omega) (fun k e => by cases e; exact Nat.le_refl _)
        have Hcur3 : Hid (Cur w3 w.heap.size 0 (oneF 0) 0) := hcur3
        clear hr1 hcur3 hg3 hblk3
        go_wp2_with fail
        refine (rstep_numbad none 0 0 (G k) (by unfold getE; split <;> (try split) <;> omega) (oneF 0) _ (Rd.nil _ _ _) (by omega)).mono ?_
        rintro e w4 ⟨rfl, hd4⟩
        have Hcur4 := hide (Hcur3.out.drawn hd4)
        go_wp2_with fail
        refine (atNil _).mono ?_
        rintro e w5 ⟨rfl, rfl⟩
        go_wp2_with fail
        refine (leftNil _).mono ?_
        rintro e w5 ⟨rfl, rfl⟩
        go_wp2_with fail
        refine (at_any _ 0 0 _ _ Hcur4.out).mono ?_
        rintro e w5 ⟨rfl, rfl⟩
        go_wp2_with fail
        refine (left_any _ 0 0 _ _ Hcur4.out).mono ?_
        rintro e w6 ⟨rfl, hd6⟩
        go_wp2_with fail
        go_roundw
        case rel => exact ⟨k + 1, by omega, by go_num, Hcur4.out.drawn hd6, (hB3.trans (drawn_below hd4 _)).trans (drawn_below hd6 _)⟩
        case measure => simp [intOf]; omega
      · by_cases hf1 : F k = 1
        · rw [hf1] at hc0
          clear hf0 hf1
          by_cases g0 : G k < 0
          · skip
            have hblk0 : (wr.alloc (.cells #[.int .i64 1, .int .i64 (G k)] 41)).heap[wr.heap.size]? = some (.cells #[.int .i64 1, .int .i64 (G k)] 41 (0, 0)) := heap_alloc_new wr _
            have Hblk0 := hide hblk0
            clear hblk0
            go_wp2_with fail
            refine (nil_neg (G k) g0 _).mono ?_
            rintro e w2 ⟨rfl, hb2⟩
            have hB2 : Below wr.heap.size wr w2 := ((Below.refl _ _).alloc (Nat.le_refl _) _).of hb2
            have hblk2 : w2.heap[wr.heap.size]? = some (.cells #[.int .i64 1, .int .i64 (G k)] 41 (0, 0)) := (hb2.block _ (by simp)).trans Hblk0.out
            obtain ⟨y0, y1⟩ := cells2 hblk2
            have Hcur2 := hide (Hcur.out.below hB2)
            have Hblk2 := hide hblk2
            have hs2 := hB2.size
            clear hb2 hblk2
            go_wp2_with fail
            refine (step_neg w.heap.size 0 0 (G k) g0 _ _ Hcur2.out).mono ?_
            rintro e w3 ⟨A1, c1, rfl, hr1, hcur3, hg3⟩
            have hblk3 : w3.heap[wr.heap.size]? = some (.cells #[.int .i64 1, .int .i64 (G k)] 41 (0, 0)) := (hg3.block wr.heap.size (Array.getElem?_eq_some_iff.1 Hblk2.out).1 (fun e => by have := Option.some.inj e; omega)).trans Hblk2.out
            obtain ⟨z0, z1⟩ := cells2 hblk3
            have hB3 : Below w.heap.size w w3 := (Hwb.out.trans (hB2.mono hsz)).grown hg3 (by have := hB2.size; omega) (fun k e => by cases e; exact Nat.le_refl _)
            have Hcur3 : Hid (Cur w3 w.heap.size 0 (oneF 0) 0) := hcur3
            clear hr1 hcur3 hg3 hblk3
            go_wp2_with fail
            refine (rstep_neg none 0 0 (G k) g0 (oneF 0) _ (Rd.nil _ _ _) (by omega)).mono ?_
            rintro e w4 ⟨rfl, hd4⟩
            have Hcur4 := hide (Hcur3.out.drawn hd4)
            go_wp2_with fail
            refine (atNil _).mono ?_
            rintro e w5 ⟨rfl, rfl⟩
            go_wp2_with fail
            refine (leftNil _).mono ?_
            rintro e w5 ⟨rfl, rfl⟩
            go_wp2_with fail
            refine (at_any _ 0 0 _ _ Hcur4.out).mono ?_
            rintro e w5 ⟨rfl, rfl⟩
            go_wp2_with fail
            refine (left_any _ 0 0 _ _ Hcur4.out).mono ?_
            rintro e w6 ⟨rfl, hd6⟩
            go_wp2_with fail
            go_roundw
            case rel => exact ⟨k + 1, by omega, by go_num, Hcur4.out.drawn hd6, (hB3.trans (drawn_below hd4 _)).trans (drawn_below hd6 _)⟩
            case measure => simp [intOf]; omega
          · by_cases g1 : 0 < G k
            · clear g0
              have hblk0 : (wr.alloc (.cells #[.int .i64 1, .int .i64 (G k)] 41)).heap[wr.heap.size]? = some (.cells #[.int .i64 1, .int .i64 (G k)] 41 (0, 0)) := heap_alloc_new wr _
              have Hblk0 := hide hblk0
              clear hblk0
              go_wp2_with fail
              refine (nil_short (G k) g1 _).mono ?_
              rintro e w2 ⟨rfl, hb2⟩
              have hB2 : Below wr.heap.size wr w2 := ((Below.refl _ _).alloc (Nat.le_refl _) _).of hb2
              have hblk2 : w2.heap[wr.heap.size]? = some (.cells #[.int .i64 1, .int .i64 (G k)] 41 (0, 0)) := (hb2.block _ (by simp)).trans Hblk0.out
              obtain ⟨y0, y1⟩ := cells2 hblk2
              have Hcur2 := hide (Hcur.out.below hB2)
              have Hblk2 := hide hblk2
              have hs2 := hB2.size
              clear hb2 hblk2
              go_wp2_with fail
              refine (step_short w.heap.size 0 0 (G k) (by omega) (by simpa using g1) _ _ Hcur2.out).mono ?_
              rintro e w3 ⟨A1, c1, rfl, hr1, hcur3, hg3⟩
              have hblk3 : w3.heap[wr.heap.size]? = some (.cells #[.int .i64 1, .int .i64 (G k)] 41 (0, 0)) := (hg3.block wr.heap.size (Array.getElem?_eq_some_iff.1 Hblk2.out).1 (fun e => by have := Option.some.inj e; omega)).trans Hblk2.out
              obtain ⟨z0, z1⟩ := cells2 hblk3
              have hB3 : Below w.heap.size w w3 := (Hwb.out.trans (hB2.mono hsz)).grown hg3 (by have := hB2.size; omega) (fun k e => by cases e; exact Nat.le_refl _)
              have Hcur3 : Hid (Cur w3 w.heap.size 0 (oneF 0) 0) := hcur3
              clear hr1 hcur3 hg3 hblk3
              go_wp2_with fail
              refine (rstep_short none 0 0 (G k) (by omega) (by simpa using g1) (oneF 0) _ (Rd.nil _ _ _) (by omega)).mono ?_
              rintro e w4 ⟨rfl, hd4⟩
              have Hcur4 := hide (Hcur3.out.drawn hd4)
              go_wp2_with fail
              refine (atNil _).mono ?_
              rintro e w5 ⟨rfl, rfl⟩
              go_wp2_with fail
              refine (leftNil _).mono ?_
              rintro e w5 ⟨rfl, rfl⟩
              go_wp2_with fail
              refine (at_any _ 0 0 _ _ Hcur4.out).mono ?_
              rintro e w5 ⟨rfl, rfl⟩
              go_wp2_with fail
              refine (left_any _ 0 0 _ _ Hcur4.out).mono ?_
              rintro e w6 ⟨rfl, hd6⟩
              go_wp2_with fail
              go_roundw
              case rel => exact ⟨k + 1, by omega, by go_num, Hcur4.out.drawn hd6, (hB3.trans (drawn_below hd4 _)).trans (drawn_below hd6 _)⟩
              case measure => simp [intOf]; omega
            · have hg : G k = 0 := by omega
              rw [hg] at hc1
              clear g0 g1 hg
              have hblk0 : (wr.alloc (.cells #[.int .i64 1, .int .i64 0] 41)).heap[wr.heap.size]? = some (.cells #[.int .i64 1, .int .i64 0] 41 (0, 0)) := heap_alloc_new wr _
              have Hblk0 := hide hblk0
              clear hblk0
              go_wp2_with fail
              refine (nil_bytes _).mono ?_
              rintro e w2 ⟨rfl, hb2⟩
              have hB2 : Below wr.heap.size wr w2 := ((Below.refl _ _).alloc (Nat.le_refl _) _).of hb2
              have hblk2 : w2.heap[wr.heap.size]? = some (.cells #[.int .i64 1, .int .i64 0] 41 (0, 0)) := (hb2.block _ (by simp)).trans Hblk0.out
              obtain ⟨y0, y1⟩ := cells2 hblk2
              have Hcur2 := hide (Hcur.out.below hB2)
              have Hblk2 := hide hblk2
              have hs2 := hB2.size
              clear hb2 hblk2
              go_wp2_with fail
              refine (step_bytes w.heap.size 0 0 0 (by omega) _ _ Hcur2.out).mono ?_
              rintro e w3 ⟨A1, c1, rfl, hr1, hcur3, hg3⟩
              have hblk3 : w3.heap[wr.heap.size]? = some (.cells #[.int .i64 1, .int .i64 0] 41 (0, 0)) := (hg3.block wr.heap.size (Array.getElem?_eq_some_iff.1 Hblk2.out).1 (fun e => by have := Option.some.inj e; omega)).trans Hblk2.out
              obtain ⟨z0, z1⟩ := cells2 hblk3
              have hB3 : Below w.heap.size w w3 := (Hwb.out.trans (hB2.mono hsz)).grown hg3 (by have := hB2.size; omega) (fun k e => by cases e; exact Nat.le_refl _)
              have Hcur3 : Hid (Cur w3 w.heap.size 0 (oneF 0) 0) := hcur3
              clear hr1 hcur3 hg3 hblk3
              go_wp2_with fail
              refine (rstep_bytes none 0 0 0 (by omega) (oneF 0) _ (Rd.nil _ _ _) (by omega)).mono ?_
              rintro e w4 ⟨rfl, hd4⟩
              have Hcur4 := hide (Hcur3.out.drawn hd4)
              go_wp2_with fail
              refine (atNil _).mono ?_
              rintro e w5 ⟨rfl, rfl⟩
              go_wp2_with fail
              refine (leftNil _).mono ?_
              rintro e w5 ⟨rfl, rfl⟩
              go_wp2_with fail
              refine (at_any _ 0 0 _ _ Hcur4.out).mono ?_
              rintro e w5 ⟨rfl, rfl⟩
              go_wp2_with fail
              refine (left_any _ 0 0 _ _ Hcur4.out).mono ?_
              rintro e w6 ⟨rfl, hd6⟩
              go_wp2_with fail
              go_roundw
              case rel => exact ⟨k + 1, by omega, by go_num, Hcur4.out.drawn hd6, (hB3.trans (drawn_below hd4 _)).trans (drawn_below hd6 _)⟩
              case measure => simp [intOf]; omega
        · have hd0 : (F k == 0) = false := by simpa using hf0
          have hd1 : (F k == 1) = false := by simpa using hf1
          have hd2 : (F k != 1) = true := by simpa using hf1
          clear hf0 hf1
          have hblk0 : (wr.alloc (.cells #[.int .i64 (F k), .int .i64 (G k)] 41)).heap[wr.heap.size]? = some (.cells #[.int .i64 (F k), .int .i64 (G k)] 41 (0, 0)) := heap_alloc_new wr _
          have Hblk0 := hide hblk0
          clear hblk0
          go_wp2_with fail
          refine (nil_rest (F k) (G k) hd0 hd1 _).mono ?_
          rintro e w2 ⟨rfl, hb2⟩
          have hB2 : Below wr.heap.size wr w2 := ((Below.refl _ _).alloc (Nat.le_refl _) _).of hb2
          have hblk2 : w2.heap[wr.heap.size]? = some (.cells #[.int .i64 (F k), .int .i64 (G k)] 41 (0, 0)) := (hb2.block _ (by simp)).trans Hblk0.out
          obtain ⟨y0, y1⟩ := cells2 hblk2
          have Hcur2 := hide (Hcur.out.below hB2)
          have Hblk2 := hide hblk2
          have hs2 := hB2.size
          clear hb2 hblk2
          go_wp2_with fail
          refine (step_rest w.heap.size 0 0 (F k) (G k) hd0 hd1 _ _ Hcur2.out).mono ?_
          rintro e w3 ⟨A1, c1, rfl, hr1, hcur3, hg3⟩
          have hblk3 : w3.heap[wr.heap.size]? = some (.cells #[.int .i64 (F k), .int .i64 (G k)] 41 (0, 0)) := (hg3.block wr.heap.size (Array.getElem?_eq_some_iff.1 Hblk2.out).1 (fun e => by have := Option.some.inj e; omega)).trans Hblk2.out
          obtain ⟨z0, z1⟩ := cells2 hblk3
          have hB3 : Below w.heap.size w w3 := (Hwb.out.trans (hB2.mono hsz)).grown hg3 (by have := hB2.size; omega) (fun k e => by cases e; exact Nat.le_refl _)
          have Hcur3 : Hid (Cur w3 w.heap.size 0 (oneF 0) 0) := hcur3
          clear hr1 hcur3 hg3 hblk3
          go_wp2_with fail
          refine (rstep_rest none 0 0 (F k) (G k) hd0 hd2 (oneF 0) _ (Rd.nil _ _ _) (by omega)).mono ?_
          rintro e w4 ⟨rfl, hd4⟩
          have Hcur4 := hide (Hcur3.out.drawn hd4)
          go_wp2_with fail
          refine (atNil _).mono ?_
          rintro e w5 ⟨rfl, rfl⟩
          go_wp2_with fail
          refine (leftNil _).mono ?_
          rintro e w5 ⟨rfl, rfl⟩
          go_wp2_with fail
          refine (at_any _ 0 0 _ _ Hcur4.out).mono ?_
          rintro e w5 ⟨rfl, rfl⟩
          go_wp2_with fail
          refine (left_any _ 0 0 _ _ Hcur4.out).mono ?_
          rintro e w6 ⟨rfl, hd6⟩
          go_wp2_with fail
          go_roundw
          case rel => exact ⟨k + 1, by omega, by go_num, Hcur4.out.drawn hd6, (hB3.trans (drawn_below hd4 _)).trans (drawn_below hd6 _)⟩
          case measure => simp [intOf]; omega
    · have hkm : k = m := by omega
      subst hkm
      clear hwb
      go_wp2_with fail
      refine (alive2 _).mono ?_
      rintro e w4 ⟨rfl, hb4⟩
      go_wp2_with fail
      go_ret
      exact ⟨rfl, Hwb.out.of hb4⟩
end Go.Proofs.Ytgjnmjakpiceiaa
