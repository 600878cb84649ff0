/- The chapter's example of layer 2, and the walk of the law on what is taken. -/
import Derived.Test.YtgjnmjakpiceiaaCur2
namespace Go.Proofs.Ytgjnmjakpiceiaa
open Go.RowKit

def lit3 : Nat → Int := fun i => (i : Int) + 1
theorem lit3_byt : Byt 3 lit3 := fun i hi => by unfold lit3; omega
theorem Rd.three (w : World) : Rd .u8 (w.alloc (.cells #[.int .u8 1, .int .u8 2, .int .u8 3] 5)) (some ⟨w.heap.size, 0, none⟩) 3 3 lit3 := by
  obtain ⟨A, c, e1, h, _⟩ := (Own.lit .u8 5 0 w lit3 #[.int .u8 1, .int .u8 2, .int .u8 3] 3 (Nat.zero_le _) (by simp [maxLen]) rfl).rd
  injection e1 with e1 _ e2
  subst e1
  subst e2
  exact h
theorem Rd.one' (w : World) {b : Nat} (hb : b = w.heap.size) (x : Int) : Rd .u8 (w.alloc (.cells #[.int .u8 x] 5)) (some ⟨b, 0, none⟩) 1 1 (oneF x) := by
  subst hb
  exact Rd.one .u8 5 w x
theorem num3 (p : Nat) (w : World) (h : Cur w p 3 lit3 0) : Calls Try.prog 32 #[.pointer (some ⟨p, 0, none⟩), .int .i64 2] w fun e w' => e = .returned (.tuple #[.int .i64 258, .int .i64 0]) ∧ Cur w' p 3 lit3 2 ∧ w.grownBy w' (some p) := by
  have h1 := number_ok p 3 0 2 lit3 w h lit3_byt (by omega) (by omega) (by omega)
  rw [show num (fun i => lit3 (0 + i)) 2 = 258 by decide] at h1
  exact h1
theorem num3b (p : Nat) (w : World) (h : Cur w p 3 lit3 2) : Calls Try.prog 32 #[.pointer (some ⟨p, 0, none⟩), .int .i64 2] w fun e w' => e = .returned (.tuple #[.int .i64 0, .int .i64 3]) ∧ Drawn w w' :=
  number_bad p 3 2 2 lit3 w h (by decide)
theorem rest3 (p : Nat) (w : World) (h : Cur w p 3 lit3 2) : Calls Try.prog 27 #[.pointer (some ⟨p, 0, none⟩)] w (Took w p 3 2 1 lit3) := rest_any p 3 2 lit3 w h
theorem rest_lit : ∀ i, i < 1 → (fun i => lit3 (2 + i)) i = oneF 3 i := by
  intro i hi
  obtain rfl : i = 0 := by omega
  decide
set_option maxHeartbeats 800000 in
theorem alive2 (w : World) : Calls Try.prog 20 #[] w (Yes w) := by
  go_enter Try.func20, Try.ntmps20
  go_wp2_with fail
  refine (cnew_any _ 3 3 lit3 _ (Rd.three w) (by omega)).mono ?_
  rintro e w1 ⟨p, rfl, hp, hc1, hb1⟩
  have hB1 : Below w.heap.size w w1 := ((Below.refl _ _).alloc (Nat.le_refl _) _).of hb1
  have Hc1 := hide hc1
  have hp1 : w.heap.size < p := by simp at hp; omega
  clear hc1 hb1 hp
  go_wp2_with fail
  refine (num3 p _ Hc1.out).mono ?_
  rintro e w2 ⟨rfl, hc2, hg2⟩
  have hB2 : Below w.heap.size w w2 := hB1.grown hg2 hB1.size (fun k e => by cases e; omega)
  have Hc2 := hide hc2
  clear hc2 hg2
  go_wp2_with fail
  refine (num3b p _ Hc2.out).mono ?_
  rintro e w3 ⟨rfl, hd3⟩
  have hB3 : Below w.heap.size w w3 := hB2.trans (drawn_below hd3 _)
  have Hc3 := hide (Hc2.out.drawn hd3)
  clear hd3
  go_wp2_with fail
  refine (rest3 p _ Hc3.out).mono ?_
  rintro e w4 ⟨A, c, rfl, hr4, _, _, hg4, _⟩
  have hB4 : Below w.heap.size w w4 := hB3.grown hg4 hB3.size (fun k e => by cases e; omega)
  have Hr4 := hide hr4
  clear hr4 hg4
  go_wp2_with fail
  refine (rsame_yes _ _ _ _ _ _ (oneF 3) _ (Hr4.out.alloc _) (Rd.one' _ (by simp) 3) rest_lit).mono ?_
  rintro e w5 ⟨rfl, hd5⟩
  go_wp2_with fail
  go_ret
  exact ⟨rfl, (hB4.alloc hB4.size _).trans (drawn_below hd5 _)⟩

theorem cells2 {W : World} {q : Nat} {a b : Value} {T : TypeId} (h : W.heap[q]? = some (.cells #[a, b] T (0, 0))) : W.cell? ⟨q, 0, none⟩ = some a ∧ W.cell? ⟨q, 1, none⟩ = some b := by
  have h0 := cell_of_row W q 0 _ _ _ h
  have h1 := cell_of_row W q 1 _ _ _ h
  simp at h0 h1
  exact ⟨h0, h1⟩

theorem quietD {P : Program} {g : FuncId} {args : Array Value} {w : World} {n : Nat} {v : Value} (h : Calls P g args (w.drewN n) fun e w' => e = .returned v ∧ Drawn (w.drewN n) w') :
    Calls P g args (w.drewN n) fun e w'' => e = .returned v ∧ ∃ m, w'' = w.drewN m :=
  h.mono fun _ _ ⟨he, m, hm⟩ => ⟨he, n + m, by rw [hm, World.drewN_drewN]⟩
/-- What the rounds of the law on what is taken hand on. -/
def CS (w : World) (p n : Nat) (f : Nat → Int) (t : Nat) (wr : World) : Prop := Cur wr p n f t ∧ w.heap.size ≤ p ∧ Below w.heap.size w wr

set_option maxRecDepth 100000 in
set_option maxHeartbeats 8000000 in
theorem steps_walk (A : Option Addr) (n c : Nat) (f : Nat → Int) (L : Option Addr) (m cl : Nat) (F G : Nat → Int) (w : World) (ha : Rd .u8 w A n c f) (hb : Byt n f) (hl : Rd2 w L m cl F G) :
    Calls Try.prog 7 #[.slice A n c, .slice L m cl] w (Yes w) := by
  have Ha := hide ha
  have Hb := hide hb
  have Hl := hide hl
  have hnc := ha.1
  clear ha hb hl
  by_cases hn : (2000 : Int) < (n : Int)
  · have hd : decide ((2000 : Int) < (n : Int)) = true := by simpa using hn
    go_enter Try.func7, Try.ntmps7
    go_wp2_with (go_at_call 20; refine (alive2 _).mono ?_; rintro e w' ⟨rfl, hb⟩)
    go_ret
    exact ⟨rfl, hb⟩
  have hdn : decide ((2000 : Int) < (n : Int)) = false := by simpa using hn
  by_cases hm : (60 : Int) < (m : Int)
  · have hd : decide ((60 : Int) < (m : Int)) = true := by simpa using hm
    go_enter Try.func7, Try.ntmps7
    go_wp2_with (go_at_call 20; refine (alive2 _).mono ?_; rintro e w' ⟨rfl, hb⟩)
    go_ret
    exact ⟨rfl, hb⟩
  have hdm : decide ((60 : Int) < (m : Int)) = false := by simpa using hm
  go_enter Try.func7, Try.ntmps7
  go_wp2_with fail
  refine (cnew_any A n c f _ Ha.out (by omega)).mono ?_
  rintro e w1 ⟨p, rfl, hp, hc1, hb1⟩
  have Hs1 : Hid (CS w p n f 0 w1) := ⟨hc1, hp, hb1⟩
  clear hc1 hb1
  go_wp2_with fail
  go_loopw [6, 31] (fun at' i wr => ∃ k t : Nat, k ≤ m ∧ i = .int .i64 k ∧ at' = .int .i64 t ∧ CS w p n f t wr) (fun _ i _ => m - (intOf i).toNat)
  case atStart => exact ⟨0, 0, Nat.zero_le _, rfl, rfl, Hs1.out⟩
  case round =>
    obtain ⟨k, t, hk, rfl, rfl, hcs⟩ := hrel
    have Hcs := hide hcs
    have hwb := hcs.2.2
    have htn : t ≤ n := by obtain ⟨_, _, _, _, _, h, _⟩ := hcs.1; exact h
    clear hcs Hs1
    by_cases hlt : k < m
    · obtain ⟨bl, offl, rfl, hc0, hc1⟩ := (Hl.out.below hwb).at_ hlt
      have hsz := hwb.size
      have Hra : Hid (Rd .u8 wr (cutA A c t) (n - t) (c - t) (fun i => f (t + i))) := (Ha.out.below hwb).cutR (hi := n) htn (Nat.le_refl _)
      have Hbt : Hid (Byt (n - t) (fun i => f (t + i))) := fun i hi => Hb.out (t + i) (by omega)
      have Hcut := hide (bytes_cut A n c t htn)
      have hpl := Hcs.out.1.lt
      have hst : Below wr.heap.size wr (wr.alloc (.cells #[.int .i64 (F k), .int .i64 (G k)] 41)) := (Below.refl _ _).alloc (Nat.le_refl _) _
      have Hst := hide hst
      clear hwb hst
      by_cases hf0 : F k = 0
      · rw [hf0] at hc0 Hst
        clear hf0
        by_cases he : getE (n - t) (G k) = 0
        · obtain ⟨e1, e2, e3⟩ := getE_ok he
          obtain ⟨s, hs⟩ := Int.eq_ofNat_of_zero_le (show 0 ≤ G k by omega)
          have hs' : G k = (s : Int) := hs
          rw [hs'] at hc1 Hst
          have s1 : 1 ≤ s := by omega
          have s2 : s ≤ 4 := by omega
          have s3 : t + s ≤ n := by omega
          clear he e1 e2 e3 hs hs'
          go_wp2_with fail
          refine (stp_num p n t s s1 s2 s3 f _ (Hcs.out.1.below Hst.out) Hb.out).mono ?_
          rintro e w2 ⟨A1, c1, rfl, hr1, hcur, hg⟩
          skip
          have hblk : w2.heap[wr.heap.size]? = some (.cells #[.int .i64 0, .int .i64 (s : Int)] 41 (0, 0)) := (hg.block wr.heap.size (by simp) (fun e => by have := Option.some.inj e; omega)).trans (heap_alloc_new wr _)
          obtain ⟨y0, y1⟩ := cells2 hblk
          have hg' : wr.grownBy w2 (some p) := grown_start Hst.out hg
          have hB2 : Below w.heap.size w w2 := Hcs.out.2.2.grown hg' hsz (fun k e => by cases e; exact Hcs.out.2.1)
          have Hra2 : Hid (Rd .u8 w2 (cutA A c t) (n - t) (c - t) (fun i => f (t + i))) := (Ha.out.below hB2).cutR (hi := n) htn (Nat.le_refl _)
          have Hr1 := hide hr1
          have Hcur := hide hcur
          have hcut := Hcut.out
          clear hr1 hcur hg hblk hg'
          go_wp2_with fail
          go_quiet ((go_at_call 23; exact quietD (rstep_num _ _ _ s s1 s2 (by omega) _ _ (Hra2.out.drewN _) (by omega) Hbt.out)))
          have hd3 : Drawn w2 (w2.drewN nq) := Drawn.of _ _
          clear hcut
          generalize hw3 : w2.drewN nq = w3 at *
          clear hw3
          go_wp2_with fail
          refine (rsame_yes _ _ 0 _ _ (oneF 0) (oneF 0) _ ((Hr1.out.drawn hd3).congr (fun i hi => absurd hi (by omega))) (Rd.nil _ _ _) (fun _ _ => rfl)).mono ?_
          rintro e w4 ⟨rfl, hd4⟩
          have hb4 : Below w2.heap.size w2 w4 := (drawn_below hd3 _).trans (drawn_below hd4 _)
          go_wp2_with fail
          refine (at_any p n (t + s) f _ (Hcur.out.below hb4)).mono ?_
          rintro e w5 ⟨rfl, rfl⟩
          go_wp2_with fail
          refine (left_any p n (t + s) f _ (Hcur.out.below hb4)).mono ?_
          rintro e w6 ⟨rfl, hd6⟩
          rw [show ((n - (t + s) : Nat) : Int) = (n : Int) - ((t : Int) + (s : Int)) by omega]
          go_wp2_with fail
          go_roundw
          case rel => exact ⟨k + 1, t + s, by omega, by go_num, by go_num, Hcur.out.below (hb4.trans (drawn_below hd6 _)), Hcs.out.2.1, hB2.trans (hb4.trans (drawn_below hd6 _) |>.mono hB2.size)⟩
          case measure => simp [intOf]; omega
        · have He := hide he
          clear he
          go_wp2_with fail
          refine (step_numbad p n t (G k) He.out f _ (Hcs.out.1.below Hst.out)).mono ?_
          rintro e w2 ⟨A1, c1, rfl, hr1, hcur, hg⟩
          skip
          have hblk : w2.heap[wr.heap.size]? = some (.cells #[.int .i64 0, .int .i64 (G k)] 41 (0, 0)) := (hg.block wr.heap.size (by simp) (fun e => by have := Option.some.inj e; omega)).trans (heap_alloc_new wr _)
          obtain ⟨y0, y1⟩ := cells2 hblk
          have hg' : wr.grownBy w2 (some p) := grown_start Hst.out hg
          have hB2 : Below w.heap.size w w2 := Hcs.out.2.2.grown hg' hsz (fun k e => by cases e; exact Hcs.out.2.1)
          have Hra2 : Hid (Rd .u8 w2 (cutA A c t) (n - t) (c - t) (fun i => f (t + i))) := (Ha.out.below hB2).cutR (hi := n) htn (Nat.le_refl _)
          have Hr1 := hide hr1
          have Hcur := hide hcur
          have hcut := Hcut.out
          clear hr1 hcur hg hblk hg'
          go_wp2_with fail
          go_quiet ((go_at_call 23; exact quietD (rstep_numbad _ _ _ (G k) He.out _ _ (Hra2.out.drewN _) (by omega))))
          have hd3 : Drawn w2 (w2.drewN nq) := Drawn.of _ _
          clear hcut
          generalize hw3 : w2.drewN nq = w3 at *
          clear hw3
          go_wp2_with fail
          refine (rsame_yes _ _ 0 _ _ (oneF 0) (oneF 0) _ ((Hr1.out.drawn hd3).congr (fun i hi => absurd hi (by omega))) (Rd.nil _ _ _) (fun _ _ => rfl)).mono ?_
          rintro e w4 ⟨rfl, hd4⟩
          have hb4 : Below w2.heap.size w2 w4 := (drawn_below hd3 _).trans (drawn_below hd4 _)
          go_wp2_with fail
          refine (at_any p n (t + 0) f _ (Hcur.out.below hb4)).mono ?_
          rintro e w5 ⟨rfl, rfl⟩
          go_wp2_with fail
          refine (left_any p n (t + 0) f _ (Hcur.out.below hb4)).mono ?_
          rintro e w6 ⟨rfl, hd6⟩
          rw [show ((n - (t + 0) : Nat) : Int) = (n : Int) - (t : Int) by omega]
          go_wp2_with fail
          go_roundw
          case rel => exact ⟨k + 1, t + 0, by omega, by go_num, by go_num, Hcur.out.below (hb4.trans (drawn_below hd6 _)), Hcs.out.2.1, hB2.trans (hb4.trans (drawn_below hd6 _) |>.mono hB2.size)⟩
          case measure => simp [intOf]; omega
      · by_cases hf1 : F k = 1
        · rw [hf1] at hc0 Hst
          clear hf0 hf1
          by_cases g0 : G k < 0
          · skip
            go_wp2_with fail
            refine (step_neg p n t (G k) g0 f _ (Hcs.out.1.below Hst.out)).mono ?_
            rintro e w2 ⟨A1, c1, rfl, hr1, hcur, hg⟩
            skip
            have hblk : w2.heap[wr.heap.size]? = some (.cells #[.int .i64 1, .int .i64 (G k)] 41 (0, 0)) := (hg.block wr.heap.size (by simp) (fun e => by have := Option.some.inj e; omega)).trans (heap_alloc_new wr _)
            obtain ⟨y0, y1⟩ := cells2 hblk
            have hg' : wr.grownBy w2 (some p) := grown_start Hst.out hg
            have hB2 : Below w.heap.size w w2 := Hcs.out.2.2.grown hg' hsz (fun k e => by cases e; exact Hcs.out.2.1)
            have Hra2 : Hid (Rd .u8 w2 (cutA A c t) (n - t) (c - t) (fun i => f (t + i))) := (Ha.out.below hB2).cutR (hi := n) htn (Nat.le_refl _)
            have Hr1 := hide hr1
            have Hcur := hide hcur
            have hcut := Hcut.out
            clear hr1 hcur hg hblk hg'
            go_wp2_with fail
            go_quiet ((go_at_call 23; exact quietD (rstep_neg _ _ _ (G k) g0 _ _ (Hra2.out.drewN _) (by omega))))
            have hd3 : Drawn w2 (w2.drewN nq) := Drawn.of _ _
            clear hcut
            generalize hw3 : w2.drewN nq = w3 at *
            clear hw3
            go_wp2_with fail
            refine (rsame_yes _ _ 0 _ _ (oneF 0) (oneF 0) _ ((Hr1.out.drawn hd3).congr (fun i hi => absurd hi (by omega))) (Rd.nil _ _ _) (fun _ _ => rfl)).mono ?_
            rintro e w4 ⟨rfl, hd4⟩
            have hb4 : Below w2.heap.size w2 w4 := (drawn_below hd3 _).trans (drawn_below hd4 _)
            go_wp2_with fail
            refine (at_any p n (t + 0) f _ (Hcur.out.below hb4)).mono ?_
            rintro e w5 ⟨rfl, rfl⟩
            go_wp2_with fail
            refine (left_any p n (t + 0) f _ (Hcur.out.below hb4)).mono ?_
            rintro e w6 ⟨rfl, hd6⟩
            rw [show ((n - (t + 0) : Nat) : Int) = (n : Int) - (t : Int) by omega]
            go_wp2_with fail
            go_roundw
            case rel => exact ⟨k + 1, t + 0, by omega, by go_num, by go_num, Hcur.out.below (hb4.trans (drawn_below hd6 _)), Hcs.out.2.1, hB2.trans (hb4.trans (drawn_below hd6 _) |>.mono hB2.size)⟩
            case measure => simp [intOf]; omega
          · by_cases g1 : ((n - t : Nat) : Int) < G k
            · have g0' : 0 ≤ G k := by omega
              clear g0
              go_wp2_with fail
              refine (step_short p n t (G k) g0' g1 f _ (Hcs.out.1.below Hst.out)).mono ?_
              rintro e w2 ⟨A1, c1, rfl, hr1, hcur, hg⟩
              skip
              have hblk : w2.heap[wr.heap.size]? = some (.cells #[.int .i64 1, .int .i64 (G k)] 41 (0, 0)) := (hg.block wr.heap.size (by simp) (fun e => by have := Option.some.inj e; omega)).trans (heap_alloc_new wr _)
              obtain ⟨y0, y1⟩ := cells2 hblk
              have hg' : wr.grownBy w2 (some p) := grown_start Hst.out hg
              have hB2 : Below w.heap.size w w2 := Hcs.out.2.2.grown hg' hsz (fun k e => by cases e; exact Hcs.out.2.1)
              have Hra2 : Hid (Rd .u8 w2 (cutA A c t) (n - t) (c - t) (fun i => f (t + i))) := (Ha.out.below hB2).cutR (hi := n) htn (Nat.le_refl _)
              have Hr1 := hide hr1
              have Hcur := hide hcur
              have hcut := Hcut.out
              clear hr1 hcur hg hblk hg'
              go_wp2_with fail
              go_quiet ((go_at_call 23; exact quietD (rstep_short _ _ _ (G k) g0' g1 _ _ (Hra2.out.drewN _) (by omega))))
              have hd3 : Drawn w2 (w2.drewN nq) := Drawn.of _ _
              clear hcut
              generalize hw3 : w2.drewN nq = w3 at *
              clear hw3
              go_wp2_with fail
              refine (rsame_yes _ _ 0 _ _ (oneF 0) (oneF 0) _ ((Hr1.out.drawn hd3).congr (fun i hi => absurd hi (by omega))) (Rd.nil _ _ _) (fun _ _ => rfl)).mono ?_
              rintro e w4 ⟨rfl, hd4⟩
              have hb4 : Below w2.heap.size w2 w4 := (drawn_below hd3 _).trans (drawn_below hd4 _)
              go_wp2_with fail
              refine (at_any p n (t + 0) f _ (Hcur.out.below hb4)).mono ?_
              rintro e w5 ⟨rfl, rfl⟩
              go_wp2_with fail
              refine (left_any p n (t + 0) f _ (Hcur.out.below hb4)).mono ?_
              rintro e w6 ⟨rfl, hd6⟩
              rw [show ((n - (t + 0) : Nat) : Int) = (n : Int) - (t : Int) by omega]
              go_wp2_with fail
              go_roundw
              case rel => exact ⟨k + 1, t + 0, by omega, by go_num, by go_num, Hcur.out.below (hb4.trans (drawn_below hd6 _)), Hcs.out.2.1, hB2.trans (hb4.trans (drawn_below hd6 _) |>.mono hB2.size)⟩
              case measure => simp [intOf]; omega
            · obtain ⟨s, hs⟩ := Int.eq_ofNat_of_zero_le (show 0 ≤ G k by omega)
              have hs' : G k = (s : Int) := hs
              rw [hs'] at hc1 Hst
              have s3 : t + s ≤ n := by omega
              have s4 : s ≤ n - t := by omega
              clear g0 g1 hs hs'
              go_wp2_with fail
              refine (step_bytes p n t s s3 f _ (Hcs.out.1.below Hst.out)).mono ?_
              rintro e w2 ⟨A1, c1, rfl, hr1, hcur, hg⟩
              skip
              have hblk : w2.heap[wr.heap.size]? = some (.cells #[.int .i64 1, .int .i64 (s : Int)] 41 (0, 0)) := (hg.block wr.heap.size (by simp) (fun e => by have := Option.some.inj e; omega)).trans (heap_alloc_new wr _)
              obtain ⟨y0, y1⟩ := cells2 hblk
              have hg' : wr.grownBy w2 (some p) := grown_start Hst.out hg
              have hB2 : Below w.heap.size w w2 := Hcs.out.2.2.grown hg' hsz (fun k e => by cases e; exact Hcs.out.2.1)
              have Hra2 : Hid (Rd .u8 w2 (cutA A c t) (n - t) (c - t) (fun i => f (t + i))) := (Ha.out.below hB2).cutR (hi := n) htn (Nat.le_refl _)
              have Hr1 := hide hr1
              have Hcur := hide hcur
              have hcut := Hcut.out
              clear hr1 hcur hg hblk hg'
              go_wp2_with fail
              go_quiet ((go_at_call 23; exact quietD (rstep_bytes _ _ _ s s4 _ _ (Hra2.out.drewN _) (by omega))))
              have hd3 : Drawn w2 (w2.drewN nq) := Drawn.of _ _
              clear hcut
              generalize hw3 : w2.drewN nq = w3 at *
              clear hw3
              go_wp2_with fail
              refine (rsame_yes _ _ _ _ _ _ _ _ (Hr1.out.drawn hd3) ((Hra2.out.drawn hd3).front s4) (fun _ _ => rfl)).mono ?_
              rintro e w4 ⟨rfl, hd4⟩
              have hb4 : Below w2.heap.size w2 w4 := (drawn_below hd3 _).trans (drawn_below hd4 _)
              go_wp2_with fail
              refine (at_any p n (t + s) f _ (Hcur.out.below hb4)).mono ?_
              rintro e w5 ⟨rfl, rfl⟩
              go_wp2_with fail
              refine (left_any p n (t + s) f _ (Hcur.out.below hb4)).mono ?_
              rintro e w6 ⟨rfl, hd6⟩
              rw [show ((n - (t + s) : Nat) : Int) = (n : Int) - ((t : Int) + (s : Int)) by omega]
              go_wp2_with fail
              go_roundw
              case rel => exact ⟨k + 1, t + s, by omega, by go_num, by go_num, Hcur.out.below (hb4.trans (drawn_below hd6 _)), Hcs.out.2.1, hB2.trans (hb4.trans (drawn_below hd6 _) |>.mono hB2.size)⟩
              case measure => simp [intOf]; omega
        · have hd0 : (F k == 0) = false := by simpa using hf0
          have hd1 : (F k == 1) = false := by simpa using hf1
          have hd2 : (F k != 1) = true := by simpa using hf1
          clear hf0 hf1
          go_wp2_with fail
          refine (step_rest p n t (F k) (G k) hd0 hd1 f _ (Hcs.out.1.below Hst.out)).mono ?_
          rintro e w2 ⟨A1, c1, rfl, hr1, hcur, hg⟩
          skip
          have hblk : w2.heap[wr.heap.size]? = some (.cells #[.int .i64 (F k), .int .i64 (G k)] 41 (0, 0)) := (hg.block wr.heap.size (by simp) (fun e => by have := Option.some.inj e; omega)).trans (heap_alloc_new wr _)
          obtain ⟨y0, y1⟩ := cells2 hblk
          have hg' : wr.grownBy w2 (some p) := grown_start Hst.out hg
          have hB2 : Below w.heap.size w w2 := Hcs.out.2.2.grown hg' hsz (fun k e => by cases e; exact Hcs.out.2.1)
          have Hra2 : Hid (Rd .u8 w2 (cutA A c t) (n - t) (c - t) (fun i => f (t + i))) := (Ha.out.below hB2).cutR (hi := n) htn (Nat.le_refl _)
          have Hr1 := hide hr1
          have Hcur := hide hcur
          have hcut := Hcut.out
          clear hr1 hcur hg hblk hg'
          go_wp2_with fail
          go_quiet ((go_at_call 23; exact quietD (rstep_rest _ _ _ (F k) (G k) hd0 hd2 _ _ (Hra2.out.drewN _) (by omega))))
          have hd3 : Drawn w2 (w2.drewN nq) := Drawn.of _ _
          clear hcut
          generalize hw3 : w2.drewN nq = w3 at *
          clear hw3
          go_wp2_with fail
          refine (rsame_yes _ _ _ _ _ _ _ _ (Hr1.out.drawn hd3) (Hra2.out.drawn hd3) (fun _ _ => rfl)).mono ?_
          rintro e w4 ⟨rfl, hd4⟩
          have hb4 : Below w2.heap.size w2 w4 := (drawn_below hd3 _).trans (drawn_below hd4 _)
          go_wp2_with fail
          refine (at_any p n (t + (n - t)) f _ (Hcur.out.below hb4)).mono ?_
          rintro e w5 ⟨rfl, rfl⟩
          rw [show ((t + (n - t) : Nat) : Int) = (t : Int) + ((n - t : Nat) : Int) by omega]
          go_wp2_with fail
          refine (left_any p n (t + (n - t)) f _ (Hcur.out.below hb4)).mono ?_
          rintro e w6 ⟨rfl, hd6⟩
          rw [show ((n - (t + (n - t)) : Nat) : Int) = (n : Int) - ((t : Int) + ((n - t : Nat) : Int)) by omega]
          go_wp2_with fail
          go_roundw
          case rel => exact ⟨k + 1, t + (n - t), by omega, by go_num, by go_num, Hcur.out.below (hb4.trans (drawn_below hd6 _)), Hcs.out.2.1, hB2.trans (hb4.trans (drawn_below hd6 _) |>.mono hB2.size)⟩
          case measure => simp [intOf]; omega
    · have hkm : k = m := by omega
      subst hkm
      clear hwb
      go_wp2_with fail
      refine (alive2 _).mono ?_
      rintro e w4 ⟨rfl, hb4⟩
      go_wp2_with fail
      go_ret
      exact ⟨rfl, Hcs.out.2.2.of hb4⟩
end Go.Proofs.Ytgjnmjakpiceiaa
