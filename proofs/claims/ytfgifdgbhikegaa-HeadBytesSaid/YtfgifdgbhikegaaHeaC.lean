/- Layer 7: the reference's bytes; the walk of HeadBytes. -/
import Derived.Test.YtfgifdgbhikegaaHeaB
namespace Go.Proofs.Ytfgifdgbhikegaa
open Go.RowKit

theorem S6keep {w1 w2 : World} (hb : Below w1.heap.size w1 w2) {a0 a1 a2 a3 a4 a5 : Addr} {v0 v1 v2 v3 v4 v5 : Value} (h : w1.cell? a0 = some v0 ∧ w1.cell? a1 = some v1 ∧ w1.cell? a2 = some v2 ∧ w1.cell? a3 = some v3 ∧ w1.cell? a4 = some v4 ∧ w1.cell? a5 = some v5) :
    w2.cell? a0 = some v0 ∧ w2.cell? a1 = some v1 ∧ w2.cell? a2 = some v2 ∧ w2.cell? a3 = some v3 ∧ w2.cell? a4 = some v4 ∧ w2.cell? a5 = some v5 :=
  ⟨cellKeep hb h.1, cellKeep hb h.2.1, cellKeep hb h.2.2.1, cellKeep hb h.2.2.2.1, cellKeep hb h.2.2.2.2.1, cellKeep hb h.2.2.2.2.2⟩
theorem S6grow {w1 w2 : World} {v : Value} (hg : w1.grownBy w2 v.ownBlock) {B : Nat} (hne : ∀ b, b < B → v.ownBlock ≠ some b) {a0 a1 a2 a3 a4 a5 : Addr} {v0 v1 v2 v3 v4 v5 : Value} (l0 : a0.block < B) (l1 : a1.block < B) (l2 : a2.block < B) (l3 : a3.block < B) (l4 : a4.block < B) (l5 : a5.block < B)
    (h : w1.cell? a0 = some v0 ∧ w1.cell? a1 = some v1 ∧ w1.cell? a2 = some v2 ∧ w1.cell? a3 = some v3 ∧ w1.cell? a4 = some v4 ∧ w1.cell? a5 = some v5) :
    w2.cell? a0 = some v0 ∧ w2.cell? a1 = some v1 ∧ w2.cell? a2 = some v2 ∧ w2.cell? a3 = some v3 ∧ w2.cell? a4 = some v4 ∧ w2.cell? a5 = some v5 :=
  ⟨hg.cell h.1 (fun e => hne _ l0 e.symm), hg.cell h.2.1 (fun e => hne _ l1 e.symm), hg.cell h.2.2.1 (fun e => hne _ l2 e.symm), hg.cell h.2.2.2.1 (fun e => hne _ l3 e.symm), hg.cell h.2.2.2.2.1 (fun e => hne _ l4 e.symm), hg.cell h.2.2.2.2.2 (fun e => hne _ l5 e.symm)⟩
set_option maxRecDepth 100000 in
set_option maxHeartbeats 3200000 in
theorem rhbytes_ok (fr t f s : Int) (r : Bool) (A : Option Addr) (n c : Nat) (g : Nat → Int) (w : World) (ha : Rd .u8 w A n c g) (hn : n ≤ 100000) (h : HdR n t f s) : Calls Try.prog 34 #[.agg #[.int .i64 fr, .int .i64 t, .int .i64 f, .int .i64 s, .bool r, .slice A n c]] w fun e w' =>
    ∃ A' c', e = .returned (.tuple #[.slice A' (9 + n) c', .bool true]) ∧ Rd .u8 w' A' (9 + n) c' (catF 9 (hdF n t f (hdX s r)) g) ∧ Below w.heap.size w w' := by
  obtain ⟨i0, hi, hz0, hz1, hz2⟩ := info_parts u8_info
  have hd : (t == -1) = false := by have := h.2.1.1; simp; omega
  have H := hide h
  have Ha := hide ha
  clear h ha
  obtain ⟨W, hW⟩ : ∃ W, W = ((w.alloc (.cells #[.int .i64 fr, .int .i64 t, .int .i64 f, .int .i64 s, .bool r, .slice A n c] 63)).alloc (.cells #[.int .i64 n, .int .i64 t, .int .i64 f, .int .i64 s, .bool r] 47)).alloc (.cells #[.int .i64 n, .int .i64 t, .int .i64 f, .int .i64 s, .bool r] 47) := ⟨_, rfl⟩
  have R0 : Hid (W.heap[w.heap.size]? = some (.cells #[.int .i64 fr, .int .i64 t, .int .i64 f, .int .i64 s, .bool r, .slice A n c] 63 (0, 0))) := by
    rw [hW]
    exact keepRow (keepRow (heap_alloc_new w _) ((Below.refl _ _).alloc (Nat.le_refl _) _)) ((Below.refl _ _).alloc (Nat.le_refl _) _)
  have R1 : Hid (W.heap[w.heap.size + 1]? = some (.cells #[.int .i64 n, .int .i64 t, .int .i64 f, .int .i64 s, .bool r] 47 (0, 0))) := by
    rw [hW]
    have := heap_alloc_new (w.alloc (.cells #[.int .i64 fr, .int .i64 t, .int .i64 f, .int .i64 s, .bool r, .slice A n c] 63)) (.cells #[.int .i64 n, .int .i64 t, .int .i64 f, .int .i64 s, .bool r] 47)
    rw [show (w.alloc (.cells #[.int .i64 fr, .int .i64 t, .int .i64 f, .int .i64 s, .bool r, .slice A n c] 63)).heap.size = w.heap.size + 1 by simp] at this
    exact keepRow this ((Below.refl _ _).alloc (Nat.le_refl _) _)
  have hB0 : Hid (Below w.heap.size w W) := by
    rw [hW]
    exact (((Below.refl w.heap.size w).alloc (Nat.le_refl _) _).alloc (by simp) _).alloc (by simp; omega) _
  have HW := hide hW
  clear hW
  go_enter Try.func34, Try.ntmps34
  go_wp2_with fail
  refine (rright_yesX n t f s r _ H.out).mono ?_
  rintro e w1 ⟨rfl, rfl⟩
  rw [← HW.out]
  obtain ⟨q0, q1, q2, q3, q4, q5⟩ := row6 R0.out
  obtain ⟨a0, a1, a2, a3, a4⟩ := row5 R1.out
  have hs : w.heap.size + 2 < W.heap.size := by rw [HW.out]; simp
  go_wp2_with fail
  go_region_held3 (fun w' : World => w'.cell? ⟨w.heap.size, 5, none⟩ = some (.slice A n c) ∧ w'.cell? ⟨w.heap.size + 1, 0, none⟩ = some (.int .i64 n) ∧ w'.cell? ⟨w.heap.size + 1, 1, none⟩ = some (.int .i64 t) ∧ w'.cell? ⟨w.heap.size + 1, 2, none⟩ = some (.int .i64 f) ∧ w'.cell? ⟨w.heap.size + 1, 3, none⟩ = some (.int .i64 s) ∧ w'.cell? ⟨w.heap.size + 1, 4, none⟩ = some (.bool r))
    ((first | (go_keep; done) | exact S6keep hb1 (by assumption) | exact S6grow hg2 Hne.out (by simp) (by simp) (by simp) (by simp) (by simp) (by simp) (by assumption)))
    ((first | (go_at_call 30; refine (hrput n t f s r _ H.out).mono ?_; rintro e w1 ⟨A1, k1, rfl, ho1, hb1⟩; have hs1 := hb1.size; (simp at hs1); have Hne : Hid (∀ b, b < w.heap.size + 2 → (Value.slice A1 9 k1).ownBlock ≠ some b) := (fun b hb => ho1.ne (by simp; omega)); have Ho1 := hide (ho1.baseB (B' := w.heap.size) (by simp; omega)); have hB1 := hide (hB0.out.drew.of hb1); have Ha1 := hide (Ha.out.below hB1.out)) | (refine step_app (by rfl) _ _ _ (by rfl) i0 0 1 Try.underlying49 hi hz0 hz1 hz2 w.heap.size (.slice A1 9 k1) 9 _ (by rfl) Ho1.out A n c g (by rfl) Ha1.out (by simp only [maxLen]; omega) (by omega) (by omega) ?_; intro v2 w2 hown2 hg2)))
  all_goals
    have hB2 := hide (hB1.out.grown hg2 hB1.out.size (fun j e => (World.ownsRow.lt Ho1.out j e).1))
    obtain ⟨A2, k2, rfl, hr2, _⟩ := hown2.rd
    have Hr2 := hide hr2
    clear hown2 hg2 hr2
    go_wp2_with fail
    go_ret2
    exact ⟨A2, k2, rfl, Hr2.out, hB2.out⟩

/-! ### the walk -/
set_option maxHeartbeats 800000 in
theorem hb_long (fr t f s : Int) (r : Bool) (A : Option Addr) (n c : Nat) (w : World) (h : 2000 < n) : Calls Try.prog 7 #[.agg #[.int .i64 fr, .int .i64 t, .int .i64 f, .int .i64 s, .bool r, .slice A n c]] w (Yes w) := by
  have hd : decide ((2000 : Int) < (n : Int)) = true := by simp; omega
  go_enter Try.func7, Try.ntmps7
  go_wp2_with fail
  refine (alive7 _).mono ?_
  rintro e w4 ⟨rfl, hb4⟩
  go_wp2_with fail
  go_ret
  exact ⟨rfl, ((Below.refl w.heap.size w).alloc (Nat.le_refl _) _).of hb4⟩
set_option maxRecDepth 100000 in
set_option maxHeartbeats 6400000 in
theorem hb_pre (fr f s : Int) (r : Bool) (A : Option Addr) (n c : Nat) (g : Nat → Int) (w : World) (ha : Rd .u8 w A n c g) (hn : n ≤ 2000) : Calls Try.prog 7 #[.agg #[.int .i64 fr, .int .i64 (-1), .int .i64 f, .int .i64 s, .bool r, .slice A n c]] w (Yes w) := by
    have hd : decide ((2000 : Int) < (n : Int)) = false := by simp; omega
    have Ha := hide ha
    have R0 := hide (heap_alloc_new w (.cells #[.int .i64 fr, .int .i64 (-1), .int .i64 f, .int .i64 s, .bool r, .slice A n c] 63))
    clear ha
    go_enter Try.func7, Try.ntmps7
    go_wp2_with fail
    refine (hbytes_pre fr f s r A n c g _ (Ha.out.alloc _) (by omega)).mono ?_
    rintro e w1 ⟨A1, c1, rfl, hr1, hb1⟩
    have R1 := hide (keepRow R0.out hb1)
    have hB1 := hide (((Below.refl w.heap.size w).alloc (Nat.le_refl _) _).of hb1)
    have Hr1 := hide hr1
    clear hr1
    clear hb1 R0
    obtain ⟨q0, q1, q2, q3, q4, q5⟩ := row6 R1.out
    go_wp2_with fail
    refine (rhbytes_pre fr f s r A n c _).mono ?_
    rintro e w2 ⟨rfl, hb2⟩
    have R2 := hide (keepRow R1.out hb2)
    have hB2 := hide (hB1.out.of hb2)
    have HX1 := hide (Hr1.out.below hb2)
    have HX2 := hide (Ha.out.below hB2.out)
    clear Hr1
    clear hb2 R1 q0 q1 q2 q3 q4 q5
    obtain ⟨q0, q1, q2, q3, q4, q5⟩ := row6 R2.out
    have hlt := rowLt R2.out
    obtain ⟨W, hW⟩ : ∃ W, W = ((w2.alloc (.cells #[.int .i64 fr, .int .i64 (-1), .int .i64 f, .int .i64 s, .bool r, .slice A n c] 63)).alloc (.cells #[.int .i64 n, .int .i64 (-1), .int .i64 f, .int .i64 s, .bool r] 48)).alloc (.cells #[.int .i64 n, .int .i64 (-1), .int .i64 f, .int .i64 s, .bool r] 48) := ⟨_, rfl⟩
    have hbW : Hid (Below w2.heap.size w2 W) := by
      rw [hW]
      exact ((((Below.refl _ _).alloc (Nat.le_refl _) _).alloc (by simp) _).alloc (by simp; omega) _)
    have RW := hide (keepRow R2.out hbW.out)
    have RH : Hid (W.heap[w2.heap.size + 2]? = some (.cells #[.int .i64 n, .int .i64 (-1), .int .i64 f, .int .i64 s, .bool r] 48 (0, 0))) := by
      rw [hW]
      have := heap_alloc_new ((w2.alloc (.cells #[.int .i64 fr, .int .i64 (-1), .int .i64 f, .int .i64 s, .bool r, .slice A n c] 63)).alloc (.cells #[.int .i64 n, .int .i64 (-1), .int .i64 f, .int .i64 s, .bool r] 48)) (.cells #[.int .i64 n, .int .i64 (-1), .int .i64 f, .int .i64 s, .bool r] 48)
      rw [show ((w2.alloc (.cells #[.int .i64 fr, .int .i64 (-1), .int .i64 f, .int .i64 s, .bool r, .slice A n c] 63)).alloc (.cells #[.int .i64 n, .int .i64 (-1), .int .i64 f, .int .i64 s, .bool r] 48)).heap.size = w2.heap.size + 2 by simp] at this
      exact this
    have hsW : W.heap.size = w2.heap.size + 3 := by rw [hW]; simp
    have hl2 : w2.heap.size + 2 < W.heap.size := by omega
    have HW := hide hW
    have hBW := hide (hB2.out.of hbW.out)
    clear hW
    have HsW := hide hsW
    go_wp2_with fail
    refine (hof fr ((-1)) f s r A n c _).mono ?_
    rintro e w3 ⟨rfl, rfl⟩
    clear q0 q1 q2 q3 q4 q5
    obtain ⟨q0, q1, q2, q3, q4, q5⟩ := row6 RW.out
    obtain ⟨d0, d1, d2, d3, d4⟩ := row5 RH.out
    have na : W.heap.size ≠ w.heap.size := by omega
    have na1 : W.heap.size + 1 ≠ w.heap.size := by omega
    have nb : W.heap.size ≠ w2.heap.size + 2 := by omega
    have nb1 : W.heap.size + 1 ≠ w2.heap.size + 2 := by omega
    clear hsW
    go_wp2_with fail
    rw [← HW.out]
    go_region_held3 (fun w' : World => w'.cell? ⟨w.heap.size, 1, none⟩ = some (.int .i64 ((-1))) ∧ w'.cell? ⟨w.heap.size, 2, none⟩ = some (.int .i64 f) ∧ w'.cell? ⟨w.heap.size, 3, none⟩ = some (.int .i64 s) ∧ w'.cell? ⟨w.heap.size, 4, none⟩ = some (.bool r) ∧ w'.cell? ⟨w.heap.size, 5, none⟩ = some (.slice A n c) ∧ w'.cell? ⟨w2.heap.size + 2, 0, none⟩ = some (.int .i64 n) ∧ w'.cell? ⟨w2.heap.size + 2, 1, none⟩ = some (.int .i64 ((-1))) ∧ w'.cell? ⟨w2.heap.size + 2, 2, none⟩ = some (.int .i64 f) ∧ w'.cell? ⟨w2.heap.size + 2, 3, none⟩ = some (.int .i64 s) ∧ w'.cell? ⟨w2.heap.size + 2, 4, none⟩ = some (.bool r)) (go_keep)
      ((go_at_call 32; refine (hown _ _ _ _ _ _).mono ?_; rintro e w' ⟨rfl, rfl⟩))
    all_goals
      generalize hV : World.drew _ = V
      have hbV : Hid (Below W.heap.size W V) := by
        subst hV
        repeat (first | exact Below.refl _ _ | refine Below.drew ?_ | refine Below.alloc ?_ (by first | omega | (simp; omega) | simp) _)
      clear hV
      have hBV := hide (hBW.out.of hbV.out)
      have Hs1 := hide ((HX1.out.below hbW.out).below hbV.out)
      have Hs2 := hide ((HX2.out.below hbW.out).below hbV.out)
      clear hbV hbW
      go_wp2_with fail
      refine (rsame_yes _ _ _ _ _ _ _ _ Hs1.out Hs2.out (fun _ _ => rfl)).mono ?_
      rintro e w5 ⟨rfl, hd5⟩
      have hB5 := hide (hBV.out.of (drawn_below hd5 _))
      clear hd5
      go_wp2_with fail
      refine (alive7 _).mono ?_
      rintro e w6 ⟨rfl, hb6⟩
      go_wp2_with fail
      go_ret
      exact ⟨rfl, hB5.out.of hb6⟩
set_option maxRecDepth 100000 in
set_option maxHeartbeats 6400000 in
theorem hb_bad (fr t f s : Int) (r : Bool) (A : Option Addr) (n c : Nat) (g : Nat → Int) (w : World) (ha : Rd .u8 w A n c g) (hn : n ≤ 2000) (ht : t ≠ -1) (h : ¬ HdR n t f s) : Calls Try.prog 7 #[.agg #[.int .i64 fr, .int .i64 t, .int .i64 f, .int .i64 s, .bool r, .slice A n c]] w (Yes w) := by
    have hd : decide ((2000 : Int) < (n : Int)) = false := by simp; omega
    have Ha := hide ha
    have R0 := hide (heap_alloc_new w (.cells #[.int .i64 fr, .int .i64 t, .int .i64 f, .int .i64 s, .bool r, .slice A n c] 63))
    clear ha
    have H := hide h
    have Ht := hide ht
    clear h ht
    go_enter Try.func7, Try.ntmps7
    go_wp2_with fail
    refine (hbytes_bad fr t f s r A n c _ Ht.out H.out).mono ?_
    rintro e w1 ⟨rfl, hb1⟩
    have R1 := hide (keepRow R0.out hb1)
    have hB1 := hide (((Below.refl w.heap.size w).alloc (Nat.le_refl _) _).of hb1)
    clear hb1 R0
    obtain ⟨q0, q1, q2, q3, q4, q5⟩ := row6 R1.out
    go_wp2_with fail
    refine (rhbytes_bad fr t f s r A n c _ Ht.out H.out).mono ?_
    rintro e w2 ⟨rfl, hb2⟩
    have R2 := hide (keepRow R1.out hb2)
    have hB2 := hide (hB1.out.of hb2)
    clear hb2 R1 q0 q1 q2 q3 q4 q5
    obtain ⟨q0, q1, q2, q3, q4, q5⟩ := row6 R2.out
    have hlt := rowLt R2.out
    obtain ⟨W, hW⟩ : ∃ W, W = ((w2.alloc (.cells #[.int .i64 fr, .int .i64 t, .int .i64 f, .int .i64 s, .bool r, .slice A n c] 63)).alloc (.cells #[.int .i64 n, .int .i64 t, .int .i64 f, .int .i64 s, .bool r] 48)).alloc (.cells #[.int .i64 n, .int .i64 t, .int .i64 f, .int .i64 s, .bool r] 48) := ⟨_, rfl⟩
    have hbW : Hid (Below w2.heap.size w2 W) := by
      rw [hW]
      exact ((((Below.refl _ _).alloc (Nat.le_refl _) _).alloc (by simp) _).alloc (by simp; omega) _)
    have RW := hide (keepRow R2.out hbW.out)
    have RH : Hid (W.heap[w2.heap.size + 2]? = some (.cells #[.int .i64 n, .int .i64 t, .int .i64 f, .int .i64 s, .bool r] 48 (0, 0))) := by
      rw [hW]
      have := heap_alloc_new ((w2.alloc (.cells #[.int .i64 fr, .int .i64 t, .int .i64 f, .int .i64 s, .bool r, .slice A n c] 63)).alloc (.cells #[.int .i64 n, .int .i64 t, .int .i64 f, .int .i64 s, .bool r] 48)) (.cells #[.int .i64 n, .int .i64 t, .int .i64 f, .int .i64 s, .bool r] 48)
      rw [show ((w2.alloc (.cells #[.int .i64 fr, .int .i64 t, .int .i64 f, .int .i64 s, .bool r, .slice A n c] 63)).alloc (.cells #[.int .i64 n, .int .i64 t, .int .i64 f, .int .i64 s, .bool r] 48)).heap.size = w2.heap.size + 2 by simp] at this
      exact this
    have hsW : W.heap.size = w2.heap.size + 3 := by rw [hW]; simp
    have hl2 : w2.heap.size + 2 < W.heap.size := by omega
    have HW := hide hW
    have hBW := hide (hB2.out.of hbW.out)
    clear hW
    have HsW := hide hsW
    go_wp2_with fail
    refine (hof fr (t) f s r A n c _).mono ?_
    rintro e w3 ⟨rfl, rfl⟩
    clear q0 q1 q2 q3 q4 q5
    obtain ⟨q0, q1, q2, q3, q4, q5⟩ := row6 RW.out
    obtain ⟨d0, d1, d2, d3, d4⟩ := row5 RH.out
    have na : W.heap.size ≠ w.heap.size := by omega
    have na1 : W.heap.size + 1 ≠ w.heap.size := by omega
    have nb : W.heap.size ≠ w2.heap.size + 2 := by omega
    have nb1 : W.heap.size + 1 ≠ w2.heap.size + 2 := by omega
    clear hsW
    go_wp2_with fail
    rw [← HW.out]
    go_region_held3 (fun w' : World => w'.cell? ⟨w.heap.size, 1, none⟩ = some (.int .i64 (t)) ∧ w'.cell? ⟨w.heap.size, 2, none⟩ = some (.int .i64 f) ∧ w'.cell? ⟨w.heap.size, 3, none⟩ = some (.int .i64 s) ∧ w'.cell? ⟨w.heap.size, 4, none⟩ = some (.bool r) ∧ w'.cell? ⟨w.heap.size, 5, none⟩ = some (.slice A n c) ∧ w'.cell? ⟨w2.heap.size + 2, 0, none⟩ = some (.int .i64 n) ∧ w'.cell? ⟨w2.heap.size + 2, 1, none⟩ = some (.int .i64 (t)) ∧ w'.cell? ⟨w2.heap.size + 2, 2, none⟩ = some (.int .i64 f) ∧ w'.cell? ⟨w2.heap.size + 2, 3, none⟩ = some (.int .i64 s) ∧ w'.cell? ⟨w2.heap.size + 2, 4, none⟩ = some (.bool r)) (go_keep)
      ((go_at_call 32; refine (hown _ _ _ _ _ _).mono ?_; rintro e w' ⟨rfl, rfl⟩))
    all_goals
      go_wp2_with fail
      refine (alive7 _).mono ?_
      rintro e w6 ⟨rfl, hb6⟩
      go_wp2_with fail
      go_ret
      refine ⟨rfl, Below.of ?_ hb6⟩
      repeat (first | exact hBW.out | refine Below.drew ?_ | refine Below.alloc ?_ (by first | omega | (simp; omega)) _)
set_option maxRecDepth 100000 in
set_option maxHeartbeats 6400000 in
theorem hb_ok (fr t f s : Int) (r : Bool) (A : Option Addr) (n c : Nat) (g : Nat → Int) (w : World) (ha : Rd .u8 w A n c g) (hn : n ≤ 2000) (h : HdR n t f s) : Calls Try.prog 7 #[.agg #[.int .i64 fr, .int .i64 t, .int .i64 f, .int .i64 s, .bool r, .slice A n c]] w (Yes w) := by
    have hd : decide ((2000 : Int) < (n : Int)) = false := by simp; omega
    have Ha := hide ha
    have R0 := hide (heap_alloc_new w (.cells #[.int .i64 fr, .int .i64 t, .int .i64 f, .int .i64 s, .bool r, .slice A n c] 63))
    clear ha
    have H := hide h
    clear h
    go_enter Try.func7, Try.ntmps7
    go_wp2_with fail
    refine (hbytes_ok fr t f s r A n c g _ (Ha.out.alloc _) (by omega) H.out).mono ?_
    rintro e w1 ⟨A1, c1, rfl, hr1, hb1⟩
    have R1 := hide (keepRow R0.out hb1)
    have hB1 := hide (((Below.refl w.heap.size w).alloc (Nat.le_refl _) _).of hb1)
    have Hr1 := hide hr1
    clear hr1
    clear hb1 R0
    obtain ⟨q0, q1, q2, q3, q4, q5⟩ := row6 R1.out
    go_wp2_with fail
    refine (rhbytes_ok fr t f s r A n c g _ (Ha.out.below hB1.out) (by omega) H.out).mono ?_
    rintro e w2 ⟨A2, c2, rfl, hr2, hb2⟩
    have R2 := hide (keepRow R1.out hb2)
    have hB2 := hide (hB1.out.of hb2)
    have HX1 := hide (Hr1.out.below hb2)
    have HX2 := hide hr2
    clear Hr1 hr2
    clear hb2 R1 q0 q1 q2 q3 q4 q5
    obtain ⟨q0, q1, q2, q3, q4, q5⟩ := row6 R2.out
    have hlt := rowLt R2.out
    obtain ⟨W, hW⟩ : ∃ W, W = ((w2.alloc (.cells #[.int .i64 fr, .int .i64 t, .int .i64 f, .int .i64 s, .bool r, .slice A n c] 63)).alloc (.cells #[.int .i64 n, .int .i64 t, .int .i64 f, .int .i64 s, .bool r] 48)).alloc (.cells #[.int .i64 n, .int .i64 t, .int .i64 f, .int .i64 s, .bool r] 48) := ⟨_, rfl⟩
    have hbW : Hid (Below w2.heap.size w2 W) := by
      rw [hW]
      exact ((((Below.refl _ _).alloc (Nat.le_refl _) _).alloc (by simp) _).alloc (by simp; omega) _)
    have RW := hide (keepRow R2.out hbW.out)
    have RH : Hid (W.heap[w2.heap.size + 2]? = some (.cells #[.int .i64 n, .int .i64 t, .int .i64 f, .int .i64 s, .bool r] 48 (0, 0))) := by
      rw [hW]
      have := heap_alloc_new ((w2.alloc (.cells #[.int .i64 fr, .int .i64 t, .int .i64 f, .int .i64 s, .bool r, .slice A n c] 63)).alloc (.cells #[.int .i64 n, .int .i64 t, .int .i64 f, .int .i64 s, .bool r] 48)) (.cells #[.int .i64 n, .int .i64 t, .int .i64 f, .int .i64 s, .bool r] 48)
      rw [show ((w2.alloc (.cells #[.int .i64 fr, .int .i64 t, .int .i64 f, .int .i64 s, .bool r, .slice A n c] 63)).alloc (.cells #[.int .i64 n, .int .i64 t, .int .i64 f, .int .i64 s, .bool r] 48)).heap.size = w2.heap.size + 2 by simp] at this
      exact this
    have hsW : W.heap.size = w2.heap.size + 3 := by rw [hW]; simp
    have hl2 : w2.heap.size + 2 < W.heap.size := by omega
    have HW := hide hW
    have hBW := hide (hB2.out.of hbW.out)
    clear hW
    have HsW := hide hsW
    go_wp2_with fail
    refine (hof fr (t) f s r A n c _).mono ?_
    rintro e w3 ⟨rfl, rfl⟩
    clear q0 q1 q2 q3 q4 q5
    obtain ⟨q0, q1, q2, q3, q4, q5⟩ := row6 RW.out
    obtain ⟨d0, d1, d2, d3, d4⟩ := row5 RH.out
    have na : W.heap.size ≠ w.heap.size := by omega
    have na1 : W.heap.size + 1 ≠ w.heap.size := by omega
    have nb : W.heap.size ≠ w2.heap.size + 2 := by omega
    have nb1 : W.heap.size + 1 ≠ w2.heap.size + 2 := by omega
    clear hsW
    go_wp2_with fail
    rw [← HW.out]
    go_region_held3 (fun w' : World => w'.cell? ⟨w.heap.size, 1, none⟩ = some (.int .i64 (t)) ∧ w'.cell? ⟨w.heap.size, 2, none⟩ = some (.int .i64 f) ∧ w'.cell? ⟨w.heap.size, 3, none⟩ = some (.int .i64 s) ∧ w'.cell? ⟨w.heap.size, 4, none⟩ = some (.bool r) ∧ w'.cell? ⟨w.heap.size, 5, none⟩ = some (.slice A n c) ∧ w'.cell? ⟨w2.heap.size + 2, 0, none⟩ = some (.int .i64 n) ∧ w'.cell? ⟨w2.heap.size + 2, 1, none⟩ = some (.int .i64 (t)) ∧ w'.cell? ⟨w2.heap.size + 2, 2, none⟩ = some (.int .i64 f) ∧ w'.cell? ⟨w2.heap.size + 2, 3, none⟩ = some (.int .i64 s) ∧ w'.cell? ⟨w2.heap.size + 2, 4, none⟩ = some (.bool r)) (go_keep)
      ((go_at_call 32; refine (hown _ _ _ _ _ _).mono ?_; rintro e w' ⟨rfl, rfl⟩))
    all_goals
      generalize hV : World.drew _ = V
      have hbV : Hid (Below W.heap.size W V) := by
        subst hV
        repeat (first | exact Below.refl _ _ | refine Below.drew ?_ | refine Below.alloc ?_ (by first | omega | (simp; omega) | simp) _)
      clear hV
      have hBV := hide (hBW.out.of hbV.out)
      have Hs1 := hide ((HX1.out.below hbW.out).below hbV.out)
      have Hs2 := hide ((HX2.out.below hbW.out).below hbV.out)
      clear hbV hbW
      go_wp2_with fail
      refine (rsame_yes _ _ _ _ _ _ _ _ Hs1.out Hs2.out (fun _ _ => rfl)).mono ?_
      rintro e w5 ⟨rfl, hd5⟩
      have hB5 := hide (hBV.out.of (drawn_below hd5 _))
      clear hd5
      go_wp2_with fail
      refine (alive7 _).mono ?_
      rintro e w6 ⟨rfl, hb6⟩
      go_wp2_with fail
      go_ret
      exact ⟨rfl, hB5.out.of hb6⟩
theorem hbytes_walk (fr t f s : Int) (r : Bool) (A : Option Addr) (n c : Nat) (g : Nat → Int) (w : World) (ha : Rd .u8 w A n c g) : Calls Try.prog 7 #[.agg #[.int .i64 fr, .int .i64 t, .int .i64 f, .int .i64 s, .bool r, .slice A n c]] w (Yes w) := by
  by_cases hn : 2000 < n
  · exact hb_long fr t f s r A n c w hn
  · by_cases ht : t = -1
    · subst ht; exact hb_pre fr f s r A n c g w ha (by omega)
    · by_cases h : HdR n t f s
      · exact hb_ok fr t f s r A n c g w ha (by omega) h
      · exact hb_bad fr t f s r A n c g w ha (by omega) ht h
end Go.Proofs.Ytfgifdgbhikegaa
