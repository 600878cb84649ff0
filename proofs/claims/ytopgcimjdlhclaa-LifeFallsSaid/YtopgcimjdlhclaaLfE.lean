/- Layer 33: the walk of LifeFalls. -/
import Derived.Test.YtopgcimjdlhclaaLfD
import Derived.Deep.Cut
namespace Go.Proofs.Ytopgcimjdlhclaa
open Go.RowKit

/-- A state that follows another. -/
def FallR (t E : LSt) : Prop := riB E.k E.o E.x E.y E.b = true ∧ t.k ≤ E.k ∧ E.o = t.o ∧ (t.k = 4 → E = t) ∧ (t.x = true → E.k = 3 → E.x = true) ∧ (t.y = true → E.k = 3 → E.y = true)
theorem FallR.self {t : LSt} (h : riB t.k t.o t.x t.y t.b = true) : FallR t t := ⟨h, Int.le_refl _, rfl, fun _ => rfl, fun hx _ => hx, fun hy _ => hy⟩
theorem riB_side {k o b : Int} {x y : Bool} (h : riB k o x y b = true) : sdB o = true := by
  unfold riB at h
  exact (Bool.and_eq_true _ _ ▸ h).1
theorem riB_three {o b : Int} {x y : Bool} (h : riB 3 o x y b = true) : b = 0 := by
  unfold riB at h
  simp at h
  exact h.2.2
theorem riB_closed {o b : Int} (h : sdB o = true) (hb : sdB b = true ∨ b = 2) : riB 4 o false false b = true := by
  unfold riB
  rw [h]
  rcases hb with hb | rfl
  · simp [hb]
  · simp
theorem enL_fall (t : LSt) (d : Int) (h : riB t.k t.o t.x t.y t.b = true) : FallR t (enL t d) := by
  obtain ⟨k, o, x, y, b⟩ := t
  unfold enL
  simp only at h ⊢
  split
  · rename_i hk
    obtain ⟨rfl, hd⟩ := hk
    have ho := riB_side h
    have hb := riB_three h
    subst hb
    have hcl := riB_closed ho (.inr (rfl : (2 : Int) = 2))
    split
    · cases y with
      | true => exact ⟨hcl, by simp, rfl, fun e => (by simp at e), fun _ e => (by simp at e), fun _ e => (by simp at e)⟩
      | false => exact ⟨by unfold riB; simp [ho], by simp, rfl, fun e => (by simp at e), fun _ _ => rfl, fun hy _ => hy⟩
    · cases x with
      | true => exact ⟨hcl, by simp, rfl, fun e => (by simp at e), fun _ e => (by simp at e), fun _ e => (by simp at e)⟩
      | false => exact ⟨by unfold riB; simp [ho], by simp, rfl, fun e => (by simp at e), fun hx _ => hx, fun _ _ => rfl⟩
  · exact FallR.self h
theorem reL_fall (t : LSt) (d : Int) (h : riB t.k t.o t.x t.y t.b = true) : FallR t (reL t d) := by
  obtain ⟨k, o, x, y, b⟩ := t
  unfold reL
  simp only at h ⊢
  split
  · rename_i hk
    have ho := riB_side h
    refine ⟨riB_closed ho (.inl hk.2), ?_, rfl, ?_, fun _ e => (by simp at e), fun _ e => (by simp at e)⟩
    · rcases hk.1 with rfl | rfl <;> simp
    · intro e
      rcases hk.1 with rfl | rfl <;> exact (by simp at e)
  · exact FallR.self h
theorem ends_fall (k o : Int) (x y : Bool) (b d : Int) (w : World) (h : riB k o x y b = true) : Calls Try.prog 21 #[.agg (StL k o x y b), .int .i64 d] w fun e w' => ∃ E : LSt, FallR ⟨k, o, x, y, b⟩ E ∧ e = .returned (.agg (StL E.k E.o E.x E.y E.b)) ∧ Below w.heap.size w w' :=
  (ends_any k o x y b d w).mono fun _ _ ⟨he, hb⟩ => ⟨_, enL_fall ⟨k, o, x, y, b⟩ d h, he, hb⟩
theorem resets_fall (k o : Int) (x y : Bool) (b d : Int) (w : World) (h : riB k o x y b = true) : Calls Try.prog 23 #[.agg (StL k o x y b), .int .i64 d] w fun e w' => ∃ E : LSt, FallR ⟨k, o, x, y, b⟩ E ∧ e = .returned (.agg (StL E.k E.o E.x E.y E.b)) ∧ Below w.heap.size w w' :=
  (resets_any k o x y b d w).mono fun _ _ ⟨he, hb⟩ => ⟨_, reL_fall ⟨k, o, x, y, b⟩ d h, he, hb⟩
theorem absF {p : World → Prop} (W0 : World) (R : World → Prop) (h0 : R W0) (h : ∀ W, R W → p W) : p W0 := h W0 h0
theorem keep5 {w : World} {b p : Nat} {cs : Array Value} {T : TypeId} (h : w.heap[b]? = some (.cells cs T (0, 0))) (hne : b ≠ p) (b0 b1 b2 b3 b4 : Value) : (((((w.setCell ⟨p, 0, none⟩ b0).setCell ⟨p, 1, none⟩ b1).setCell ⟨p, 2, none⟩ b2).setCell ⟨p, 3, none⟩ b3).setCell ⟨p, 4, none⟩ b4).heap[b]? = some (.cells cs T (0, 0)) :=
  keepOne (keepOne (keepOne (keepOne (keepOne h (grown_set _ p 0 b0) hne) (grown_set _ p 1 b1) hne) (grown_set _ p 2 b2) hne) (grown_set _ p 3 b3) hne) (grown_set _ p 4 b4) hne
set_option maxRecDepth 100000 in
set_option maxHeartbeats 12800000 in
theorem lifeFalls_walk (A : Option Addr) (n c : Nat) (F : Nat → Int) (sk so : Int) (sx sy : Bool) (sb : Int) (w : World) (ha : Rd .i8 w A n c F) : Calls Try.prog 5 #[.agg (StL sk so sx sy sb), .slice A n c] w (Yes w) := by
  have Ha := hide ha
  have h1 := fun W => rright33_any sk so sx sy sb W
  have o1 := fun W => own33_any sk so sx sy sb W
  have R0 := hide (heap_alloc_new w (.cells #[.int .i64 sk, .int .i64 so, .bool sx, .bool sy, .int .i64 sb] 24))
  have E0 := hide ((Below.refl w.heap.size w).alloc (Nat.le_refl _) (.cells #[.int .i64 sk, .int .i64 so, .bool sx, .bool sy, .int .i64 sb] 24))
  clear ha
  cases hri : riB sk so sx sy sb with
  | false =>
    rw [hri] at h1
    clear hri
    unfold StL at *
    go_enter Try.func5, Try.ntmps5
    go_wp2_with fail
    refine (h1 _).mono ?_
    rintro e w1 ⟨rfl, hb1⟩
    go_wp2_with fail
    refine (alive33 _).mono ?_
    rintro e w2 ⟨rfl, hb2⟩
    go_wp2_with fail
    go_ret
    exact ⟨rfl, (E0.out.of hb1).of hb2⟩
  | true =>
    rw [hri] at h1
    by_cases hl : 60 < n
    · have hd : decide ((60 : Int) < (n : Int)) = true := by simp; omega
      clear hri
      unfold StL at *
      go_enter Try.func5, Try.ntmps5
      go_wp2_with fail
      refine (h1 _).mono ?_
      rintro e w1 ⟨rfl, hb1⟩
      go_wp2_with fail
      refine (alive33 _).mono ?_
      rintro e w2 ⟨rfl, hb2⟩
      go_wp2_with fail
      go_ret
      exact ⟨rfl, (E0.out.of hb1).of hb2⟩
    have hd : decide ((60 : Int) < (n : Int)) = false := by simp; omega
    have Hn : Hid (n ≤ 60) := by show _ ≤ _; omega
    have Hri := hide hri
    clear hl hri
    unfold StL at h1 o1
    unfold StL
    go_enter Try.func5, Try.ntmps5
    go_wp2_with fail
    refine (h1 _).mono ?_
    rintro e w1 ⟨rfl, hb1⟩
    obtain ⟨c0, c1, c2, c3, c4⟩ := row5 (keepRow R0.out hb1)
    have B1 := hide (E0.out.of hb1)
    clear hb1
    go_wp2_with fail
    refine (o1 _).mono ?_
    rintro e w2 ⟨rfl, hb2⟩
    have B2 := hide (B1.out.of hb2)
    have B3 := hide (B2.out.alloc B2.out.size (.cells #[.int .i64 sk, .int .i64 so, .bool sx, .bool sy, .int .i64 sb] 27))
    have T3 := hide (heap_alloc_new w2 (.cells #[.int .i64 sk, .int .i64 so, .bool sx, .bool sy, .int .i64 sb] 27))
    obtain ⟨hz, hhz⟩ : ∃ z, z = w2.heap.size := ⟨_, rfl⟩
    have Hz : Hid (w.heap.size ≤ hz) := by show _ ≤ _; rw [hhz]; exact B2.out.size
    clear hb2 c0 c1 c2 c3 c4 h1 o1 R0 E0 B1 B2
    go_wp2_with fail
    rw [← hhz]
    rw [← hhz] at T3
    clear hhz
    go_loopw [22] (fun i wr => ∃ (k : Nat) (s : LSt), k ≤ n ∧ i = .int .i64 k ∧ riB s.k s.o s.x s.y s.b = true ∧ wr.heap[hz]? = some (.cells #[.int .i64 s.k, .int .i64 s.o, .bool s.x, .bool s.y, .int .i64 s.b] 27 (0, 0)) ∧ Below w.heap.size w wr) (fun i _ => n - (intOf i).toNat)
    case atStart => exact ⟨0, ⟨sk, so, sx, sy, sb⟩, Nat.zero_le _, rfl, Hri.out, T3.out, B3.out⟩
    case round =>
      obtain ⟨k, ⟨tk, to, tx, ty, tb⟩, hk, rfl, hR, hT, hB⟩ := hrel
      simp only at hR hT
      have HRi := hide hR
      have RTr := hide hT
      have HBr := hide hB
      have hlT := rowLt hT
      clear hR hT hB T3 B3
      by_cases hlt : k < n
      · obtain ⟨b0, off, rfl, hc⟩ := (Ha.out.below HBr.out).at_ hlt
        have hkn : (k : Int) < (n : Int) := by omega
        have hn := Hn.out
        have RT1 := hide (keepRow RTr.out ((Below.refl _ _).alloc (Nat.le_refl _) (.cells #[.int .i64 tk, .int .i64 to, .bool tx, .bool ty, .int .i64 tb] 27)))
        have RU1 := hide (heap_alloc_new wr (.cells #[.int .i64 tk, .int .i64 to, .bool tx, .bool ty, .int .i64 tb] 27))
        have HB1 := hide (HBr.out.alloc HBr.out.size (.cells #[.int .i64 tk, .int .i64 to, .bool tx, .bool ty, .int .i64 tb] 27))
        obtain ⟨t0, t1, t2, t3, t4⟩ := row5 RTr.out
        obtain ⟨d0, d1, d2, d3, d4⟩ := row5 RT1.out
        by_cases hneg : F k < 0
        · have dn : decide (F k < 0) = true := by simpa using hneg
          clear hneg
          go_wp2_with fail
          refine (resets_fall tk to tx ty tb _ _ HRi.out).mono ?_
          rintro e w3 ⟨⟨ek, eo, ex, ey, eb⟩, hF, rfl, hb3⟩
          obtain ⟨hE, hle, hoo, h4, hx, hy⟩ := hF
          simp only at hE hle hoo h4 hx hy
          subst hoo
          have T3 := hide (keepRow RT1.out hb3)
          have U3 := hide (keepRow RU1.out hb3)
          have B3 := hide (HB1.out.of hb3)
          have l3 := rowLt U3.out
          obtain ⟨⟨c0, f0⟩, ⟨c1, f1⟩, ⟨c2, f2⟩, ⟨c3, f3⟩, ⟨c4, f4⟩, r5⟩ := store5 U3.out (.int .i64 ek) (.int .i64 eo) (.bool ex) (.bool ey) (.int .i64 eb)
          have B5 := hide (below5 B3.out (p := wr.heap.size) HBr.out.size (.int .i64 ek) (.int .i64 eo) (.bool ex) (.bool ey) (.int .i64 eb))
          have T5 := hide (keep5 T3.out (p := wr.heap.size) (by omega) (.int .i64 ek) (.int .i64 eo) (.bool ex) (.bool ey) (.int .i64 eb))
          have R5 := hide r5
          have HE := hide hE
          have Hle := hide hle
          have H4 := hide h4
          have Hx := hide hx
          have Hy := hide hy
          clear r5 hb3 hE hle h4 hx hy d0 d1 d2 d3 d4
          go_upto_region 11 with (fail)
          refine absF _ (fun W => W.heap[hz]? = some (.cells #[.int .i64 tk, .int .i64 eo, .bool tx, .bool ty, .int .i64 tb] 27 (0, 0)) ∧ W.heap[wr.heap.size]? = some (.cells #[.int .i64 ek, .int .i64 eo, .bool ex, .bool ey, .int .i64 eb] 27 (0, 0)) ∧ Below w.heap.size w W) ⟨T5.out, R5.out, B5.out⟩ ?_
          clear c0 f0 c1 f1 c2 f2 c3 f3 c4 f4 T5 R5 B5 T3 U3 B3
          rintro W1 ⟨hT, hU, hB⟩
          have RT := hide hT
          have RU := hide hU
          have HB := hide hB
          clear hT hU hB
          obtain ⟨u0, u1, u2, u3, u4⟩ := row5 RU.out
          have m1 : (eo != eo) = false := by simp
          by_cases htk : tk = 4
          · have he4 := H4.out htk
            simp only [LSt.mk.injEq] at he4
            obtain ⟨h1, -, h3, h4, h5⟩ := he4
            have q1 := eqArrS tx ty
            subst htk
            subst h1
            subst h3
            subst h4
            subst h5
            have hn4 : Hid True := trivial
            clear H4 Hle Hx Hy
            cases ex <;> cases ey
            · go_wp2_with fail
              refine (right33_any 4 eo false false eb _).mono ?_
              rintro e w4 ⟨rfl, hb4⟩
              rw [HE.out]
              have T4 := hide (keepRow RT.out hb4)
              have U4 := hide (keepRow RU.out hb4)
              have B4 := hide (HB.out.of hb4)
              clear hb4 u0 u1 u2 u3 u4
              obtain ⟨u0, u1, u2, u3, u4⟩ := row5 U4.out
              obtain ⟨t0, t1, t2, t3, t4⟩ := row5 T4.out
              obtain ⟨⟨c0, f0⟩, ⟨c1, f1⟩, ⟨c2, f2⟩, ⟨c3, f3⟩, ⟨c4, f4⟩, r5⟩ := store5 T4.out (.int .i64 4) (.int .i64 eo) (.bool false) (.bool false) (.int .i64 eb)
              have B5 := hide (below5 B4.out (p := hz) Hz.out (.int .i64 4) (.int .i64 eo) (.bool false) (.bool false) (.int .i64 eb))
              have R5 := hide r5
              clear r5
              go_wp2_with fail
              go_roundw
              case rel => exact ⟨k + 1, ⟨4, eo, false, false, eb⟩, by omega, by go_num, HE.out, R5.out, B5.out⟩
              case measure => simp [intOf]; omega
            · go_wp2_with fail
              refine (right33_any 4 eo false true eb _).mono ?_
              rintro e w4 ⟨rfl, hb4⟩
              rw [HE.out]
              have T4 := hide (keepRow RT.out hb4)
              have U4 := hide (keepRow RU.out hb4)
              have B4 := hide (HB.out.of hb4)
              clear hb4 u0 u1 u2 u3 u4
              obtain ⟨u0, u1, u2, u3, u4⟩ := row5 U4.out
              obtain ⟨t0, t1, t2, t3, t4⟩ := row5 T4.out
              obtain ⟨⟨c0, f0⟩, ⟨c1, f1⟩, ⟨c2, f2⟩, ⟨c3, f3⟩, ⟨c4, f4⟩, r5⟩ := store5 T4.out (.int .i64 4) (.int .i64 eo) (.bool false) (.bool true) (.int .i64 eb)
              have B5 := hide (below5 B4.out (p := hz) Hz.out (.int .i64 4) (.int .i64 eo) (.bool false) (.bool true) (.int .i64 eb))
              have R5 := hide r5
              clear r5
              go_wp2_with fail
              go_roundw
              case rel => exact ⟨k + 1, ⟨4, eo, false, true, eb⟩, by omega, by go_num, HE.out, R5.out, B5.out⟩
              case measure => simp [intOf]; omega
            · go_wp2_with fail
              refine (right33_any 4 eo true false eb _).mono ?_
              rintro e w4 ⟨rfl, hb4⟩
              rw [HE.out]
              have T4 := hide (keepRow RT.out hb4)
              have U4 := hide (keepRow RU.out hb4)
              have B4 := hide (HB.out.of hb4)
              clear hb4 u0 u1 u2 u3 u4
              obtain ⟨u0, u1, u2, u3, u4⟩ := row5 U4.out
              obtain ⟨t0, t1, t2, t3, t4⟩ := row5 T4.out
              obtain ⟨⟨c0, f0⟩, ⟨c1, f1⟩, ⟨c2, f2⟩, ⟨c3, f3⟩, ⟨c4, f4⟩, r5⟩ := store5 T4.out (.int .i64 4) (.int .i64 eo) (.bool true) (.bool false) (.int .i64 eb)
              have B5 := hide (below5 B4.out (p := hz) Hz.out (.int .i64 4) (.int .i64 eo) (.bool true) (.bool false) (.int .i64 eb))
              have R5 := hide r5
              clear r5
              go_wp2_with fail
              go_roundw
              case rel => exact ⟨k + 1, ⟨4, eo, true, false, eb⟩, by omega, by go_num, HE.out, R5.out, B5.out⟩
              case measure => simp [intOf]; omega
            · go_wp2_with fail
              refine (right33_any 4 eo true true eb _).mono ?_
              rintro e w4 ⟨rfl, hb4⟩
              rw [HE.out]
              have T4 := hide (keepRow RT.out hb4)
              have U4 := hide (keepRow RU.out hb4)
              have B4 := hide (HB.out.of hb4)
              clear hb4 u0 u1 u2 u3 u4
              obtain ⟨u0, u1, u2, u3, u4⟩ := row5 U4.out
              obtain ⟨t0, t1, t2, t3, t4⟩ := row5 T4.out
              obtain ⟨⟨c0, f0⟩, ⟨c1, f1⟩, ⟨c2, f2⟩, ⟨c3, f3⟩, ⟨c4, f4⟩, r5⟩ := store5 T4.out (.int .i64 4) (.int .i64 eo) (.bool true) (.bool true) (.int .i64 eb)
              have B5 := hide (below5 B4.out (p := hz) Hz.out (.int .i64 4) (.int .i64 eo) (.bool true) (.bool true) (.int .i64 eb))
              have R5 := hide r5
              clear r5
              go_wp2_with fail
              go_roundw
              case rel => exact ⟨k + 1, ⟨4, eo, true, true, eb⟩, by omega, by go_num, HE.out, R5.out, B5.out⟩
              case measure => simp [intOf]; omega
          · have d4 : (tk == 4) = false := by simpa using htk
            have dl : decide (ek < tk) = false := decide_eq_false (by have := Hle.out; omega)
            clear htk H4 Hle
            cases tx with
            | false =>
              cases ty with
              | false =>
                go_wp2_with fail
                refine (right33_any ek eo ex ey eb _).mono ?_
                rintro e w4 ⟨rfl, hb4⟩
                rw [HE.out]
                have T4 := hide (keepRow RT.out hb4)
                have U4 := hide (keepRow RU.out hb4)
                have B4 := hide (HB.out.of hb4)
                clear hb4 u0 u1 u2 u3 u4
                obtain ⟨u0, u1, u2, u3, u4⟩ := row5 U4.out
                obtain ⟨t0, t1, t2, t3, t4⟩ := row5 T4.out
                obtain ⟨⟨c0, f0⟩, ⟨c1, f1⟩, ⟨c2, f2⟩, ⟨c3, f3⟩, ⟨c4, f4⟩, r5⟩ := store5 T4.out (.int .i64 ek) (.int .i64 eo) (.bool ex) (.bool ey) (.int .i64 eb)
                have B5 := hide (below5 B4.out (p := hz) Hz.out (.int .i64 ek) (.int .i64 eo) (.bool ex) (.bool ey) (.int .i64 eb))
                have R5 := hide r5
                clear r5
                go_wp2_with fail
                go_roundw
                case rel => exact ⟨k + 1, ⟨ek, eo, ex, ey, eb⟩, by omega, by go_num, HE.out, R5.out, B5.out⟩
                case measure => simp [intOf]; omega
              | true =>
                by_cases h3 : ek = 3
                · have e3 : (ek == 3) = true := by simpa using h3
                  obtain rfl : ey = true := Hy.out rfl h3
                  clear h3 Hx Hy
                  go_wp2_with fail
                  refine (right33_any ek eo ex true eb _).mono ?_
                  rintro e w4 ⟨rfl, hb4⟩
                  rw [HE.out]
                  have T4 := hide (keepRow RT.out hb4)
                  have U4 := hide (keepRow RU.out hb4)
                  have B4 := hide (HB.out.of hb4)
                  clear hb4 u0 u1 u2 u3 u4
                  obtain ⟨u0, u1, u2, u3, u4⟩ := row5 U4.out
                  obtain ⟨t0, t1, t2, t3, t4⟩ := row5 T4.out
                  obtain ⟨⟨c0, f0⟩, ⟨c1, f1⟩, ⟨c2, f2⟩, ⟨c3, f3⟩, ⟨c4, f4⟩, r5⟩ := store5 T4.out (.int .i64 ek) (.int .i64 eo) (.bool ex) (.bool true) (.int .i64 eb)
                  have B5 := hide (below5 B4.out (p := hz) Hz.out (.int .i64 ek) (.int .i64 eo) (.bool ex) (.bool true) (.int .i64 eb))
                  have R5 := hide r5
                  clear r5
                  go_wp2_with fail
                  go_roundw
                  case rel => exact ⟨k + 1, ⟨ek, eo, ex, true, eb⟩, by omega, by go_num, HE.out, R5.out, B5.out⟩
                  case measure => simp [intOf]; omega
                · have e3 : (ek == 3) = false := by simpa using h3
                  clear h3 Hx Hy
                  go_wp2_with fail
                  refine (right33_any ek eo ex ey eb _).mono ?_
                  rintro e w4 ⟨rfl, hb4⟩
                  rw [HE.out]
                  have T4 := hide (keepRow RT.out hb4)
                  have U4 := hide (keepRow RU.out hb4)
                  have B4 := hide (HB.out.of hb4)
                  clear hb4 u0 u1 u2 u3 u4
                  obtain ⟨u0, u1, u2, u3, u4⟩ := row5 U4.out
                  obtain ⟨t0, t1, t2, t3, t4⟩ := row5 T4.out
                  obtain ⟨⟨c0, f0⟩, ⟨c1, f1⟩, ⟨c2, f2⟩, ⟨c3, f3⟩, ⟨c4, f4⟩, r5⟩ := store5 T4.out (.int .i64 ek) (.int .i64 eo) (.bool ex) (.bool ey) (.int .i64 eb)
                  have B5 := hide (below5 B4.out (p := hz) Hz.out (.int .i64 ek) (.int .i64 eo) (.bool ex) (.bool ey) (.int .i64 eb))
                  have R5 := hide r5
                  clear r5
                  go_wp2_with fail
                  go_roundw
                  case rel => exact ⟨k + 1, ⟨ek, eo, ex, ey, eb⟩, by omega, by go_num, HE.out, R5.out, B5.out⟩
                  case measure => simp [intOf]; omega
            | true =>
              by_cases h3 : ek = 3
              · have e3 : (ek == 3) = true := by simpa using h3
                obtain rfl : ex = true := Hx.out rfl h3
                cases ty with
                | false =>
                  clear h3 Hx Hy
                  go_wp2_with fail
                  refine (right33_any ek eo true ey eb _).mono ?_
                  rintro e w4 ⟨rfl, hb4⟩
                  rw [HE.out]
                  have T4 := hide (keepRow RT.out hb4)
                  have U4 := hide (keepRow RU.out hb4)
                  have B4 := hide (HB.out.of hb4)
                  clear hb4 u0 u1 u2 u3 u4
                  obtain ⟨u0, u1, u2, u3, u4⟩ := row5 U4.out
                  obtain ⟨t0, t1, t2, t3, t4⟩ := row5 T4.out
                  obtain ⟨⟨c0, f0⟩, ⟨c1, f1⟩, ⟨c2, f2⟩, ⟨c3, f3⟩, ⟨c4, f4⟩, r5⟩ := store5 T4.out (.int .i64 ek) (.int .i64 eo) (.bool true) (.bool ey) (.int .i64 eb)
                  have B5 := hide (below5 B4.out (p := hz) Hz.out (.int .i64 ek) (.int .i64 eo) (.bool true) (.bool ey) (.int .i64 eb))
                  have R5 := hide r5
                  clear r5
                  go_wp2_with fail
                  go_roundw
                  case rel => exact ⟨k + 1, ⟨ek, eo, true, ey, eb⟩, by omega, by go_num, HE.out, R5.out, B5.out⟩
                  case measure => simp [intOf]; omega
                | true =>
                  obtain rfl : ey = true := Hy.out rfl h3
                  clear h3 Hx Hy
                  go_wp2_with fail
                  refine (right33_any ek eo true true eb _).mono ?_
                  rintro e w4 ⟨rfl, hb4⟩
                  rw [HE.out]
                  have T4 := hide (keepRow RT.out hb4)
                  have U4 := hide (keepRow RU.out hb4)
                  have B4 := hide (HB.out.of hb4)
                  clear hb4 u0 u1 u2 u3 u4
                  obtain ⟨u0, u1, u2, u3, u4⟩ := row5 U4.out
                  obtain ⟨t0, t1, t2, t3, t4⟩ := row5 T4.out
                  obtain ⟨⟨c0, f0⟩, ⟨c1, f1⟩, ⟨c2, f2⟩, ⟨c3, f3⟩, ⟨c4, f4⟩, r5⟩ := store5 T4.out (.int .i64 ek) (.int .i64 eo) (.bool true) (.bool true) (.int .i64 eb)
                  have B5 := hide (below5 B4.out (p := hz) Hz.out (.int .i64 ek) (.int .i64 eo) (.bool true) (.bool true) (.int .i64 eb))
                  have R5 := hide r5
                  clear r5
                  go_wp2_with fail
                  go_roundw
                  case rel => exact ⟨k + 1, ⟨ek, eo, true, true, eb⟩, by omega, by go_num, HE.out, R5.out, B5.out⟩
                  case measure => simp [intOf]; omega
              · have e3 : (ek == 3) = false := by simpa using h3
                clear h3 Hx Hy
                cases ty
                all_goals
                  go_wp2_with fail
                  refine (right33_any ek eo ex ey eb _).mono ?_
                  rintro e w4 ⟨rfl, hb4⟩
                  rw [HE.out]
                  have T4 := hide (keepRow RT.out hb4)
                  have U4 := hide (keepRow RU.out hb4)
                  have B4 := hide (HB.out.of hb4)
                  clear hb4 u0 u1 u2 u3 u4
                  obtain ⟨u0, u1, u2, u3, u4⟩ := row5 U4.out
                  obtain ⟨t0, t1, t2, t3, t4⟩ := row5 T4.out
                  obtain ⟨⟨c0, f0⟩, ⟨c1, f1⟩, ⟨c2, f2⟩, ⟨c3, f3⟩, ⟨c4, f4⟩, r5⟩ := store5 T4.out (.int .i64 ek) (.int .i64 eo) (.bool ex) (.bool ey) (.int .i64 eb)
                  have B5 := hide (below5 B4.out (p := hz) Hz.out (.int .i64 ek) (.int .i64 eo) (.bool ex) (.bool ey) (.int .i64 eb))
                  have R5 := hide r5
                  clear r5
                  go_wp2_with fail
                  go_roundw
                  case rel => exact ⟨k + 1, ⟨ek, eo, ex, ey, eb⟩, by omega, by go_num, HE.out, R5.out, B5.out⟩
                  case measure => simp [intOf]; omega
        · have dn : decide (F k < 0) = false := by simpa using hneg
          clear hneg
          go_wp2_with fail
          refine (ends_fall tk to tx ty tb _ _ HRi.out).mono ?_
          rintro e w3 ⟨⟨ek, eo, ex, ey, eb⟩, hF, rfl, hb3⟩
          obtain ⟨hE, hle, hoo, h4, hx, hy⟩ := hF
          simp only at hE hle hoo h4 hx hy
          subst hoo
          have T3 := hide (keepRow RT1.out hb3)
          have U3 := hide (keepRow RU1.out hb3)
          have B3 := hide (HB1.out.of hb3)
          have l3 := rowLt U3.out
          obtain ⟨⟨c0, f0⟩, ⟨c1, f1⟩, ⟨c2, f2⟩, ⟨c3, f3⟩, ⟨c4, f4⟩, r5⟩ := store5 U3.out (.int .i64 ek) (.int .i64 eo) (.bool ex) (.bool ey) (.int .i64 eb)
          have B5 := hide (below5 B3.out (p := wr.heap.size) HBr.out.size (.int .i64 ek) (.int .i64 eo) (.bool ex) (.bool ey) (.int .i64 eb))
          have T5 := hide (keep5 T3.out (p := wr.heap.size) (by omega) (.int .i64 ek) (.int .i64 eo) (.bool ex) (.bool ey) (.int .i64 eb))
          have R5 := hide r5
          have HE := hide hE
          have Hle := hide hle
          have H4 := hide h4
          have Hx := hide hx
          have Hy := hide hy
          clear r5 hb3 hE hle h4 hx hy d0 d1 d2 d3 d4
          go_upto_region 11 with (fail)
          refine absF _ (fun W => W.heap[hz]? = some (.cells #[.int .i64 tk, .int .i64 eo, .bool tx, .bool ty, .int .i64 tb] 27 (0, 0)) ∧ W.heap[wr.heap.size]? = some (.cells #[.int .i64 ek, .int .i64 eo, .bool ex, .bool ey, .int .i64 eb] 27 (0, 0)) ∧ Below w.heap.size w W) ⟨T5.out, R5.out, B5.out⟩ ?_
          clear c0 f0 c1 f1 c2 f2 c3 f3 c4 f4 T5 R5 B5 T3 U3 B3
          rintro W1 ⟨hT, hU, hB⟩
          have RT := hide hT
          have RU := hide hU
          have HB := hide hB
          clear hT hU hB
          obtain ⟨u0, u1, u2, u3, u4⟩ := row5 RU.out
          have m1 : (eo != eo) = false := by simp
          by_cases htk : tk = 4
          · have he4 := H4.out htk
            simp only [LSt.mk.injEq] at he4
            obtain ⟨h1, -, h3, h4, h5⟩ := he4
            have q1 := eqArrS tx ty
            subst htk
            subst h1
            subst h3
            subst h4
            subst h5
            have hn4 : Hid True := trivial
            clear H4 Hle Hx Hy
            cases ex <;> cases ey
            · go_wp2_with fail
              refine (right33_any 4 eo false false eb _).mono ?_
              rintro e w4 ⟨rfl, hb4⟩
              rw [HE.out]
              have T4 := hide (keepRow RT.out hb4)
              have U4 := hide (keepRow RU.out hb4)
              have B4 := hide (HB.out.of hb4)
              clear hb4 u0 u1 u2 u3 u4
              obtain ⟨u0, u1, u2, u3, u4⟩ := row5 U4.out
              obtain ⟨t0, t1, t2, t3, t4⟩ := row5 T4.out
              obtain ⟨⟨c0, f0⟩, ⟨c1, f1⟩, ⟨c2, f2⟩, ⟨c3, f3⟩, ⟨c4, f4⟩, r5⟩ := store5 T4.out (.int .i64 4) (.int .i64 eo) (.bool false) (.bool false) (.int .i64 eb)
              have B5 := hide (below5 B4.out (p := hz) Hz.out (.int .i64 4) (.int .i64 eo) (.bool false) (.bool false) (.int .i64 eb))
              have R5 := hide r5
              clear r5
              go_wp2_with fail
              go_roundw
              case rel => exact ⟨k + 1, ⟨4, eo, false, false, eb⟩, by omega, by go_num, HE.out, R5.out, B5.out⟩
              case measure => simp [intOf]; omega
            · go_wp2_with fail
              refine (right33_any 4 eo false true eb _).mono ?_
              rintro e w4 ⟨rfl, hb4⟩
              rw [HE.out]
              have T4 := hide (keepRow RT.out hb4)
              have U4 := hide (keepRow RU.out hb4)
              have B4 := hide (HB.out.of hb4)
              clear hb4 u0 u1 u2 u3 u4
              obtain ⟨u0, u1, u2, u3, u4⟩ := row5 U4.out
              obtain ⟨t0, t1, t2, t3, t4⟩ := row5 T4.out
              obtain ⟨⟨c0, f0⟩, ⟨c1, f1⟩, ⟨c2, f2⟩, ⟨c3, f3⟩, ⟨c4, f4⟩, r5⟩ := store5 T4.out (.int .i64 4) (.int .i64 eo) (.bool false) (.bool true) (.int .i64 eb)
              have B5 := hide (below5 B4.out (p := hz) Hz.out (.int .i64 4) (.int .i64 eo) (.bool false) (.bool true) (.int .i64 eb))
              have R5 := hide r5
              clear r5
              go_wp2_with fail
              go_roundw
              case rel => exact ⟨k + 1, ⟨4, eo, false, true, eb⟩, by omega, by go_num, HE.out, R5.out, B5.out⟩
              case measure => simp [intOf]; omega
            · go_wp2_with fail
              refine (right33_any 4 eo true false eb _).mono ?_
              rintro e w4 ⟨rfl, hb4⟩
              rw [HE.out]
              have T4 := hide (keepRow RT.out hb4)
              have U4 := hide (keepRow RU.out hb4)
              have B4 := hide (HB.out.of hb4)
              clear hb4 u0 u1 u2 u3 u4
              obtain ⟨u0, u1, u2, u3, u4⟩ := row5 U4.out
              obtain ⟨t0, t1, t2, t3, t4⟩ := row5 T4.out
              obtain ⟨⟨c0, f0⟩, ⟨c1, f1⟩, ⟨c2, f2⟩, ⟨c3, f3⟩, ⟨c4, f4⟩, r5⟩ := store5 T4.out (.int .i64 4) (.int .i64 eo) (.bool true) (.bool false) (.int .i64 eb)
              have B5 := hide (below5 B4.out (p := hz) Hz.out (.int .i64 4) (.int .i64 eo) (.bool true) (.bool false) (.int .i64 eb))
              have R5 := hide r5
              clear r5
              go_wp2_with fail
              go_roundw
              case rel => exact ⟨k + 1, ⟨4, eo, true, false, eb⟩, by omega, by go_num, HE.out, R5.out, B5.out⟩
              case measure => simp [intOf]; omega
            · go_wp2_with fail
              refine (right33_any 4 eo true true eb _).mono ?_
              rintro e w4 ⟨rfl, hb4⟩
              rw [HE.out]
              have T4 := hide (keepRow RT.out hb4)
              have U4 := hide (keepRow RU.out hb4)
              have B4 := hide (HB.out.of hb4)
              clear hb4 u0 u1 u2 u3 u4
              obtain ⟨u0, u1, u2, u3, u4⟩ := row5 U4.out
              obtain ⟨t0, t1, t2, t3, t4⟩ := row5 T4.out
              obtain ⟨⟨c0, f0⟩, ⟨c1, f1⟩, ⟨c2, f2⟩, ⟨c3, f3⟩, ⟨c4, f4⟩, r5⟩ := store5 T4.out (.int .i64 4) (.int .i64 eo) (.bool true) (.bool true) (.int .i64 eb)
              have B5 := hide (below5 B4.out (p := hz) Hz.out (.int .i64 4) (.int .i64 eo) (.bool true) (.bool true) (.int .i64 eb))
              have R5 := hide r5
              clear r5
              go_wp2_with fail
              go_roundw
              case rel => exact ⟨k + 1, ⟨4, eo, true, true, eb⟩, by omega, by go_num, HE.out, R5.out, B5.out⟩
              case measure => simp [intOf]; omega
          · have d4 : (tk == 4) = false := by simpa using htk
            have dl : decide (ek < tk) = false := decide_eq_false (by have := Hle.out; omega)
            clear htk H4 Hle
            cases tx with
            | false =>
              cases ty with
              | false =>
                go_wp2_with fail
                refine (right33_any ek eo ex ey eb _).mono ?_
                rintro e w4 ⟨rfl, hb4⟩
                rw [HE.out]
                have T4 := hide (keepRow RT.out hb4)
                have U4 := hide (keepRow RU.out hb4)
                have B4 := hide (HB.out.of hb4)
                clear hb4 u0 u1 u2 u3 u4
                obtain ⟨u0, u1, u2, u3, u4⟩ := row5 U4.out
                obtain ⟨t0, t1, t2, t3, t4⟩ := row5 T4.out
                obtain ⟨⟨c0, f0⟩, ⟨c1, f1⟩, ⟨c2, f2⟩, ⟨c3, f3⟩, ⟨c4, f4⟩, r5⟩ := store5 T4.out (.int .i64 ek) (.int .i64 eo) (.bool ex) (.bool ey) (.int .i64 eb)
                have B5 := hide (below5 B4.out (p := hz) Hz.out (.int .i64 ek) (.int .i64 eo) (.bool ex) (.bool ey) (.int .i64 eb))
                have R5 := hide r5
                clear r5
                go_wp2_with fail
                go_roundw
                case rel => exact ⟨k + 1, ⟨ek, eo, ex, ey, eb⟩, by omega, by go_num, HE.out, R5.out, B5.out⟩
                case measure => simp [intOf]; omega
              | true =>
                by_cases h3 : ek = 3
                · have e3 : (ek == 3) = true := by simpa using h3
                  obtain rfl : ey = true := Hy.out rfl h3
                  clear h3 Hx Hy
                  go_wp2_with fail
                  refine (right33_any ek eo ex true eb _).mono ?_
                  rintro e w4 ⟨rfl, hb4⟩
                  rw [HE.out]
                  have T4 := hide (keepRow RT.out hb4)
                  have U4 := hide (keepRow RU.out hb4)
                  have B4 := hide (HB.out.of hb4)
                  clear hb4 u0 u1 u2 u3 u4
                  obtain ⟨u0, u1, u2, u3, u4⟩ := row5 U4.out
                  obtain ⟨t0, t1, t2, t3, t4⟩ := row5 T4.out
                  obtain ⟨⟨c0, f0⟩, ⟨c1, f1⟩, ⟨c2, f2⟩, ⟨c3, f3⟩, ⟨c4, f4⟩, r5⟩ := store5 T4.out (.int .i64 ek) (.int .i64 eo) (.bool ex) (.bool true) (.int .i64 eb)
                  have B5 := hide (below5 B4.out (p := hz) Hz.out (.int .i64 ek) (.int .i64 eo) (.bool ex) (.bool true) (.int .i64 eb))
                  have R5 := hide r5
                  clear r5
                  go_wp2_with fail
                  go_roundw
                  case rel => exact ⟨k + 1, ⟨ek, eo, ex, true, eb⟩, by omega, by go_num, HE.out, R5.out, B5.out⟩
                  case measure => simp [intOf]; omega
                · have e3 : (ek == 3) = false := by simpa using h3
                  clear h3 Hx Hy
                  go_wp2_with fail
                  refine (right33_any ek eo ex ey eb _).mono ?_
                  rintro e w4 ⟨rfl, hb4⟩
                  rw [HE.out]
                  have T4 := hide (keepRow RT.out hb4)
                  have U4 := hide (keepRow RU.out hb4)
                  have B4 := hide (HB.out.of hb4)
                  clear hb4 u0 u1 u2 u3 u4
                  obtain ⟨u0, u1, u2, u3, u4⟩ := row5 U4.out
                  obtain ⟨t0, t1, t2, t3, t4⟩ := row5 T4.out
                  obtain ⟨⟨c0, f0⟩, ⟨c1, f1⟩, ⟨c2, f2⟩, ⟨c3, f3⟩, ⟨c4, f4⟩, r5⟩ := store5 T4.out (.int .i64 ek) (.int .i64 eo) (.bool ex) (.bool ey) (.int .i64 eb)
                  have B5 := hide (below5 B4.out (p := hz) Hz.out (.int .i64 ek) (.int .i64 eo) (.bool ex) (.bool ey) (.int .i64 eb))
                  have R5 := hide r5
                  clear r5
                  go_wp2_with fail
                  go_roundw
                  case rel => exact ⟨k + 1, ⟨ek, eo, ex, ey, eb⟩, by omega, by go_num, HE.out, R5.out, B5.out⟩
                  case measure => simp [intOf]; omega
            | true =>
              by_cases h3 : ek = 3
              · have e3 : (ek == 3) = true := by simpa using h3
                obtain rfl : ex = true := Hx.out rfl h3
                cases ty with
                | false =>
                  clear h3 Hx Hy
                  go_wp2_with fail
                  refine (right33_any ek eo true ey eb _).mono ?_
                  rintro e w4 ⟨rfl, hb4⟩
                  rw [HE.out]
                  have T4 := hide (keepRow RT.out hb4)
                  have U4 := hide (keepRow RU.out hb4)
                  have B4 := hide (HB.out.of hb4)
                  clear hb4 u0 u1 u2 u3 u4
                  obtain ⟨u0, u1, u2, u3, u4⟩ := row5 U4.out
                  obtain ⟨t0, t1, t2, t3, t4⟩ := row5 T4.out
                  obtain ⟨⟨c0, f0⟩, ⟨c1, f1⟩, ⟨c2, f2⟩, ⟨c3, f3⟩, ⟨c4, f4⟩, r5⟩ := store5 T4.out (.int .i64 ek) (.int .i64 eo) (.bool true) (.bool ey) (.int .i64 eb)
                  have B5 := hide (below5 B4.out (p := hz) Hz.out (.int .i64 ek) (.int .i64 eo) (.bool true) (.bool ey) (.int .i64 eb))
                  have R5 := hide r5
                  clear r5
                  go_wp2_with fail
                  go_roundw
                  case rel => exact ⟨k + 1, ⟨ek, eo, true, ey, eb⟩, by omega, by go_num, HE.out, R5.out, B5.out⟩
                  case measure => simp [intOf]; omega
                | true =>
                  obtain rfl : ey = true := Hy.out rfl h3
                  clear h3 Hx Hy
                  go_wp2_with fail
                  refine (right33_any ek eo true true eb _).mono ?_
                  rintro e w4 ⟨rfl, hb4⟩
                  rw [HE.out]
                  have T4 := hide (keepRow RT.out hb4)
                  have U4 := hide (keepRow RU.out hb4)
                  have B4 := hide (HB.out.of hb4)
                  clear hb4 u0 u1 u2 u3 u4
                  obtain ⟨u0, u1, u2, u3, u4⟩ := row5 U4.out
                  obtain ⟨t0, t1, t2, t3, t4⟩ := row5 T4.out
                  obtain ⟨⟨c0, f0⟩, ⟨c1, f1⟩, ⟨c2, f2⟩, ⟨c3, f3⟩, ⟨c4, f4⟩, r5⟩ := store5 T4.out (.int .i64 ek) (.int .i64 eo) (.bool true) (.bool true) (.int .i64 eb)
                  have B5 := hide (below5 B4.out (p := hz) Hz.out (.int .i64 ek) (.int .i64 eo) (.bool true) (.bool true) (.int .i64 eb))
                  have R5 := hide r5
                  clear r5
                  go_wp2_with fail
                  go_roundw
                  case rel => exact ⟨k + 1, ⟨ek, eo, true, true, eb⟩, by omega, by go_num, HE.out, R5.out, B5.out⟩
                  case measure => simp [intOf]; omega
              · have e3 : (ek == 3) = false := by simpa using h3
                clear h3 Hx Hy
                cases ty
                all_goals
                  go_wp2_with fail
                  refine (right33_any ek eo ex ey eb _).mono ?_
                  rintro e w4 ⟨rfl, hb4⟩
                  rw [HE.out]
                  have T4 := hide (keepRow RT.out hb4)
                  have U4 := hide (keepRow RU.out hb4)
                  have B4 := hide (HB.out.of hb4)
                  clear hb4 u0 u1 u2 u3 u4
                  obtain ⟨u0, u1, u2, u3, u4⟩ := row5 U4.out
                  obtain ⟨t0, t1, t2, t3, t4⟩ := row5 T4.out
                  obtain ⟨⟨c0, f0⟩, ⟨c1, f1⟩, ⟨c2, f2⟩, ⟨c3, f3⟩, ⟨c4, f4⟩, r5⟩ := store5 T4.out (.int .i64 ek) (.int .i64 eo) (.bool ex) (.bool ey) (.int .i64 eb)
                  have B5 := hide (below5 B4.out (p := hz) Hz.out (.int .i64 ek) (.int .i64 eo) (.bool ex) (.bool ey) (.int .i64 eb))
                  have R5 := hide r5
                  clear r5
                  go_wp2_with fail
                  go_roundw
                  case rel => exact ⟨k + 1, ⟨ek, eo, ex, ey, eb⟩, by omega, by go_num, HE.out, R5.out, B5.out⟩
                  case measure => simp [intOf]; omega
      · obtain rfl : k = n := by omega
        go_wp2_with fail
        refine (alive33 _).mono ?_
        rintro e w4 ⟨rfl, hb4⟩
        go_wp2_with fail
        go_ret
        exact ⟨rfl, HBr.out.of hb4⟩
end Go.Proofs.Ytopgcimjdlhclaa
