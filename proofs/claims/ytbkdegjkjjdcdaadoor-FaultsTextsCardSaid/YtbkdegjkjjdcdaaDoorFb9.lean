/- Layer 9: the set of any faults, by the document. -/
import Derived.Test.YtbkdegjkjjdcdaaDoorFb8
import Derived.Test.YtbkdegjkjjdcdaaDoorMj1
import Derived.Deep.RegionHeld3
namespace Go.Proofs.YtbkdegjkjjdcdaaDoor
set_option linter.unusedVariables false
set_option linter.unusedSimpArgs false
open Go.RowKit Go.PlainAid

theorem hasB_mem {n : Nat} {f g : Nat → Int} {s d : Int} : hasB n f g s d = true ↔ (s, d) ∈ lsF n f g := by
  unfold hasB
  rw [decide_eq_true_iff, lsF_mem]
  constructor
  · intro h
    by_cases k : ∃ i, i < n ∧ (s, d) = (f i, g i)
    · exact k
    · exact absurd (fun i hi e => k ⟨i, hi, by rw [e.1, e.2]⟩) h
  · rintro ⟨i, hi, e⟩ h
    have := Prod.mk.inj e
    exact h i hi ⟨this.1.symm, this.2.symm⟩
/-- What holds all through the round's test: the two cells of the fault at hand, the box of the best one, and that nothing old is written. -/
def OfS (T : TypeId) (b o q : Nat) (x y bx cy : Int) (wr W : World) : Prop :=
  W.cell? ⟨b, o, none⟩ = some (.int .i64 x) ∧ W.cell? ⟨b, o + 1, none⟩ = some (.int .i64 y) ∧ W.cell? ⟨q, 0, none⟩ = some (.int .i64 bx) ∧ W.cell? ⟨q, 1, none⟩ = some (.int .i64 cy) ∧
    W.heap[q]? = some (.cells #[.int .i64 bx, .int .i64 cy] T (0, 0)) ∧ Below q wr W
theorem OfS.below {T : TypeId} {b o q : Nat} {x y bx cy : Int} {wr W : World} (h : OfS T b o q x y bx cy wr W) : Below q wr W := h.2.2.2.2.2
theorem OfS.next {T : TypeId} {b o q : Nat} {x y bx cy : Int} {wr W v : World} (h : OfS T b o q x y bx cy wr W) (hv : Below W.heap.size W v) : OfS T b o q x y bx cy wr v := by
  obtain ⟨h1, h2, h3, h4, h5, h6⟩ := h
  have kc := fun {a : Addr} {u : Value} (k : W.cell? a = some u) => (hv.cell (World.block_lt_of_cell? W _ k)).trans k
  have hq : q ≤ W.heap.size := Nat.le_of_lt (Array.getElem?_eq_some_iff.1 h5).1
  exact ⟨kc h1, kc h2, kc h3, kc h4, keepRow h5 hv, h6.trans (hv.mono hq)⟩
set_option maxRecDepth 20000 in
set_option maxHeartbeats 6400000 in
/-- The document's set is the same. -/
theorem rof09 (A : Option Addr) (n c : Nat) (f g : Nat → Int) (w : World) (ha : Rd2 w A n c f g) (hn : n ≤ 100000) :
    Calls Tryd.prog 18 #[.slice A n c] w (SetE (lsF n f g) w) := by
  have h63 : n ≤ 9223372036854775807 := by omega
  obtain ⟨i0, hi, hz0, hz1, hz2⟩ := info_parts flt09_info
  have Ha := hide ha
  clear ha
  go_enter Tryd.func18, Tryd.ntmps18
  go_wp2_with fail
  go_loopw [3, 4] (fun v i wr => ∃ (r m : Nat) (f' g' : Nat → Int), r ≤ n ∧ m ≤ r ∧ i = .int .i64 r ∧ OwnV 2 31 w.heap.size wr v m (pr f' g') ∧ lsF m f' g' = (setL (lsF n f g)).take r ∧ Below w.heap.size w wr) (fun _ i _ => n - (intOf i).toNat)
  case atStart => exact ⟨0, 0, fun _ => 0, fun _ => 0, Nat.zero_le _, Nat.le_refl _, rfl, OwnV.nil _ _ _ _ _, by simp [lsF], Below.refl _ _⟩
  case round =>
    obtain ⟨r, m, f', g', hr, hmr, rfl, hown, hls, hB⟩ := hrel
    obtain ⟨wo, rfl⟩ : ∃ wo, wo = wr := ⟨wr, rfl⟩
    have Hown := hide hown
    have Hls := hide hls
    have HB := hide hB
    have hsz := hB.size
    obtain ⟨A0, c0, rfl, hro, hzz⟩ := hown.rd
    have HZ := hide hzz
    clear hzz
    have HRo0 := hide (rd2_of_rdV hro)
    clear hown hls hB hro
    by_cases hlt : r < n
    · have d1 : decide ((r : Int) < (n : Int)) = true := decide_eq_true (by omega)
      go_wp2_with fail
      have R0 := heap_alloc_new wo (.cells #[.int .i64 0, .int .i64 0] 31)
      have B0 : Below wo.heap.size wo (wo.alloc (.cells #[.int .i64 0, .int .i64 0] 31)) := (Below.refl _ _).alloc (Nat.le_refl _) _
      generalize wo.alloc (.cells #[.int .i64 0, .int .i64 0] 31) = W0 at *
      have HOB : ∀ w2, Below wo.heap.size wo w2 → Below w.heap.size w w2 := fun w2 h => HB.out.of h
      have HOR : ∀ w2, Below wo.heap.size wo w2 → Rd2 w2 A0 m c0 f' g' := fun w2 h => HRo0.out.below h
      have HOO : ∀ w2, Below wo.heap.size wo w2 → OwnV 2 31 w.heap.size w2 (.slice A0 m c0) m (pr f' g') := fun w2 h => Hown.out.below h
      have HSET : ∀ w2 u v, Below wo.heap.size wo w2 → Below wo.heap.size wo ((w2.setCell ⟨wo.heap.size, 0, none⟩ u).setCell ⟨wo.heap.size, 1, none⟩ v) := fun w2 u v h => (h.setCell (p := ⟨wo.heap.size, 0, none⟩) (Nat.le_refl _) u).setCell (p := ⟨wo.heap.size, 1, none⟩) (Nat.le_refl _) v
      have HSET := hide HSET
      have HOB := hide HOB
      have HOR := hide HOR
      have HOO := hide HOO
      have HB0 := hide B0
      have HR0 := hide R0
      clear B0 R0
      generalize hq : wo.heap.size = q at *
      go_loopw [6] (fun i2 w2 => ∃ (j : Nat) (bx cy : Int), j ≤ n ∧ i2 = .int .i64 j ∧ BestR (lsF j f g) ((setL (lsF n f g)).take r) (bx, cy) ∧ w2.heap[q]? = some (.cells #[.int .i64 bx, .int .i64 cy] 31 (0, 0)) ∧ Below q wo w2) (fun i2 _ => n - (intOf i2).toNat)
      case atStart => exact ⟨0, 0, 0, Nat.zero_le _, rfl, BestR.nil _, HR0.out, HB0.out⟩
      case round =>
        obtain ⟨j, bx, cy, hj, rfl, hbest, hrow, hbl⟩ := hrel
        have HBest := hide hbest
        have HRow := hide hrow
        have HBl := hide hbl
        clear hbest hbl
        by_cases hlt2 : j < n
        · obtain ⟨b, off, rfl, c0a, c1a⟩ := (Ha.out.below (HOB.out _ HBl.out)).at_ hlt2
          obtain ⟨b0a, b1a⟩ := row2 hrow
          have d2 : decide ((j : Int) < (n : Int)) = true := decide_eq_true (by omega)
          obtain ⟨x, hx⟩ : ∃ x, f j = x := ⟨_, rfl⟩
          obtain ⟨y, hy⟩ : ∃ y, g j = y := ⟨_, rfl⟩
          rw [hx] at c0a
          rw [hy] at c1a
          have HNX : Hid (lsF (j + 1) f g = lsF j f g ++ [(x, y)]) := by
            show _ = _
            rw [lsF_succ, hx, hy]
          clear hx hy hrow
          obtain ⟨r1, hr1⟩ : ∃ r1, rightB x y = r1 := ⟨_, rfl⟩
          obtain ⟨hs, hhs⟩ : ∃ hs, hasB m f' g' x y = hs := ⟨_, rfl⟩
          obtain ⟨r2, hr2⟩ : ∃ r2, rightB bx cy = r2 := ⟨_, rfl⟩
          obtain ⟨ls, hle⟩ : ∃ ls, ltB (x, y) (bx, cy) = ls := ⟨_, rfl⟩
          have K1 : Hid (∀ W', Calls Tryd.prog 23 #[.agg #[.int .i64 x, .int .i64 y]] W' fun e w' => e = .returned (.bool r1) ∧ Below W'.heap.size W' w') := fun W' => by
            rw [← hr1]
            exact rright09 x y W'
          have K2 : Hid (∀ W', Below q wo W' → Calls Tryd.prog 21 #[.slice A0 m c0, .agg #[.int .i64 x, .int .i64 y]] W' fun e w' => e = .returned (.bool hs) ∧ Below W'.heap.size W' w') := fun W' hb => by
            rw [← hhs]
            exact rhas09 A0 m c0 f' g' x y W' (HOR.out _ hb)
          have K3 : Hid (∀ W', Calls Tryd.prog 23 #[.agg #[.int .i64 bx, .int .i64 cy]] W' fun e w' => e = .returned (.bool r2) ∧ Below W'.heap.size W' w') := fun W' => by
            rw [← hr2]
            exact rright09 bx cy W'
          have K4 : Hid (∀ W', Calls Tryd.prog 25 #[.agg #[.int .i64 x, .int .i64 y], .agg #[.int .i64 bx, .int .i64 cy]] W' fun e w' => e = .returned (.bool ls) ∧ Below W'.heap.size W' w') := fun W' => by
            rw [← hle]
            exact rless09 x y bx cy W'
          have HMEM : Hid (hs = true ↔ (x, y) ∈ (setL (lsF n f g)).take r) := by
            show _ ↔ _
            rw [← Hls.out, ← hhs]
            exact hasB_mem
          have HLT : Hid (ls = true ↔ LtP (x, y) (bx, cy)) := by
            show _ ↔ _
            rw [← hle]
            unfold ltB
            exact decide_eq_true_iff
          have HR1 := hide hr1
          have HR2 := hide hr2
          clear hr1 hhs hr2 hle
          have HKEEP : Hid (∀ bb, bb = true → True) := fun _ _ => trivial
          go_wp2_with fail
          cases r1
          · skip
            refine wp_region_held_drew (S := OfS 31 b (off + j * 2) q x y bx cy wo) (by kernel_rfl) ⟨c0a, c1a, b0a, b1a, HRow.out, HBl.out.drew⟩ (fun hHeld => ?_)
            refine wpAnyH_take (i := 0) (oi := ⟨some 20, .move (.tmp 0), _, _, _, _⟩) (v := ?vv1) rfl (by kernel_rfl) (by kernel_rfl) (by kernel_rfl) (fun _ _ _ h => h) (Or.inl ⟨by rfl, ?hy1⟩) (by assumption) ?_
            case hy1 =>
              intro w' hSw
              obtain ⟨s1, s2, s3, s4, _, _⟩ := hSw
              go_simp
              try with_reducible rfl
            try simp only [Act.put, List.setIfInBounds_toArray, List.set_cons_zero, List.set_cons_succ]
            refine wpAnyH_take (i := 1) (oi := ⟨some 21, .move (.tmp 6), _, _, _, _⟩) (v := ?vv2) rfl (by kernel_rfl) (by kernel_rfl) (by kernel_rfl) (fun _ _ _ h => h) (Or.inl ⟨by rfl, ?hy2⟩) (by assumption) ?_
            case hy2 =>
              intro w' hSw
              obtain ⟨s1, s2, s3, s4, _, _⟩ := hSw
              go_simp
              try with_reducible rfl
            try simp only [Act.put, List.setIfInBounds_toArray, List.set_cons_zero, List.set_cons_succ]
            refine wpAnyH_take (i := 2) (oi := ⟨some 22, .indexAddr _ (.tmp 20) (.tmp 21), _, _, _, _⟩) (v := ?vv3) rfl (by kernel_rfl) (by kernel_rfl) (by kernel_rfl) (fun _ _ _ h => h) (Or.inl ⟨by rfl, ?hy3⟩) (by assumption) ?_
            case hy3 =>
              intro w' hSw
              obtain ⟨s1, s2, s3, s4, _, _⟩ := hSw
              go_simp
              try with_reducible rfl
            try simp only [Act.put, List.setIfInBounds_toArray, List.set_cons_zero, List.set_cons_succ]
            refine wpAnyH_take (i := 3) (oi := ⟨some 23, .load _ (.tmp 22), _, _, _, _⟩) (v := ?vv4) rfl (by kernel_rfl) (by kernel_rfl) (by kernel_rfl) (fun _ _ _ h => h) (Or.inl ⟨by rfl, ?hy4⟩) (by assumption) ?_
            case hy4 =>
              intro w' hSw
              obtain ⟨s1, s2, s3, s4, _, _⟩ := hSw
              go_simp
              try with_reducible rfl
            try simp only [Act.put, List.setIfInBounds_toArray, List.set_cons_zero, List.set_cons_succ]
            refine wpAnyH_ready (rs := [4]) (by kernel_rfl) (by simp) ?_
            refine AllReadyH.cons (o := ⟨some 24, _, _, _, _, _⟩) rfl (fun K hK => ?_) AllReadyH.nil
            go_simp
            (go_at_call 23; (with_reducible refine (K1.out _).mono ?_); rintro e v4 ⟨rfl, hv⟩)
            refine hK.out _ _ (OfS.next (by assumption) hv) (fun hHeld2 => ?_)
            clear hK K hHeld hv
            rename _ => hHeld
            try simp only [Act.put, List.setIfInBounds_toArray, List.set_cons_zero, List.set_cons_succ]
            refine wpAnyH_take (i := 5) (oi := ⟨some 25, .move (.tmp 24), _, _, _, _⟩) (v := ?vv5) rfl (by kernel_rfl) (by kernel_rfl) (by kernel_rfl) (fun _ _ _ h => h) (Or.inl ⟨by rfl, ?hy5⟩) (by assumption) ?_
            case hy5 =>
              intro w' hSw
              obtain ⟨s1, s2, s3, s4, _, _⟩ := hSw
              go_simp
              try with_reducible rfl
            try simp only [Act.put, List.setIfInBounds_toArray, List.set_cons_zero, List.set_cons_succ]
            refine wpAnyH_take (i := 6) (oi := ⟨some 26, .move (.tmp 3), _, _, _, _⟩) (v := undef) rfl (by kernel_rfl) (by kernel_rfl) (by kernel_rfl) (fun _ _ _ h => h) (Or.inr ⟨by kernel_rfl, rfl⟩) (by assumption) ?_
            try simp only [Act.put, List.setIfInBounds_toArray, List.set_cons_zero, List.set_cons_succ]
            refine wpAnyH_take (i := 7) (oi := ⟨some 27, .move (.tmp 0), _, _, _, _⟩) (v := undef) rfl (by kernel_rfl) (by kernel_rfl) (by kernel_rfl) (fun _ _ _ h => h) (Or.inr ⟨by kernel_rfl, rfl⟩) (by assumption) ?_
            try simp only [Act.put, List.setIfInBounds_toArray, List.set_cons_zero, List.set_cons_succ]
            refine wpAnyH_take (i := 8) (oi := ⟨some 28, .move (.tmp 6), _, _, _, _⟩) (v := undef) rfl (by kernel_rfl) (by kernel_rfl) (by kernel_rfl) (fun _ _ _ h => h) (Or.inr ⟨by kernel_rfl, rfl⟩) (by assumption) ?_
            try simp only [Act.put, List.setIfInBounds_toArray, List.set_cons_zero, List.set_cons_succ]
            refine wpAnyH_take (i := 9) (oi := ⟨some 29, .indexAddr _ (.tmp 27) (.tmp 28), _, _, _, _⟩) (v := undef) rfl (by kernel_rfl) (by kernel_rfl) (by kernel_rfl) (fun _ _ _ h => h) (Or.inr ⟨by kernel_rfl, rfl⟩) (by assumption) ?_
            try simp only [Act.put, List.setIfInBounds_toArray, List.set_cons_zero, List.set_cons_succ]
            refine wpAnyH_take (i := 10) (oi := ⟨some 30, .load _ (.tmp 29), _, _, _, _⟩) (v := undef) rfl (by kernel_rfl) (by kernel_rfl) (by kernel_rfl) (fun _ _ _ h => h) (Or.inr ⟨by kernel_rfl, rfl⟩) (by assumption) ?_
            try simp only [Act.put, List.setIfInBounds_toArray, List.set_cons_zero, List.set_cons_succ]
            refine wpAnyH_take (i := 11) (oi := ⟨some 31, _, _, _, _, _⟩) (v := undef) rfl (by kernel_rfl) (by kernel_rfl) (by kernel_rfl) (fun _ _ _ h => h) (Or.inr ⟨by kernel_rfl, rfl⟩) (by assumption) ?_
            try simp only [Act.put, List.setIfInBounds_toArray, List.set_cons_zero, List.set_cons_succ]
            refine wpAnyH_take (i := 12) (oi := ⟨some 32, .unOp .not _ (.tmp 31), _, _, _, _⟩) (v := undef) rfl (by kernel_rfl) (by kernel_rfl) (by kernel_rfl) (fun _ _ _ h => h) (Or.inr ⟨by kernel_rfl, rfl⟩) (by assumption) ?_
            try simp only [Act.put, List.setIfInBounds_toArray, List.set_cons_zero, List.set_cons_succ]
            refine wpAnyH_take (i := 13) (oi := ⟨some 33, .pick (.tmp 25) (.tmp 32) (.const (.bool false)), _, _, _, _⟩) (v := ?vv13) rfl (by kernel_rfl) (by kernel_rfl) (by kernel_rfl) (fun _ _ _ h => h) (Or.inl ⟨by rfl, ?hy13⟩) (by assumption) ?_
            case hy13 =>
              intro w' hSw
              obtain ⟨s1, s2, s3, s4, _, _⟩ := hSw
              go_simp
              try with_reducible rfl
            try simp only [Act.put, List.setIfInBounds_toArray, List.set_cons_zero, List.set_cons_succ]
            refine wpAnyH_take (i := 14) (oi := ⟨some 34, .move (.tmp 33), _, _, _, _⟩) (v := ?vv14) rfl (by kernel_rfl) (by kernel_rfl) (by kernel_rfl) (fun _ _ _ h => h) (Or.inl ⟨by rfl, ?hy14⟩) (by assumption) ?_
            case hy14 =>
              intro w' hSw
              obtain ⟨s1, s2, s3, s4, _, _⟩ := hSw
              go_simp
              try with_reducible rfl
            try simp only [Act.put, List.setIfInBounds_toArray, List.set_cons_zero, List.set_cons_succ]
            refine wpAnyH_take (i := 15) (oi := ⟨some 35, .load _ (.tmp 5), _, _, _, _⟩) (v := undef) rfl (by kernel_rfl) (by kernel_rfl) (by kernel_rfl) (fun _ _ _ h => h) (Or.inr ⟨by kernel_rfl, rfl⟩) (by assumption) ?_
            try simp only [Act.put, List.setIfInBounds_toArray, List.set_cons_zero, List.set_cons_succ]
            refine wpAnyH_take (i := 16) (oi := ⟨some 36, _, _, _, _, _⟩) (v := undef) rfl (by kernel_rfl) (by kernel_rfl) (by kernel_rfl) (fun _ _ _ h => h) (Or.inr ⟨by kernel_rfl, rfl⟩) (by assumption) ?_
            try simp only [Act.put, List.setIfInBounds_toArray, List.set_cons_zero, List.set_cons_succ]
            refine wpAnyH_take (i := 17) (oi := ⟨some 37, .unOp .not _ (.tmp 36), _, _, _, _⟩) (v := undef) rfl (by kernel_rfl) (by kernel_rfl) (by kernel_rfl) (fun _ _ _ h => h) (Or.inr ⟨by kernel_rfl, rfl⟩) (by assumption) ?_
            try simp only [Act.put, List.setIfInBounds_toArray, List.set_cons_zero, List.set_cons_succ]
            refine wpAnyH_take (i := 18) (oi := ⟨some 38, .move (.tmp 37), _, _, _, _⟩) (v := undef) rfl (by kernel_rfl) (by kernel_rfl) (by kernel_rfl) (fun _ _ _ h => h) (Or.inr ⟨by kernel_rfl, rfl⟩) (by assumption) ?_
            try simp only [Act.put, List.setIfInBounds_toArray, List.set_cons_zero, List.set_cons_succ]
            refine wpAnyH_take (i := 19) (oi := ⟨some 39, .move (.tmp 0), _, _, _, _⟩) (v := undef) rfl (by kernel_rfl) (by kernel_rfl) (by kernel_rfl) (fun _ _ _ h => h) (Or.inr ⟨by kernel_rfl, rfl⟩) (by assumption) ?_
            try simp only [Act.put, List.setIfInBounds_toArray, List.set_cons_zero, List.set_cons_succ]
            refine wpAnyH_take (i := 20) (oi := ⟨some 40, .move (.tmp 6), _, _, _, _⟩) (v := undef) rfl (by kernel_rfl) (by kernel_rfl) (by kernel_rfl) (fun _ _ _ h => h) (Or.inr ⟨by kernel_rfl, rfl⟩) (by assumption) ?_
            try simp only [Act.put, List.setIfInBounds_toArray, List.set_cons_zero, List.set_cons_succ]
            refine wpAnyH_take (i := 21) (oi := ⟨some 41, .indexAddr _ (.tmp 39) (.tmp 40), _, _, _, _⟩) (v := undef) rfl (by kernel_rfl) (by kernel_rfl) (by kernel_rfl) (fun _ _ _ h => h) (Or.inr ⟨by kernel_rfl, rfl⟩) (by assumption) ?_
            try simp only [Act.put, List.setIfInBounds_toArray, List.set_cons_zero, List.set_cons_succ]
            refine wpAnyH_take (i := 22) (oi := ⟨some 42, .load _ (.tmp 41), _, _, _, _⟩) (v := undef) rfl (by kernel_rfl) (by kernel_rfl) (by kernel_rfl) (fun _ _ _ h => h) (Or.inr ⟨by kernel_rfl, rfl⟩) (by assumption) ?_
            try simp only [Act.put, List.setIfInBounds_toArray, List.set_cons_zero, List.set_cons_succ]
            refine wpAnyH_take (i := 23) (oi := ⟨some 43, .load _ (.tmp 5), _, _, _, _⟩) (v := undef) rfl (by kernel_rfl) (by kernel_rfl) (by kernel_rfl) (fun _ _ _ h => h) (Or.inr ⟨by kernel_rfl, rfl⟩) (by assumption) ?_
            try simp only [Act.put, List.setIfInBounds_toArray, List.set_cons_zero, List.set_cons_succ]
            refine wpAnyH_take (i := 24) (oi := ⟨some 44, _, _, _, _, _⟩) (v := undef) rfl (by kernel_rfl) (by kernel_rfl) (by kernel_rfl) (fun _ _ _ h => h) (Or.inr ⟨by kernel_rfl, rfl⟩) (by assumption) ?_
            try simp only [Act.put, List.setIfInBounds_toArray, List.set_cons_zero, List.set_cons_succ]
            refine wpAnyH_take (i := 25) (oi := ⟨some 45, .pick (.tmp 38) (.const (.bool true)) (.tmp 44), _, _, _, _⟩) (v := undef) rfl (by kernel_rfl) (by kernel_rfl) (by kernel_rfl) (fun _ _ _ h => h) (Or.inr ⟨by kernel_rfl, rfl⟩) (by assumption) ?_
            try simp only [Act.put, List.setIfInBounds_toArray, List.set_cons_zero, List.set_cons_succ]
            refine wpAnyH_take (i := 26) (oi := ⟨some 46, .pick (.tmp 34) (.tmp 45) (.const (.bool false)), _, _, _, _⟩) (v := ?vv26) rfl (by kernel_rfl) (by kernel_rfl) (by kernel_rfl) (fun _ _ _ h => h) (Or.inl ⟨by rfl, ?hy26⟩) (by assumption) ?_
            case hy26 =>
              intro w' hSw
              obtain ⟨s1, s2, s3, s4, _, _⟩ := hSw
              go_simp
              try with_reducible rfl
            try simp only [Act.put, List.setIfInBounds_toArray, List.set_cons_zero, List.set_cons_succ]
            refine wpAnyH_done (by kernel_rfl) ?_ _
            clear c0a c1a b0a b1a HRow HBl
            obtain ⟨c0a, c1a, b0a, b1a, hrow, hbl⟩ := hHeld
            have HRow := hide hrow
            have HBl := hide hbl
            clear hbl
            have HB2 : Hid (BestR (lsF (j + 1) f g) ((setL (lsF n f g)).take r) (bx, cy)) := by
              unfold Hid
              rw [HNX.out]
              exact HBest.out.not_right HR1.out
            clear c0a c1a b0a b1a hrow
            go_wp2_with fail
            first
              | (refine ⟨⟨j + 1, bx, cy, by omega, by go_num, HB2.out, HRow.out, HBl.out⟩, ?_⟩; simp [intOf]; omega)
              | (go_roundw
                 case rel => exact ⟨j + 1, bx, cy, by omega, by go_num, HB2.out, HRow.out, HBl.out⟩
                 case measure => simp [intOf]; omega)
          · cases hs
            · cases r2
              · skip
                refine wp_region_held_drew (S := OfS 31 b (off + j * 2) q x y bx cy wo) (by kernel_rfl) ⟨c0a, c1a, b0a, b1a, HRow.out, HBl.out.drew⟩ (fun hHeld => ?_)
                refine wpAnyH_take (i := 0) (oi := ⟨some 20, .move (.tmp 0), _, _, _, _⟩) (v := ?vv27) rfl (by kernel_rfl) (by kernel_rfl) (by kernel_rfl) (fun _ _ _ h => h) (Or.inl ⟨by rfl, ?hy27⟩) (by assumption) ?_
                case hy27 =>
                  intro w' hSw
                  obtain ⟨s1, s2, s3, s4, _, _⟩ := hSw
                  go_simp
                  try with_reducible rfl
                try simp only [Act.put, List.setIfInBounds_toArray, List.set_cons_zero, List.set_cons_succ]
                refine wpAnyH_take (i := 1) (oi := ⟨some 21, .move (.tmp 6), _, _, _, _⟩) (v := ?vv28) rfl (by kernel_rfl) (by kernel_rfl) (by kernel_rfl) (fun _ _ _ h => h) (Or.inl ⟨by rfl, ?hy28⟩) (by assumption) ?_
                case hy28 =>
                  intro w' hSw
                  obtain ⟨s1, s2, s3, s4, _, _⟩ := hSw
                  go_simp
                  try with_reducible rfl
                try simp only [Act.put, List.setIfInBounds_toArray, List.set_cons_zero, List.set_cons_succ]
                refine wpAnyH_take (i := 2) (oi := ⟨some 22, .indexAddr _ (.tmp 20) (.tmp 21), _, _, _, _⟩) (v := ?vv29) rfl (by kernel_rfl) (by kernel_rfl) (by kernel_rfl) (fun _ _ _ h => h) (Or.inl ⟨by rfl, ?hy29⟩) (by assumption) ?_
                case hy29 =>
                  intro w' hSw
                  obtain ⟨s1, s2, s3, s4, _, _⟩ := hSw
                  go_simp
                  try with_reducible rfl
                try simp only [Act.put, List.setIfInBounds_toArray, List.set_cons_zero, List.set_cons_succ]
                refine wpAnyH_take (i := 3) (oi := ⟨some 23, .load _ (.tmp 22), _, _, _, _⟩) (v := ?vv30) rfl (by kernel_rfl) (by kernel_rfl) (by kernel_rfl) (fun _ _ _ h => h) (Or.inl ⟨by rfl, ?hy30⟩) (by assumption) ?_
                case hy30 =>
                  intro w' hSw
                  obtain ⟨s1, s2, s3, s4, _, _⟩ := hSw
                  go_simp
                  try with_reducible rfl
                try simp only [Act.put, List.setIfInBounds_toArray, List.set_cons_zero, List.set_cons_succ]
                refine wpAnyH_ready (rs := [4]) (by kernel_rfl) (by simp) ?_
                refine AllReadyH.cons (o := ⟨some 24, _, _, _, _, _⟩) rfl (fun K hK => ?_) AllReadyH.nil
                go_simp
                (go_at_call 23; (with_reducible refine (K1.out _).mono ?_); rintro e v30 ⟨rfl, hv⟩)
                refine hK.out _ _ (OfS.next (by assumption) hv) (fun hHeld2 => ?_)
                clear hK K hHeld hv
                rename _ => hHeld
                try simp only [Act.put, List.setIfInBounds_toArray, List.set_cons_zero, List.set_cons_succ]
                refine wpAnyH_take (i := 5) (oi := ⟨some 25, .move (.tmp 24), _, _, _, _⟩) (v := ?vv31) rfl (by kernel_rfl) (by kernel_rfl) (by kernel_rfl) (fun _ _ _ h => h) (Or.inl ⟨by rfl, ?hy31⟩) (by assumption) ?_
                case hy31 =>
                  intro w' hSw
                  obtain ⟨s1, s2, s3, s4, _, _⟩ := hSw
                  go_simp
                  try with_reducible rfl
                try simp only [Act.put, List.setIfInBounds_toArray, List.set_cons_zero, List.set_cons_succ]
                refine wpAnyH_take (i := 6) (oi := ⟨some 26, .move (.tmp 3), _, _, _, _⟩) (v := ?vv32) rfl (by kernel_rfl) (by kernel_rfl) (by kernel_rfl) (fun _ _ _ h => h) (Or.inl ⟨by rfl, ?hy32⟩) (by assumption) ?_
                case hy32 =>
                  intro w' hSw
                  obtain ⟨s1, s2, s3, s4, _, _⟩ := hSw
                  go_simp
                  try with_reducible rfl
                try simp only [Act.put, List.setIfInBounds_toArray, List.set_cons_zero, List.set_cons_succ]
                refine wpAnyH_take (i := 7) (oi := ⟨some 27, .move (.tmp 0), _, _, _, _⟩) (v := ?vv33) rfl (by kernel_rfl) (by kernel_rfl) (by kernel_rfl) (fun _ _ _ h => h) (Or.inl ⟨by rfl, ?hy33⟩) (by assumption) ?_
                case hy33 =>
                  intro w' hSw
                  obtain ⟨s1, s2, s3, s4, _, _⟩ := hSw
                  go_simp
                  try with_reducible rfl
                try simp only [Act.put, List.setIfInBounds_toArray, List.set_cons_zero, List.set_cons_succ]
                refine wpAnyH_take (i := 8) (oi := ⟨some 28, .move (.tmp 6), _, _, _, _⟩) (v := ?vv34) rfl (by kernel_rfl) (by kernel_rfl) (by kernel_rfl) (fun _ _ _ h => h) (Or.inl ⟨by rfl, ?hy34⟩) (by assumption) ?_
                case hy34 =>
                  intro w' hSw
                  obtain ⟨s1, s2, s3, s4, _, _⟩ := hSw
                  go_simp
                  try with_reducible rfl
                try simp only [Act.put, List.setIfInBounds_toArray, List.set_cons_zero, List.set_cons_succ]
                refine wpAnyH_take (i := 9) (oi := ⟨some 29, .indexAddr _ (.tmp 27) (.tmp 28), _, _, _, _⟩) (v := ?vv35) rfl (by kernel_rfl) (by kernel_rfl) (by kernel_rfl) (fun _ _ _ h => h) (Or.inl ⟨by rfl, ?hy35⟩) (by assumption) ?_
                case hy35 =>
                  intro w' hSw
                  obtain ⟨s1, s2, s3, s4, _, _⟩ := hSw
                  go_simp
                  try with_reducible rfl
                try simp only [Act.put, List.setIfInBounds_toArray, List.set_cons_zero, List.set_cons_succ]
                refine wpAnyH_take (i := 10) (oi := ⟨some 30, .load _ (.tmp 29), _, _, _, _⟩) (v := ?vv36) rfl (by kernel_rfl) (by kernel_rfl) (by kernel_rfl) (fun _ _ _ h => h) (Or.inl ⟨by rfl, ?hy36⟩) (by assumption) ?_
                case hy36 =>
                  intro w' hSw
                  obtain ⟨s1, s2, s3, s4, _, _⟩ := hSw
                  go_simp
                  try with_reducible rfl
                try simp only [Act.put, List.setIfInBounds_toArray, List.set_cons_zero, List.set_cons_succ]
                refine wpAnyH_ready (rs := [11]) (by kernel_rfl) (by simp) ?_
                refine AllReadyH.cons (o := ⟨some 31, _, _, _, _, _⟩) rfl (fun K hK => ?_) AllReadyH.nil
                go_simp
                (go_at_call 21; (with_reducible refine (K2.out _ (OfS.below hHeld)).mono ?_); rintro e v36 ⟨rfl, hv⟩)
                refine hK.out _ _ (OfS.next (by assumption) hv) (fun hHeld2 => ?_)
                clear hK K hHeld hv
                rename _ => hHeld
                try simp only [Act.put, List.setIfInBounds_toArray, List.set_cons_zero, List.set_cons_succ]
                refine wpAnyH_take (i := 12) (oi := ⟨some 32, .unOp .not _ (.tmp 31), _, _, _, _⟩) (v := ?vv37) rfl (by kernel_rfl) (by kernel_rfl) (by kernel_rfl) (fun _ _ _ h => h) (Or.inl ⟨by rfl, ?hy37⟩) (by assumption) ?_
                case hy37 =>
                  intro w' hSw
                  obtain ⟨s1, s2, s3, s4, _, _⟩ := hSw
                  go_simp
                  try with_reducible rfl
                try simp only [Act.put, List.setIfInBounds_toArray, List.set_cons_zero, List.set_cons_succ]
                refine wpAnyH_take (i := 13) (oi := ⟨some 33, .pick (.tmp 25) (.tmp 32) (.const (.bool false)), _, _, _, _⟩) (v := ?vv38) rfl (by kernel_rfl) (by kernel_rfl) (by kernel_rfl) (fun _ _ _ h => h) (Or.inl ⟨by rfl, ?hy38⟩) (by assumption) ?_
                case hy38 =>
                  intro w' hSw
                  obtain ⟨s1, s2, s3, s4, _, _⟩ := hSw
                  go_simp
                  try with_reducible rfl
                try simp only [Act.put, List.setIfInBounds_toArray, List.set_cons_zero, List.set_cons_succ]
                refine wpAnyH_take (i := 14) (oi := ⟨some 34, .move (.tmp 33), _, _, _, _⟩) (v := ?vv39) rfl (by kernel_rfl) (by kernel_rfl) (by kernel_rfl) (fun _ _ _ h => h) (Or.inl ⟨by rfl, ?hy39⟩) (by assumption) ?_
                case hy39 =>
                  intro w' hSw
                  obtain ⟨s1, s2, s3, s4, _, _⟩ := hSw
                  go_simp
                  try with_reducible rfl
                try simp only [Act.put, List.setIfInBounds_toArray, List.set_cons_zero, List.set_cons_succ]
                refine wpAnyH_take (i := 15) (oi := ⟨some 35, .load _ (.tmp 5), _, _, _, _⟩) (v := ?vv40) rfl (by kernel_rfl) (by kernel_rfl) (by kernel_rfl) (fun _ _ _ h => h) (Or.inl ⟨by rfl, ?hy40⟩) (by assumption) ?_
                case hy40 =>
                  intro w' hSw
                  obtain ⟨s1, s2, s3, s4, _, _⟩ := hSw
                  go_simp
                  try with_reducible rfl
                try simp only [Act.put, List.setIfInBounds_toArray, List.set_cons_zero, List.set_cons_succ]
                refine wpAnyH_ready (rs := [16]) (by kernel_rfl) (by simp) ?_
                refine AllReadyH.cons (o := ⟨some 36, _, _, _, _, _⟩) rfl (fun K hK => ?_) AllReadyH.nil
                go_simp
                (go_at_call 23; (with_reducible refine (K3.out _).mono ?_); rintro e v40 ⟨rfl, hv⟩)
                refine hK.out _ _ (OfS.next (by assumption) hv) (fun hHeld2 => ?_)
                clear hK K hHeld hv
                rename _ => hHeld
                try simp only [Act.put, List.setIfInBounds_toArray, List.set_cons_zero, List.set_cons_succ]
                refine wpAnyH_take (i := 17) (oi := ⟨some 37, .unOp .not _ (.tmp 36), _, _, _, _⟩) (v := ?vv41) rfl (by kernel_rfl) (by kernel_rfl) (by kernel_rfl) (fun _ _ _ h => h) (Or.inl ⟨by rfl, ?hy41⟩) (by assumption) ?_
                case hy41 =>
                  intro w' hSw
                  obtain ⟨s1, s2, s3, s4, _, _⟩ := hSw
                  go_simp
                  try with_reducible rfl
                try simp only [Act.put, List.setIfInBounds_toArray, List.set_cons_zero, List.set_cons_succ]
                refine wpAnyH_take (i := 18) (oi := ⟨some 38, .move (.tmp 37), _, _, _, _⟩) (v := ?vv42) rfl (by kernel_rfl) (by kernel_rfl) (by kernel_rfl) (fun _ _ _ h => h) (Or.inl ⟨by rfl, ?hy42⟩) (by assumption) ?_
                case hy42 =>
                  intro w' hSw
                  obtain ⟨s1, s2, s3, s4, _, _⟩ := hSw
                  go_simp
                  try with_reducible rfl
                try simp only [Act.put, List.setIfInBounds_toArray, List.set_cons_zero, List.set_cons_succ]
                refine wpAnyH_take (i := 19) (oi := ⟨some 39, .move (.tmp 0), _, _, _, _⟩) (v := undef) rfl (by kernel_rfl) (by kernel_rfl) (by kernel_rfl) (fun _ _ _ h => h) (Or.inr ⟨by kernel_rfl, rfl⟩) (by assumption) ?_
                try simp only [Act.put, List.setIfInBounds_toArray, List.set_cons_zero, List.set_cons_succ]
                refine wpAnyH_take (i := 20) (oi := ⟨some 40, .move (.tmp 6), _, _, _, _⟩) (v := undef) rfl (by kernel_rfl) (by kernel_rfl) (by kernel_rfl) (fun _ _ _ h => h) (Or.inr ⟨by kernel_rfl, rfl⟩) (by assumption) ?_
                try simp only [Act.put, List.setIfInBounds_toArray, List.set_cons_zero, List.set_cons_succ]
                refine wpAnyH_take (i := 21) (oi := ⟨some 41, .indexAddr _ (.tmp 39) (.tmp 40), _, _, _, _⟩) (v := undef) rfl (by kernel_rfl) (by kernel_rfl) (by kernel_rfl) (fun _ _ _ h => h) (Or.inr ⟨by kernel_rfl, rfl⟩) (by assumption) ?_
                try simp only [Act.put, List.setIfInBounds_toArray, List.set_cons_zero, List.set_cons_succ]
                refine wpAnyH_take (i := 22) (oi := ⟨some 42, .load _ (.tmp 41), _, _, _, _⟩) (v := undef) rfl (by kernel_rfl) (by kernel_rfl) (by kernel_rfl) (fun _ _ _ h => h) (Or.inr ⟨by kernel_rfl, rfl⟩) (by assumption) ?_
                try simp only [Act.put, List.setIfInBounds_toArray, List.set_cons_zero, List.set_cons_succ]
                refine wpAnyH_take (i := 23) (oi := ⟨some 43, .load _ (.tmp 5), _, _, _, _⟩) (v := undef) rfl (by kernel_rfl) (by kernel_rfl) (by kernel_rfl) (fun _ _ _ h => h) (Or.inr ⟨by kernel_rfl, rfl⟩) (by assumption) ?_
                try simp only [Act.put, List.setIfInBounds_toArray, List.set_cons_zero, List.set_cons_succ]
                refine wpAnyH_take (i := 24) (oi := ⟨some 44, _, _, _, _, _⟩) (v := undef) rfl (by kernel_rfl) (by kernel_rfl) (by kernel_rfl) (fun _ _ _ h => h) (Or.inr ⟨by kernel_rfl, rfl⟩) (by assumption) ?_
                try simp only [Act.put, List.setIfInBounds_toArray, List.set_cons_zero, List.set_cons_succ]
                refine wpAnyH_take (i := 25) (oi := ⟨some 45, .pick (.tmp 38) (.const (.bool true)) (.tmp 44), _, _, _, _⟩) (v := ?vv49) rfl (by kernel_rfl) (by kernel_rfl) (by kernel_rfl) (fun _ _ _ h => h) (Or.inl ⟨by rfl, ?hy49⟩) (by assumption) ?_
                case hy49 =>
                  intro w' hSw
                  obtain ⟨s1, s2, s3, s4, _, _⟩ := hSw
                  go_simp
                  try with_reducible rfl
                try simp only [Act.put, List.setIfInBounds_toArray, List.set_cons_zero, List.set_cons_succ]
                refine wpAnyH_take (i := 26) (oi := ⟨some 46, .pick (.tmp 34) (.tmp 45) (.const (.bool false)), _, _, _, _⟩) (v := ?vv50) rfl (by kernel_rfl) (by kernel_rfl) (by kernel_rfl) (fun _ _ _ h => h) (Or.inl ⟨by rfl, ?hy50⟩) (by assumption) ?_
                case hy50 =>
                  intro w' hSw
                  obtain ⟨s1, s2, s3, s4, _, _⟩ := hSw
                  go_simp
                  try with_reducible rfl
                try simp only [Act.put, List.setIfInBounds_toArray, List.set_cons_zero, List.set_cons_succ]
                refine wpAnyH_done (by kernel_rfl) ?_ _
                clear c0a c1a b0a b1a HRow HBl
                obtain ⟨c0a, c1a, b0a, b1a, hrow, hbl⟩ := hHeld
                have HRow := hide hrow
                have HBl := hide hbl
                clear hbl
                have HB2 : Hid (BestR (lsF (j + 1) f g) ((setL (lsF n f g)).take r) (x, y)) := by
                  unfold Hid
                  rw [HNX.out]
                  exact HBest.out.first HR2.out HR1.out (fun h => absurd (HMEM.out.2 h) (by decide))
                have hz0 := frozenRow hrow 0
                have R1 := setRow _ q 0 (.int .i64 x) hrow
                have R2 := setRow _ q 1 (.int .i64 y) R1
                have hz1 := frozenRow R1 1
                obtain ⟨_, e1a⟩ := row2 R1
                have HRw2 := hide R2
                have HBn := hide (HSET.out _ (.int .i64 x) (.int .i64 y) HBl.out)
                clear R1 R2
                go_wp2_with fail
                exact ⟨⟨j + 1, x, y, by omega, by go_num, HB2.out, HRw2.out, HBn.out⟩, by simp [intOf]; omega⟩
              · cases ls
                · skip
                  refine wp_region_held_drew (S := OfS 31 b (off + j * 2) q x y bx cy wo) (by kernel_rfl) ⟨c0a, c1a, b0a, b1a, HRow.out, HBl.out.drew⟩ (fun hHeld => ?_)
                  refine wpAnyH_take (i := 0) (oi := ⟨some 20, .move (.tmp 0), _, _, _, _⟩) (v := ?vv51) rfl (by kernel_rfl) (by kernel_rfl) (by kernel_rfl) (fun _ _ _ h => h) (Or.inl ⟨by rfl, ?hy51⟩) (by assumption) ?_
                  case hy51 =>
                    intro w' hSw
                    obtain ⟨s1, s2, s3, s4, _, _⟩ := hSw
                    go_simp
                    try with_reducible rfl
                  try simp only [Act.put, List.setIfInBounds_toArray, List.set_cons_zero, List.set_cons_succ]
                  refine wpAnyH_take (i := 1) (oi := ⟨some 21, .move (.tmp 6), _, _, _, _⟩) (v := ?vv52) rfl (by kernel_rfl) (by kernel_rfl) (by kernel_rfl) (fun _ _ _ h => h) (Or.inl ⟨by rfl, ?hy52⟩) (by assumption) ?_
                  case hy52 =>
                    intro w' hSw
                    obtain ⟨s1, s2, s3, s4, _, _⟩ := hSw
                    go_simp
                    try with_reducible rfl
                  try simp only [Act.put, List.setIfInBounds_toArray, List.set_cons_zero, List.set_cons_succ]
                  refine wpAnyH_take (i := 2) (oi := ⟨some 22, .indexAddr _ (.tmp 20) (.tmp 21), _, _, _, _⟩) (v := ?vv53) rfl (by kernel_rfl) (by kernel_rfl) (by kernel_rfl) (fun _ _ _ h => h) (Or.inl ⟨by rfl, ?hy53⟩) (by assumption) ?_
                  case hy53 =>
                    intro w' hSw
                    obtain ⟨s1, s2, s3, s4, _, _⟩ := hSw
                    go_simp
                    try with_reducible rfl
                  try simp only [Act.put, List.setIfInBounds_toArray, List.set_cons_zero, List.set_cons_succ]
                  refine wpAnyH_take (i := 3) (oi := ⟨some 23, .load _ (.tmp 22), _, _, _, _⟩) (v := ?vv54) rfl (by kernel_rfl) (by kernel_rfl) (by kernel_rfl) (fun _ _ _ h => h) (Or.inl ⟨by rfl, ?hy54⟩) (by assumption) ?_
                  case hy54 =>
                    intro w' hSw
                    obtain ⟨s1, s2, s3, s4, _, _⟩ := hSw
                    go_simp
                    try with_reducible rfl
                  try simp only [Act.put, List.setIfInBounds_toArray, List.set_cons_zero, List.set_cons_succ]
                  refine wpAnyH_ready (rs := [4]) (by kernel_rfl) (by simp) ?_
                  refine AllReadyH.cons (o := ⟨some 24, _, _, _, _, _⟩) rfl (fun K hK => ?_) AllReadyH.nil
                  go_simp
                  (go_at_call 23; (with_reducible refine (K1.out _).mono ?_); rintro e v54 ⟨rfl, hv⟩)
                  refine hK.out _ _ (OfS.next (by assumption) hv) (fun hHeld2 => ?_)
                  clear hK K hHeld hv
                  rename _ => hHeld
                  try simp only [Act.put, List.setIfInBounds_toArray, List.set_cons_zero, List.set_cons_succ]
                  refine wpAnyH_take (i := 5) (oi := ⟨some 25, .move (.tmp 24), _, _, _, _⟩) (v := ?vv55) rfl (by kernel_rfl) (by kernel_rfl) (by kernel_rfl) (fun _ _ _ h => h) (Or.inl ⟨by rfl, ?hy55⟩) (by assumption) ?_
                  case hy55 =>
                    intro w' hSw
                    obtain ⟨s1, s2, s3, s4, _, _⟩ := hSw
                    go_simp
                    try with_reducible rfl
                  try simp only [Act.put, List.setIfInBounds_toArray, List.set_cons_zero, List.set_cons_succ]
                  refine wpAnyH_take (i := 6) (oi := ⟨some 26, .move (.tmp 3), _, _, _, _⟩) (v := ?vv56) rfl (by kernel_rfl) (by kernel_rfl) (by kernel_rfl) (fun _ _ _ h => h) (Or.inl ⟨by rfl, ?hy56⟩) (by assumption) ?_
                  case hy56 =>
                    intro w' hSw
                    obtain ⟨s1, s2, s3, s4, _, _⟩ := hSw
                    go_simp
                    try with_reducible rfl
                  try simp only [Act.put, List.setIfInBounds_toArray, List.set_cons_zero, List.set_cons_succ]
                  refine wpAnyH_take (i := 7) (oi := ⟨some 27, .move (.tmp 0), _, _, _, _⟩) (v := ?vv57) rfl (by kernel_rfl) (by kernel_rfl) (by kernel_rfl) (fun _ _ _ h => h) (Or.inl ⟨by rfl, ?hy57⟩) (by assumption) ?_
                  case hy57 =>
                    intro w' hSw
                    obtain ⟨s1, s2, s3, s4, _, _⟩ := hSw
                    go_simp
                    try with_reducible rfl
                  try simp only [Act.put, List.setIfInBounds_toArray, List.set_cons_zero, List.set_cons_succ]
                  refine wpAnyH_take (i := 8) (oi := ⟨some 28, .move (.tmp 6), _, _, _, _⟩) (v := ?vv58) rfl (by kernel_rfl) (by kernel_rfl) (by kernel_rfl) (fun _ _ _ h => h) (Or.inl ⟨by rfl, ?hy58⟩) (by assumption) ?_
                  case hy58 =>
                    intro w' hSw
                    obtain ⟨s1, s2, s3, s4, _, _⟩ := hSw
                    go_simp
                    try with_reducible rfl
                  try simp only [Act.put, List.setIfInBounds_toArray, List.set_cons_zero, List.set_cons_succ]
                  refine wpAnyH_take (i := 9) (oi := ⟨some 29, .indexAddr _ (.tmp 27) (.tmp 28), _, _, _, _⟩) (v := ?vv59) rfl (by kernel_rfl) (by kernel_rfl) (by kernel_rfl) (fun _ _ _ h => h) (Or.inl ⟨by rfl, ?hy59⟩) (by assumption) ?_
                  case hy59 =>
                    intro w' hSw
                    obtain ⟨s1, s2, s3, s4, _, _⟩ := hSw
                    go_simp
                    try with_reducible rfl
                  try simp only [Act.put, List.setIfInBounds_toArray, List.set_cons_zero, List.set_cons_succ]
                  refine wpAnyH_take (i := 10) (oi := ⟨some 30, .load _ (.tmp 29), _, _, _, _⟩) (v := ?vv60) rfl (by kernel_rfl) (by kernel_rfl) (by kernel_rfl) (fun _ _ _ h => h) (Or.inl ⟨by rfl, ?hy60⟩) (by assumption) ?_
                  case hy60 =>
                    intro w' hSw
                    obtain ⟨s1, s2, s3, s4, _, _⟩ := hSw
                    go_simp
                    try with_reducible rfl
                  try simp only [Act.put, List.setIfInBounds_toArray, List.set_cons_zero, List.set_cons_succ]
                  refine wpAnyH_ready (rs := [11]) (by kernel_rfl) (by simp) ?_
                  refine AllReadyH.cons (o := ⟨some 31, _, _, _, _, _⟩) rfl (fun K hK => ?_) AllReadyH.nil
                  go_simp
                  (go_at_call 21; (with_reducible refine (K2.out _ (OfS.below hHeld)).mono ?_); rintro e v60 ⟨rfl, hv⟩)
                  refine hK.out _ _ (OfS.next (by assumption) hv) (fun hHeld2 => ?_)
                  clear hK K hHeld hv
                  rename _ => hHeld
                  try simp only [Act.put, List.setIfInBounds_toArray, List.set_cons_zero, List.set_cons_succ]
                  refine wpAnyH_take (i := 12) (oi := ⟨some 32, .unOp .not _ (.tmp 31), _, _, _, _⟩) (v := ?vv61) rfl (by kernel_rfl) (by kernel_rfl) (by kernel_rfl) (fun _ _ _ h => h) (Or.inl ⟨by rfl, ?hy61⟩) (by assumption) ?_
                  case hy61 =>
                    intro w' hSw
                    obtain ⟨s1, s2, s3, s4, _, _⟩ := hSw
                    go_simp
                    try with_reducible rfl
                  try simp only [Act.put, List.setIfInBounds_toArray, List.set_cons_zero, List.set_cons_succ]
                  refine wpAnyH_take (i := 13) (oi := ⟨some 33, .pick (.tmp 25) (.tmp 32) (.const (.bool false)), _, _, _, _⟩) (v := ?vv62) rfl (by kernel_rfl) (by kernel_rfl) (by kernel_rfl) (fun _ _ _ h => h) (Or.inl ⟨by rfl, ?hy62⟩) (by assumption) ?_
                  case hy62 =>
                    intro w' hSw
                    obtain ⟨s1, s2, s3, s4, _, _⟩ := hSw
                    go_simp
                    try with_reducible rfl
                  try simp only [Act.put, List.setIfInBounds_toArray, List.set_cons_zero, List.set_cons_succ]
                  refine wpAnyH_take (i := 14) (oi := ⟨some 34, .move (.tmp 33), _, _, _, _⟩) (v := ?vv63) rfl (by kernel_rfl) (by kernel_rfl) (by kernel_rfl) (fun _ _ _ h => h) (Or.inl ⟨by rfl, ?hy63⟩) (by assumption) ?_
                  case hy63 =>
                    intro w' hSw
                    obtain ⟨s1, s2, s3, s4, _, _⟩ := hSw
                    go_simp
                    try with_reducible rfl
                  try simp only [Act.put, List.setIfInBounds_toArray, List.set_cons_zero, List.set_cons_succ]
                  refine wpAnyH_take (i := 15) (oi := ⟨some 35, .load _ (.tmp 5), _, _, _, _⟩) (v := ?vv64) rfl (by kernel_rfl) (by kernel_rfl) (by kernel_rfl) (fun _ _ _ h => h) (Or.inl ⟨by rfl, ?hy64⟩) (by assumption) ?_
                  case hy64 =>
                    intro w' hSw
                    obtain ⟨s1, s2, s3, s4, _, _⟩ := hSw
                    go_simp
                    try with_reducible rfl
                  try simp only [Act.put, List.setIfInBounds_toArray, List.set_cons_zero, List.set_cons_succ]
                  refine wpAnyH_ready (rs := [16]) (by kernel_rfl) (by simp) ?_
                  refine AllReadyH.cons (o := ⟨some 36, _, _, _, _, _⟩) rfl (fun K hK => ?_) AllReadyH.nil
                  go_simp
                  (go_at_call 23; (with_reducible refine (K3.out _).mono ?_); rintro e v64 ⟨rfl, hv⟩)
                  refine hK.out _ _ (OfS.next (by assumption) hv) (fun hHeld2 => ?_)
                  clear hK K hHeld hv
                  rename _ => hHeld
                  try simp only [Act.put, List.setIfInBounds_toArray, List.set_cons_zero, List.set_cons_succ]
                  refine wpAnyH_take (i := 17) (oi := ⟨some 37, .unOp .not _ (.tmp 36), _, _, _, _⟩) (v := ?vv65) rfl (by kernel_rfl) (by kernel_rfl) (by kernel_rfl) (fun _ _ _ h => h) (Or.inl ⟨by rfl, ?hy65⟩) (by assumption) ?_
                  case hy65 =>
                    intro w' hSw
                    obtain ⟨s1, s2, s3, s4, _, _⟩ := hSw
                    go_simp
                    try with_reducible rfl
                  try simp only [Act.put, List.setIfInBounds_toArray, List.set_cons_zero, List.set_cons_succ]
                  refine wpAnyH_take (i := 18) (oi := ⟨some 38, .move (.tmp 37), _, _, _, _⟩) (v := ?vv66) rfl (by kernel_rfl) (by kernel_rfl) (by kernel_rfl) (fun _ _ _ h => h) (Or.inl ⟨by rfl, ?hy66⟩) (by assumption) ?_
                  case hy66 =>
                    intro w' hSw
                    obtain ⟨s1, s2, s3, s4, _, _⟩ := hSw
                    go_simp
                    try with_reducible rfl
                  try simp only [Act.put, List.setIfInBounds_toArray, List.set_cons_zero, List.set_cons_succ]
                  refine wpAnyH_take (i := 19) (oi := ⟨some 39, .move (.tmp 0), _, _, _, _⟩) (v := ?vv67) rfl (by kernel_rfl) (by kernel_rfl) (by kernel_rfl) (fun _ _ _ h => h) (Or.inl ⟨by rfl, ?hy67⟩) (by assumption) ?_
                  case hy67 =>
                    intro w' hSw
                    obtain ⟨s1, s2, s3, s4, _, _⟩ := hSw
                    go_simp
                    try with_reducible rfl
                  try simp only [Act.put, List.setIfInBounds_toArray, List.set_cons_zero, List.set_cons_succ]
                  refine wpAnyH_take (i := 20) (oi := ⟨some 40, .move (.tmp 6), _, _, _, _⟩) (v := ?vv68) rfl (by kernel_rfl) (by kernel_rfl) (by kernel_rfl) (fun _ _ _ h => h) (Or.inl ⟨by rfl, ?hy68⟩) (by assumption) ?_
                  case hy68 =>
                    intro w' hSw
                    obtain ⟨s1, s2, s3, s4, _, _⟩ := hSw
                    go_simp
                    try with_reducible rfl
                  try simp only [Act.put, List.setIfInBounds_toArray, List.set_cons_zero, List.set_cons_succ]
                  refine wpAnyH_take (i := 21) (oi := ⟨some 41, .indexAddr _ (.tmp 39) (.tmp 40), _, _, _, _⟩) (v := ?vv69) rfl (by kernel_rfl) (by kernel_rfl) (by kernel_rfl) (fun _ _ _ h => h) (Or.inl ⟨by rfl, ?hy69⟩) (by assumption) ?_
                  case hy69 =>
                    intro w' hSw
                    obtain ⟨s1, s2, s3, s4, _, _⟩ := hSw
                    go_simp
                    try with_reducible rfl
                  try simp only [Act.put, List.setIfInBounds_toArray, List.set_cons_zero, List.set_cons_succ]
                  refine wpAnyH_take (i := 22) (oi := ⟨some 42, .load _ (.tmp 41), _, _, _, _⟩) (v := ?vv70) rfl (by kernel_rfl) (by kernel_rfl) (by kernel_rfl) (fun _ _ _ h => h) (Or.inl ⟨by rfl, ?hy70⟩) (by assumption) ?_
                  case hy70 =>
                    intro w' hSw
                    obtain ⟨s1, s2, s3, s4, _, _⟩ := hSw
                    go_simp
                    try with_reducible rfl
                  try simp only [Act.put, List.setIfInBounds_toArray, List.set_cons_zero, List.set_cons_succ]
                  refine wpAnyH_take (i := 23) (oi := ⟨some 43, .load _ (.tmp 5), _, _, _, _⟩) (v := ?vv71) rfl (by kernel_rfl) (by kernel_rfl) (by kernel_rfl) (fun _ _ _ h => h) (Or.inl ⟨by rfl, ?hy71⟩) (by assumption) ?_
                  case hy71 =>
                    intro w' hSw
                    obtain ⟨s1, s2, s3, s4, _, _⟩ := hSw
                    go_simp
                    try with_reducible rfl
                  try simp only [Act.put, List.setIfInBounds_toArray, List.set_cons_zero, List.set_cons_succ]
                  refine wpAnyH_ready (rs := [24]) (by kernel_rfl) (by simp) ?_
                  refine AllReadyH.cons (o := ⟨some 44, _, _, _, _, _⟩) rfl (fun K hK => ?_) AllReadyH.nil
                  go_simp
                  (go_at_call 25; (with_reducible refine (K4.out _).mono ?_); rintro e v71 ⟨rfl, hv⟩)
                  refine hK.out _ _ (OfS.next (by assumption) hv) (fun hHeld2 => ?_)
                  clear hK K hHeld hv
                  rename _ => hHeld
                  try simp only [Act.put, List.setIfInBounds_toArray, List.set_cons_zero, List.set_cons_succ]
                  refine wpAnyH_take (i := 25) (oi := ⟨some 45, .pick (.tmp 38) (.const (.bool true)) (.tmp 44), _, _, _, _⟩) (v := ?vv72) rfl (by kernel_rfl) (by kernel_rfl) (by kernel_rfl) (fun _ _ _ h => h) (Or.inl ⟨by rfl, ?hy72⟩) (by assumption) ?_
                  case hy72 =>
                    intro w' hSw
                    obtain ⟨s1, s2, s3, s4, _, _⟩ := hSw
                    go_simp
                    try with_reducible rfl
                  try simp only [Act.put, List.setIfInBounds_toArray, List.set_cons_zero, List.set_cons_succ]
                  refine wpAnyH_take (i := 26) (oi := ⟨some 46, .pick (.tmp 34) (.tmp 45) (.const (.bool false)), _, _, _, _⟩) (v := ?vv73) rfl (by kernel_rfl) (by kernel_rfl) (by kernel_rfl) (fun _ _ _ h => h) (Or.inl ⟨by rfl, ?hy73⟩) (by assumption) ?_
                  case hy73 =>
                    intro w' hSw
                    obtain ⟨s1, s2, s3, s4, _, _⟩ := hSw
                    go_simp
                    try with_reducible rfl
                  try simp only [Act.put, List.setIfInBounds_toArray, List.set_cons_zero, List.set_cons_succ]
                  refine wpAnyH_done (by kernel_rfl) ?_ _
                  clear c0a c1a b0a b1a HRow HBl
                  obtain ⟨c0a, c1a, b0a, b1a, hrow, hbl⟩ := hHeld
                  have HRow := hide hrow
                  have HBl := hide hbl
                  clear hbl
                  have HB2 : Hid (BestR (lsF (j + 1) f g) ((setL (lsF n f g)).take r) (bx, cy)) := by
                    unfold Hid
                    rw [HNX.out]
                    exact HBest.out.not_less HR2.out (fun h => absurd (HLT.out.2 h) (by decide))
                  clear c0a c1a b0a b1a hrow
                  go_wp2_with fail
                  first
                    | (refine ⟨⟨j + 1, bx, cy, by omega, by go_num, HB2.out, HRow.out, HBl.out⟩, ?_⟩; simp [intOf]; omega)
                    | (go_roundw
                       case rel => exact ⟨j + 1, bx, cy, by omega, by go_num, HB2.out, HRow.out, HBl.out⟩
                       case measure => simp [intOf]; omega)
                · skip
                  refine wp_region_held_drew (S := OfS 31 b (off + j * 2) q x y bx cy wo) (by kernel_rfl) ⟨c0a, c1a, b0a, b1a, HRow.out, HBl.out.drew⟩ (fun hHeld => ?_)
                  refine wpAnyH_take (i := 0) (oi := ⟨some 20, .move (.tmp 0), _, _, _, _⟩) (v := ?vv74) rfl (by kernel_rfl) (by kernel_rfl) (by kernel_rfl) (fun _ _ _ h => h) (Or.inl ⟨by rfl, ?hy74⟩) (by assumption) ?_
                  case hy74 =>
                    intro w' hSw
                    obtain ⟨s1, s2, s3, s4, _, _⟩ := hSw
                    go_simp
                    try with_reducible rfl
                  try simp only [Act.put, List.setIfInBounds_toArray, List.set_cons_zero, List.set_cons_succ]
                  refine wpAnyH_take (i := 1) (oi := ⟨some 21, .move (.tmp 6), _, _, _, _⟩) (v := ?vv75) rfl (by kernel_rfl) (by kernel_rfl) (by kernel_rfl) (fun _ _ _ h => h) (Or.inl ⟨by rfl, ?hy75⟩) (by assumption) ?_
                  case hy75 =>
                    intro w' hSw
                    obtain ⟨s1, s2, s3, s4, _, _⟩ := hSw
                    go_simp
                    try with_reducible rfl
                  try simp only [Act.put, List.setIfInBounds_toArray, List.set_cons_zero, List.set_cons_succ]
                  refine wpAnyH_take (i := 2) (oi := ⟨some 22, .indexAddr _ (.tmp 20) (.tmp 21), _, _, _, _⟩) (v := ?vv76) rfl (by kernel_rfl) (by kernel_rfl) (by kernel_rfl) (fun _ _ _ h => h) (Or.inl ⟨by rfl, ?hy76⟩) (by assumption) ?_
                  case hy76 =>
                    intro w' hSw
                    obtain ⟨s1, s2, s3, s4, _, _⟩ := hSw
                    go_simp
                    try with_reducible rfl
                  try simp only [Act.put, List.setIfInBounds_toArray, List.set_cons_zero, List.set_cons_succ]
                  refine wpAnyH_take (i := 3) (oi := ⟨some 23, .load _ (.tmp 22), _, _, _, _⟩) (v := ?vv77) rfl (by kernel_rfl) (by kernel_rfl) (by kernel_rfl) (fun _ _ _ h => h) (Or.inl ⟨by rfl, ?hy77⟩) (by assumption) ?_
                  case hy77 =>
                    intro w' hSw
                    obtain ⟨s1, s2, s3, s4, _, _⟩ := hSw
                    go_simp
                    try with_reducible rfl
                  try simp only [Act.put, List.setIfInBounds_toArray, List.set_cons_zero, List.set_cons_succ]
                  refine wpAnyH_ready (rs := [4]) (by kernel_rfl) (by simp) ?_
                  refine AllReadyH.cons (o := ⟨some 24, _, _, _, _, _⟩) rfl (fun K hK => ?_) AllReadyH.nil
                  go_simp
                  (go_at_call 23; (with_reducible refine (K1.out _).mono ?_); rintro e v77 ⟨rfl, hv⟩)
                  refine hK.out _ _ (OfS.next (by assumption) hv) (fun hHeld2 => ?_)
                  clear hK K hHeld hv
                  rename _ => hHeld
                  try simp only [Act.put, List.setIfInBounds_toArray, List.set_cons_zero, List.set_cons_succ]
                  refine wpAnyH_take (i := 5) (oi := ⟨some 25, .move (.tmp 24), _, _, _, _⟩) (v := ?vv78) rfl (by kernel_rfl) (by kernel_rfl) (by kernel_rfl) (fun _ _ _ h => h) (Or.inl ⟨by rfl, ?hy78⟩) (by assumption) ?_
                  case hy78 =>
                    intro w' hSw
                    obtain ⟨s1, s2, s3, s4, _, _⟩ := hSw
                    go_simp
                    try with_reducible rfl
                  try simp only [Act.put, List.setIfInBounds_toArray, List.set_cons_zero, List.set_cons_succ]
                  refine wpAnyH_take (i := 6) (oi := ⟨some 26, .move (.tmp 3), _, _, _, _⟩) (v := ?vv79) rfl (by kernel_rfl) (by kernel_rfl) (by kernel_rfl) (fun _ _ _ h => h) (Or.inl ⟨by rfl, ?hy79⟩) (by assumption) ?_
                  case hy79 =>
                    intro w' hSw
                    obtain ⟨s1, s2, s3, s4, _, _⟩ := hSw
                    go_simp
                    try with_reducible rfl
                  try simp only [Act.put, List.setIfInBounds_toArray, List.set_cons_zero, List.set_cons_succ]
                  refine wpAnyH_take (i := 7) (oi := ⟨some 27, .move (.tmp 0), _, _, _, _⟩) (v := ?vv80) rfl (by kernel_rfl) (by kernel_rfl) (by kernel_rfl) (fun _ _ _ h => h) (Or.inl ⟨by rfl, ?hy80⟩) (by assumption) ?_
                  case hy80 =>
                    intro w' hSw
                    obtain ⟨s1, s2, s3, s4, _, _⟩ := hSw
                    go_simp
                    try with_reducible rfl
                  try simp only [Act.put, List.setIfInBounds_toArray, List.set_cons_zero, List.set_cons_succ]
                  refine wpAnyH_take (i := 8) (oi := ⟨some 28, .move (.tmp 6), _, _, _, _⟩) (v := ?vv81) rfl (by kernel_rfl) (by kernel_rfl) (by kernel_rfl) (fun _ _ _ h => h) (Or.inl ⟨by rfl, ?hy81⟩) (by assumption) ?_
                  case hy81 =>
                    intro w' hSw
                    obtain ⟨s1, s2, s3, s4, _, _⟩ := hSw
                    go_simp
                    try with_reducible rfl
                  try simp only [Act.put, List.setIfInBounds_toArray, List.set_cons_zero, List.set_cons_succ]
                  refine wpAnyH_take (i := 9) (oi := ⟨some 29, .indexAddr _ (.tmp 27) (.tmp 28), _, _, _, _⟩) (v := ?vv82) rfl (by kernel_rfl) (by kernel_rfl) (by kernel_rfl) (fun _ _ _ h => h) (Or.inl ⟨by rfl, ?hy82⟩) (by assumption) ?_
                  case hy82 =>
                    intro w' hSw
                    obtain ⟨s1, s2, s3, s4, _, _⟩ := hSw
                    go_simp
                    try with_reducible rfl
                  try simp only [Act.put, List.setIfInBounds_toArray, List.set_cons_zero, List.set_cons_succ]
                  refine wpAnyH_take (i := 10) (oi := ⟨some 30, .load _ (.tmp 29), _, _, _, _⟩) (v := ?vv83) rfl (by kernel_rfl) (by kernel_rfl) (by kernel_rfl) (fun _ _ _ h => h) (Or.inl ⟨by rfl, ?hy83⟩) (by assumption) ?_
                  case hy83 =>
                    intro w' hSw
                    obtain ⟨s1, s2, s3, s4, _, _⟩ := hSw
                    go_simp
                    try with_reducible rfl
                  try simp only [Act.put, List.setIfInBounds_toArray, List.set_cons_zero, List.set_cons_succ]
                  refine wpAnyH_ready (rs := [11]) (by kernel_rfl) (by simp) ?_
                  refine AllReadyH.cons (o := ⟨some 31, _, _, _, _, _⟩) rfl (fun K hK => ?_) AllReadyH.nil
                  go_simp
                  (go_at_call 21; (with_reducible refine (K2.out _ (OfS.below hHeld)).mono ?_); rintro e v83 ⟨rfl, hv⟩)
                  refine hK.out _ _ (OfS.next (by assumption) hv) (fun hHeld2 => ?_)
                  clear hK K hHeld hv
                  rename _ => hHeld
                  try simp only [Act.put, List.setIfInBounds_toArray, List.set_cons_zero, List.set_cons_succ]
                  refine wpAnyH_take (i := 12) (oi := ⟨some 32, .unOp .not _ (.tmp 31), _, _, _, _⟩) (v := ?vv84) rfl (by kernel_rfl) (by kernel_rfl) (by kernel_rfl) (fun _ _ _ h => h) (Or.inl ⟨by rfl, ?hy84⟩) (by assumption) ?_
                  case hy84 =>
                    intro w' hSw
                    obtain ⟨s1, s2, s3, s4, _, _⟩ := hSw
                    go_simp
                    try with_reducible rfl
                  try simp only [Act.put, List.setIfInBounds_toArray, List.set_cons_zero, List.set_cons_succ]
                  refine wpAnyH_take (i := 13) (oi := ⟨some 33, .pick (.tmp 25) (.tmp 32) (.const (.bool false)), _, _, _, _⟩) (v := ?vv85) rfl (by kernel_rfl) (by kernel_rfl) (by kernel_rfl) (fun _ _ _ h => h) (Or.inl ⟨by rfl, ?hy85⟩) (by assumption) ?_
                  case hy85 =>
                    intro w' hSw
                    obtain ⟨s1, s2, s3, s4, _, _⟩ := hSw
                    go_simp
                    try with_reducible rfl
                  try simp only [Act.put, List.setIfInBounds_toArray, List.set_cons_zero, List.set_cons_succ]
                  refine wpAnyH_take (i := 14) (oi := ⟨some 34, .move (.tmp 33), _, _, _, _⟩) (v := ?vv86) rfl (by kernel_rfl) (by kernel_rfl) (by kernel_rfl) (fun _ _ _ h => h) (Or.inl ⟨by rfl, ?hy86⟩) (by assumption) ?_
                  case hy86 =>
                    intro w' hSw
                    obtain ⟨s1, s2, s3, s4, _, _⟩ := hSw
                    go_simp
                    try with_reducible rfl
                  try simp only [Act.put, List.setIfInBounds_toArray, List.set_cons_zero, List.set_cons_succ]
                  refine wpAnyH_take (i := 15) (oi := ⟨some 35, .load _ (.tmp 5), _, _, _, _⟩) (v := ?vv87) rfl (by kernel_rfl) (by kernel_rfl) (by kernel_rfl) (fun _ _ _ h => h) (Or.inl ⟨by rfl, ?hy87⟩) (by assumption) ?_
                  case hy87 =>
                    intro w' hSw
                    obtain ⟨s1, s2, s3, s4, _, _⟩ := hSw
                    go_simp
                    try with_reducible rfl
                  try simp only [Act.put, List.setIfInBounds_toArray, List.set_cons_zero, List.set_cons_succ]
                  refine wpAnyH_ready (rs := [16]) (by kernel_rfl) (by simp) ?_
                  refine AllReadyH.cons (o := ⟨some 36, _, _, _, _, _⟩) rfl (fun K hK => ?_) AllReadyH.nil
                  go_simp
                  (go_at_call 23; (with_reducible refine (K3.out _).mono ?_); rintro e v87 ⟨rfl, hv⟩)
                  refine hK.out _ _ (OfS.next (by assumption) hv) (fun hHeld2 => ?_)
                  clear hK K hHeld hv
                  rename _ => hHeld
                  try simp only [Act.put, List.setIfInBounds_toArray, List.set_cons_zero, List.set_cons_succ]
                  refine wpAnyH_take (i := 17) (oi := ⟨some 37, .unOp .not _ (.tmp 36), _, _, _, _⟩) (v := ?vv88) rfl (by kernel_rfl) (by kernel_rfl) (by kernel_rfl) (fun _ _ _ h => h) (Or.inl ⟨by rfl, ?hy88⟩) (by assumption) ?_
                  case hy88 =>
                    intro w' hSw
                    obtain ⟨s1, s2, s3, s4, _, _⟩ := hSw
                    go_simp
                    try with_reducible rfl
                  try simp only [Act.put, List.setIfInBounds_toArray, List.set_cons_zero, List.set_cons_succ]
                  refine wpAnyH_take (i := 18) (oi := ⟨some 38, .move (.tmp 37), _, _, _, _⟩) (v := ?vv89) rfl (by kernel_rfl) (by kernel_rfl) (by kernel_rfl) (fun _ _ _ h => h) (Or.inl ⟨by rfl, ?hy89⟩) (by assumption) ?_
                  case hy89 =>
                    intro w' hSw
                    obtain ⟨s1, s2, s3, s4, _, _⟩ := hSw
                    go_simp
                    try with_reducible rfl
                  try simp only [Act.put, List.setIfInBounds_toArray, List.set_cons_zero, List.set_cons_succ]
                  refine wpAnyH_take (i := 19) (oi := ⟨some 39, .move (.tmp 0), _, _, _, _⟩) (v := ?vv90) rfl (by kernel_rfl) (by kernel_rfl) (by kernel_rfl) (fun _ _ _ h => h) (Or.inl ⟨by rfl, ?hy90⟩) (by assumption) ?_
                  case hy90 =>
                    intro w' hSw
                    obtain ⟨s1, s2, s3, s4, _, _⟩ := hSw
                    go_simp
                    try with_reducible rfl
                  try simp only [Act.put, List.setIfInBounds_toArray, List.set_cons_zero, List.set_cons_succ]
                  refine wpAnyH_take (i := 20) (oi := ⟨some 40, .move (.tmp 6), _, _, _, _⟩) (v := ?vv91) rfl (by kernel_rfl) (by kernel_rfl) (by kernel_rfl) (fun _ _ _ h => h) (Or.inl ⟨by rfl, ?hy91⟩) (by assumption) ?_
                  case hy91 =>
                    intro w' hSw
                    obtain ⟨s1, s2, s3, s4, _, _⟩ := hSw
                    go_simp
                    try with_reducible rfl
                  try simp only [Act.put, List.setIfInBounds_toArray, List.set_cons_zero, List.set_cons_succ]
                  refine wpAnyH_take (i := 21) (oi := ⟨some 41, .indexAddr _ (.tmp 39) (.tmp 40), _, _, _, _⟩) (v := ?vv92) rfl (by kernel_rfl) (by kernel_rfl) (by kernel_rfl) (fun _ _ _ h => h) (Or.inl ⟨by rfl, ?hy92⟩) (by assumption) ?_
                  case hy92 =>
                    intro w' hSw
                    obtain ⟨s1, s2, s3, s4, _, _⟩ := hSw
                    go_simp
                    try with_reducible rfl
                  try simp only [Act.put, List.setIfInBounds_toArray, List.set_cons_zero, List.set_cons_succ]
                  refine wpAnyH_take (i := 22) (oi := ⟨some 42, .load _ (.tmp 41), _, _, _, _⟩) (v := ?vv93) rfl (by kernel_rfl) (by kernel_rfl) (by kernel_rfl) (fun _ _ _ h => h) (Or.inl ⟨by rfl, ?hy93⟩) (by assumption) ?_
                  case hy93 =>
                    intro w' hSw
                    obtain ⟨s1, s2, s3, s4, _, _⟩ := hSw
                    go_simp
                    try with_reducible rfl
                  try simp only [Act.put, List.setIfInBounds_toArray, List.set_cons_zero, List.set_cons_succ]
                  refine wpAnyH_take (i := 23) (oi := ⟨some 43, .load _ (.tmp 5), _, _, _, _⟩) (v := ?vv94) rfl (by kernel_rfl) (by kernel_rfl) (by kernel_rfl) (fun _ _ _ h => h) (Or.inl ⟨by rfl, ?hy94⟩) (by assumption) ?_
                  case hy94 =>
                    intro w' hSw
                    obtain ⟨s1, s2, s3, s4, _, _⟩ := hSw
                    go_simp
                    try with_reducible rfl
                  try simp only [Act.put, List.setIfInBounds_toArray, List.set_cons_zero, List.set_cons_succ]
                  refine wpAnyH_ready (rs := [24]) (by kernel_rfl) (by simp) ?_
                  refine AllReadyH.cons (o := ⟨some 44, _, _, _, _, _⟩) rfl (fun K hK => ?_) AllReadyH.nil
                  go_simp
                  (go_at_call 25; (with_reducible refine (K4.out _).mono ?_); rintro e v94 ⟨rfl, hv⟩)
                  refine hK.out _ _ (OfS.next (by assumption) hv) (fun hHeld2 => ?_)
                  clear hK K hHeld hv
                  rename _ => hHeld
                  try simp only [Act.put, List.setIfInBounds_toArray, List.set_cons_zero, List.set_cons_succ]
                  refine wpAnyH_take (i := 25) (oi := ⟨some 45, .pick (.tmp 38) (.const (.bool true)) (.tmp 44), _, _, _, _⟩) (v := ?vv95) rfl (by kernel_rfl) (by kernel_rfl) (by kernel_rfl) (fun _ _ _ h => h) (Or.inl ⟨by rfl, ?hy95⟩) (by assumption) ?_
                  case hy95 =>
                    intro w' hSw
                    obtain ⟨s1, s2, s3, s4, _, _⟩ := hSw
                    go_simp
                    try with_reducible rfl
                  try simp only [Act.put, List.setIfInBounds_toArray, List.set_cons_zero, List.set_cons_succ]
                  refine wpAnyH_take (i := 26) (oi := ⟨some 46, .pick (.tmp 34) (.tmp 45) (.const (.bool false)), _, _, _, _⟩) (v := ?vv96) rfl (by kernel_rfl) (by kernel_rfl) (by kernel_rfl) (fun _ _ _ h => h) (Or.inl ⟨by rfl, ?hy96⟩) (by assumption) ?_
                  case hy96 =>
                    intro w' hSw
                    obtain ⟨s1, s2, s3, s4, _, _⟩ := hSw
                    go_simp
                    try with_reducible rfl
                  try simp only [Act.put, List.setIfInBounds_toArray, List.set_cons_zero, List.set_cons_succ]
                  refine wpAnyH_done (by kernel_rfl) ?_ _
                  clear c0a c1a b0a b1a HRow HBl
                  obtain ⟨c0a, c1a, b0a, b1a, hrow, hbl⟩ := hHeld
                  have HRow := hide hrow
                  have HBl := hide hbl
                  clear hbl
                  have HB2 : Hid (BestR (lsF (j + 1) f g) ((setL (lsF n f g)).take r) (x, y)) := by
                    unfold Hid
                    rw [HNX.out]
                    exact HBest.out.less HR2.out HR1.out (fun h => absurd (HMEM.out.2 h) (by decide)) (HLT.out.1 rfl)
                  have hz0 := frozenRow hrow 0
                  have R1 := setRow _ q 0 (.int .i64 x) hrow
                  have R2 := setRow _ q 1 (.int .i64 y) R1
                  have hz1 := frozenRow R1 1
                  obtain ⟨_, e1a⟩ := row2 R1
                  have HRw2 := hide R2
                  have HBn := hide (HSET.out _ (.int .i64 x) (.int .i64 y) HBl.out)
                  clear R1 R2
                  go_wp2_with fail
                  exact ⟨⟨j + 1, x, y, by omega, by go_num, HB2.out, HRw2.out, HBn.out⟩, by simp [intOf]; omega⟩
            · skip
              refine wp_region_held_drew (S := OfS 31 b (off + j * 2) q x y bx cy wo) (by kernel_rfl) ⟨c0a, c1a, b0a, b1a, HRow.out, HBl.out.drew⟩ (fun hHeld => ?_)
              refine wpAnyH_take (i := 0) (oi := ⟨some 20, .move (.tmp 0), _, _, _, _⟩) (v := ?vv97) rfl (by kernel_rfl) (by kernel_rfl) (by kernel_rfl) (fun _ _ _ h => h) (Or.inl ⟨by rfl, ?hy97⟩) (by assumption) ?_
              case hy97 =>
                intro w' hSw
                obtain ⟨s1, s2, s3, s4, _, _⟩ := hSw
                go_simp
                try with_reducible rfl
              try simp only [Act.put, List.setIfInBounds_toArray, List.set_cons_zero, List.set_cons_succ]
              refine wpAnyH_take (i := 1) (oi := ⟨some 21, .move (.tmp 6), _, _, _, _⟩) (v := ?vv98) rfl (by kernel_rfl) (by kernel_rfl) (by kernel_rfl) (fun _ _ _ h => h) (Or.inl ⟨by rfl, ?hy98⟩) (by assumption) ?_
              case hy98 =>
                intro w' hSw
                obtain ⟨s1, s2, s3, s4, _, _⟩ := hSw
                go_simp
                try with_reducible rfl
              try simp only [Act.put, List.setIfInBounds_toArray, List.set_cons_zero, List.set_cons_succ]
              refine wpAnyH_take (i := 2) (oi := ⟨some 22, .indexAddr _ (.tmp 20) (.tmp 21), _, _, _, _⟩) (v := ?vv99) rfl (by kernel_rfl) (by kernel_rfl) (by kernel_rfl) (fun _ _ _ h => h) (Or.inl ⟨by rfl, ?hy99⟩) (by assumption) ?_
              case hy99 =>
                intro w' hSw
                obtain ⟨s1, s2, s3, s4, _, _⟩ := hSw
                go_simp
                try with_reducible rfl
              try simp only [Act.put, List.setIfInBounds_toArray, List.set_cons_zero, List.set_cons_succ]
              refine wpAnyH_take (i := 3) (oi := ⟨some 23, .load _ (.tmp 22), _, _, _, _⟩) (v := ?vv100) rfl (by kernel_rfl) (by kernel_rfl) (by kernel_rfl) (fun _ _ _ h => h) (Or.inl ⟨by rfl, ?hy100⟩) (by assumption) ?_
              case hy100 =>
                intro w' hSw
                obtain ⟨s1, s2, s3, s4, _, _⟩ := hSw
                go_simp
                try with_reducible rfl
              try simp only [Act.put, List.setIfInBounds_toArray, List.set_cons_zero, List.set_cons_succ]
              refine wpAnyH_ready (rs := [4]) (by kernel_rfl) (by simp) ?_
              refine AllReadyH.cons (o := ⟨some 24, _, _, _, _, _⟩) rfl (fun K hK => ?_) AllReadyH.nil
              go_simp
              (go_at_call 23; (with_reducible refine (K1.out _).mono ?_); rintro e v100 ⟨rfl, hv⟩)
              refine hK.out _ _ (OfS.next (by assumption) hv) (fun hHeld2 => ?_)
              clear hK K hHeld hv
              rename _ => hHeld
              try simp only [Act.put, List.setIfInBounds_toArray, List.set_cons_zero, List.set_cons_succ]
              refine wpAnyH_take (i := 5) (oi := ⟨some 25, .move (.tmp 24), _, _, _, _⟩) (v := ?vv101) rfl (by kernel_rfl) (by kernel_rfl) (by kernel_rfl) (fun _ _ _ h => h) (Or.inl ⟨by rfl, ?hy101⟩) (by assumption) ?_
              case hy101 =>
                intro w' hSw
                obtain ⟨s1, s2, s3, s4, _, _⟩ := hSw
                go_simp
                try with_reducible rfl
              try simp only [Act.put, List.setIfInBounds_toArray, List.set_cons_zero, List.set_cons_succ]
              refine wpAnyH_take (i := 6) (oi := ⟨some 26, .move (.tmp 3), _, _, _, _⟩) (v := ?vv102) rfl (by kernel_rfl) (by kernel_rfl) (by kernel_rfl) (fun _ _ _ h => h) (Or.inl ⟨by rfl, ?hy102⟩) (by assumption) ?_
              case hy102 =>
                intro w' hSw
                obtain ⟨s1, s2, s3, s4, _, _⟩ := hSw
                go_simp
                try with_reducible rfl
              try simp only [Act.put, List.setIfInBounds_toArray, List.set_cons_zero, List.set_cons_succ]
              refine wpAnyH_take (i := 7) (oi := ⟨some 27, .move (.tmp 0), _, _, _, _⟩) (v := ?vv103) rfl (by kernel_rfl) (by kernel_rfl) (by kernel_rfl) (fun _ _ _ h => h) (Or.inl ⟨by rfl, ?hy103⟩) (by assumption) ?_
              case hy103 =>
                intro w' hSw
                obtain ⟨s1, s2, s3, s4, _, _⟩ := hSw
                go_simp
                try with_reducible rfl
              try simp only [Act.put, List.setIfInBounds_toArray, List.set_cons_zero, List.set_cons_succ]
              refine wpAnyH_take (i := 8) (oi := ⟨some 28, .move (.tmp 6), _, _, _, _⟩) (v := ?vv104) rfl (by kernel_rfl) (by kernel_rfl) (by kernel_rfl) (fun _ _ _ h => h) (Or.inl ⟨by rfl, ?hy104⟩) (by assumption) ?_
              case hy104 =>
                intro w' hSw
                obtain ⟨s1, s2, s3, s4, _, _⟩ := hSw
                go_simp
                try with_reducible rfl
              try simp only [Act.put, List.setIfInBounds_toArray, List.set_cons_zero, List.set_cons_succ]
              refine wpAnyH_take (i := 9) (oi := ⟨some 29, .indexAddr _ (.tmp 27) (.tmp 28), _, _, _, _⟩) (v := ?vv105) rfl (by kernel_rfl) (by kernel_rfl) (by kernel_rfl) (fun _ _ _ h => h) (Or.inl ⟨by rfl, ?hy105⟩) (by assumption) ?_
              case hy105 =>
                intro w' hSw
                obtain ⟨s1, s2, s3, s4, _, _⟩ := hSw
                go_simp
                try with_reducible rfl
              try simp only [Act.put, List.setIfInBounds_toArray, List.set_cons_zero, List.set_cons_succ]
              refine wpAnyH_take (i := 10) (oi := ⟨some 30, .load _ (.tmp 29), _, _, _, _⟩) (v := ?vv106) rfl (by kernel_rfl) (by kernel_rfl) (by kernel_rfl) (fun _ _ _ h => h) (Or.inl ⟨by rfl, ?hy106⟩) (by assumption) ?_
              case hy106 =>
                intro w' hSw
                obtain ⟨s1, s2, s3, s4, _, _⟩ := hSw
                go_simp
                try with_reducible rfl
              try simp only [Act.put, List.setIfInBounds_toArray, List.set_cons_zero, List.set_cons_succ]
              refine wpAnyH_ready (rs := [11]) (by kernel_rfl) (by simp) ?_
              refine AllReadyH.cons (o := ⟨some 31, _, _, _, _, _⟩) rfl (fun K hK => ?_) AllReadyH.nil
              go_simp
              (go_at_call 21; (with_reducible refine (K2.out _ (OfS.below hHeld)).mono ?_); rintro e v106 ⟨rfl, hv⟩)
              refine hK.out _ _ (OfS.next (by assumption) hv) (fun hHeld2 => ?_)
              clear hK K hHeld hv
              rename _ => hHeld
              try simp only [Act.put, List.setIfInBounds_toArray, List.set_cons_zero, List.set_cons_succ]
              refine wpAnyH_take (i := 12) (oi := ⟨some 32, .unOp .not _ (.tmp 31), _, _, _, _⟩) (v := ?vv107) rfl (by kernel_rfl) (by kernel_rfl) (by kernel_rfl) (fun _ _ _ h => h) (Or.inl ⟨by rfl, ?hy107⟩) (by assumption) ?_
              case hy107 =>
                intro w' hSw
                obtain ⟨s1, s2, s3, s4, _, _⟩ := hSw
                go_simp
                try with_reducible rfl
              try simp only [Act.put, List.setIfInBounds_toArray, List.set_cons_zero, List.set_cons_succ]
              refine wpAnyH_take (i := 13) (oi := ⟨some 33, .pick (.tmp 25) (.tmp 32) (.const (.bool false)), _, _, _, _⟩) (v := ?vv108) rfl (by kernel_rfl) (by kernel_rfl) (by kernel_rfl) (fun _ _ _ h => h) (Or.inl ⟨by rfl, ?hy108⟩) (by assumption) ?_
              case hy108 =>
                intro w' hSw
                obtain ⟨s1, s2, s3, s4, _, _⟩ := hSw
                go_simp
                try with_reducible rfl
              try simp only [Act.put, List.setIfInBounds_toArray, List.set_cons_zero, List.set_cons_succ]
              refine wpAnyH_take (i := 14) (oi := ⟨some 34, .move (.tmp 33), _, _, _, _⟩) (v := ?vv109) rfl (by kernel_rfl) (by kernel_rfl) (by kernel_rfl) (fun _ _ _ h => h) (Or.inl ⟨by rfl, ?hy109⟩) (by assumption) ?_
              case hy109 =>
                intro w' hSw
                obtain ⟨s1, s2, s3, s4, _, _⟩ := hSw
                go_simp
                try with_reducible rfl
              try simp only [Act.put, List.setIfInBounds_toArray, List.set_cons_zero, List.set_cons_succ]
              refine wpAnyH_take (i := 15) (oi := ⟨some 35, .load _ (.tmp 5), _, _, _, _⟩) (v := undef) rfl (by kernel_rfl) (by kernel_rfl) (by kernel_rfl) (fun _ _ _ h => h) (Or.inr ⟨by kernel_rfl, rfl⟩) (by assumption) ?_
              try simp only [Act.put, List.setIfInBounds_toArray, List.set_cons_zero, List.set_cons_succ]
              refine wpAnyH_take (i := 16) (oi := ⟨some 36, _, _, _, _, _⟩) (v := undef) rfl (by kernel_rfl) (by kernel_rfl) (by kernel_rfl) (fun _ _ _ h => h) (Or.inr ⟨by kernel_rfl, rfl⟩) (by assumption) ?_
              try simp only [Act.put, List.setIfInBounds_toArray, List.set_cons_zero, List.set_cons_succ]
              refine wpAnyH_take (i := 17) (oi := ⟨some 37, .unOp .not _ (.tmp 36), _, _, _, _⟩) (v := undef) rfl (by kernel_rfl) (by kernel_rfl) (by kernel_rfl) (fun _ _ _ h => h) (Or.inr ⟨by kernel_rfl, rfl⟩) (by assumption) ?_
              try simp only [Act.put, List.setIfInBounds_toArray, List.set_cons_zero, List.set_cons_succ]
              refine wpAnyH_take (i := 18) (oi := ⟨some 38, .move (.tmp 37), _, _, _, _⟩) (v := undef) rfl (by kernel_rfl) (by kernel_rfl) (by kernel_rfl) (fun _ _ _ h => h) (Or.inr ⟨by kernel_rfl, rfl⟩) (by assumption) ?_
              try simp only [Act.put, List.setIfInBounds_toArray, List.set_cons_zero, List.set_cons_succ]
              refine wpAnyH_take (i := 19) (oi := ⟨some 39, .move (.tmp 0), _, _, _, _⟩) (v := undef) rfl (by kernel_rfl) (by kernel_rfl) (by kernel_rfl) (fun _ _ _ h => h) (Or.inr ⟨by kernel_rfl, rfl⟩) (by assumption) ?_
              try simp only [Act.put, List.setIfInBounds_toArray, List.set_cons_zero, List.set_cons_succ]
              refine wpAnyH_take (i := 20) (oi := ⟨some 40, .move (.tmp 6), _, _, _, _⟩) (v := undef) rfl (by kernel_rfl) (by kernel_rfl) (by kernel_rfl) (fun _ _ _ h => h) (Or.inr ⟨by kernel_rfl, rfl⟩) (by assumption) ?_
              try simp only [Act.put, List.setIfInBounds_toArray, List.set_cons_zero, List.set_cons_succ]
              refine wpAnyH_take (i := 21) (oi := ⟨some 41, .indexAddr _ (.tmp 39) (.tmp 40), _, _, _, _⟩) (v := undef) rfl (by kernel_rfl) (by kernel_rfl) (by kernel_rfl) (fun _ _ _ h => h) (Or.inr ⟨by kernel_rfl, rfl⟩) (by assumption) ?_
              try simp only [Act.put, List.setIfInBounds_toArray, List.set_cons_zero, List.set_cons_succ]
              refine wpAnyH_take (i := 22) (oi := ⟨some 42, .load _ (.tmp 41), _, _, _, _⟩) (v := undef) rfl (by kernel_rfl) (by kernel_rfl) (by kernel_rfl) (fun _ _ _ h => h) (Or.inr ⟨by kernel_rfl, rfl⟩) (by assumption) ?_
              try simp only [Act.put, List.setIfInBounds_toArray, List.set_cons_zero, List.set_cons_succ]
              refine wpAnyH_take (i := 23) (oi := ⟨some 43, .load _ (.tmp 5), _, _, _, _⟩) (v := undef) rfl (by kernel_rfl) (by kernel_rfl) (by kernel_rfl) (fun _ _ _ h => h) (Or.inr ⟨by kernel_rfl, rfl⟩) (by assumption) ?_
              try simp only [Act.put, List.setIfInBounds_toArray, List.set_cons_zero, List.set_cons_succ]
              refine wpAnyH_take (i := 24) (oi := ⟨some 44, _, _, _, _, _⟩) (v := undef) rfl (by kernel_rfl) (by kernel_rfl) (by kernel_rfl) (fun _ _ _ h => h) (Or.inr ⟨by kernel_rfl, rfl⟩) (by assumption) ?_
              try simp only [Act.put, List.setIfInBounds_toArray, List.set_cons_zero, List.set_cons_succ]
              refine wpAnyH_take (i := 25) (oi := ⟨some 45, .pick (.tmp 38) (.const (.bool true)) (.tmp 44), _, _, _, _⟩) (v := undef) rfl (by kernel_rfl) (by kernel_rfl) (by kernel_rfl) (fun _ _ _ h => h) (Or.inr ⟨by kernel_rfl, rfl⟩) (by assumption) ?_
              try simp only [Act.put, List.setIfInBounds_toArray, List.set_cons_zero, List.set_cons_succ]
              refine wpAnyH_take (i := 26) (oi := ⟨some 46, .pick (.tmp 34) (.tmp 45) (.const (.bool false)), _, _, _, _⟩) (v := ?vv121) rfl (by kernel_rfl) (by kernel_rfl) (by kernel_rfl) (fun _ _ _ h => h) (Or.inl ⟨by rfl, ?hy121⟩) (by assumption) ?_
              case hy121 =>
                intro w' hSw
                obtain ⟨s1, s2, s3, s4, _, _⟩ := hSw
                go_simp
                try with_reducible rfl
              try simp only [Act.put, List.setIfInBounds_toArray, List.set_cons_zero, List.set_cons_succ]
              refine wpAnyH_done (by kernel_rfl) ?_ _
              clear c0a c1a b0a b1a HRow HBl
              obtain ⟨c0a, c1a, b0a, b1a, hrow, hbl⟩ := hHeld
              have HRow := hide hrow
              have HBl := hide hbl
              clear hbl
              have HB2 : Hid (BestR (lsF (j + 1) f g) ((setL (lsF n f g)).take r) (bx, cy)) := by
                unfold Hid
                rw [HNX.out]
                exact HBest.out.there (HMEM.out.1 rfl)
              clear c0a c1a b0a b1a hrow
              go_wp2_with fail
              first
                | (refine ⟨⟨j + 1, bx, cy, by omega, by go_num, HB2.out, HRow.out, HBl.out⟩, ?_⟩; simp [intOf]; omega)
                | (go_roundw
                   case rel => exact ⟨j + 1, bx, cy, by omega, by go_num, HB2.out, HRow.out, HBl.out⟩
                   case measure => simp [intOf]; omega)
        · have ej : j = n := by omega
          subst ej
          have hqs : q < wr.heap.size := rowLt hrow
          obtain ⟨b0a, b1a⟩ := row2 hrow
          have d2 : decide ((j : Int) < (j : Int)) = false := decide_eq_false (by omega)
          clear hlt2 hj
          go_wp2_with fail
          refine (rright09 bx cy _).mono ?_
          rintro e v1 ⟨rfl, hv⟩
          have HBv := hide (HBl.out.trans (hv.mono (Nat.le_of_lt hqs)))
          have hrow1 := keepRow hrow hv
          obtain ⟨b0v, b1v⟩ := row2 hrow1
          have hs1 : w.heap.size ≤ v1.heap.size := (HOB.out _ HBv.out).size
          clear hv hrow hrow1 b0a b1a HRow
          by_cases hrl : r < (setL (lsF j f g)).length
          · obtain ⟨hb1, hb2⟩ := best_next HBest.out hrl
            have e1 : rightB bx cy = true := hb1
            rw [e1]
            have HF : Hid (lsF (m + 1) (catF m f' (oneF bx)) (catF m g' (oneF cy)) = (setL (lsF j f g)).take (r + 1)) := by
              show _ = _
              rw [lsF_app, Hls.out, hb2]
            have Ho1 := hide (HOO.out _ HBv.out)
            clear hb1 hb2 e1 hrl
            go_wp2_with (at_builtin; refine wp_appV rfl (.tmp 53) (.tmp 55) _ rfl 2 i0 _ 16 Tryd.underlying29 hi hz0 hz1 hz2 rfl (by omega) w.heap.size _ m _ rfl (Ho1.out.alloc _) _ 1 1 _ rfl (lit2F _ bx cy) (pr_one _ _ _) (by simp only [maxLen]; omega) (by omega) (by simp; omega) ?_; intro v3 w3 hown3 hg3 _)
            have HB3 := hide (((HOB.out _ HBv.out).alloc hs1 _).grown hg3 (by simp; omega) (ownB09 Ho1.out))
            rw [pr_cat] at hown3
            have Ho3 := hide hown3
            clear hown3 hg3
            go_wp2_with fail
            exact ⟨⟨r + 1, m + 1, _, _, by omega, by omega, by simp, Ho3.out, HF.out, HB3.out⟩, by simp [intOf]; omega⟩
          · have hb := best_none HBest.out (by omega)
            obtain ⟨hb1, hb2⟩ := Prod.mk.inj hb
            have e1 : rightB bx cy = false := by rw [hb1, hb2]; rfl
            rw [e1]
            have HF : Hid (lsF m f' g' = (setL (lsF j f g)).take (r + 1)) := by
              show _ = _
              rw [Hls.out, List.take_of_length_le (by omega), List.take_of_length_le (by omega)]
            clear hb hb1 hb2 e1 hrl
            go_wp2_with fail
            exact ⟨⟨r + 1, m, f', g', by omega, by omega, by simp, HOO.out _ HBv.out, HF.out, HOB.out _ HBv.out⟩, by simp [intOf]; omega⟩
    · have er : r = n := by omega
      subst er
      have d1 : decide ((r : Int) < (r : Int)) = false := decide_eq_false (by omega)
      have HF : Hid (lsF m f' g' = setL (lsF r f g)) := by
        show _ = _
        rw [Hls.out]
        exact List.take_of_length_le (by have := setL_len (lsF r f g); rw [lsF_len] at this; exact this)
      clear hlt hr
      go_wp2_with fail
      go_ret
      exact ⟨A0, m, c0, f', g', rfl, HRo0.out, HF.out, fun a ha => (HZ.out a ha).1, HB.out⟩
end Go.Proofs.YtbkdegjkjjdcdaaDoor
