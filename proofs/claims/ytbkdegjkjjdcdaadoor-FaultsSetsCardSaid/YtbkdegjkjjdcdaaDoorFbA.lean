/- Layer 9: the law of sets. -/
import Derived.Test.YtbkdegjkjjdcdaaDoorFb9
import Derived.Test.YtbkdegjkjjdcdaaDoorFb6
import Derived.Test.YtbkdegjkjjdcdaaDoorFa9
import Derived.Deep.RegionHeld3
namespace Go.Proofs.YtbkdegjkjjdcdaaDoor
set_option linter.unusedVariables false
set_option linter.unusedSimpArgs false
open Go.RowKit Go.PlainAid

theorem catF_zero (g f : Nat → Int) : catF 0 g f = f := by
  funext i
  unfold catF
  rw [if_neg (by omega)]
  rfl
theorem OfS.box {T : TypeId} {b o q : Nat} {x y bx cy : Int} {wr W : World} (h : OfS T b o q x y bx cy wr W) : OfS T q 0 q bx cy bx cy wr W :=
  ⟨h.2.2.1, h.2.2.2.1, h.2.2.1, h.2.2.2.1, h.2.2.2.2.1, h.2.2.2.2.2⟩
theorem OfS.of_row {T : TypeId} {q : Nat} {bx cy : Int} {wr W : World} (h : W.heap[q]? = some (.cells #[.int .i64 bx, .int .i64 cy] T (0, 0))) (hb : Below q wr W) : OfS T q 0 q bx cy bx cy wr W :=
  ⟨(row2 h).1, (row2 h).2, (row2 h).1, (row2 h).2, h, hb⟩
theorem OfS.drew {T : TypeId} {b o q : Nat} {x y bx cy : Int} {wr W : World} (h : OfS T b o q x y bx cy wr W) : OfS T b o q x y bx cy wr W.drew :=
  ⟨h.1, h.2.1, h.2.2.1, h.2.2.2.1, h.2.2.2.2.1, h.2.2.2.2.2.drew⟩
theorem OfS.both {T : TypeId} {q p : Nat} {x y bx cy : Int} {wr W : World} (h : OfS T q 0 q bx cy bx cy wr W) (hp : W.heap[p]? = some (.cells #[.int .i64 x, .int .i64 y] T (0, 0))) : OfS T p 0 q x y bx cy wr W :=
  ⟨(row2 hp).1, (row2 hp).2, h.2.2.1, h.2.2.2.1, h.2.2.2.2.1, h.2.2.2.2.2⟩

set_option maxRecDepth 20000 in
set_option maxHeartbeats 12800000 in
theorem sets_walk09 (A C : Option Addr) (n c m d : Nat) (fa ga fb gb : Nat → Int) (s t : Int) (w : World) (ha : Rd2 w A n c fa ga) (hb : Rd2 w C m d fb gb) (hN : CdW w) (hP : PowW w) :
    Calls Tryd.prog 4 #[.slice A n c, .slice C m d, .agg #[.int .i64 s, .int .i64 t]] w (Yes9 w) := by
  obtain ⟨i0, hi, hz0, hz1, hz2⟩ := info_parts flt09_info
  have Ra := hide ha
  have Rb := hide hb
  have HN := hide hN
  have HP := hide hP
  clear ha hb hN hP
  have R0 := hide (heap_alloc_new w (.cells #[.int .i64 s, .int .i64 t] 31))
  have B0 : Hid (Below w.heap.size w (w.alloc (.cells #[.int .i64 s, .int .i64 t] 31))) := (Below.refl _ _).alloc (Nat.le_refl _) _
  by_cases hn : 40 < n
  · have tn : decide (40 < n) = true := decide_eq_true hn
    have un : decide ((40 : Int) < (n : Int)) = true := decide_eq_true (by omega)
    clear hn
    go_enter Tryd.func4, Tryd.ntmps4
    go_wp2_with fail
    refine (alive09 _ (HN.out.below B0.out) (HP.out.below B0.out)).mono ?_
    rintro e w9 ⟨rfl, hb9⟩
    have HB9 := hide (B0.out.of hb9)
    clear hb9
    go_wp2_with fail
    go_ret
    exact ⟨rfl, HB9.out⟩
  have tn : decide (40 < n) = false := decide_eq_false hn
  have un : decide ((40 : Int) < (n : Int)) = false := decide_eq_false (by omega)
  by_cases hm : 40 < m
  · have tm : decide (40 < m) = true := decide_eq_true hm
    have um : decide ((40 : Int) < (m : Int)) = true := decide_eq_true (by omega)
    clear hm
    go_enter Tryd.func4, Tryd.ntmps4
    go_wp2_with fail
    refine (alive09 _ (HN.out.below B0.out) (HP.out.below B0.out)).mono ?_
    rintro e w9 ⟨rfl, hb9⟩
    have HB9 := hide (B0.out.of hb9)
    clear hb9
    go_wp2_with fail
    go_ret
    exact ⟨rfl, HB9.out⟩
  have tm : decide (40 < m) = false := decide_eq_false hm
  have um : decide ((40 : Int) < (m : Int)) = false := decide_eq_false (by omega)
  have B1 : Hid (Below w.heap.size w ((w.alloc (.cells #[.int .i64 s, .int .i64 t] 31)).alloc (.cells #[] 31))) := B0.out.alloc (by simp) _
  have R1 := hide (keepRow R0.out ((Below.refl _ _).alloc (Nat.le_refl _) (.cells #[] 31)))
  have O1 : Hid (OwnV 2 31 (w.heap.size + 1) ((w.alloc (.cells #[.int .i64 s, .int .i64 t] 31)).alloc (.cells #[] 31)) (.slice (some ⟨w.heap.size + 1, 0, none⟩) 0 0) 0 (pr fa ga)) := by
    have k := OwnV.lit 2 31 (w.heap.size + 1) (w.alloc (.cells #[.int .i64 s, .int .i64 t] 31)) (pr fa ga) #[] 0 (by simp) (by simp [maxLen]) rfl
    rw [show (w.alloc (.cells #[.int .i64 s, .int .i64 t] 31)).heap.size = w.heap.size + 1 by simp] at k
    exact k
  go_enter Tryd.func4, Tryd.ntmps4
  go_wp2_with (first
    | (at_builtin; refine wp_appV rfl (.tmp 19) (.tmp 20) _ rfl 2 i0 _ 16 Tryd.underlying29 hi hz0 hz1 hz2 rfl (by omega) (w.heap.size + 1) _ 0 (pr fa ga) rfl O1.out A n c _ rfl (rdV_of_rd2 (Ra.out.below B1.out)) (pr_one _ _ _) (by simp only [maxLen]; omega) (by omega) (by simp) ?_; intro z1 w1 hown1 hg1 _; have HO1 := hide hown1; have HB1 := hide (B1.out.grown hg1 (by simp; omega) (fun j e => by have := ownB09 O1.out j e; omega)); have HR1 := hide (keepGrown R1.out hg1 (fun e => by have := ownB09 O1.out _ e; omega)); have hs1 := hg1.size; clear hown1 hg1)
    | (at_builtin; refine wp_appV rfl (.tmp 21) (.tmp 22) _ rfl 2 i0 _ 16 Tryd.underlying29 hi hz0 hz1 hz2 rfl (by omega) (w.heap.size + 1) _ (0 + n) _ rfl HO1.out C m d _ rfl (rdV_of_rd2 (Rb.out.below HB1.out)) (pr_one _ _ _) (by simp only [maxLen]; omega) (by omega) (by simp at hs1; omega) ?_; intro z2 w2 hown2 hg2 _; have HO2 := hide hown2; have HB2 := hide (HB1.out.grown hg2 (by simp at hs1; omega) (fun j e => by have := ownB09 HO1.out j e; omega)); have HR2 := hide (keepGrown HR1.out hg2 (fun e => by have := ownB09 HO1.out _ e; omega)); clear hown2 hg2))
  have HO3 := hide HO2.out
  rw [pr_cat, pr_cat, catF_zero, catF_zero, Nat.zero_add] at HO3
  obtain ⟨A3, c3, rfl, hr3, _⟩ := HO3.out.rd
  have HR3 := hide (rd2_of_rdV hr3)
  have HH : Hid (OfS 31 w.heap.size 0 w.heap.size s t s t w w2) := OfS.of_row HR2.out HB2.out
  have HKA : Hid (∀ W, OfS 31 w.heap.size 0 w.heap.size s t s t w W → Rd2 W A n c fa ga) := fun W h => Ra.out.below h.below
  have HKB : Hid (∀ W, OfS 31 w.heap.size 0 w.heap.size s t s t w W → Rd2 W C m d fb gb) := fun W h => Rb.out.below h.below
  clear hr3 HO3 HO2 HO1 O1 HR1 R1 R0 hs1 HB1 B1
  obtain ⟨zh, hzh⟩ : ∃ z, hasB n fa ga s t = z := ⟨_, rfl⟩
  obtain ⟨zr, hzr⟩ : ∃ z, rightB s t = z := ⟨_, rfl⟩
  have HZH := hide hzh
  have HZR := hide hzr
  clear hzh hzr
  refine wp_region_held_drew (S := OfS 31 w.heap.size 0 w.heap.size s t s t w) (by kernel_rfl) HH.out.drew (fun hHeld => ?_)
  refine wpAnyH_take (i := 0) (oi := ⟨some 24, .move (.tmp 0), _, _, _, _⟩) (v := ?vv1) rfl (by kernel_rfl) (by kernel_rfl) (by kernel_rfl) (fun _ _ _ h => h) (Or.inl ⟨by rfl, ?hy1⟩) (by assumption) ?_
  case hy1 =>
    intro w' hSw
    obtain ⟨s1, s2, s3, s4, _, _⟩ := hSw
    go_simp
    try with_reducible rfl
  try simp only [Act.put, List.setIfInBounds_toArray, List.set_cons_zero, List.set_cons_succ]
  refine wpAnyH_take (i := 2) (oi := ⟨some 26, .move (.tmp 0), _, _, _, _⟩) (v := ?vv2) rfl (by kernel_rfl) (by kernel_rfl) (by kernel_rfl) (fun _ _ _ h => h) (Or.inl ⟨by rfl, ?hy2⟩) (by assumption) ?_
  case hy2 =>
    intro w' hSw
    obtain ⟨s1, s2, s3, s4, _, _⟩ := hSw
    go_simp
    try with_reducible rfl
  try simp only [Act.put, List.setIfInBounds_toArray, List.set_cons_zero, List.set_cons_succ]
  refine wpAnyH_ready (rs := [1]) (by kernel_rfl) (by simp) ?_
  refine AllReadyH.cons (o := ⟨some 25, _, _, _, _, _⟩) rfl (fun K hK => ?_) AllReadyH.nil
  go_simp
  refine (ofG09 A n c fa ga _ (HKA.out _ hHeld) (by omega)).mono ?_
  rintro e v1 ⟨X1, n1, c1, f1, g1, rfl, hr1, hl1, _, hv⟩
  refine hK.out _ _ (OfS.next (by assumption) hv) (fun hHeld2 => ?_)
  clear hK K hHeld
  have hHeld := hHeld2
  clear hHeld2
  have HX1 := hide hr1
  have HL1 := hide hl1
  clear hr1 hl1
  have G3a := hide (HR3.out.below ((Below.refl _ _).drew.of hv))
  clear HR3
  clear hv
  try simp only [Act.put, List.setIfInBounds_toArray, List.set_cons_zero, List.set_cons_succ]
  refine wpAnyH_ready (rs := [3]) (by kernel_rfl) (by simp) ?_
  refine AllReadyH.cons (o := ⟨some 27, _, _, _, _, _⟩) rfl (fun K hK => ?_) AllReadyH.nil
  go_simp
  refine (rof09 A n c fa ga _ (HKA.out _ hHeld) (by omega)).mono ?_
  rintro e v2 ⟨X2, n2, c2, f2, g2, rfl, hr2, hl2, _, hv⟩
  refine hK.out _ _ (OfS.next (by assumption) hv) (fun hHeld2 => ?_)
  clear hK K hHeld
  have hHeld := hHeld2
  clear hHeld2
  have HX2 := hide hr2
  have HL2 := hide hl2
  clear hr2 hl2
  have HX1b := hide (HX1.out.below hv)
  clear HX1
  have G3b := hide (G3a.out.below hv)
  clear G3a
  have z1 : sameL n1 n2 f1 g1 f2 g2 = true := decide_eq_true (by rw [HL1.out, HL2.out])
  clear hv
  try simp only [Act.put, List.setIfInBounds_toArray, List.set_cons_zero, List.set_cons_succ]
  refine wpAnyH_ready (rs := [4]) (by kernel_rfl) (by simp) ?_
  refine AllReadyH.cons (o := ⟨some 28, _, _, _, _, _⟩) rfl (fun K hK => ?_) AllReadyH.nil
  go_simp
  refine (rsame09 X1 X2 n1 c1 n2 c2 f1 g1 f2 g2 _ HX1b.out HX2.out).mono ?_
  rw [z1]
  rintro e v3 ⟨rfl, hd⟩
  have hv := drawn_below hd v2.heap.size
  refine hK.out _ _ (OfS.next (by assumption) hv) (fun hHeld2 => ?_)
  clear hK K hHeld
  have hHeld := hHeld2
  clear hHeld2
  have G3c := hide (G3b.out.below hv)
  clear G3b HX1b HX2 HL1 HL2 z1 hd
  clear hv
  try simp only [Act.put, List.setIfInBounds_toArray, List.set_cons_zero, List.set_cons_succ]
  refine wpAnyH_take (i := 5) (oi := ⟨some 29, .unOp .not _ (.tmp 28), _, _, _, _⟩) (v := ?vv3) rfl (by kernel_rfl) (by kernel_rfl) (by kernel_rfl) (fun _ _ _ h => h) (Or.inl ⟨by rfl, ?hy3⟩) (by assumption) ?_
  case hy3 =>
    intro w' hSw
    obtain ⟨s1, s2, s3, s4, _, _⟩ := hSw
    go_simp
    try with_reducible rfl
  try simp only [Act.put, List.setIfInBounds_toArray, List.set_cons_zero, List.set_cons_succ]
  refine wpAnyH_take (i := 6) (oi := ⟨some 30, .move (.tmp 29), _, _, _, _⟩) (v := ?vv4) rfl (by kernel_rfl) (by kernel_rfl) (by kernel_rfl) (fun _ _ _ h => h) (Or.inl ⟨by rfl, ?hy4⟩) (by assumption) ?_
  case hy4 =>
    intro w' hSw
    obtain ⟨s1, s2, s3, s4, _, _⟩ := hSw
    go_simp
    try with_reducible rfl
  try simp only [Act.put, List.setIfInBounds_toArray, List.set_cons_zero, List.set_cons_succ]
  refine wpAnyH_take (i := 7) (oi := ⟨some 31, .move (.tmp 0), _, _, _, _⟩) (v := ?vv5) rfl (by kernel_rfl) (by kernel_rfl) (by kernel_rfl) (fun _ _ _ h => h) (Or.inl ⟨by rfl, ?hy5⟩) (by assumption) ?_
  case hy5 =>
    intro w' hSw
    obtain ⟨s1, s2, s3, s4, _, _⟩ := hSw
    go_simp
    try with_reducible rfl
  try simp only [Act.put, List.setIfInBounds_toArray, List.set_cons_zero, List.set_cons_succ]
  refine wpAnyH_take (i := 8) (oi := ⟨some 32, .move (.tmp 1), _, _, _, _⟩) (v := ?vv6) rfl (by kernel_rfl) (by kernel_rfl) (by kernel_rfl) (fun _ _ _ h => h) (Or.inl ⟨by rfl, ?hy6⟩) (by assumption) ?_
  case hy6 =>
    intro w' hSw
    obtain ⟨s1, s2, s3, s4, _, _⟩ := hSw
    go_simp
    try with_reducible rfl
  try simp only [Act.put, List.setIfInBounds_toArray, List.set_cons_zero, List.set_cons_succ]
  refine wpAnyH_take (i := 10) (oi := ⟨some 34, .move (.tmp 7), _, _, _, _⟩) (v := ?vv7) rfl (by kernel_rfl) (by kernel_rfl) (by kernel_rfl) (fun _ _ _ h => h) (Or.inl ⟨by rfl, ?hy7⟩) (by assumption) ?_
  case hy7 =>
    intro w' hSw
    obtain ⟨s1, s2, s3, s4, _, _⟩ := hSw
    go_simp
    try with_reducible rfl
  try simp only [Act.put, List.setIfInBounds_toArray, List.set_cons_zero, List.set_cons_succ]
  refine wpAnyH_ready (rs := [9]) (by kernel_rfl) (by simp) ?_
  refine AllReadyH.cons (o := ⟨some 33, _, _, _, _, _⟩) rfl (fun K hK => ?_) AllReadyH.nil
  go_simp
  refine (union09 A C n c m d fa ga fb gb _ (HKA.out _ hHeld) (HKB.out _ hHeld) (by omega)).mono ?_
  rintro e v4 ⟨X4, n4, c4, f4, g4, rfl, hr4, hl4, _, hv⟩
  refine hK.out _ _ (OfS.next (by assumption) hv) (fun hHeld2 => ?_)
  clear hK K hHeld
  have hHeld := hHeld2
  clear hHeld2
  have HX4 := hide hr4
  have HL4 := hide hl4
  clear hr4 hl4
  have G3d := hide (G3c.out.below hv)
  clear G3c
  clear hv
  try simp only [Act.put, List.setIfInBounds_toArray, List.set_cons_zero, List.set_cons_succ]
  refine wpAnyH_ready (rs := [11]) (by kernel_rfl) (by simp) ?_
  refine AllReadyH.cons (o := ⟨some 35, _, _, _, _, _⟩) rfl (fun K hK => ?_) AllReadyH.nil
  go_simp
  refine (rof09 A3 (n + m) c3 (catF n fa fb) (catF n ga gb) _ G3d.out (by omega)).mono ?_
  rintro e v5 ⟨X5, n5, c5, f5, g5, rfl, hr5, hl5, _, hv⟩
  refine hK.out _ _ (OfS.next (by assumption) hv) (fun hHeld2 => ?_)
  clear hK K hHeld
  have hHeld := hHeld2
  clear hHeld2
  have HX5 := hide hr5
  have HL5 := hide hl5
  clear hr5 hl5
  have HX4b := hide (HX4.out.below hv)
  clear HX4 G3d
  have z2 : sameL n4 n5 f4 g4 f5 g5 = true := decide_eq_true (by rw [HL4.out, HL5.out, lsF_cat])
  clear hv
  try simp only [Act.put, List.setIfInBounds_toArray, List.set_cons_zero, List.set_cons_succ]
  refine wpAnyH_ready (rs := [12]) (by kernel_rfl) (by simp) ?_
  refine AllReadyH.cons (o := ⟨some 36, _, _, _, _, _⟩) rfl (fun K hK => ?_) AllReadyH.nil
  go_simp
  refine (rsame09 X4 X5 n4 c4 n5 c5 f4 g4 f5 g5 _ HX4b.out HX5.out).mono ?_
  rw [z2]
  rintro e v6 ⟨rfl, hd⟩
  have hv := drawn_below hd v5.heap.size
  refine hK.out _ _ (OfS.next (by assumption) hv) (fun hHeld2 => ?_)
  clear hK K hHeld
  have hHeld := hHeld2
  clear hHeld2
  clear HX4b HX5 HL4 HL5 z2 hd
  clear hv
  try simp only [Act.put, List.setIfInBounds_toArray, List.set_cons_zero, List.set_cons_succ]
  refine wpAnyH_take (i := 13) (oi := ⟨some 37, .unOp .not _ (.tmp 36), _, _, _, _⟩) (v := ?vv8) rfl (by kernel_rfl) (by kernel_rfl) (by kernel_rfl) (fun _ _ _ h => h) (Or.inl ⟨by rfl, ?hy8⟩) (by assumption) ?_
  case hy8 =>
    intro w' hSw
    obtain ⟨s1, s2, s3, s4, _, _⟩ := hSw
    go_simp
    try with_reducible rfl
  try simp only [Act.put, List.setIfInBounds_toArray, List.set_cons_zero, List.set_cons_succ]
  refine wpAnyH_take (i := 14) (oi := ⟨some 38, .pick (.tmp 30) (.const (.bool true)) (.tmp 37), _, _, _, _⟩) (v := ?vv9) rfl (by kernel_rfl) (by kernel_rfl) (by kernel_rfl) (fun _ _ _ h => h) (Or.inl ⟨by rfl, ?hy9⟩) (by assumption) ?_
  case hy9 =>
    intro w' hSw
    obtain ⟨s1, s2, s3, s4, _, _⟩ := hSw
    go_simp
    try with_reducible rfl
  try simp only [Act.put, List.setIfInBounds_toArray, List.set_cons_zero, List.set_cons_succ]
  refine wpAnyH_take (i := 15) (oi := ⟨some 39, .move (.tmp 38), _, _, _, _⟩) (v := ?vv10) rfl (by kernel_rfl) (by kernel_rfl) (by kernel_rfl) (fun _ _ _ h => h) (Or.inl ⟨by rfl, ?hy10⟩) (by assumption) ?_
  case hy10 =>
    intro w' hSw
    obtain ⟨s1, s2, s3, s4, _, _⟩ := hSw
    go_simp
    try with_reducible rfl
  try simp only [Act.put, List.setIfInBounds_toArray, List.set_cons_zero, List.set_cons_succ]
  refine wpAnyH_take (i := 16) (oi := ⟨some 40, .move (.tmp 0), _, _, _, _⟩) (v := ?vv11) rfl (by kernel_rfl) (by kernel_rfl) (by kernel_rfl) (fun _ _ _ h => h) (Or.inl ⟨by rfl, ?hy11⟩) (by assumption) ?_
  case hy11 =>
    intro w' hSw
    obtain ⟨s1, s2, s3, s4, _, _⟩ := hSw
    go_simp
    try with_reducible rfl
  try simp only [Act.put, List.setIfInBounds_toArray, List.set_cons_zero, List.set_cons_succ]
  refine wpAnyH_take (i := 17) (oi := ⟨some 41, .load _ (.tmp 5), _, _, _, _⟩) (v := ?vv12) rfl (by kernel_rfl) (by kernel_rfl) (by kernel_rfl) (fun _ _ _ h => h) (Or.inl ⟨by rfl, ?hy12⟩) (by assumption) ?_
  case hy12 =>
    intro w' hSw
    obtain ⟨s1, s2, s3, s4, _, _⟩ := hSw
    go_simp
    try with_reducible rfl
  try simp only [Act.put, List.setIfInBounds_toArray, List.set_cons_zero, List.set_cons_succ]
  refine wpAnyH_take (i := 19) (oi := ⟨some 43, .move (.tmp 0), _, _, _, _⟩) (v := ?vv13) rfl (by kernel_rfl) (by kernel_rfl) (by kernel_rfl) (fun _ _ _ h => h) (Or.inl ⟨by rfl, ?hy13⟩) (by assumption) ?_
  case hy13 =>
    intro w' hSw
    obtain ⟨s1, s2, s3, s4, _, _⟩ := hSw
    go_simp
    try with_reducible rfl
  try simp only [Act.put, List.setIfInBounds_toArray, List.set_cons_zero, List.set_cons_succ]
  refine wpAnyH_take (i := 20) (oi := ⟨some 44, .load _ (.tmp 5), _, _, _, _⟩) (v := ?vv14) rfl (by kernel_rfl) (by kernel_rfl) (by kernel_rfl) (fun _ _ _ h => h) (Or.inl ⟨by rfl, ?hy14⟩) (by assumption) ?_
  case hy14 =>
    intro w' hSw
    obtain ⟨s1, s2, s3, s4, _, _⟩ := hSw
    go_simp
    try with_reducible rfl
  try simp only [Act.put, List.setIfInBounds_toArray, List.set_cons_zero, List.set_cons_succ]
  refine wpAnyH_ready (rs := [18]) (by kernel_rfl) (by simp) ?_
  refine AllReadyH.cons (o := ⟨some 42, _, _, _, _, _⟩) rfl (fun K hK => ?_) AllReadyH.nil
  go_simp
  refine (has09 A n c fa ga s t _ (HKA.out _ hHeld)).mono ?_
  rw [HZH.out]
  rintro e v7 ⟨rfl, hv⟩
  refine hK.out _ _ (OfS.next (by assumption) hv) (fun hHeld2 => ?_)
  clear hK K hHeld
  have hHeld := hHeld2
  clear hHeld2
  clear hv
  try simp only [Act.put, List.setIfInBounds_toArray, List.set_cons_zero, List.set_cons_succ]
  refine wpAnyH_ready (rs := [21]) (by kernel_rfl) (by simp) ?_
  refine AllReadyH.cons (o := ⟨some 45, _, _, _, _, _⟩) rfl (fun K hK => ?_) AllReadyH.nil
  go_simp
  refine (rhas09 A n c fa ga s t _ (HKA.out _ hHeld)).mono ?_
  rw [HZH.out]
  rintro e v8 ⟨rfl, hv⟩
  refine hK.out _ _ (OfS.next (by assumption) hv) (fun hHeld2 => ?_)
  clear hK K hHeld
  have hHeld := hHeld2
  clear hHeld2
  clear hv
  try simp only [Act.put, List.setIfInBounds_toArray, List.set_cons_zero, List.set_cons_succ]
  refine wpAnyH_take (i := 22) (oi := ⟨some 46, .binOp .neq _ (.tmp 42) (.tmp 45) _, _, _, _, _⟩) (v := ?vv15) rfl (by kernel_rfl) (by kernel_rfl) (by kernel_rfl) (fun _ _ _ h => h) (Or.inl ⟨by rfl, ?hy15⟩) (by assumption) ?_
  case hy15 =>
    intro w' hSw
    obtain ⟨s1, s2, s3, s4, _, _⟩ := hSw
    go_simp
    try with_reducible rfl
  try simp only [Act.put, List.setIfInBounds_toArray, List.set_cons_zero, List.set_cons_succ]
  refine wpAnyH_take (i := 23) (oi := ⟨some 47, .pick (.tmp 39) (.const (.bool true)) (.tmp 46), _, _, _, _⟩) (v := ?vv16) rfl (by kernel_rfl) (by kernel_rfl) (by kernel_rfl) (fun _ _ _ h => h) (Or.inl ⟨by rfl, ?hy16⟩) (by assumption) ?_
  case hy16 =>
    intro w' hSw
    obtain ⟨s1, s2, s3, s4, _, _⟩ := hSw
    go_simp
    try with_reducible rfl
  try simp only [Act.put, List.setIfInBounds_toArray, List.set_cons_zero, List.set_cons_succ]
  refine wpAnyH_take (i := 24) (oi := ⟨some 48, .move (.tmp 47), _, _, _, _⟩) (v := ?vv17) rfl (by kernel_rfl) (by kernel_rfl) (by kernel_rfl) (fun _ _ _ h => h) (Or.inl ⟨by rfl, ?hy17⟩) (by assumption) ?_
  case hy17 =>
    intro w' hSw
    obtain ⟨s1, s2, s3, s4, _, _⟩ := hSw
    go_simp
    try with_reducible rfl
  try simp only [Act.put, List.setIfInBounds_toArray, List.set_cons_zero, List.set_cons_succ]
  refine wpAnyH_take (i := 25) (oi := ⟨some 49, .load _ (.tmp 5), _, _, _, _⟩) (v := ?vv18) rfl (by kernel_rfl) (by kernel_rfl) (by kernel_rfl) (fun _ _ _ h => h) (Or.inl ⟨by rfl, ?hy18⟩) (by assumption) ?_
  case hy18 =>
    intro w' hSw
    obtain ⟨s1, s2, s3, s4, _, _⟩ := hSw
    go_simp
    try with_reducible rfl
  try simp only [Act.put, List.setIfInBounds_toArray, List.set_cons_zero, List.set_cons_succ]
  refine wpAnyH_take (i := 27) (oi := ⟨some 51, .load _ (.tmp 5), _, _, _, _⟩) (v := ?vv19) rfl (by kernel_rfl) (by kernel_rfl) (by kernel_rfl) (fun _ _ _ h => h) (Or.inl ⟨by rfl, ?hy19⟩) (by assumption) ?_
  case hy19 =>
    intro w' hSw
    obtain ⟨s1, s2, s3, s4, _, _⟩ := hSw
    go_simp
    try with_reducible rfl
  try simp only [Act.put, List.setIfInBounds_toArray, List.set_cons_zero, List.set_cons_succ]
  refine wpAnyH_ready (rs := [26]) (by kernel_rfl) (by simp) ?_
  refine AllReadyH.cons (o := ⟨some 50, _, _, _, _, _⟩) rfl (fun K hK => ?_) AllReadyH.nil
  go_simp
  refine (right09 s t _).mono ?_
  rw [HZR.out]
  rintro e v9 ⟨rfl, hv⟩
  refine hK.out _ _ (OfS.next (by assumption) hv) (fun hHeld2 => ?_)
  clear hK K hHeld
  have hHeld := hHeld2
  clear hHeld2
  clear hv
  try simp only [Act.put, List.setIfInBounds_toArray, List.set_cons_zero, List.set_cons_succ]
  refine wpAnyH_ready (rs := [28]) (by kernel_rfl) (by simp) ?_
  refine AllReadyH.cons (o := ⟨some 52, _, _, _, _, _⟩) rfl (fun K hK => ?_) AllReadyH.nil
  go_simp
  refine (rright09 s t _).mono ?_
  rw [HZR.out]
  rintro e v10 ⟨rfl, hv⟩
  refine hK.out _ _ (OfS.next (by assumption) hv) (fun hHeld2 => ?_)
  clear hK K hHeld
  have hHeld := hHeld2
  clear hHeld2
  clear hv
  try simp only [Act.put, List.setIfInBounds_toArray, List.set_cons_zero, List.set_cons_succ]
  refine wpAnyH_take (i := 29) (oi := ⟨some 53, .binOp .neq _ (.tmp 50) (.tmp 52) _, _, _, _, _⟩) (v := ?vv20) rfl (by kernel_rfl) (by kernel_rfl) (by kernel_rfl) (fun _ _ _ h => h) (Or.inl ⟨by rfl, ?hy20⟩) (by assumption) ?_
  case hy20 =>
    intro w' hSw
    obtain ⟨s1, s2, s3, s4, _, _⟩ := hSw
    go_simp
    try with_reducible rfl
  try simp only [Act.put, List.setIfInBounds_toArray, List.set_cons_zero, List.set_cons_succ]
  refine wpAnyH_take (i := 30) (oi := ⟨some 54, .pick (.tmp 48) (.const (.bool true)) (.tmp 53), _, _, _, _⟩) (v := ?vv21) rfl (by kernel_rfl) (by kernel_rfl) (by kernel_rfl) (fun _ _ _ h => h) (Or.inl ⟨by rfl, ?hy21⟩) (by assumption) ?_
  case hy21 =>
    intro w' hSw
    obtain ⟨s1, s2, s3, s4, _, _⟩ := hSw
    go_simp
    try with_reducible rfl
  try simp only [Act.put, List.setIfInBounds_toArray, List.set_cons_zero, List.set_cons_succ]
  refine wpAnyH_done (by kernel_rfl) ?_ _
  have HF := hide hHeld
  clear hHeld HH HR2 HB2
  go_wp2_with fail
  go_loopw [57] (fun i wr => ∃ j : Nat, j ≤ m ∧ i = .int .i64 j ∧ OfS 31 w.heap.size 0 w.heap.size s t s t w wr) (fun i _ => m - (intOf i).toNat)
  case atStart => exact ⟨0, Nat.zero_le _, rfl, HF.out⟩
  case round =>
    obtain ⟨j, hj, rfl, hof⟩ := hrel
    have HF := hide hof
    clear hof
    by_cases hlt : j < m
    · obtain ⟨b, off, rfl, c0a, c1a⟩ := (HKB.out _ HF.out).at_ hlt
      have d1 : decide ((j : Int) < (m : Int)) = true := decide_eq_true (by omega)
      obtain ⟨x, hx⟩ : ∃ x, fb j = x := ⟨_, rfl⟩
      obtain ⟨y, hy⟩ : ∃ y, gb j = y := ⟨_, rfl⟩
      rw [hx] at c0a
      rw [hy] at c1a
      clear hx hy
      obtain ⟨z, hz⟩ : ∃ z, ltB (s, t) (x, y) = z := ⟨_, rfl⟩
      have HZ := hide hz
      clear hz
      go_wp2_with fail
      have RN := heap_alloc_new wr (.cells #[.int .i64 x, .int .i64 y] 31)
      have BN : Below wr.heap.size wr (wr.alloc (.cells #[.int .i64 x, .int .i64 y] 31)) := (Below.refl _ _).alloc (Nat.le_refl _) _
      have HS := hide (OfS.both (HF.out.next BN) RN)
      generalize wr.alloc (.cells #[.int .i64 x, .int .i64 y] 31) = W1 at *
      generalize wr.heap.size = pq at *
      clear RN BN c0a c1a
      refine wp_region_held_drew (S := OfS 31 pq 0 w.heap.size x y s t w) (by kernel_rfl) HS.out.drew (fun hHeld => ?_)
      refine wpAnyH_take (i := 0) (oi := ⟨some 61, .load _ (.tmp 5), _, _, _, _⟩) (v := ?vv22) rfl (by kernel_rfl) (by kernel_rfl) (by kernel_rfl) (fun _ _ _ h => h) (Or.inl ⟨by rfl, ?hy22⟩) (by assumption) ?_
      case hy22 =>
        intro w' hSw
        obtain ⟨s1, s2, s3, s4, _, _⟩ := hSw
        go_simp
        try with_reducible rfl
      try simp only [Act.put, List.setIfInBounds_toArray, List.set_cons_zero, List.set_cons_succ]
      refine wpAnyH_take (i := 1) (oi := ⟨some 62, .load _ (.tmp 9), _, _, _, _⟩) (v := ?vv23) rfl (by kernel_rfl) (by kernel_rfl) (by kernel_rfl) (fun _ _ _ h => h) (Or.inl ⟨by rfl, ?hy23⟩) (by assumption) ?_
      case hy23 =>
        intro w' hSw
        obtain ⟨s1, s2, s3, s4, _, _⟩ := hSw
        go_simp
        try with_reducible rfl
      try simp only [Act.put, List.setIfInBounds_toArray, List.set_cons_zero, List.set_cons_succ]
      refine wpAnyH_take (i := 3) (oi := ⟨some 64, .load _ (.tmp 5), _, _, _, _⟩) (v := ?vv24) rfl (by kernel_rfl) (by kernel_rfl) (by kernel_rfl) (fun _ _ _ h => h) (Or.inl ⟨by rfl, ?hy24⟩) (by assumption) ?_
      case hy24 =>
        intro w' hSw
        obtain ⟨s1, s2, s3, s4, _, _⟩ := hSw
        go_simp
        try with_reducible rfl
      try simp only [Act.put, List.setIfInBounds_toArray, List.set_cons_zero, List.set_cons_succ]
      refine wpAnyH_take (i := 4) (oi := ⟨some 65, .load _ (.tmp 9), _, _, _, _⟩) (v := ?vv25) rfl (by kernel_rfl) (by kernel_rfl) (by kernel_rfl) (fun _ _ _ h => h) (Or.inl ⟨by rfl, ?hy25⟩) (by assumption) ?_
      case hy25 =>
        intro w' hSw
        obtain ⟨s1, s2, s3, s4, _, _⟩ := hSw
        go_simp
        try with_reducible rfl
      try simp only [Act.put, List.setIfInBounds_toArray, List.set_cons_zero, List.set_cons_succ]
      refine wpAnyH_ready (rs := [2]) (by kernel_rfl) (by simp) ?_
      refine AllReadyH.cons (o := ⟨some 63, _, _, _, _, _⟩) rfl (fun K hK => ?_) AllReadyH.nil
      go_simp
      refine (less09 s t x y _).mono ?_
      rw [HZ.out]
      rintro e v1 ⟨rfl, hv⟩
      refine hK.out _ _ (OfS.next (by assumption) hv) (fun hHeld2 => ?_)
      clear hK K hHeld
      have hHeld := hHeld2
      clear hHeld2
      clear hv
      try simp only [Act.put, List.setIfInBounds_toArray, List.set_cons_zero, List.set_cons_succ]
      refine wpAnyH_ready (rs := [5]) (by kernel_rfl) (by simp) ?_
      refine AllReadyH.cons (o := ⟨some 66, _, _, _, _, _⟩) rfl (fun K hK => ?_) AllReadyH.nil
      go_simp
      refine (rless09 s t x y _).mono ?_
      rw [HZ.out]
      rintro e v2 ⟨rfl, hv⟩
      refine hK.out _ _ (OfS.next (by assumption) hv) (fun hHeld2 => ?_)
      clear hK K hHeld
      have hHeld := hHeld2
      clear hHeld2
      clear hv
      try simp only [Act.put, List.setIfInBounds_toArray, List.set_cons_zero, List.set_cons_succ]
      refine wpAnyH_take (i := 6) (oi := ⟨some 67, .binOp .neq _ (.tmp 63) (.tmp 66) _, _, _, _, _⟩) (v := ?vv26) rfl (by kernel_rfl) (by kernel_rfl) (by kernel_rfl) (fun _ _ _ h => h) (Or.inl ⟨by rfl, ?hy26⟩) (by assumption) ?_
      case hy26 =>
        intro w' hSw
        obtain ⟨s1, s2, s3, s4, _, _⟩ := hSw
        go_simp
        try with_reducible rfl
      try simp only [Act.put, List.setIfInBounds_toArray, List.set_cons_zero, List.set_cons_succ]
      refine wpAnyH_done (by kernel_rfl) ?_ _
      have HF2 := hide hHeld.box
      clear hHeld HS HF
      go_wp2_with fail
      first
        | (refine ⟨⟨j + 1, by omega, by go_num, HF2.out⟩, ?_⟩; simp [intOf]; omega)
        | (go_roundw
           case rel => exact ⟨j + 1, by omega, by go_num, HF2.out⟩
           case measure => simp [intOf]; omega)
    · have d1 : decide ((j : Int) < (m : Int)) = false := decide_eq_false (by omega)
      obtain ⟨z, hz⟩ : ∃ z, sameL n m fa ga fb gb = z := ⟨_, rfl⟩
      have HZ := hide hz
      have za : sameL n n fa ga fa ga = true := decide_eq_true rfl
      have HZA := hide za
      clear hz za
      have HBf := hide HF.out.below
      go_wp2_with fail
      refine (same09 A C n c m d fa ga fb gb _ (HKA.out _ HF.out) (HKB.out _ HF.out)).mono ?_
      rw [HZ.out]
      rintro e v1 ⟨rfl, hd⟩
      have HF1 := hide (HF.out.next (drawn_below hd _))
      clear hd
      go_wp2_with fail
      refine (rsame09 A C n c m d fa ga fb gb _ (HKA.out _ HF1.out) (HKB.out _ HF1.out)).mono ?_
      rw [HZ.out]
      rintro e v2 ⟨rfl, hd⟩
      have HF2 := hide (HF1.out.next (drawn_below hd _))
      clear hd
      go_wp2_with fail
      refine (same09 A A n c n c fa ga fa ga _ (HKA.out _ HF2.out) (HKA.out _ HF2.out)).mono ?_
      rw [HZA.out]
      rintro e v3 ⟨rfl, hd⟩
      have HF3 := hide (HF2.out.next (drawn_below hd _))
      clear hd
      go_wp2_with fail
      refine (alive09 _ (HN.out.below HF3.out.below) (HP.out.below HF3.out.below)).mono ?_
      rintro e v4 ⟨rfl, hb⟩
      have HB4 := hide (HF3.out.below.of hb)
      clear hb
      go_wp2_with fail
      go_ret
      exact ⟨rfl, HB4.out⟩
end Go.Proofs.YtbkdegjkjjdcdaaDoor
