/- Ft7, Ft8, Ft9 in one text. -/
import Derived.Test.YtbkdegjkjjdcdaaDoorN8
import Derived.Test.YtbkdegjkjjdcdaaDoorSq4
import Derived.Test.YtbkdegjkjjdcdaaDoorRg1
import Derived.Test.YtbkdegjkjjdcdaaDoorSq5
import Derived.Deep.Cut
import Derived.Test.YtbkdegjkjjdcdaaDoorFa9
namespace Go.Proofs.YtbkdegjkjjdcdaaDoor
set_option linter.unusedVariables false
set_option linter.unusedSimpArgs false
section
open Go Go.RowKit Go.Shelf Go.PlainAid
attribute [local go_sem] Oper.semAt_some

def FsE (s : ByteArray) (w : World) (e : Ending) (w' : World) : Prop := ∃ (A : Option Addr) (k c : Nat) (f g : Nat → Int) (ok : Bool), e = .returned (.tuple #[.slice A k c, .bool ok]) ∧ Rd2 w' A k c f g ∧ FsR s (lsF k f g) ok ∧ k ≤ s.size + 1 ∧ Below w.heap.size w w'
def QcI (w : World) (n : Nat) (pre : List ByteArray) (W : World) : Prop :=
  ∃ v f g, Boxed W (n + 2) 29 v ∧ Boxed W n 29 (.slice none 0 0) ∧ Boxed W (n + 1) 4 (.bool false) ∧ SoF pre f g ∧ OwnV 2 31 (n + 6) W v pre.length (pr f g) ∧ Below n w W
def RsS (A : World) (c2 bo oo pq : Nat) (V : Value) (x0 y0 p q : Int) (W : World) : Prop :=
  W.cell? ⟨c2, 0, none⟩ = some V ∧ W.cell? ⟨bo, oo, none⟩ = some (.int .i64 x0) ∧ W.cell? ⟨bo, oo + 1, none⟩ = some (.int .i64 y0) ∧ W.cell? ⟨pq, 0, none⟩ = some (.int .i64 p) ∧ W.cell? ⟨pq, 1, none⟩ = some (.int .i64 q) ∧ Below A.heap.size A W
theorem RsS.next {A : World} {c2 bo oo pq : Nat} {V : Value} {x0 y0 p q : Int} {W v : World} (h : RsS A c2 bo oo pq V x0 y0 p q W) (hv : Below W.heap.size W v) : RsS A c2 bo oo pq V x0 y0 p q v := by
  obtain ⟨h1, h2, h3, h4, h5, h6⟩ := h
  have kc := fun {a : Addr} {u : Value} (k : W.cell? a = some u) => (hv.cell (World.block_lt_of_cell? W _ k)).trans k
  exact ⟨kc h1, kc h2, kc h3, kc h4, kc h5, h6.trans (hv.mono h6.size)⟩
theorem cell_two_new (w : World) (x y : Value) (t : TypeId) : ∀ j u, [x, y][j]? = some u → (w.alloc (.cells #[x, y] t)).cell? ((⟨w.heap.size, 0, none⟩ : Addr).add j) = some u := by
  intro j u hj
  obtain ⟨r0, r1⟩ := row2 (heap_alloc_new w (.cells #[x, y] t))
  match j, hj with
  | 0, hj =>
    simp at hj
    subst hj
    exact r0
  | 1, hj =>
    simp at hj
    subst hj
    exact r1
theorem rowV_two (k : Nat) (f g : Nat → Int) (p q : Int) : rowV (k * 2) (pr f g) ++ [.int .i64 p, .int .i64 q] = rowV ((k + 1) * 2) (pr (catF k f (oneF p)) (catF k g (oneF q))) := by
  rw [← pr_cat, Nat.add_mul, Nat.one_mul, ← rowV_cat]
  rfl
def QcX (w : World) (n : Nat) (pre : List ByteArray) (W : World) : Prop :=
  Boxed W n 29 (.slice none 0 0) ∧ Boxed W (n + 1) 4 (.bool false) ∧ (∀ M, ¬ SetTxt pre M) ∧ Below n w W
theorem QcI.ab {w : World} {n : Nat} (hn : n = w.heap.size) : AbI (n + 3) (n + 6) (QcI w n) := by
  rintro s X Y row ⟨v, f, g, h1, h2, h3, h4, h6, h7⟩ hg hr
  exact ⟨v, f, g, ab_box hg hr h1 (by omega), ab_box hg hr h2 (by omega), ab_box hg hr h3 (by omega), h4, ab_row hg hr (by omega) h6, ab_below hg hr (by omega) (by omega) (by omega) h7⟩
theorem QcX.ab {w : World} {n : Nat} (hn : n = w.heap.size) : AbI (n + 3) (n + 6) (QcX w n) := by
  rintro s X Y row ⟨h2, h3, h4, h7⟩ hg hr
  exact ⟨ab_box hg hr h2 (by omega), ab_box hg hr h3 (by omega), h4, ab_below hg hr (by omega) (by omega) (by omega) h7⟩
set_option maxRecDepth 100000 in
set_option maxHeartbeats 3200000 in
theorem readset09_0 (s : ByteArray) (w : World) (hz : s = DASH) : Calls Tryd.prog 32 #[.string s] w (FsE s w) := by
  obtain ⟨t1, t2⟩ := lit_yes (l := [45]) hz
  have HZ := hide hz
  clear hz
  refine callsIn_wide.1 (callsIn_of_wp_marks (F := Fence.wide) (n := 5) Tryd.func32 rfl trivial ?_ rfl)
  simp only [Tryd.ntmps32, List.size_toArray, List.length_cons, List.length_nil, Nat.reduceAdd, Nat.reduceSub, Array.replicate_succ, Array.replicate_zero, List.push_toArray, List.append_toArray, List.nil_append, List.cons_append]
  gi_wp2
  obtain ⟨V, hV⟩ : ∃ V, (w.alloc (.cells #[.slice none 0 0] 29)).alloc (.cells #[.bool true] 4) = V := ⟨_, rfl⟩
  have v0 : Boxed V w.heap.size 29 (.slice none 0 0) := by rw [← hV]; exact (Boxed.new w _ _).alloc _
  have v1 : Boxed V (w.heap.size + 1) 4 (.bool true) := by
    have h := Boxed.new (w.alloc (.cells #[.slice none 0 0] 29)) 4 (.bool true)
    rw [World.size_alloc] at h
    rw [← hV]; exact h
  have vb : Below w.heap.size w V := by rw [← hV]; exact ((Below.refl _ w).alloc (Nat.le_refl _) _).alloc (by simp) _
  rw [hV]
  have c0 := v0.cell
  have c1 := v1.cell
  clear hV v0 v1
  refine ⟨.tuple #[.slice none 0 0, .bool true], ?_, none, 0, 0, fun _ => 0, fun _ => 0, true, rfl, Rd2.nil _ _ _, .inl ⟨rfl, .inl ⟨HZ.out, rfl⟩⟩, Nat.zero_le _, vb⟩
  simp [results, Tryd.f32, go_sem, c0, c1]
set_option maxRecDepth 100000 in
set_option maxHeartbeats 6400000 in
theorem readset09_1 (s : ByteArray) (w : World) (hs : s.size ≤ 1000000) (hz : s ≠ DASH) (hN : CdW w) : Calls Tryd.prog 32 #[.string s] w (FsE s w) := by
  obtain ⟨t1, t2⟩ := lit_no (l := [45]) hz
  have HZ := hide hz
  have HN := hide hN
  clear hz hN
  obtain ⟨i0, hi, hz0, hz1, hz2⟩ := info_parts flt09_info
  refine callsIn_wide.1 (callsIn_of_wp_marks (F := Fence.wide) (n := 5) Tryd.func32 rfl trivial ?_ rfl)
  simp only [Tryd.ntmps32, List.size_toArray, List.length_cons, List.length_nil, Nat.reduceAdd, Nat.reduceSub, Array.replicate_succ, Array.replicate_zero, List.push_toArray, List.append_toArray, List.nil_append, List.cons_append]
  gi_wp2
  obtain ⟨V, hV⟩ : ∃ V, ((w.alloc (.cells #[.slice none 0 0] 29)).alloc (.cells #[.bool false] 4)).alloc (.cells #[.slice none 0 0] 29) = V := ⟨_, rfl⟩
  have v0 : Boxed V w.heap.size 29 (.slice none 0 0) := by rw [← hV]; exact ((Boxed.new w _ _).alloc _).alloc _
  have v1 : Boxed V (w.heap.size + 1) 4 (.bool false) := by
    have h := Boxed.new (w.alloc (.cells #[.slice none 0 0] 29)) 4 (.bool false)
    rw [World.size_alloc] at h
    rw [← hV]; exact h.alloc _
  have v2 : Boxed V (w.heap.size + 2) 29 (.slice none 0 0) := by
    have h := Boxed.new ((w.alloc (.cells #[.slice none 0 0] 29)).alloc (.cells #[.bool false] 4)) 29 (.slice none 0 0)
    rw [World.size_alloc, World.size_alloc] at h
    rw [← hV]; exact h
  have vs : V.heap.size = w.heap.size + 3 := by rw [← hV]; simp
  have vb : Below w.heap.size w V := by rw [← hV]; exact (((Below.refl _ w).alloc (Nat.le_refl _) _).alloc (by simp) _).alloc (by simp; omega) _
  rw [hV]
  clear hV
  refine ⟨trivial, (callsIn_wide.2 (splitseq_call s ⟨#[44]⟩ V)).mono ?_⟩
  rintro e w1 ⟨rfl, rfl⟩
  have g0 : QcI w w.heap.size [] (sqW V s ⟨#[44]⟩) := by
    refine ⟨.slice none 0 0, fun _ => 0, fun _ => 0, bx_low ?_ v2, bx_low ?_ v0, bx_low ?_ v1, SoF.nil _ _, World.ownsRow_nil _ _ _ _, vb.trans ((sqW_below V s _).mono (by omega))⟩ <;> exact sqW_below V s _
  clear v0 v1 v2 vb
  gi_wp2
  refine range_itr (n := 5) (gf := 103) (lb := #[.pointer (some ⟨w.heap.size + 3 + 1, 0, none⟩), .pointer (some ⟨w.heap.size + 3, 0, none⟩), .pointer (some ⟨w.heap.size + 3 + 2, 0, none⟩)]) rfl (enters_of Tryd.func103 (by kernel_rfl) rfl)
    (lo := w.heap.size + 3) (hi := w.heap.size + 3 + 3) (Bs := w.heap.size + 3) (Nat.le_refl _) (by omega) (by rw [sqW_size, vs]; exact Nat.le_refl _) (by have h := sqW_itr V s 44 (by omega) 4 (by decide); rw [vs] at h; exact h) (KMid.refl _ _ _) rfl
    (QcI w w.heap.size) (QcX w w.heap.size) (by rw [sqW_size, vs]; exact QcI.ab rfl) (by rw [sqW_size, vs]; exact QcX.ab rfl) g0
    (fun x => { tmps := #[.string s, undef, .pointer (some ⟨w.heap.size, 0, none⟩), .pointer (some ⟨w.heap.size + 1, 0, none⟩), .pointer (some ⟨w.heap.size + 1 + 1, 0, none⟩), .string x, undef, undef, .string s, .bool false, .string s, sqF (w.heap.size + 3), .string x, undef, undef, undef, undef, undef, undef, undef, undef, undef, undef, undef, undef, undef, undef, undef, undef, undef, undef, undef, undef, undef, undef, undef, undef, undef, undef, undef, undef], defers := [] }) ?assign ?body ?done ?stop
  case assign =>
    intro l x A K hK
    gi_wp2
    exact hK
  case body =>
    rintro l pre x A ⟨v, f, g, h1, h2, h3, h4, h6, h7⟩ hpre hge
    have hxs : x.size ≤ 1000000 := by
      have := pcB_size (c := 44) (s := s) (x := x) (hpre.subset (by simp))
      omega
    have hcnt : pre.length + 1 ≤ 1000001 := by
      have a := hpre.length_le
      have b := pcB_len 44 s.size s (Nat.le_refl _)
      simp at a
      omega
    rw [sqW_size, vs] at hge
    have G1 := hide h1
    have G2 := hide h2
    have G3 := hide h3
    have G4 := hide h4
    have G6 := hide h6
    have G7 := hide h7
    clear h1 h2 h3 h4 h6 h7 hpre
    gi_wp2
    refine ⟨trivial, (CallsIn.inRound l (callsIn_wide.2 (kread09 x A hxs (HN.out.below G7.out)))).mono ?_⟩
    rintro e A2 ⟨p, q, ok, rfl, hq, hb⟩
    have hs2 := hb.size
    obtain ⟨A0, c0, rfl, hrd, _⟩ := G6.out.rd
    gi_wp2_with fail
    have F3 := heap_alloc_new A2 (.cells #[.int .i64 p, .int .i64 q] 31 )
    have B3 : Below A2.heap.size A2 (A2.alloc (.cells #[.int .i64 p, .int .i64 q] 31 )) := (Below.refl _ _).alloc (Nat.le_refl _) _
    have HBA := hide (hb.trans (B3.mono hs2))
    have hz : A2.heap.size < (A2.alloc (.cells #[.int .i64 p, .int .i64 q] 31 )).heap.size := by simp
    generalize A2.alloc (.cells #[.int .i64 p, .int .i64 q] 31 ) = A3 at *
    obtain ⟨p0, p1⟩ := row2 F3
    have c1 : A3.cell? ⟨w.heap.size + 2, 0, none⟩ = some (.slice A0 pre.length c0) := (bx_low HBA.out G1.out).cell
    generalize A2.heap.size = pq at *
    clear hb F3 B3
    cases ok with
    | false =>
      have HBAD : Hid (∀ M, ¬ SetTxt (pre ++ [x]) M) := by
        refine bad_text ?_
        rcases hq with ⟨h, _⟩ | ⟨_, _, _, h⟩
        · cases h
        · exact h
      clear hq
      refine region_round (fun W => Below A.heap.size A W) (by kernel_rfl) (by kernel_rfl) HBA.out.drew (fun hHeld => ?_)
      refine wpAnyH_take (i := 0) (oi := ⟨some 18, .move (.tmp 7), _, _, _, _⟩) (v := ?vv1) rfl (by kernel_rfl) (by kernel_rfl) (by kernel_rfl) (fun _ _ _ h => absurd h.1 (by intro k; cases k)) (Or.inl ⟨by rfl, ?hy1⟩) (by assumption) ?_
      case hy1 =>
        intro w' hSw
        skip
        go_simp
        try with_reducible rfl
      try simp only [Act.put, List.setIfInBounds_toArray, List.set_cons_zero, List.set_cons_succ]
      refine wpAnyH_take (i := 1) (oi := ⟨some 19, .unOp .not _ (.tmp 18), _, _, _, _⟩) (v := ?vv2) rfl (by kernel_rfl) (by kernel_rfl) (by kernel_rfl) (fun _ _ _ h => absurd h.1 (by intro k; cases k)) (Or.inl ⟨by rfl, ?hy2⟩) (by assumption) ?_
      case hy2 =>
        intro w' hSw
        skip
        go_simp
        try with_reducible rfl
      try simp only [Act.put, List.setIfInBounds_toArray, List.set_cons_zero, List.set_cons_succ]
      refine wpAnyH_take (i := 2) (oi := ⟨some 20, .move (.tmp 19), _, _, _, _⟩) (v := ?vv3) rfl (by kernel_rfl) (by kernel_rfl) (by kernel_rfl) (fun _ _ _ h => absurd h.1 (by intro k; cases k)) (Or.inl ⟨by rfl, ?hy3⟩) (by assumption) ?_
      case hy3 =>
        intro w' hSw
        skip
        go_simp
        try with_reducible rfl
      try simp only [Act.put, List.setIfInBounds_toArray, List.set_cons_zero, List.set_cons_succ]
      refine wpAnyH_take (i := 3) (oi := ⟨some 21, .load _ (.tmp 4), _, _, _, _⟩) (v := undef) rfl (by kernel_rfl) (by kernel_rfl) (by kernel_rfl) (fun _ _ _ h => absurd h.1 (by intro k; cases k)) (Or.inr ⟨by kernel_rfl, rfl⟩) (by assumption) ?_
      try simp only [Act.put, List.setIfInBounds_toArray, List.set_cons_zero, List.set_cons_succ]
      refine wpAnyH_take (i := 4) (oi := ⟨some 22, _, _, _, _, _⟩) (v := undef) rfl (by kernel_rfl) (by kernel_rfl) (by kernel_rfl) (fun _ _ _ h => absurd h.1 (by intro k; cases k)) (Or.inr ⟨by kernel_rfl, rfl⟩) (by assumption) ?_
      try simp only [Act.put, List.setIfInBounds_toArray, List.set_cons_zero, List.set_cons_succ]
      refine wpAnyH_take (i := 5) (oi := ⟨some 23, .binOp .gtr _ (.tmp 22) (.const (.int .i64 0)) _, _, _, _, _⟩) (v := undef) rfl (by kernel_rfl) (by kernel_rfl) (by kernel_rfl) (fun _ _ _ h => absurd h.1 (by intro k; cases k)) (Or.inr ⟨by kernel_rfl, rfl⟩) (by assumption) ?_
      try simp only [Act.put, List.setIfInBounds_toArray, List.set_cons_zero, List.set_cons_succ]
      refine wpAnyH_take (i := 6) (oi := ⟨some 24, .move (.tmp 23), _, _, _, _⟩) (v := undef) rfl (by kernel_rfl) (by kernel_rfl) (by kernel_rfl) (fun _ _ _ h => absurd h.1 (by intro k; cases k)) (Or.inr ⟨by kernel_rfl, rfl⟩) (by assumption) ?_
      try simp only [Act.put, List.setIfInBounds_toArray, List.set_cons_zero, List.set_cons_succ]
      refine wpAnyH_take (i := 7) (oi := ⟨some 25, .load _ (.tmp 4), _, _, _, _⟩) (v := undef) rfl (by kernel_rfl) (by kernel_rfl) (by kernel_rfl) (fun _ _ _ h => absurd h.1 (by intro k; cases k)) (Or.inr ⟨by kernel_rfl, rfl⟩) (by assumption) ?_
      try simp only [Act.put, List.setIfInBounds_toArray, List.set_cons_zero, List.set_cons_succ]
      refine wpAnyH_take (i := 8) (oi := ⟨some 26, .load _ (.tmp 4), _, _, _, _⟩) (v := undef) rfl (by kernel_rfl) (by kernel_rfl) (by kernel_rfl) (fun _ _ _ h => absurd h.1 (by intro k; cases k)) (Or.inr ⟨by kernel_rfl, rfl⟩) (by assumption) ?_
      try simp only [Act.put, List.setIfInBounds_toArray, List.set_cons_zero, List.set_cons_succ]
      refine wpAnyH_take (i := 9) (oi := ⟨some 27, _, _, _, _, _⟩) (v := undef) rfl (by kernel_rfl) (by kernel_rfl) (by kernel_rfl) (fun _ _ _ h => absurd h.1 (by intro k; cases k)) (Or.inr ⟨by kernel_rfl, rfl⟩) (by assumption) ?_
      try simp only [Act.put, List.setIfInBounds_toArray, List.set_cons_zero, List.set_cons_succ]
      refine wpAnyH_take (i := 10) (oi := ⟨some 28, .binOp .sub _ (.tmp 27) (.const (.int .i64 1)) _, _, _, _, _⟩) (v := undef) rfl (by kernel_rfl) (by kernel_rfl) (by kernel_rfl) (fun _ _ _ h => absurd h.1 (by intro k; cases k)) (Or.inr ⟨by kernel_rfl, rfl⟩) (by assumption) ?_
      try simp only [Act.put, List.setIfInBounds_toArray, List.set_cons_zero, List.set_cons_succ]
      refine wpAnyH_take (i := 11) (oi := ⟨some 29, .indexAddr _ (.tmp 25) (.tmp 28), _, _, _, _⟩) (v := undef) rfl (by kernel_rfl) (by kernel_rfl) (by kernel_rfl) (fun _ _ _ h => absurd h.1 (by intro k; cases k)) (Or.inr ⟨by kernel_rfl, rfl⟩) (by assumption) ?_
      try simp only [Act.put, List.setIfInBounds_toArray, List.set_cons_zero, List.set_cons_succ]
      refine wpAnyH_take (i := 12) (oi := ⟨some 30, .load _ (.tmp 29), _, _, _, _⟩) (v := undef) rfl (by kernel_rfl) (by kernel_rfl) (by kernel_rfl) (fun _ _ _ h => absurd h.1 (by intro k; cases k)) (Or.inr ⟨by kernel_rfl, rfl⟩) (by assumption) ?_
      try simp only [Act.put, List.setIfInBounds_toArray, List.set_cons_zero, List.set_cons_succ]
      refine wpAnyH_take (i := 13) (oi := ⟨some 31, .load _ (.tmp 6), _, _, _, _⟩) (v := undef) rfl (by kernel_rfl) (by kernel_rfl) (by kernel_rfl) (fun _ _ _ h => absurd h.1 (by intro k; cases k)) (Or.inr ⟨by kernel_rfl, rfl⟩) (by assumption) ?_
      try simp only [Act.put, List.setIfInBounds_toArray, List.set_cons_zero, List.set_cons_succ]
      refine wpAnyH_take (i := 14) (oi := ⟨some 32, _, _, _, _, _⟩) (v := undef) rfl (by kernel_rfl) (by kernel_rfl) (by kernel_rfl) (fun _ _ _ h => absurd h.1 (by intro k; cases k)) (Or.inr ⟨by kernel_rfl, rfl⟩) (by assumption) ?_
      try simp only [Act.put, List.setIfInBounds_toArray, List.set_cons_zero, List.set_cons_succ]
      refine wpAnyH_take (i := 15) (oi := ⟨some 33, .unOp .not _ (.tmp 32), _, _, _, _⟩) (v := undef) rfl (by kernel_rfl) (by kernel_rfl) (by kernel_rfl) (fun _ _ _ h => absurd h.1 (by intro k; cases k)) (Or.inr ⟨by kernel_rfl, rfl⟩) (by assumption) ?_
      try simp only [Act.put, List.setIfInBounds_toArray, List.set_cons_zero, List.set_cons_succ]
      refine wpAnyH_take (i := 16) (oi := ⟨some 34, .pick (.tmp 24) (.tmp 33) (.const (.bool false)), _, _, _, _⟩) (v := undef) rfl (by kernel_rfl) (by kernel_rfl) (by kernel_rfl) (fun _ _ _ h => absurd h.1 (by intro k; cases k)) (Or.inr ⟨by kernel_rfl, rfl⟩) (by assumption) ?_
      try simp only [Act.put, List.setIfInBounds_toArray, List.set_cons_zero, List.set_cons_succ]
      refine wpAnyH_take (i := 17) (oi := ⟨some 35, .pick (.tmp 20) (.const (.bool true)) (.tmp 34), _, _, _, _⟩) (v := ?vv18) rfl (by kernel_rfl) (by kernel_rfl) (by kernel_rfl) (fun _ _ _ h => absurd h.1 (by intro k; cases k)) (Or.inl ⟨by rfl, ?hy18⟩) (by assumption) ?_
      case hy18 =>
        intro w' hSw
        skip
        go_simp
        try with_reducible rfl
      try simp only [Act.put, List.setIfInBounds_toArray, List.set_cons_zero, List.set_cons_succ]
      refine wpAnyH_done (by kernel_rfl) ⟨rfl, ?_⟩ _
      obtain ⟨W', hW'⟩ : ∃ W', A3.drew = W' := ⟨_, rfl⟩
      rw [hW'] at hHeld ⊢
      have hBA := hHeld
      clear hHeld hW' HBA c1 p0 p1
      have b2 := bx_low hBA G2.out
      have b3 := bx_low hBA G3.out
      have k2 := b2.cell
      have k3 := b3.cell
      have f2 := b2.frozen
      have f3 := b3.frozen
      have D2 := hide b2
      have D3 := hide b3
      have E1 := hide (ko_below hBA)
      have E3 := hide (G7.out.trans (hBA.mono (by omega)))
      clear b2 b3 hBA
      have k3' : (W'.setCell ⟨w.heap.size, 0, none⟩ (.slice none 0 0)).cell? ⟨w.heap.size + 1, 0, none⟩ = some (.bool false) := (bx_other (c := w.heap.size) (u := .slice none 0 0) D3.out (by omega)).cell
      have f3' : (W'.setCell ⟨w.heap.size, 0, none⟩ (.slice none 0 0)).frozen? ⟨w.heap.size + 1, 0, none⟩ = false := (bx_other (c := w.heap.size) (u := .slice none 0 0) D3.out (by omega)).frozen
      gi_wp2
      refine ⟨E1.out.trans ((KeepsOthers.setCell _ _ _).trans (KeepsOthers.setCell _ _ _)), bx_other (D2.out.set _) (by omega), (bx_other D3.out (by omega)).set _, HBAD.out, (E3.out.setCell (p := ⟨w.heap.size, 0, none⟩) (Nat.le_refl _) _).setCell (p := ⟨w.heap.size + 1, 0, none⟩) (by show w.heap.size ≤ w.heap.size + 1; omega) _⟩
    | true =>
      obtain ⟨hr, hx⟩ : rP (p, q) = true ∧ x = fltT (p, q) := by
        rcases hq with ⟨_, h⟩ | ⟨h, _⟩
        · exact h
        · cases h
      clear hq
      by_cases h0 : pre.length = 0
      · skip
        have hl : (pre ++ [x]).length = pre.length + 1 := by simp
        have HSO := hide (G4.out.next hr hx (.inl h0))
        rw [h0] at c1 G1 G6 HSO hl
        refine region_round (fun W => W.cell? ⟨w.heap.size + 2, 0, none⟩ = some (.slice A0 0 c0) ∧ W.cell? ⟨pq, 0, none⟩ = some (.int .i64 p) ∧ W.cell? ⟨pq, 1, none⟩ = some (.int .i64 q) ∧ Below A.heap.size A W) (by kernel_rfl) (by kernel_rfl) ⟨c1, p0, p1, HBA.out.drew⟩ (fun hHeld => ?_)
        refine wpAnyH_take (i := 0) (oi := ⟨some 18, .move (.tmp 7), _, _, _, _⟩) (v := ?vv19) rfl (by kernel_rfl) (by kernel_rfl) (by kernel_rfl) (fun _ _ _ h => absurd h.1 (by intro k; cases k)) (Or.inl ⟨by rfl, ?hy19⟩) (by assumption) ?_
        case hy19 =>
          intro w' hSw
          obtain ⟨s1, _, _, _⟩ := hSw
          go_simp
          try with_reducible rfl
        try simp only [Act.put, List.setIfInBounds_toArray, List.set_cons_zero, List.set_cons_succ]
        refine wpAnyH_take (i := 1) (oi := ⟨some 19, .unOp .not _ (.tmp 18), _, _, _, _⟩) (v := ?vv20) rfl (by kernel_rfl) (by kernel_rfl) (by kernel_rfl) (fun _ _ _ h => absurd h.1 (by intro k; cases k)) (Or.inl ⟨by rfl, ?hy20⟩) (by assumption) ?_
        case hy20 =>
          intro w' hSw
          obtain ⟨s1, _, _, _⟩ := hSw
          go_simp
          try with_reducible rfl
        try simp only [Act.put, List.setIfInBounds_toArray, List.set_cons_zero, List.set_cons_succ]
        refine wpAnyH_take (i := 2) (oi := ⟨some 20, .move (.tmp 19), _, _, _, _⟩) (v := ?vv21) rfl (by kernel_rfl) (by kernel_rfl) (by kernel_rfl) (fun _ _ _ h => absurd h.1 (by intro k; cases k)) (Or.inl ⟨by rfl, ?hy21⟩) (by assumption) ?_
        case hy21 =>
          intro w' hSw
          obtain ⟨s1, _, _, _⟩ := hSw
          go_simp
          try with_reducible rfl
        try simp only [Act.put, List.setIfInBounds_toArray, List.set_cons_zero, List.set_cons_succ]
        refine wpAnyH_take (i := 3) (oi := ⟨some 21, .load _ (.tmp 4), _, _, _, _⟩) (v := ?vv22) rfl (by kernel_rfl) (by kernel_rfl) (by kernel_rfl) (fun _ _ _ h => absurd h.1 (by intro k; cases k)) (Or.inl ⟨by rfl, ?hy22⟩) (by assumption) ?_
        case hy22 =>
          intro w' hSw
          obtain ⟨s1, _, _, _⟩ := hSw
          go_simp
          try with_reducible rfl
        try simp only [Act.put, List.setIfInBounds_toArray, List.set_cons_zero, List.set_cons_succ]
        refine wpAnyH_take (i := 4) (oi := ⟨some 22, _, _, _, _, _⟩) (v := ?vv23) rfl (by kernel_rfl) (by kernel_rfl) (by kernel_rfl) (fun _ _ _ h => absurd h.1 (by intro k; cases k)) (Or.inl ⟨by rfl, ?hy23⟩) (by assumption) ?_
        case hy23 =>
          intro w' hSw
          obtain ⟨s1, _, _, _⟩ := hSw
          go_simp
          try with_reducible rfl
        try simp only [Act.put, List.setIfInBounds_toArray, List.set_cons_zero, List.set_cons_succ]
        refine wpAnyH_take (i := 5) (oi := ⟨some 23, .binOp .gtr _ (.tmp 22) (.const (.int .i64 0)) _, _, _, _, _⟩) (v := ?vv24) rfl (by kernel_rfl) (by kernel_rfl) (by kernel_rfl) (fun _ _ _ h => absurd h.1 (by intro k; cases k)) (Or.inl ⟨by rfl, ?hy24⟩) (by assumption) ?_
        case hy24 =>
          intro w' hSw
          obtain ⟨s1, _, _, _⟩ := hSw
          go_simp
          try with_reducible rfl
        try simp only [Act.put, List.setIfInBounds_toArray, List.set_cons_zero, List.set_cons_succ]
        refine wpAnyH_take (i := 6) (oi := ⟨some 24, .move (.tmp 23), _, _, _, _⟩) (v := ?vv25) rfl (by kernel_rfl) (by kernel_rfl) (by kernel_rfl) (fun _ _ _ h => absurd h.1 (by intro k; cases k)) (Or.inl ⟨by rfl, ?hy25⟩) (by assumption) ?_
        case hy25 =>
          intro w' hSw
          obtain ⟨s1, _, _, _⟩ := hSw
          go_simp
          try with_reducible rfl
        try simp only [Act.put, List.setIfInBounds_toArray, List.set_cons_zero, List.set_cons_succ]
        refine wpAnyH_take (i := 7) (oi := ⟨some 25, .load _ (.tmp 4), _, _, _, _⟩) (v := undef) rfl (by kernel_rfl) (by kernel_rfl) (by kernel_rfl) (fun _ _ _ h => absurd h.1 (by intro k; cases k)) (Or.inr ⟨by kernel_rfl, rfl⟩) (by assumption) ?_
        try simp only [Act.put, List.setIfInBounds_toArray, List.set_cons_zero, List.set_cons_succ]
        refine wpAnyH_take (i := 8) (oi := ⟨some 26, .load _ (.tmp 4), _, _, _, _⟩) (v := undef) rfl (by kernel_rfl) (by kernel_rfl) (by kernel_rfl) (fun _ _ _ h => absurd h.1 (by intro k; cases k)) (Or.inr ⟨by kernel_rfl, rfl⟩) (by assumption) ?_
        try simp only [Act.put, List.setIfInBounds_toArray, List.set_cons_zero, List.set_cons_succ]
        refine wpAnyH_take (i := 9) (oi := ⟨some 27, _, _, _, _, _⟩) (v := undef) rfl (by kernel_rfl) (by kernel_rfl) (by kernel_rfl) (fun _ _ _ h => absurd h.1 (by intro k; cases k)) (Or.inr ⟨by kernel_rfl, rfl⟩) (by assumption) ?_
        try simp only [Act.put, List.setIfInBounds_toArray, List.set_cons_zero, List.set_cons_succ]
        refine wpAnyH_take (i := 10) (oi := ⟨some 28, .binOp .sub _ (.tmp 27) (.const (.int .i64 1)) _, _, _, _, _⟩) (v := undef) rfl (by kernel_rfl) (by kernel_rfl) (by kernel_rfl) (fun _ _ _ h => absurd h.1 (by intro k; cases k)) (Or.inr ⟨by kernel_rfl, rfl⟩) (by assumption) ?_
        try simp only [Act.put, List.setIfInBounds_toArray, List.set_cons_zero, List.set_cons_succ]
        refine wpAnyH_take (i := 11) (oi := ⟨some 29, .indexAddr _ (.tmp 25) (.tmp 28), _, _, _, _⟩) (v := undef) rfl (by kernel_rfl) (by kernel_rfl) (by kernel_rfl) (fun _ _ _ h => absurd h.1 (by intro k; cases k)) (Or.inr ⟨by kernel_rfl, rfl⟩) (by assumption) ?_
        try simp only [Act.put, List.setIfInBounds_toArray, List.set_cons_zero, List.set_cons_succ]
        refine wpAnyH_take (i := 12) (oi := ⟨some 30, .load _ (.tmp 29), _, _, _, _⟩) (v := undef) rfl (by kernel_rfl) (by kernel_rfl) (by kernel_rfl) (fun _ _ _ h => absurd h.1 (by intro k; cases k)) (Or.inr ⟨by kernel_rfl, rfl⟩) (by assumption) ?_
        try simp only [Act.put, List.setIfInBounds_toArray, List.set_cons_zero, List.set_cons_succ]
        refine wpAnyH_take (i := 13) (oi := ⟨some 31, .load _ (.tmp 6), _, _, _, _⟩) (v := undef) rfl (by kernel_rfl) (by kernel_rfl) (by kernel_rfl) (fun _ _ _ h => absurd h.1 (by intro k; cases k)) (Or.inr ⟨by kernel_rfl, rfl⟩) (by assumption) ?_
        try simp only [Act.put, List.setIfInBounds_toArray, List.set_cons_zero, List.set_cons_succ]
        refine wpAnyH_take (i := 14) (oi := ⟨some 32, _, _, _, _, _⟩) (v := undef) rfl (by kernel_rfl) (by kernel_rfl) (by kernel_rfl) (fun _ _ _ h => absurd h.1 (by intro k; cases k)) (Or.inr ⟨by kernel_rfl, rfl⟩) (by assumption) ?_
        try simp only [Act.put, List.setIfInBounds_toArray, List.set_cons_zero, List.set_cons_succ]
        refine wpAnyH_take (i := 15) (oi := ⟨some 33, .unOp .not _ (.tmp 32), _, _, _, _⟩) (v := undef) rfl (by kernel_rfl) (by kernel_rfl) (by kernel_rfl) (fun _ _ _ h => absurd h.1 (by intro k; cases k)) (Or.inr ⟨by kernel_rfl, rfl⟩) (by assumption) ?_
        try simp only [Act.put, List.setIfInBounds_toArray, List.set_cons_zero, List.set_cons_succ]
        refine wpAnyH_take (i := 16) (oi := ⟨some 34, .pick (.tmp 24) (.tmp 33) (.const (.bool false)), _, _, _, _⟩) (v := ?vv35) rfl (by kernel_rfl) (by kernel_rfl) (by kernel_rfl) (fun _ _ _ h => absurd h.1 (by intro k; cases k)) (Or.inl ⟨by rfl, ?hy35⟩) (by assumption) ?_
        case hy35 =>
          intro w' hSw
          obtain ⟨s1, _, _, _⟩ := hSw
          go_simp
          try with_reducible rfl
        try simp only [Act.put, List.setIfInBounds_toArray, List.set_cons_zero, List.set_cons_succ]
        refine wpAnyH_take (i := 17) (oi := ⟨some 35, .pick (.tmp 20) (.const (.bool true)) (.tmp 34), _, _, _, _⟩) (v := ?vv36) rfl (by kernel_rfl) (by kernel_rfl) (by kernel_rfl) (fun _ _ _ h => absurd h.1 (by intro k; cases k)) (Or.inl ⟨by rfl, ?hy36⟩) (by assumption) ?_
        case hy36 =>
          intro w' hSw
          obtain ⟨s1, _, _, _⟩ := hSw
          go_simp
          try with_reducible rfl
        try simp only [Act.put, List.setIfInBounds_toArray, List.set_cons_zero, List.set_cons_succ]
        refine wpAnyH_done (by kernel_rfl) ⟨rfl, ?_⟩ _
        obtain ⟨W', hW'⟩ : ∃ W', A3.drew = W' := ⟨_, rfl⟩
        rw [hW'] at hHeld ⊢
        obtain ⟨_, p0, p1, hBA⟩ := hHeld
        clear hW' HBA
        have b1 := bx_low hBA G1.out
        have b2 := bx_low hBA G2.out
        have b3 := bx_low hBA G3.out
        have k1 := b1.cell
        have f1 := b1.frozen
        have D1 := hide b1
        have D2 := hide b2
        have D3 := hide b3
        have E1 := hide (ko_below hBA)
        have E2 : Hid (KMid (w.heap.size + 3) (w.heap.size + 3 + 3) A W') := km_below hBA (by omega)
        have E3 := hide (G7.out.trans (hBA.mono (by omega)))
        have E5 := hide (G6.out.below hBA)
        have hsw := hBA.size
        clear b1 b2 b3 hBA
        gi_wp2_with (gi_at_builtin; refine wpListIn_append_own _ rfl _ _ 29 rfl (w.heap.size + 6) 31 i0 (.agg #[.int .i64 0, .int .i64 0]) 2 16 Tryd.underlying29 hi hz0 hz1 hz2 rfl (by decide) _ _ _ rfl (World.ownsRow.alloc E5.out _) ⟨W'.heap.size, 0, none⟩ 1 1 [.int .i64 p, .int .i64 q] rfl rfl (cell_two_new _ _ _ _) (by simp [Value.oneCell']) (by simp only [maxLen]; omega) (by omega) (by simp; omega) ?_; intro v' w3 hown' hgrow _; obtain ⟨g', cap', rfl⟩ := ownsRow_succ hown'; obtain ⟨q1, q2, q3, q4, q5, q6, q7⟩ := box_app (n := w.heap.size) (lo := w.heap.size + 3) (hi := w.heap.size + 3 + 3) D1.out (by omega) (by omega) (by omega) (by omega) (by omega) E5.out hown' hgrow; have hc1 := q1.cell; have hf1 := q1.frozen)
        refine ⟨E1.out.trans q4, E2.out.trans q5, ?_⟩
        rw [QcI, hl]
        refine ⟨_, _, _, q2, bx_oth D2.out (q7 _ (by omega) (by omega)), bx_oth D3.out (q7 _ (by omega) (by omega)), HSO.out, ?_, E3.out.trans q6⟩
        unfold OwnV
        rw [← rowV_two]
        exact q3
      · obtain ⟨j, hj⟩ : ∃ j, pre.length = j + 1 := ⟨pre.length - 1, by omega⟩
        obtain ⟨bo, of0, rfl, e0, e1⟩ := ((rd2_of_rdV hrd).below HBA.out).at_ (i := j) (by omega)
        have hl : (pre ++ [x]).length = pre.length + 1 := by simp
        obtain ⟨x0, hx0⟩ : ∃ x0, f j = x0 := ⟨_, rfl⟩
        obtain ⟨y0, hy0⟩ : ∃ y0, g j = y0 := ⟨_, rfl⟩
        rw [hx0] at e0
        rw [hy0] at e1
        have hlast : (f (pre.length - 1), g (pre.length - 1)) = (x0, y0) := by rw [hj, Nat.add_sub_cancel, hx0, hy0]
        rw [hj] at c1 G1 G6 hl
        have d0 : decide ((0 : Int) < ((j + 1 : Nat) : Int)) = true := decide_eq_true (by omega)
        have d0' : decide ((0 : Int) < (j : Int) + 1) = true := decide_eq_true (by omega)
        have d1 : IntKind.i64.wrap ((j : Int) + 1 - 1) = (j : Int) := by rw [Int.add_sub_cancel]; exact IntWalk.i64_in _ (by omega)
        have d1' : IntKind.i64.wrap (j : Int) = (j : Int) := IntWalk.i64_in _ (by omega)
        have d2 : (0 : Int) ≤ (j : Int) := by omega
        have d3 : (j : Int) < (j : Int) + 1 := by omega
        have d4 : j < j + 1 := by omega
        obtain ⟨z, hz9⟩ : ∃ z, ltB (x0, y0) (p, q) = z := ⟨_, rfl⟩
        have KL : Hid (∀ W, Calls Tryd.prog 24 #[.agg #[.int .i64 x0, .int .i64 y0], .agg #[.int .i64 p, .int .i64 q]] W fun e w' => e = .returned (.bool z) ∧ Below W.heap.size W w') := fun W => by
          rw [← hz9]
          exact less09 x0 y0 p q W
        cases z with
        | false =>
          have HBAD : Hid (∀ M, ¬ SetTxt (pre ++ [x]) M) := G4.out.bad_next hr hx (by omega) (fun k => by rw [hlast] at k; unfold ltB at hz9; exact absurd k (of_decide_eq_false hz9))
          clear hlast hx0 hy0 hz9 hr hx hrd h0 hl
          refine region_round (RsS A (w.heap.size + 2) bo (of0 + j * 2) pq (.slice (some ⟨bo, of0, none⟩) (j + 1) c0) x0 y0 p q) (by kernel_rfl) (by kernel_rfl) ⟨c1, e0, e1, p0, p1, HBA.out.drew⟩ (fun hHeld => ?_)
          refine wpAnyH_take (i := 0) (oi := ⟨some 18, .move (.tmp 7), _, _, _, _⟩) (v := ?vv37) rfl (by kernel_rfl) (by kernel_rfl) (by kernel_rfl) (fun _ _ _ h => absurd h.1 (by intro k; cases k)) (Or.inl ⟨by rfl, ?hy37⟩) (by assumption) ?_
          case hy37 =>
            intro w' hSw
            obtain ⟨s1, s2, s3, s4, s5, _⟩ := hSw
            go_simp
            try with_reducible rfl
          try simp only [Act.put, List.setIfInBounds_toArray, List.set_cons_zero, List.set_cons_succ]
          refine wpAnyH_take (i := 1) (oi := ⟨some 19, .unOp .not _ (.tmp 18), _, _, _, _⟩) (v := ?vv38) rfl (by kernel_rfl) (by kernel_rfl) (by kernel_rfl) (fun _ _ _ h => absurd h.1 (by intro k; cases k)) (Or.inl ⟨by rfl, ?hy38⟩) (by assumption) ?_
          case hy38 =>
            intro w' hSw
            obtain ⟨s1, s2, s3, s4, s5, _⟩ := hSw
            go_simp
            try with_reducible rfl
          try simp only [Act.put, List.setIfInBounds_toArray, List.set_cons_zero, List.set_cons_succ]
          refine wpAnyH_take (i := 2) (oi := ⟨some 20, .move (.tmp 19), _, _, _, _⟩) (v := ?vv39) rfl (by kernel_rfl) (by kernel_rfl) (by kernel_rfl) (fun _ _ _ h => absurd h.1 (by intro k; cases k)) (Or.inl ⟨by rfl, ?hy39⟩) (by assumption) ?_
          case hy39 =>
            intro w' hSw
            obtain ⟨s1, s2, s3, s4, s5, _⟩ := hSw
            go_simp
            try with_reducible rfl
          try simp only [Act.put, List.setIfInBounds_toArray, List.set_cons_zero, List.set_cons_succ]
          refine wpAnyH_take (i := 3) (oi := ⟨some 21, .load _ (.tmp 4), _, _, _, _⟩) (v := ?vv40) rfl (by kernel_rfl) (by kernel_rfl) (by kernel_rfl) (fun _ _ _ h => absurd h.1 (by intro k; cases k)) (Or.inl ⟨by rfl, ?hy40⟩) (by assumption) ?_
          case hy40 =>
            intro w' hSw
            obtain ⟨s1, s2, s3, s4, s5, _⟩ := hSw
            go_simp
            try with_reducible rfl
          try simp only [Act.put, List.setIfInBounds_toArray, List.set_cons_zero, List.set_cons_succ]
          refine wpAnyH_take (i := 4) (oi := ⟨some 22, _, _, _, _, _⟩) (v := ?vv41) rfl (by kernel_rfl) (by kernel_rfl) (by kernel_rfl) (fun _ _ _ h => absurd h.1 (by intro k; cases k)) (Or.inl ⟨by rfl, ?hy41⟩) (by assumption) ?_
          case hy41 =>
            intro w' hSw
            obtain ⟨s1, s2, s3, s4, s5, _⟩ := hSw
            go_simp
            try with_reducible rfl
          try simp only [Act.put, List.setIfInBounds_toArray, List.set_cons_zero, List.set_cons_succ]
          refine wpAnyH_take (i := 5) (oi := ⟨some 23, .binOp .gtr _ (.tmp 22) (.const (.int .i64 0)) _, _, _, _, _⟩) (v := ?vv42) rfl (by kernel_rfl) (by kernel_rfl) (by kernel_rfl) (fun _ _ _ h => absurd h.1 (by intro k; cases k)) (Or.inl ⟨by rfl, ?hy42⟩) (by assumption) ?_
          case hy42 =>
            intro w' hSw
            obtain ⟨s1, s2, s3, s4, s5, _⟩ := hSw
            go_simp
            try with_reducible rfl
          try simp only [Act.put, List.setIfInBounds_toArray, List.set_cons_zero, List.set_cons_succ]
          refine wpAnyH_take (i := 6) (oi := ⟨some 24, .move (.tmp 23), _, _, _, _⟩) (v := ?vv43) rfl (by kernel_rfl) (by kernel_rfl) (by kernel_rfl) (fun _ _ _ h => absurd h.1 (by intro k; cases k)) (Or.inl ⟨by rfl, ?hy43⟩) (by assumption) ?_
          case hy43 =>
            intro w' hSw
            obtain ⟨s1, s2, s3, s4, s5, _⟩ := hSw
            go_simp
            try with_reducible rfl
          try simp only [Act.put, List.setIfInBounds_toArray, List.set_cons_zero, List.set_cons_succ]
          refine wpAnyH_take (i := 7) (oi := ⟨some 25, .load _ (.tmp 4), _, _, _, _⟩) (v := ?vv44) rfl (by kernel_rfl) (by kernel_rfl) (by kernel_rfl) (fun _ _ _ h => absurd h.1 (by intro k; cases k)) (Or.inl ⟨by rfl, ?hy44⟩) (by assumption) ?_
          case hy44 =>
            intro w' hSw
            obtain ⟨s1, s2, s3, s4, s5, _⟩ := hSw
            go_simp
            try with_reducible rfl
          try simp only [Act.put, List.setIfInBounds_toArray, List.set_cons_zero, List.set_cons_succ]
          refine wpAnyH_take (i := 8) (oi := ⟨some 26, .load _ (.tmp 4), _, _, _, _⟩) (v := ?vv45) rfl (by kernel_rfl) (by kernel_rfl) (by kernel_rfl) (fun _ _ _ h => absurd h.1 (by intro k; cases k)) (Or.inl ⟨by rfl, ?hy45⟩) (by assumption) ?_
          case hy45 =>
            intro w' hSw
            obtain ⟨s1, s2, s3, s4, s5, _⟩ := hSw
            go_simp
            try with_reducible rfl
          try simp only [Act.put, List.setIfInBounds_toArray, List.set_cons_zero, List.set_cons_succ]
          refine wpAnyH_take (i := 9) (oi := ⟨some 27, _, _, _, _, _⟩) (v := ?vv46) rfl (by kernel_rfl) (by kernel_rfl) (by kernel_rfl) (fun _ _ _ h => absurd h.1 (by intro k; cases k)) (Or.inl ⟨by rfl, ?hy46⟩) (by assumption) ?_
          case hy46 =>
            intro w' hSw
            obtain ⟨s1, s2, s3, s4, s5, _⟩ := hSw
            go_simp
            try with_reducible rfl
          try simp only [Act.put, List.setIfInBounds_toArray, List.set_cons_zero, List.set_cons_succ]
          refine wpAnyH_take (i := 10) (oi := ⟨some 28, .binOp .sub _ (.tmp 27) (.const (.int .i64 1)) _, _, _, _, _⟩) (v := ?vv47) rfl (by kernel_rfl) (by kernel_rfl) (by kernel_rfl) (fun _ _ _ h => absurd h.1 (by intro k; cases k)) (Or.inl ⟨by rfl, ?hy47⟩) (by assumption) ?_
          case hy47 =>
            intro w' hSw
            obtain ⟨s1, s2, s3, s4, s5, _⟩ := hSw
            go_simp
            try with_reducible rfl
          try simp only [Act.put, List.setIfInBounds_toArray, List.set_cons_zero, List.set_cons_succ]
          refine wpAnyH_take (i := 11) (oi := ⟨some 29, .indexAddr _ (.tmp 25) (.tmp 28), _, _, _, _⟩) (v := ?vv48) rfl (by kernel_rfl) (by kernel_rfl) (by kernel_rfl) (fun _ _ _ h => absurd h.1 (by intro k; cases k)) (Or.inl ⟨by rfl, ?hy48⟩) (by assumption) ?_
          case hy48 =>
            intro w' hSw
            obtain ⟨s1, s2, s3, s4, s5, _⟩ := hSw
            go_simp
            try with_reducible rfl
          try simp only [Act.put, List.setIfInBounds_toArray, List.set_cons_zero, List.set_cons_succ]
          refine wpAnyH_take (i := 12) (oi := ⟨some 30, .load _ (.tmp 29), _, _, _, _⟩) (v := ?vv49) rfl (by kernel_rfl) (by kernel_rfl) (by kernel_rfl) (fun _ _ _ h => absurd h.1 (by intro k; cases k)) (Or.inl ⟨by rfl, ?hy49⟩) (by assumption) ?_
          case hy49 =>
            intro w' hSw
            obtain ⟨s1, s2, s3, s4, s5, _⟩ := hSw
            go_simp
            try with_reducible rfl
          try simp only [Act.put, List.setIfInBounds_toArray, List.set_cons_zero, List.set_cons_succ]
          refine wpAnyH_take (i := 13) (oi := ⟨some 31, .load _ (.tmp 6), _, _, _, _⟩) (v := ?vv50) rfl (by kernel_rfl) (by kernel_rfl) (by kernel_rfl) (fun _ _ _ h => absurd h.1 (by intro k; cases k)) (Or.inl ⟨by rfl, ?hy50⟩) (by assumption) ?_
          case hy50 =>
            intro w' hSw
            obtain ⟨s1, s2, s3, s4, s5, _⟩ := hSw
            go_simp
            try with_reducible rfl
          try simp only [Act.put, List.setIfInBounds_toArray, List.set_cons_zero, List.set_cons_succ]
          refine wpAnyH_ready (rs := [14]) (by kernel_rfl) (by simp) ?_
          refine AllReadyH.cons (o := ⟨some 32, _, _, _, _, _⟩) rfl (fun K hK => ?_) AllReadyH.nil
          go_simp
          (go_at_call 24; (with_reducible refine (KL.out _).mono ?_); rintro e W' ⟨rfl, hv⟩)
          refine hK.out _ _ (RsS.next (by assumption) hv) (fun hHeld2 => ?_)
          clear hK K hHeld hv
          rename _ => hHeld
          try simp only [Act.put, List.setIfInBounds_toArray, List.set_cons_zero, List.set_cons_succ]
          refine wpAnyH_take (i := 15) (oi := ⟨some 33, .unOp .not _ (.tmp 32), _, _, _, _⟩) (v := ?vv51) rfl (by kernel_rfl) (by kernel_rfl) (by kernel_rfl) (fun _ _ _ h => absurd h.1 (by intro k; cases k)) (Or.inl ⟨by rfl, ?hy51⟩) (by assumption) ?_
          case hy51 =>
            intro w' hSw
            obtain ⟨s1, s2, s3, s4, s5, _⟩ := hSw
            go_simp
            try with_reducible rfl
          try simp only [Act.put, List.setIfInBounds_toArray, List.set_cons_zero, List.set_cons_succ]
          refine wpAnyH_take (i := 16) (oi := ⟨some 34, .pick (.tmp 24) (.tmp 33) (.const (.bool false)), _, _, _, _⟩) (v := ?vv52) rfl (by kernel_rfl) (by kernel_rfl) (by kernel_rfl) (fun _ _ _ h => absurd h.1 (by intro k; cases k)) (Or.inl ⟨by rfl, ?hy52⟩) (by assumption) ?_
          case hy52 =>
            intro w' hSw
            obtain ⟨s1, s2, s3, s4, s5, _⟩ := hSw
            go_simp
            try with_reducible rfl
          try simp only [Act.put, List.setIfInBounds_toArray, List.set_cons_zero, List.set_cons_succ]
          refine wpAnyH_take (i := 17) (oi := ⟨some 35, .pick (.tmp 20) (.const (.bool true)) (.tmp 34), _, _, _, _⟩) (v := ?vv53) rfl (by kernel_rfl) (by kernel_rfl) (by kernel_rfl) (fun _ _ _ h => absurd h.1 (by intro k; cases k)) (Or.inl ⟨by rfl, ?hy53⟩) (by assumption) ?_
          case hy53 =>
            intro w' hSw
            obtain ⟨s1, s2, s3, s4, s5, _⟩ := hSw
            go_simp
            try with_reducible rfl
          try simp only [Act.put, List.setIfInBounds_toArray, List.set_cons_zero, List.set_cons_succ]
          refine wpAnyH_done (by kernel_rfl) ⟨rfl, ?_⟩ _
          obtain ⟨_, _, _, p0, p1, hBA⟩ := hHeld
          clear p0 p1
          have b2 := bx_low hBA G2.out
          have b3 := bx_low hBA G3.out
          have k2 := b2.cell
          have k3 := b3.cell
          have f2 := b2.frozen
          have f3 := b3.frozen
          have D2 := hide b2
          have D3 := hide b3
          have E1 := hide (ko_below hBA)
          have E3 := hide (G7.out.trans (hBA.mono (by omega)))
          clear b2 b3 hBA
          have k3' : (W'.setCell ⟨w.heap.size, 0, none⟩ (.slice none 0 0)).cell? ⟨w.heap.size + 1, 0, none⟩ = some (.bool false) := (bx_other (c := w.heap.size) (u := .slice none 0 0) D3.out (by omega)).cell
          have f3' : (W'.setCell ⟨w.heap.size, 0, none⟩ (.slice none 0 0)).frozen? ⟨w.heap.size + 1, 0, none⟩ = false := (bx_other (c := w.heap.size) (u := .slice none 0 0) D3.out (by omega)).frozen
          gi_wp2
          refine ⟨E1.out.trans ((KeepsOthers.setCell _ _ _).trans (KeepsOthers.setCell _ _ _)), bx_other (D2.out.set _) (by omega), (bx_other D3.out (by omega)).set _, HBAD.out, (E3.out.setCell (p := ⟨w.heap.size, 0, none⟩) (Nat.le_refl _) _).setCell (p := ⟨w.heap.size + 1, 0, none⟩) (by show w.heap.size ≤ w.heap.size + 1; omega) _⟩
        | true =>
          have HSO := hide (G4.out.next hr hx (.inr (by rw [hlast]; unfold ltB at hz9; exact of_decide_eq_true hz9)))
          rw [hj] at HSO
          clear hlast hx0 hy0 hz9 hr hx hrd h0
          refine region_round (RsS A (w.heap.size + 2) bo (of0 + j * 2) pq (.slice (some ⟨bo, of0, none⟩) (j + 1) c0) x0 y0 p q) (by kernel_rfl) (by kernel_rfl) ⟨c1, e0, e1, p0, p1, HBA.out.drew⟩ (fun hHeld => ?_)
          refine wpAnyH_take (i := 0) (oi := ⟨some 18, .move (.tmp 7), _, _, _, _⟩) (v := ?vv54) rfl (by kernel_rfl) (by kernel_rfl) (by kernel_rfl) (fun _ _ _ h => absurd h.1 (by intro k; cases k)) (Or.inl ⟨by rfl, ?hy54⟩) (by assumption) ?_
          case hy54 =>
            intro w' hSw
            obtain ⟨s1, s2, s3, s4, s5, _⟩ := hSw
            go_simp
            try with_reducible rfl
          try simp only [Act.put, List.setIfInBounds_toArray, List.set_cons_zero, List.set_cons_succ]
          refine wpAnyH_take (i := 1) (oi := ⟨some 19, .unOp .not _ (.tmp 18), _, _, _, _⟩) (v := ?vv55) rfl (by kernel_rfl) (by kernel_rfl) (by kernel_rfl) (fun _ _ _ h => absurd h.1 (by intro k; cases k)) (Or.inl ⟨by rfl, ?hy55⟩) (by assumption) ?_
          case hy55 =>
            intro w' hSw
            obtain ⟨s1, s2, s3, s4, s5, _⟩ := hSw
            go_simp
            try with_reducible rfl
          try simp only [Act.put, List.setIfInBounds_toArray, List.set_cons_zero, List.set_cons_succ]
          refine wpAnyH_take (i := 2) (oi := ⟨some 20, .move (.tmp 19), _, _, _, _⟩) (v := ?vv56) rfl (by kernel_rfl) (by kernel_rfl) (by kernel_rfl) (fun _ _ _ h => absurd h.1 (by intro k; cases k)) (Or.inl ⟨by rfl, ?hy56⟩) (by assumption) ?_
          case hy56 =>
            intro w' hSw
            obtain ⟨s1, s2, s3, s4, s5, _⟩ := hSw
            go_simp
            try with_reducible rfl
          try simp only [Act.put, List.setIfInBounds_toArray, List.set_cons_zero, List.set_cons_succ]
          refine wpAnyH_take (i := 3) (oi := ⟨some 21, .load _ (.tmp 4), _, _, _, _⟩) (v := ?vv57) rfl (by kernel_rfl) (by kernel_rfl) (by kernel_rfl) (fun _ _ _ h => absurd h.1 (by intro k; cases k)) (Or.inl ⟨by rfl, ?hy57⟩) (by assumption) ?_
          case hy57 =>
            intro w' hSw
            obtain ⟨s1, s2, s3, s4, s5, _⟩ := hSw
            go_simp
            try with_reducible rfl
          try simp only [Act.put, List.setIfInBounds_toArray, List.set_cons_zero, List.set_cons_succ]
          refine wpAnyH_take (i := 4) (oi := ⟨some 22, _, _, _, _, _⟩) (v := ?vv58) rfl (by kernel_rfl) (by kernel_rfl) (by kernel_rfl) (fun _ _ _ h => absurd h.1 (by intro k; cases k)) (Or.inl ⟨by rfl, ?hy58⟩) (by assumption) ?_
          case hy58 =>
            intro w' hSw
            obtain ⟨s1, s2, s3, s4, s5, _⟩ := hSw
            go_simp
            try with_reducible rfl
          try simp only [Act.put, List.setIfInBounds_toArray, List.set_cons_zero, List.set_cons_succ]
          refine wpAnyH_take (i := 5) (oi := ⟨some 23, .binOp .gtr _ (.tmp 22) (.const (.int .i64 0)) _, _, _, _, _⟩) (v := ?vv59) rfl (by kernel_rfl) (by kernel_rfl) (by kernel_rfl) (fun _ _ _ h => absurd h.1 (by intro k; cases k)) (Or.inl ⟨by rfl, ?hy59⟩) (by assumption) ?_
          case hy59 =>
            intro w' hSw
            obtain ⟨s1, s2, s3, s4, s5, _⟩ := hSw
            go_simp
            try with_reducible rfl
          try simp only [Act.put, List.setIfInBounds_toArray, List.set_cons_zero, List.set_cons_succ]
          refine wpAnyH_take (i := 6) (oi := ⟨some 24, .move (.tmp 23), _, _, _, _⟩) (v := ?vv60) rfl (by kernel_rfl) (by kernel_rfl) (by kernel_rfl) (fun _ _ _ h => absurd h.1 (by intro k; cases k)) (Or.inl ⟨by rfl, ?hy60⟩) (by assumption) ?_
          case hy60 =>
            intro w' hSw
            obtain ⟨s1, s2, s3, s4, s5, _⟩ := hSw
            go_simp
            try with_reducible rfl
          try simp only [Act.put, List.setIfInBounds_toArray, List.set_cons_zero, List.set_cons_succ]
          refine wpAnyH_take (i := 7) (oi := ⟨some 25, .load _ (.tmp 4), _, _, _, _⟩) (v := ?vv61) rfl (by kernel_rfl) (by kernel_rfl) (by kernel_rfl) (fun _ _ _ h => absurd h.1 (by intro k; cases k)) (Or.inl ⟨by rfl, ?hy61⟩) (by assumption) ?_
          case hy61 =>
            intro w' hSw
            obtain ⟨s1, s2, s3, s4, s5, _⟩ := hSw
            go_simp
            try with_reducible rfl
          try simp only [Act.put, List.setIfInBounds_toArray, List.set_cons_zero, List.set_cons_succ]
          refine wpAnyH_take (i := 8) (oi := ⟨some 26, .load _ (.tmp 4), _, _, _, _⟩) (v := ?vv62) rfl (by kernel_rfl) (by kernel_rfl) (by kernel_rfl) (fun _ _ _ h => absurd h.1 (by intro k; cases k)) (Or.inl ⟨by rfl, ?hy62⟩) (by assumption) ?_
          case hy62 =>
            intro w' hSw
            obtain ⟨s1, s2, s3, s4, s5, _⟩ := hSw
            go_simp
            try with_reducible rfl
          try simp only [Act.put, List.setIfInBounds_toArray, List.set_cons_zero, List.set_cons_succ]
          refine wpAnyH_take (i := 9) (oi := ⟨some 27, _, _, _, _, _⟩) (v := ?vv63) rfl (by kernel_rfl) (by kernel_rfl) (by kernel_rfl) (fun _ _ _ h => absurd h.1 (by intro k; cases k)) (Or.inl ⟨by rfl, ?hy63⟩) (by assumption) ?_
          case hy63 =>
            intro w' hSw
            obtain ⟨s1, s2, s3, s4, s5, _⟩ := hSw
            go_simp
            try with_reducible rfl
          try simp only [Act.put, List.setIfInBounds_toArray, List.set_cons_zero, List.set_cons_succ]
          refine wpAnyH_take (i := 10) (oi := ⟨some 28, .binOp .sub _ (.tmp 27) (.const (.int .i64 1)) _, _, _, _, _⟩) (v := ?vv64) rfl (by kernel_rfl) (by kernel_rfl) (by kernel_rfl) (fun _ _ _ h => absurd h.1 (by intro k; cases k)) (Or.inl ⟨by rfl, ?hy64⟩) (by assumption) ?_
          case hy64 =>
            intro w' hSw
            obtain ⟨s1, s2, s3, s4, s5, _⟩ := hSw
            go_simp
            try with_reducible rfl
          try simp only [Act.put, List.setIfInBounds_toArray, List.set_cons_zero, List.set_cons_succ]
          refine wpAnyH_take (i := 11) (oi := ⟨some 29, .indexAddr _ (.tmp 25) (.tmp 28), _, _, _, _⟩) (v := ?vv65) rfl (by kernel_rfl) (by kernel_rfl) (by kernel_rfl) (fun _ _ _ h => absurd h.1 (by intro k; cases k)) (Or.inl ⟨by rfl, ?hy65⟩) (by assumption) ?_
          case hy65 =>
            intro w' hSw
            obtain ⟨s1, s2, s3, s4, s5, _⟩ := hSw
            go_simp
            try with_reducible rfl
          try simp only [Act.put, List.setIfInBounds_toArray, List.set_cons_zero, List.set_cons_succ]
          refine wpAnyH_take (i := 12) (oi := ⟨some 30, .load _ (.tmp 29), _, _, _, _⟩) (v := ?vv66) rfl (by kernel_rfl) (by kernel_rfl) (by kernel_rfl) (fun _ _ _ h => absurd h.1 (by intro k; cases k)) (Or.inl ⟨by rfl, ?hy66⟩) (by assumption) ?_
          case hy66 =>
            intro w' hSw
            obtain ⟨s1, s2, s3, s4, s5, _⟩ := hSw
            go_simp
            try with_reducible rfl
          try simp only [Act.put, List.setIfInBounds_toArray, List.set_cons_zero, List.set_cons_succ]
          refine wpAnyH_take (i := 13) (oi := ⟨some 31, .load _ (.tmp 6), _, _, _, _⟩) (v := ?vv67) rfl (by kernel_rfl) (by kernel_rfl) (by kernel_rfl) (fun _ _ _ h => absurd h.1 (by intro k; cases k)) (Or.inl ⟨by rfl, ?hy67⟩) (by assumption) ?_
          case hy67 =>
            intro w' hSw
            obtain ⟨s1, s2, s3, s4, s5, _⟩ := hSw
            go_simp
            try with_reducible rfl
          try simp only [Act.put, List.setIfInBounds_toArray, List.set_cons_zero, List.set_cons_succ]
          refine wpAnyH_ready (rs := [14]) (by kernel_rfl) (by simp) ?_
          refine AllReadyH.cons (o := ⟨some 32, _, _, _, _, _⟩) rfl (fun K hK => ?_) AllReadyH.nil
          go_simp
          (go_at_call 24; (with_reducible refine (KL.out _).mono ?_); rintro e W' ⟨rfl, hv⟩)
          refine hK.out _ _ (RsS.next (by assumption) hv) (fun hHeld2 => ?_)
          clear hK K hHeld hv
          rename _ => hHeld
          try simp only [Act.put, List.setIfInBounds_toArray, List.set_cons_zero, List.set_cons_succ]
          refine wpAnyH_take (i := 15) (oi := ⟨some 33, .unOp .not _ (.tmp 32), _, _, _, _⟩) (v := ?vv68) rfl (by kernel_rfl) (by kernel_rfl) (by kernel_rfl) (fun _ _ _ h => absurd h.1 (by intro k; cases k)) (Or.inl ⟨by rfl, ?hy68⟩) (by assumption) ?_
          case hy68 =>
            intro w' hSw
            obtain ⟨s1, s2, s3, s4, s5, _⟩ := hSw
            go_simp
            try with_reducible rfl
          try simp only [Act.put, List.setIfInBounds_toArray, List.set_cons_zero, List.set_cons_succ]
          refine wpAnyH_take (i := 16) (oi := ⟨some 34, .pick (.tmp 24) (.tmp 33) (.const (.bool false)), _, _, _, _⟩) (v := ?vv69) rfl (by kernel_rfl) (by kernel_rfl) (by kernel_rfl) (fun _ _ _ h => absurd h.1 (by intro k; cases k)) (Or.inl ⟨by rfl, ?hy69⟩) (by assumption) ?_
          case hy69 =>
            intro w' hSw
            obtain ⟨s1, s2, s3, s4, s5, _⟩ := hSw
            go_simp
            try with_reducible rfl
          try simp only [Act.put, List.setIfInBounds_toArray, List.set_cons_zero, List.set_cons_succ]
          refine wpAnyH_take (i := 17) (oi := ⟨some 35, .pick (.tmp 20) (.const (.bool true)) (.tmp 34), _, _, _, _⟩) (v := ?vv70) rfl (by kernel_rfl) (by kernel_rfl) (by kernel_rfl) (fun _ _ _ h => absurd h.1 (by intro k; cases k)) (Or.inl ⟨by rfl, ?hy70⟩) (by assumption) ?_
          case hy70 =>
            intro w' hSw
            obtain ⟨s1, s2, s3, s4, s5, _⟩ := hSw
            go_simp
            try with_reducible rfl
          try simp only [Act.put, List.setIfInBounds_toArray, List.set_cons_zero, List.set_cons_succ]
          refine wpAnyH_done (by kernel_rfl) ⟨rfl, ?_⟩ _
          obtain ⟨_, _, _, p0, p1, hBA⟩ := hHeld
          have b1 := bx_low hBA G1.out
          have b2 := bx_low hBA G2.out
          have b3 := bx_low hBA G3.out
          have k1 := b1.cell
          have f1 := b1.frozen
          have D1 := hide b1
          have D2 := hide b2
          have D3 := hide b3
          have E1 := hide (ko_below hBA)
          have E2 : Hid (KMid (w.heap.size + 3) (w.heap.size + 3 + 3) A W') := km_below hBA (by omega)
          have E3 := hide (G7.out.trans (hBA.mono (by omega)))
          have E5 := hide (G6.out.below hBA)
          have hsw := hBA.size
          clear b1 b2 b3 hBA
          gi_wp2_with (gi_at_builtin; refine wpListIn_append_own _ rfl _ _ 29 rfl (w.heap.size + 6) 31 i0 (.agg #[.int .i64 0, .int .i64 0]) 2 16 Tryd.underlying29 hi hz0 hz1 hz2 rfl (by decide) _ _ _ rfl (World.ownsRow.alloc E5.out _) ⟨W'.heap.size, 0, none⟩ 1 1 [.int .i64 p, .int .i64 q] rfl rfl (cell_two_new _ _ _ _) (by simp [Value.oneCell']) (by simp only [maxLen]; omega) (by omega) (by simp; omega) ?_; intro v' w3 hown' hgrow _; obtain ⟨g', cap', rfl⟩ := ownsRow_succ hown'; obtain ⟨q1, q2, q3, q4, q5, q6, q7⟩ := box_app (n := w.heap.size) (lo := w.heap.size + 3) (hi := w.heap.size + 3 + 3) D1.out (by omega) (by omega) (by omega) (by omega) (by omega) E5.out hown' hgrow; have hc1 := q1.cell; have hf1 := q1.frozen)
          refine ⟨E1.out.trans q4, E2.out.trans q5, ?_⟩
          rw [QcI, hl]
          refine ⟨_, _, _, q2, bx_oth D2.out (q7 _ (by omega) (by omega)), bx_oth D3.out (q7 _ (by omega) (by omega)), HSO.out, ?_, E3.out.trans q6⟩
          unfold OwnV
          rw [← rowV_two]
          exact q3
  case done =>
    rintro D A hD ⟨v, f, g, h1, h2, h3, h4, h6, h7⟩ hK
    obtain ⟨L, c, rfl, hrd, _⟩ := OwnV.rd h6
    rw [sqW_size, vs] at hD
    have k1 := h1.cell
    have k2 := h2.cell
    have k3 := h3.cell
    have f2 := h2.frozen
    have f3 := h3.frozen
    have D2 := hide h2
    have D3 := hide h3
    have E3 := hide h7
    have G4 := hide h4.txt
    have HK := hide hK
    have HM2 := hide (pcB_len 44 s.size s (Nat.le_refl _))
    obtain ⟨m, hm⟩ : ∃ m, (pcB 44 s).length = m := ⟨_, rfl⟩
    have HM := hide hm
    have G6 := hide h6
    rw [hm] at k1 G4 G6 HM2
    clear h1 h2 h3 h4 h6 h7 hK hrd hm
    have k3' : (A.setCell ⟨w.heap.size, 0, none⟩ (.slice L m c)).cell? ⟨w.heap.size + 1, 0, none⟩ = some (.bool false) := (bx_other (c := w.heap.size) (u := .slice L m c) D3.out (by omega)).cell
    have f3' : (A.setCell ⟨w.heap.size, 0, none⟩ (.slice L m c)).frozen? ⟨w.heap.size + 1, 0, none⟩ = false := (bx_other (c := w.heap.size) (u := .slice L m c) D3.out (by omega)).frozen
    gi_wp2
    obtain ⟨Z, hZ⟩ : ∃ Z, (A.setCell ⟨w.heap.size, 0, none⟩ (.slice L m c)).setCell ⟨w.heap.size + 1, 0, none⟩ (.bool true) = Z := ⟨_, rfl⟩
    have z0 : Boxed Z w.heap.size 29 (.slice L m c) := by rw [← hZ]; exact bx_other (D2.out.set _) (by omega)
    have z1 : Boxed Z (w.heap.size + 1) 4 (.bool true) := by rw [← hZ]; exact (bx_other D3.out (by omega)).set _
    have zK : Z.heap[D]? = some (.deferred (some [])) := by rw [← hZ]; exact ((KeepsOthers.setCell A ⟨w.heap.size, 0, none⟩ (.slice L m c)).trans (KeepsOthers.setCell _ ⟨w.heap.size + 1, 0, none⟩ (.bool true))).same D _ HK.out rfl
    have zB : Below w.heap.size w Z := by rw [← hZ]; exact (E3.out.setCell (p := ⟨w.heap.size, 0, none⟩) (Nat.le_refl _) _).setCell (p := ⟨w.heap.size + 1, 0, none⟩) (by show w.heap.size ≤ w.heap.size + 1; omega) _
    have zR : OwnV 2 31 (w.heap.size + 6) Z (.slice L m c) m (pr f g) := by
      rw [← hZ]
      have nb : ∀ j, j < w.heap.size + 6 → (Value.slice L m c).ownBlock ≠ some j := fun j hj e => by have := (World.ownsRow.lt G6.out j e).1; omega
      exact (World.ownsRow.kept G6.out (grownBy_setCell' A _ _) (.inr (nb _ (by omega)))).kept (grownBy_setCell' _ _ _) (.inr (nb _ (by omega)))
    rw [hZ]
    clear hZ
    refine ⟨by simp, .inl ⟨_, _, rfl, run_takeDeferred zK, ?_⟩⟩
    have c0 := (bx_put z0 zK rfl (.deferred none)).cell
    have c1 := (bx_put z1 zK rfl (.deferred none)).cell
    have zb : Below w.heap.size w (Z.putObj D (.deferred none)) := zB.trans (belowK_b (w := w) (Nat.le_refl _) Z D _ _ (by omega) zK rfl rfl)
    have zr : OwnV 2 31 (w.heap.size + 6) (Z.putObj D (.deferred none)) (.slice L m c) m (pr f g) := ownsRow_putObj zR _ zK rfl
    refine ⟨.tuple #[.slice L m c, .bool true], ?_, L, m, c, f, g, true, rfl, rd2_of_rdV (OwnV.rdS2 zr), .inl ⟨rfl, .inr ⟨HZ.out, G4.out⟩⟩, HM2.out, zb⟩
    simp [results, Tryd.f32, go_sem, c0, c1]
  case stop =>
    rintro D pre A hD hpre ⟨h2, h3, h4, h7⟩ hK
    rw [sqW_size, vs] at hD
    gi_wp2
    refine ⟨by simp, .inl ⟨_, _, rfl, run_takeDeferred hK, ?_⟩⟩
    have c0 := (bx_put h2 hK rfl (.deferred none)).cell
    have c1 := (bx_put h3 hK rfl (.deferred none)).cell
    have zb : Below w.heap.size w (A.putObj D (.deferred none)) := h7.trans (belowK_b (w := w) (Nat.le_refl _) A D _ _ (by omega) hK rfl rfl)
    refine ⟨.tuple #[.slice none 0 0, .bool false], ?_, none, 0, 0, fun _ => 0, fun _ => 0, false, rfl, Rd2.nil _ _ _, .inr ⟨rfl, rfl, HZ.out, bad_prefix h4 hpre⟩, Nat.zero_le _, zb⟩
    simp [results, Tryd.f32, go_sem, c0, c1]
theorem readset09 (s : ByteArray) (w : World) (hs : s.size ≤ 1000000) (hN : CdW w) : Calls Tryd.prog 32 #[.string s] w (FsE s w) := by
  by_cases hz : s = DASH
  · exact readset09_0 s w hz
  · exact readset09_1 s w hs hz hN
end

section
open Go.RowKit Go.PlainAid

def RlF (s : ByteArray) (w : World) (i a k : Nat) (f g : Nat → Int) (v : Value) (wr : World) : Prop :=
  (∀ p ∈ lsF k f g, rP p = true) ∧ k ≤ i ∧ OwnV 2 31 w.heap.size wr v k (pr f g) ∧ Below w.heap.size w wr ∧ ((i ≤ s.size ∧ a ≤ i ∧ pcB 44 s = (lsF k f g).map fltT ++ pcT 44 s a i) ∨ (i = s.size + 1 ∧ pcB 44 s = (lsF k f g).map fltT))
theorem lsF9_cat (k : Nat) (f g : Nat → Int) (u v : Int) : (lsF (k + 1) (catF k f (oneF u)) (catF k g (oneF v))).map fltT = (lsF k f g).map fltT ++ [fltT (u, v)] := by
  rw [lsF_app, List.map_append]
  rfl
set_option maxRecDepth 20000 in
set_option maxHeartbeats 6400000 in
theorem rreadset09 (s : ByteArray) (w : World) (hs : s.size ≤ 99999) : Calls Tryd.prog 33 #[.string s] w (FsE s w) := by
  obtain ⟨i0, hi, hz0, hz1, hz2⟩ := info_parts flt09_info
  by_cases hz : s = DASH
  · obtain ⟨t1, t2⟩ := lit_yes (l := [45]) hz
    have HZ := hide hz
    clear hz
    go_enter Tryd.func33, Tryd.ntmps33
    go_wp2
    go_ret2
    exact ⟨none, 0, 0, fun _ => 0, fun _ => 0, true, rfl, Rd2.nil _ _ _, .inl ⟨rfl, .inl ⟨HZ.out, rfl⟩⟩, Nat.zero_le _, Below.refl _ _⟩
  obtain ⟨t1, t2⟩ := lit_no (l := [45]) hz
  have HZ := hide hz
  clear hz
  go_enter Tryd.func33, Tryd.ntmps33
  go_wp2_with fail
  go_loopw [4, 5, 6, 7, 8] (fun v a i _ _ wr => ∃ (ii aa k : Nat) (f g : Nat → Int), i = .int .i64 ii ∧ a = .int .i64 aa ∧ RlF s w ii aa k f g v wr) (fun _ _ i _ _ _ => s.size + 1 - (intOf i).toNat)
  case atStart => exact ⟨0, 0, 0, fun _ => 0, fun _ => 0, rfl, rfl, fun p hp => absurd hp (by simp [lsF]), Nat.le_refl _, OwnV.nil _ _ _ _ _, Below.refl _ _, .inl ⟨Nat.zero_le _, Nat.le_refl _, rfl⟩⟩
  case round =>
    obtain ⟨i, a, k, f, g, rfl, rfl, hF, hki, hO, hB, hst⟩ := hrel
    have HF := hide hF
    have HO := hide hO
    have HB := hide hB
    have hsz := hB.size
    clear hF hO hB
    rcases hst with ⟨h1, h2, hp⟩ | ⟨rfl, hp⟩
    · have HPC := hide hp
      clear hp
      have d1 : decide ((i : Int) ≤ (s.size : Int)) = true := decide_eq_true (by omega)
      have d2 : decide (i ≤ s.size) = true := decide_eq_true h1
      by_cases hlt : i < s.size
      · have e1 : decide ((i : Int) < (s.size : Int)) = true := decide_eq_true (by omega)
        have e2 : decide (i < s.size) = true := decide_eq_true hlt
        have hb := get_bt s i hlt
        have hgo := hide (pcT_skip (c := 44) (s := s) (a := a) hlt h2)
        have hse := hide (pcT_sep (c := 44) (s := s) (a := a) hlt)
        obtain ⟨c, hc⟩ : ∃ c, bt s i = c := ⟨_, rfl⟩
        rw [hc] at hb hgo hse
        by_cases h44 : c = 44
        · subst h44
          have HS : Hid (pcB 44 s = (lsF k f g).map fltT ++ (s.extract a i :: pcT 44 s (i + 1) (i + 1))) := by unfold Hid; rw [HPC.out, hse.out rfl]
          have hxs : (s.extract a i).size ≤ 1000000 := by rw [ByteArray.size_extract]; omega
          obtain ⟨x, hx⟩ : ∃ x, s.extract a i = x := ⟨_, rfl⟩
          have HX := hide hx
          rw [hx] at HS hxs
          clear hgo hse hc HPC hx
          go_wp2_with fail
          rw [HX.out]
          refine (rread09 x _ hxs).mono ?_
          rintro e w2 ⟨u, v, ok, rfl, hq, hb2⟩
          have HB2 := hide (HB.out.of hb2)
          have HO2 := hide (HO.out.below hb2)
          have hs2 := HB2.out.size
          cases ok with
          | false =>
            have HN : Hid (∀ M, ¬ SetTxt (pcB 44 s) M) := fun M hM => by
              have hm : x ∈ M.map fltT := by
                rw [← hM.1, HS.out]
                simp
              obtain ⟨⟨p', q'⟩, hp', e'⟩ := List.mem_map.1 hm
              rcases hq with ⟨h, _⟩ | ⟨_, _, _, h⟩
              · cases h
              · exact h p' q' (hM.2.1 _ hp') e'.symm
            have HBx := hide (HB2.out.alloc hs2 (.cells #[.int .i64 u, .int .i64 v] 31))
            clear hq hb2
            go_wp2_with fail
            go_ret2
            exact ⟨none, 0, 0, fun _ => 0, fun _ => 0, false, rfl, Rd2.nil _ _ _, .inr ⟨rfl, rfl, HZ.out, HN.out⟩, Nat.zero_le _, HBx.out⟩
          | true =>
            obtain ⟨hr, hx⟩ : rP (u, v) = true ∧ x = fltT (u, v) := by
              rcases hq with ⟨_, h⟩ | ⟨h, _⟩
              · exact h
              · cases h
            have HT : Hid (rP (u, v) = true ∧ x = fltT (u, v)) := ⟨hr, hx⟩
            have RF := hide (heap_alloc_new w2 (.cells #[.int .i64 u, .int .i64 v] 31))
            have BF : Hid (Below w2.heap.size w2 (w2.alloc (.cells #[.int .i64 u, .int .i64 v] 31))) := (Below.refl _ _).alloc (Nat.le_refl _) _
            have HB4 := hide (HB2.out.trans (BF.out.mono hs2))
            have HO4 := hide (HO2.out.below BF.out)
            have hs4 := HB4.out.size
            obtain ⟨f0, f1⟩ := row2 RF.out
            clear hq hb2 hr hx
            go_upto_region 12 with (fail)
            generalize w2.alloc (.cells #[.int .i64 u, .int .i64 v] 31) = W4 at *
            go_wp2_with (at_builtin; refine wp_appV rfl (.tmp 37) (.tmp 39) _ rfl 2 i0 _ 16 Tryd.underlying29 hi hz0 hz1 hz2 rfl (by omega) w.heap.size _ k _ rfl (HO4.out.alloc _) _ 1 1 _ rfl (lit2F _ u v) (pr_one _ _ _) (by simp only [maxLen]; omega) (by omega) (by simp; omega) ?_; intro v3 w3 hown3 hg3 _)
            have HB3 := hide ((HB4.out.alloc hs4 _).grown hg3 (by simp; omega) (ownB09 HO4.out))
            rw [pr_cat] at hown3
            have HO3 := hide hown3
            clear hown3 hg3
            have HF3 : Hid (∀ p ∈ lsF (k + 1) (catF k f (oneF u)) (catF k g (oneF v)), rP p = true) := fun p hp => by
              rw [lsF_app] at hp
              rcases List.mem_append.1 hp with h | h
              · exact HF.out p h
              · rw [List.mem_singleton.1 h]
                exact HT.out.1
            go_wp2_with fail
            exact ⟨⟨i + 1, i + 1, k + 1, _, _, rfl, rfl, HF3.out, by omega, HO3.out, HB3.out, .inl ⟨by omega, Nat.le_refl _, by rw [lsF9_cat, HS.out, HT.out.2]; simp⟩⟩, by simp [intOf]; omega⟩
        · have q1 : (c != 44) = true := by simpa using h44
          have HS : Hid (pcB 44 s = (lsF k f g).map fltT ++ pcT 44 s a (i + 1)) := by unfold Hid; rw [HPC.out, hgo.out h44]
          clear hgo hse hc HPC h44
          go_wp2_with fail
          exact ⟨⟨i + 1, a, k, f, g, rfl, rfl, HF.out, by omega, HO.out, HB.out, .inl ⟨by omega, by omega, HS.out⟩⟩, by simp [intOf]; omega⟩
      · obtain rfl : i = s.size := by omega
        have e1 : decide ((s.size : Int) < (s.size : Int)) = false := decide_eq_false (by omega)
        have e2 : decide (s.size < s.size) = false := decide_eq_false hlt
        have HS : Hid (pcB 44 s = (lsF k f g).map fltT ++ [s.extract a s.size]) := by unfold Hid; rw [HPC.out, pcT_end rfl]
        have hxs : (s.extract a s.size).size ≤ 1000000 := by rw [ByteArray.size_extract]; omega
        obtain ⟨x, hx⟩ : ∃ x, s.extract a s.size = x := ⟨_, rfl⟩
        have HX := hide hx
        rw [hx] at HS hxs
        clear HPC hx
        go_wp2_with fail
        rw [HX.out]
        refine (rread09 x _ hxs).mono ?_
        rintro e w2 ⟨u, v, ok, rfl, hq, hb2⟩
        have HB2 := hide (HB.out.of hb2)
        have HO2 := hide (HO.out.below hb2)
        have hs2 := HB2.out.size
        cases ok with
        | false =>
          have HN : Hid (∀ M, ¬ SetTxt (pcB 44 s) M) := fun M hM => by
            have hm : x ∈ M.map fltT := by
              rw [← hM.1, HS.out]
              simp
            obtain ⟨⟨p', q'⟩, hp', e'⟩ := List.mem_map.1 hm
            rcases hq with ⟨h, _⟩ | ⟨_, _, _, h⟩
            · cases h
            · exact h p' q' (hM.2.1 _ hp') e'.symm
          have HBx := hide (HB2.out.alloc hs2 (.cells #[.int .i64 u, .int .i64 v] 31))
          clear hq hb2
          go_wp2_with fail
          go_ret2
          exact ⟨none, 0, 0, fun _ => 0, fun _ => 0, false, rfl, Rd2.nil _ _ _, .inr ⟨rfl, rfl, HZ.out, HN.out⟩, Nat.zero_le _, HBx.out⟩
        | true =>
          obtain ⟨hr, hx⟩ : rP (u, v) = true ∧ x = fltT (u, v) := by
            rcases hq with ⟨_, h⟩ | ⟨h, _⟩
            · exact h
            · cases h
          have HT : Hid (rP (u, v) = true ∧ x = fltT (u, v)) := ⟨hr, hx⟩
          have RF := hide (heap_alloc_new w2 (.cells #[.int .i64 u, .int .i64 v] 31))
          have BF : Hid (Below w2.heap.size w2 (w2.alloc (.cells #[.int .i64 u, .int .i64 v] 31))) := (Below.refl _ _).alloc (Nat.le_refl _) _
          have HB4 := hide (HB2.out.trans (BF.out.mono hs2))
          have HO4 := hide (HO2.out.below BF.out)
          have hs4 := HB4.out.size
          obtain ⟨f0, f1⟩ := row2 RF.out
          clear hq hb2 hr hx
          go_upto_region 12 with (fail)
          generalize w2.alloc (.cells #[.int .i64 u, .int .i64 v] 31) = W4 at *
          go_wp2_with (at_builtin; refine wp_appV rfl (.tmp 37) (.tmp 39) _ rfl 2 i0 _ 16 Tryd.underlying29 hi hz0 hz1 hz2 rfl (by omega) w.heap.size _ k _ rfl (HO4.out.alloc _) _ 1 1 _ rfl (lit2F _ u v) (pr_one _ _ _) (by simp only [maxLen]; omega) (by omega) (by simp; omega) ?_; intro v3 w3 hown3 hg3 _)
          have HB3 := hide ((HB4.out.alloc hs4 _).grown hg3 (by simp; omega) (ownB09 HO4.out))
          rw [pr_cat] at hown3
          have HO3 := hide hown3
          clear hown3 hg3
          have HF3 : Hid (∀ p ∈ lsF (k + 1) (catF k f (oneF u)) (catF k g (oneF v)), rP p = true) := fun p hp => by
            rw [lsF_app] at hp
            rcases List.mem_append.1 hp with h | h
            · exact HF.out p h
            · rw [List.mem_singleton.1 h]
              exact HT.out.1
          go_wp2_with fail
          exact ⟨⟨s.size + 1, s.size + 1, k + 1, _, _, rfl, rfl, HF3.out, by omega, HO3.out, HB3.out, .inr ⟨rfl, by rw [lsF9_cat, HS.out, HT.out.2]⟩⟩, by simp [intOf]⟩
    · have d1 : decide (((s.size + 1 : Nat) : Int) ≤ (s.size : Int)) = false := decide_eq_false (by omega)
      have d2 : decide (s.size + 1 ≤ s.size) = false := decide_eq_false (by omega)
      have d3 : decide ((s.size : Int) + 1 ≤ (s.size : Int)) = false := decide_eq_false (by omega)
      obtain ⟨L, c, rfl, hrd, _⟩ := OwnV.rd HO.out
      have HR := hide (rd2_of_rdV hrd)
      have HP2 := hide hp
      clear hrd hp
      go_wp2_with fail
      refine (rshow09 L k c f g _ HR.out (by omega)).mono ?_
      rintro e w2 ⟨rfl, hb2⟩
      have HB2 := hide (HB.out.of hb2)
      have HR2 := hide (HR.out.below hb2)
      have HSB := hide (show_back HZ.out HP2.out HF.out)
      obtain ⟨y, hy⟩ : ∃ y, shT (setL (lsF k f g)) = y := ⟨_, rfl⟩
      rw [hy] at HSB ⊢
      clear hb2 hy
      by_cases hys : y = s
      · have HU := hide (HSB.out.1 hys)
        have q1 : (y.toList != s.toList) = false := by rw [hys]; simp
        have q2 : (y.toList == s.toList) = true := by rw [hys]; simp
        clear hys
        go_wp2_with fail
        go_ret2
        exact ⟨L, k, c, f, g, true, rfl, HR2.out, .inl ⟨rfl, .inr ⟨HZ.out, HP2.out, HF.out, HU.out⟩⟩, hki, HB2.out⟩
      · have HNU : Hid (∀ M, ¬ SetTxt (pcB 44 s) M) := fun M hM => by
          have e := flt_map_inj (hM.1.symm.trans HP2.out) hM.2.1 HF.out
          rw [e] at hM
          exact hys (HSB.out.2 hM.2.2)
        have q2 := str_neq hys
        have q1 : (y.toList != s.toList) = true := by unfold bne; rw [q2]; rfl
        clear hys
        go_wp2_with fail
        go_ret2
        exact ⟨none, 0, 0, fun _ => 0, fun _ => 0, false, rfl, Rd2.nil _ _ _, .inr ⟨rfl, rfl, HZ.out, HNU.out⟩, Nat.zero_le _, HB2.out⟩
end

section
open Go.RowKit Go.PlainAid

theorem shT_small (L : List (Int × Int)) (h : L.length ≤ 40) : (shT L).size ≤ 100000 := by
  unfold shT
  split
  · decide
  · have h1 := join_len [44] 31 ((L.map fltT).map (·.data.toList)) (by
      intro x hx
      simp only [List.map_map, List.mem_map] at hx
      obtain ⟨p, _, rfl⟩ := hx
      have := fltT_size p
      rw [Lib.size_eq] at this
      exact this)
    rw [List.length_map, List.length_map] at h1
    rw [Lib.size_eq]
    refine Nat.le_trans h1 ?_
    show L.length * 32 ≤ _
    omega
set_option maxRecDepth 20000 in
set_option maxHeartbeats 12800000 in
theorem texts_walk09 (fs ft : Int) (A : Option Addr) (n c : Nat) (f g : Nat → Int) (s : ByteArray) (w : World) (h : Rd2 w A n c f g) (hN : CdW w) (hP : PowW w) :
    Calls Tryd.prog 5 #[.agg #[.int .i64 fs, .int .i64 ft], .slice A n c, .string s] w (Yes9 w) := by
  have HA := hide h
  have HN := hide hN
  have HP := hide hP
  clear h hN hP
  have R3 := hide (heap_alloc_new w (.cells #[.int .i64 fs, .int .i64 ft] 31))
  have B0 : Hid (Below w.heap.size w (w.alloc (.cells #[.int .i64 fs, .int .i64 ft] 31))) := (Below.refl _ _).alloc (Nat.le_refl _) _
  by_cases hxn : 40 < n
  · have tn : decide (40 < n) = true := decide_eq_true hxn
    have un : decide ((40 : Int) < (n : Int)) = true := decide_eq_true (by omega)
    clear hxn
    go_enter Tryd.func5, Tryd.ntmps5
    go_wp2_with fail
    refine (alive09 _ (HN.out.below B0.out) (HP.out.below B0.out)).mono ?_
    rintro e w9 ⟨rfl, hb9⟩
    have HB9 := hide (B0.out.of hb9)
    clear hb9
    go_wp2_with fail
    go_ret
    exact ⟨rfl, HB9.out⟩
  have tn : decide (40 < n) = false := decide_eq_false hxn
  have un : decide ((40 : Int) < (n : Int)) = false := decide_eq_false (by omega)
  by_cases hxs : 400 < s.size
  · have ts : decide (400 < s.size) = true := decide_eq_true hxs
    have us : decide ((400 : Int) < (s.size : Int)) = true := decide_eq_true (by omega)
    clear hxs
    go_enter Tryd.func5, Tryd.ntmps5
    go_wp2_with fail
    refine (alive09 _ (HN.out.below B0.out) (HP.out.below B0.out)).mono ?_
    rintro e w9 ⟨rfl, hb9⟩
    have HB9 := hide (B0.out.of hb9)
    clear hb9
    go_wp2_with fail
    go_ret
    exact ⟨rfl, HB9.out⟩
  have ts : decide (400 < s.size) = false := decide_eq_false hxs
  have us : decide ((400 : Int) < (s.size : Int)) = false := decide_eq_false (by omega)
  have R3a := hide (HA.out.below B0.out)
  have N0 := hide (HN.out.below B0.out)
  have P0 := hide (HP.out.below B0.out)
  obtain ⟨tx, htx⟩ : ∃ t, fltT (fs, ft) = t := ⟨_, rfl⟩
  obtain ⟨rr, hrr⟩ : ∃ t, rightB fs ft = t := ⟨_, rfl⟩
  obtain ⟨L, hL⟩ : ∃ L, lsF n f g = L := ⟨_, rfl⟩
  obtain ⟨ux, hux⟩ : ∃ t, shT (setL L) = t := ⟨_, rfl⟩
  have HTX := hide htx
  have HRR := hide hrr
  have HL := hide hL
  have HUX := hide hux
  have hsz : tx.size ≤ 1000000 := by
    rw [← htx]
    have := fltT_size (fs, ft)
    omega
  have husz : ux.size ≤ 1000000 := by
    have h1 := shT_small (setL L) (by have h2 := setL_len L; have h3 : L.length = n := (by rw [← hL, lsF_len]); omega)
    rw [hux] at h1
    omega
  have q1 : (tx.toList == tx.toList) = true := beq_self_eq_true _
  have q2 : (tx.toList != tx.toList) = false := by unfold bne; rw [q1]; rfl
  have q3 : (ux.toList == ux.toList) = true := beq_self_eq_true _
  clear htx hrr hL hux
  obtain ⟨f0, f1⟩ := row2 R3.out
  go_enter Tryd.func5, Tryd.ntmps5
  go_wp2_with fail
  generalize w.alloc (.cells #[.int .i64 fs, .int .i64 ft] 31) = W0 at *
  have KT := text09 fs ft _ N0.out P0.out
  rw [HTX.out] at KT
  refine (KT).mono ?_
  rintro e v1 ⟨rfl, hb⟩
  clear KT f0 f1
  have B_1 := hide (B0.out.trans ((hb).mono B0.out.size))
  have N_1 := hide (N0.out.below (hb))
  have P_1 := hide (P0.out.below (hb))
  have A_1 := hide (R3a.out.below (hb))
  have R3_1 := hide (keepRow R3.out (hb))
  clear B0 N0 P0 R3a R3 hb
  go_wp2_with fail
  refine (kread09 tx _ hsz N_1.out).mono ?_
  rintro e v2 ⟨x1, x2, is, rfl, hq, hb⟩
  have HQ0 := hide hq
  clear hq
  have B_2 := hide (B_1.out.trans ((hb).mono B_1.out.size))
  have N_2 := hide (N_1.out.below (hb))
  have P_2 := hide (P_1.out.below (hb))
  have A_2 := hide (A_1.out.below (hb))
  have R3_2 := hide (keepRow R3_1.out (hb))
  clear B_1 N_1 P_1 A_1 R3_1 hb
  have RN := heap_alloc_new v2 (.cells #[.int .i64 x1, .int .i64 x2] 31)
  have hb : Below v2.heap.size v2 (v2.alloc (.cells #[.int .i64 x1, .int .i64 x2] 31)) := (Below.refl _ _).alloc (Nat.le_refl _) _
  have B_3 := hide (B_2.out.trans ((hb).mono B_2.out.size))
  have N_3 := hide (N_2.out.below (hb))
  have P_3 := hide (P_2.out.below (hb))
  have A_3 := hide (A_2.out.below (hb))
  have R3_3 := hide (keepRow R3_2.out (hb))
  have R8_3 := hide RN
  clear RN hb B_2 N_2 P_2 A_2 R3_2
  obtain ⟨f0, f1⟩ := row2 R3_3.out
  go_wp2_with fail
  generalize v2.alloc (.cells #[.int .i64 x1, .int .i64 x2] 31) = V3 at *
  generalize v2.heap.size = q3 at *
  have KT : Hid (∀ W, Calls Tryd.prog 29 #[.agg #[.int .i64 fs, .int .i64 ft]] W fun e w' => e = .returned (.string tx) ∧ Below W.heap.size W w') := fun W => by
    rw [← HTX.out]
    exact rtext09 fs ft W
  refine (KT.out _).mono ?_
  rintro e v4 ⟨rfl, hb⟩
  clear KT f0 f1
  have B_4 := hide (B_3.out.trans ((hb).mono B_3.out.size))
  have N_4 := hide (N_3.out.below (hb))
  have P_4 := hide (P_3.out.below (hb))
  have A_4 := hide (A_3.out.below (hb))
  have R3_4 := hide (keepRow R3_3.out (hb))
  have R8_4 := hide (keepRow R8_3.out (hb))
  clear B_3 N_3 P_3 A_3 R3_3 R8_3 hb
  obtain ⟨f0, f1⟩ := row2 R3_4.out
  go_wp2_with fail
  have KT : Hid (∀ W, Calls Tryd.prog 23 #[.agg #[.int .i64 fs, .int .i64 ft]] W fun e w' => e = .returned (.bool rr) ∧ Below W.heap.size W w') := fun W => by
    rw [← HRR.out]
    exact rright09 fs ft W
  refine (KT.out _).mono ?_
  rintro e v5 ⟨rfl, hb⟩
  clear KT f0 f1
  have B_5 := hide (B_4.out.trans ((hb).mono B_4.out.size))
  have N_5 := hide (N_4.out.below (hb))
  have P_5 := hide (P_4.out.below (hb))
  have A_5 := hide (A_4.out.below (hb))
  have R3_5 := hide (keepRow R3_4.out (hb))
  have R8_5 := hide (keepRow R8_4.out (hb))
  clear B_4 N_4 P_4 A_4 R3_4 R8_4 hb
  obtain ⟨f0, f1⟩ := row2 R3_5.out
  obtain ⟨e0, e1⟩ := row2 R8_5.out
  cases rr with
  | false =>
    go_wp2_with fail
    clear f0 f1 e0 e1
    refine (kread09 s _ (by omega) N_5.out).mono ?_
    rintro e v6 ⟨y1, y2, was, rfl, hq, hb⟩
    have HQ1 := hide hq
    clear hq
    have B_6 := hide (B_5.out.trans ((hb).mono B_5.out.size))
    have N_6 := hide (N_5.out.below (hb))
    have P_6 := hide (P_5.out.below (hb))
    have A_6 := hide (A_5.out.below (hb))
    have R3_6 := hide (keepRow R3_5.out (hb))
    have R8_6 := hide (keepRow R8_5.out (hb))
    clear B_5 N_5 P_5 A_5 R3_5 R8_5 hb
    have RN := heap_alloc_new v6 (.cells #[.int .i64 y1, .int .i64 y2] 31)
    have hb : Below v6.heap.size v6 (v6.alloc (.cells #[.int .i64 y1, .int .i64 y2] 31)) := (Below.refl _ _).alloc (Nat.le_refl _) _
    have B_7 := hide (B_6.out.trans ((hb).mono B_6.out.size))
    have N_7 := hide (N_6.out.below (hb))
    have P_7 := hide (P_6.out.below (hb))
    have A_7 := hide (A_6.out.below (hb))
    have R3_7 := hide (keepRow R3_6.out (hb))
    have R8_7 := hide (keepRow R8_6.out (hb))
    have R10_7 := hide RN
    clear RN hb B_6 N_6 P_6 A_6 R3_6 R8_6
    go_wp2_with fail
    generalize v6.alloc (.cells #[.int .i64 y1, .int .i64 y2] 31) = V7 at *
    generalize v6.heap.size = q7 at *
    refine (rread09 s _ (by omega)).mono ?_
    rintro e v8 ⟨z1, z2, has, rfl, hq, hb⟩
    obtain ⟨rfl, rfl, rfl⟩ := HQ1.out.same hq
    clear hq HQ1
    have B_8 := hide (B_7.out.trans ((hb).mono B_7.out.size))
    have N_8 := hide (N_7.out.below (hb))
    have P_8 := hide (P_7.out.below (hb))
    have A_8 := hide (A_7.out.below (hb))
    have R3_8 := hide (keepRow R3_7.out (hb))
    have R8_8 := hide (keepRow R8_7.out (hb))
    have R10_8 := hide (keepRow R10_7.out (hb))
    clear B_7 N_7 P_7 A_7 R3_7 R8_7 R10_7 hb
    have RN := heap_alloc_new v8 (.cells #[.int .i64 y1, .int .i64 y2] 31)
    have hb : Below v8.heap.size v8 (v8.alloc (.cells #[.int .i64 y1, .int .i64 y2] 31)) := (Below.refl _ _).alloc (Nat.le_refl _) _
    have B_9 := hide (B_8.out.trans ((hb).mono B_8.out.size))
    have N_9 := hide (N_8.out.below (hb))
    have P_9 := hide (P_8.out.below (hb))
    have A_9 := hide (A_8.out.below (hb))
    have R3_9 := hide (keepRow R3_8.out (hb))
    have R8_9 := hide (keepRow R8_8.out (hb))
    have R10_9 := hide (keepRow R10_8.out (hb))
    have R12_9 := hide RN
    clear RN hb B_8 N_8 P_8 A_8 R3_8 R8_8 R10_8
    go_wp2_with fail
    generalize v8.alloc (.cells #[.int .i64 y1, .int .i64 y2] 31) = V9 at *
    generalize v8.heap.size = q9 at *
    have KS := kshow09 A n c f g _ A_9.out (by omega) N_9.out P_9.out
    rw [HL.out, HUX.out] at KS
    refine (KS).mono ?_
    rintro e v10 ⟨rfl, hb⟩
    clear KS
    have B_10 := hide (B_9.out.trans ((hb).mono B_9.out.size))
    have N_10 := hide (N_9.out.below (hb))
    have P_10 := hide (P_9.out.below (hb))
    have A_10 := hide (A_9.out.below (hb))
    have R3_10 := hide (keepRow R3_9.out (hb))
    have R8_10 := hide (keepRow R8_9.out (hb))
    have R10_10 := hide (keepRow R10_9.out (hb))
    have R12_10 := hide (keepRow R12_9.out (hb))
    clear B_9 N_9 P_9 A_9 R3_9 R8_9 R10_9 R12_9 hb
    go_wp2_with fail
    refine (readset09 ux _ husz N_10.out).mono ?_
    rintro e v11 ⟨M1, mk, mc, mf, mg, had, rfl, hm, hq, _, hb⟩
    obtain ⟨hms, rfl⟩ := hq.same (HUX.out ▸ sh_read (fun p hp => ((setL_mem L p).1 hp).2) (setL_up L))
    have HMS := hide hms
    have HM := hide hm
    clear hq hm hms
    have B_11 := hide (B_10.out.trans ((hb).mono B_10.out.size))
    have N_11 := hide (N_10.out.below (hb))
    have P_11 := hide (P_10.out.below (hb))
    have A_11 := hide (A_10.out.below (hb))
    have R3_11 := hide (keepRow R3_10.out (hb))
    have R8_11 := hide (keepRow R8_10.out (hb))
    have R10_11 := hide (keepRow R10_10.out (hb))
    have R12_11 := hide (keepRow R12_10.out (hb))
    clear B_10 N_10 P_10 A_10 R3_10 R8_10 R10_10 R12_10 hb
    go_wp2_with fail
    refine (readset09 s _ (by omega) N_11.out).mono ?_
    rintro e v12 ⟨P1, pk, pc, pf, pg, got, rfl, hp, hq, _, hb⟩
    have HQ2 := hide hq
    have HPP := hide hp
    clear hq hp
    have B_12 := hide (B_11.out.trans ((hb).mono B_11.out.size))
    have N_12 := hide (N_11.out.below (hb))
    have P_12 := hide (P_11.out.below (hb))
    have A_12 := hide (A_11.out.below (hb))
    have R3_12 := hide (keepRow R3_11.out (hb))
    have R8_12 := hide (keepRow R8_11.out (hb))
    have R10_12 := hide (keepRow R10_11.out (hb))
    have R12_12 := hide (keepRow R12_11.out (hb))
    have M_12 := hide (HM.out.below (hb))
    clear B_11 N_11 P_11 A_11 R3_11 R8_11 R10_11 R12_11 HM hb
    go_wp2_with fail
    refine (rreadset09 s _ (by omega)).mono ?_
    rintro e v13 ⟨Q1, qk, qc, qf, qg, would, rfl, hp, hq, _, hb⟩
    obtain ⟨hpq, rfl⟩ := HQ2.out.same hq
    have HPQ := hide hpq
    have HQQ := hide hp
    clear hq hp hpq HQ2
    have B_13 := hide (B_12.out.trans ((hb).mono B_12.out.size))
    have N_13 := hide (N_12.out.below (hb))
    have P_13 := hide (P_12.out.below (hb))
    have A_13 := hide (A_12.out.below (hb))
    have R3_13 := hide (keepRow R3_12.out (hb))
    have R8_13 := hide (keepRow R8_12.out (hb))
    have R10_13 := hide (keepRow R10_12.out (hb))
    have R12_13 := hide (keepRow R12_12.out (hb))
    have M_13 := hide (M_12.out.below (hb))
    have PP_13 := hide (HPP.out.below (hb))
    clear B_12 N_12 P_12 A_12 R3_12 R8_12 R10_12 R12_12 M_12 HPP hb
    have z1 : sameL pk qk pf pg qf qg = true := decide_eq_true HPQ.out
    have qg1 : (got == got) = true := beq_self_eq_true _
    have qg2 : (was == was) = true := beq_self_eq_true _
    have qg3 : (y1 == y1) = true := beq_self_eq_true _
    have qg4 : (y2 == y2) = true := beq_self_eq_true _
    obtain ⟨g0, g1⟩ := row2 R10_13.out
    obtain ⟨h0, h1⟩ := row2 R12_13.out
    go_wp2_with fail
    have KS := rshow09 A n c f g _ A_13.out (by omega)
    rw [HL.out, HUX.out] at KS
    refine (KS).mono ?_
    rintro e v14 ⟨rfl, hb⟩
    clear KS g0 g1 h0 h1
    have B_14 := hide (B_13.out.trans ((hb).mono B_13.out.size))
    have N_14 := hide (N_13.out.below (hb))
    have P_14 := hide (P_13.out.below (hb))
    have A_14 := hide (A_13.out.below (hb))
    have R3_14 := hide (keepRow R3_13.out (hb))
    have R8_14 := hide (keepRow R8_13.out (hb))
    have R10_14 := hide (keepRow R10_13.out (hb))
    have R12_14 := hide (keepRow R12_13.out (hb))
    have M_14 := hide (M_13.out.below (hb))
    have PP_14 := hide (PP_13.out.below (hb))
    have QQ_14 := hide (HQQ.out.below (hb))
    clear B_13 N_13 P_13 A_13 R3_13 R8_13 R10_13 R12_13 M_13 PP_13 HQQ hb
    go_wp2_with fail
    refine (rof09 A n c f g _ A_14.out (by omega)).mono ?_
    rintro e v15 ⟨X1, xk, xc, xf, xg, rfl, hx, hl, _, hb⟩
    have z2 : sameL mk xk mf mg xf xg = true := decide_eq_true (by rw [HMS.out, hl, HL.out])
    have HX := hide hx
    clear hx hl
    have B_15 := hide (B_14.out.trans ((hb).mono B_14.out.size))
    have N_15 := hide (N_14.out.below (hb))
    have P_15 := hide (P_14.out.below (hb))
    have A_15 := hide (A_14.out.below (hb))
    have R3_15 := hide (keepRow R3_14.out (hb))
    have R8_15 := hide (keepRow R8_14.out (hb))
    have R10_15 := hide (keepRow R10_14.out (hb))
    have R12_15 := hide (keepRow R12_14.out (hb))
    have M_15 := hide (M_14.out.below (hb))
    have PP_15 := hide (PP_14.out.below (hb))
    have QQ_15 := hide (QQ_14.out.below (hb))
    clear B_14 N_14 P_14 A_14 R3_14 R8_14 R10_14 R12_14 M_14 PP_14 QQ_14 hb
    go_wp2_with fail
    refine (rsame09 M1 X1 mk mc xk xc mf mg xf xg _ M_15.out HX.out).mono ?_
    rw [z2]
    rintro e v16 ⟨rfl, hd⟩
    have B_16 := hide (B_15.out.trans ((drawn_below hd _).mono B_15.out.size))
    have N_16 := hide (N_15.out.below (drawn_below hd _))
    have P_16 := hide (P_15.out.below (drawn_below hd _))
    have A_16 := hide (A_15.out.below (drawn_below hd _))
    have R3_16 := hide (keepRow R3_15.out (drawn_below hd _))
    have R8_16 := hide (keepRow R8_15.out (drawn_below hd _))
    have R10_16 := hide (keepRow R10_15.out (drawn_below hd _))
    have R12_16 := hide (keepRow R12_15.out (drawn_below hd _))
    have M_16 := hide (M_15.out.below (drawn_below hd _))
    have PP_16 := hide (PP_15.out.below (drawn_below hd _))
    have QQ_16 := hide (QQ_15.out.below (drawn_below hd _))
    have X_16 := hide (HX.out.below (drawn_below hd _))
    clear B_15 N_15 P_15 A_15 R3_15 R8_15 R10_15 R12_15 M_15 PP_15 QQ_15 HX
    clear hd z2
    go_wp2_with fail
    refine (rsame09 P1 Q1 pk pc qk qc pf pg qf qg _ PP_16.out QQ_16.out).mono ?_
    rw [z1]
    rintro e v17 ⟨rfl, hd⟩
    have B_17 := hide (B_16.out.trans ((drawn_below hd _).mono B_16.out.size))
    have N_17 := hide (N_16.out.below (drawn_below hd _))
    have P_17 := hide (P_16.out.below (drawn_below hd _))
    have A_17 := hide (A_16.out.below (drawn_below hd _))
    have R3_17 := hide (keepRow R3_16.out (drawn_below hd _))
    have R8_17 := hide (keepRow R8_16.out (drawn_below hd _))
    have R10_17 := hide (keepRow R10_16.out (drawn_below hd _))
    have R12_17 := hide (keepRow R12_16.out (drawn_below hd _))
    have M_17 := hide (M_16.out.below (drawn_below hd _))
    have PP_17 := hide (PP_16.out.below (drawn_below hd _))
    have QQ_17 := hide (QQ_16.out.below (drawn_below hd _))
    have X_17 := hide (X_16.out.below (drawn_below hd _))
    clear B_16 N_16 P_16 A_16 R3_16 R8_16 R10_16 R12_16 M_16 PP_16 QQ_16 X_16
    clear hd z1
    go_wp2_with fail
    refine (alive09 _ N_17.out P_17.out).mono ?_
    rintro e v18 ⟨rfl, hb⟩
    have B_18 := hide (B_17.out.trans ((hb).mono B_17.out.size))
    have N_18 := hide (N_17.out.below (hb))
    have P_18 := hide (P_17.out.below (hb))
    have A_18 := hide (A_17.out.below (hb))
    have R3_18 := hide (keepRow R3_17.out (hb))
    have R8_18 := hide (keepRow R8_17.out (hb))
    have R10_18 := hide (keepRow R10_17.out (hb))
    have R12_18 := hide (keepRow R12_17.out (hb))
    have M_18 := hide (M_17.out.below (hb))
    have PP_18 := hide (PP_17.out.below (hb))
    have QQ_18 := hide (QQ_17.out.below (hb))
    have X_18 := hide (X_17.out.below (hb))
    clear B_17 N_17 P_17 A_17 R3_17 R8_17 R10_17 R12_17 M_17 PP_17 QQ_17 X_17 hb
    go_wp2_with fail
    go_ret
    exact ⟨rfl, B_18.out⟩
  | true =>
    obtain ⟨rfl, rfl, rfl⟩ := HQ0.out.same (HTX.out ▸ ft_own HRR.out)
    have qx1 : (x1 == x1) = true := beq_self_eq_true _
    have qx2 : (x2 == x2) = true := beq_self_eq_true _
    go_wp2_with fail
    clear f0 f1 e0 e1
    refine (kread09 s _ (by omega) N_5.out).mono ?_
    rintro e v6 ⟨y1, y2, was, rfl, hq, hb⟩
    have HQ1 := hide hq
    clear hq
    have B_6 := hide (B_5.out.trans ((hb).mono B_5.out.size))
    have N_6 := hide (N_5.out.below (hb))
    have P_6 := hide (P_5.out.below (hb))
    have A_6 := hide (A_5.out.below (hb))
    have R3_6 := hide (keepRow R3_5.out (hb))
    have R8_6 := hide (keepRow R8_5.out (hb))
    clear B_5 N_5 P_5 A_5 R3_5 R8_5 hb
    have RN := heap_alloc_new v6 (.cells #[.int .i64 y1, .int .i64 y2] 31)
    have hb : Below v6.heap.size v6 (v6.alloc (.cells #[.int .i64 y1, .int .i64 y2] 31)) := (Below.refl _ _).alloc (Nat.le_refl _) _
    have B_7 := hide (B_6.out.trans ((hb).mono B_6.out.size))
    have N_7 := hide (N_6.out.below (hb))
    have P_7 := hide (P_6.out.below (hb))
    have A_7 := hide (A_6.out.below (hb))
    have R3_7 := hide (keepRow R3_6.out (hb))
    have R8_7 := hide (keepRow R8_6.out (hb))
    have R10_7 := hide RN
    clear RN hb B_6 N_6 P_6 A_6 R3_6 R8_6
    go_wp2_with fail
    generalize v6.alloc (.cells #[.int .i64 y1, .int .i64 y2] 31) = V7 at *
    generalize v6.heap.size = q7 at *
    refine (rread09 s _ (by omega)).mono ?_
    rintro e v8 ⟨z1, z2, has, rfl, hq, hb⟩
    obtain ⟨rfl, rfl, rfl⟩ := HQ1.out.same hq
    clear hq HQ1
    have B_8 := hide (B_7.out.trans ((hb).mono B_7.out.size))
    have N_8 := hide (N_7.out.below (hb))
    have P_8 := hide (P_7.out.below (hb))
    have A_8 := hide (A_7.out.below (hb))
    have R3_8 := hide (keepRow R3_7.out (hb))
    have R8_8 := hide (keepRow R8_7.out (hb))
    have R10_8 := hide (keepRow R10_7.out (hb))
    clear B_7 N_7 P_7 A_7 R3_7 R8_7 R10_7 hb
    have RN := heap_alloc_new v8 (.cells #[.int .i64 y1, .int .i64 y2] 31)
    have hb : Below v8.heap.size v8 (v8.alloc (.cells #[.int .i64 y1, .int .i64 y2] 31)) := (Below.refl _ _).alloc (Nat.le_refl _) _
    have B_9 := hide (B_8.out.trans ((hb).mono B_8.out.size))
    have N_9 := hide (N_8.out.below (hb))
    have P_9 := hide (P_8.out.below (hb))
    have A_9 := hide (A_8.out.below (hb))
    have R3_9 := hide (keepRow R3_8.out (hb))
    have R8_9 := hide (keepRow R8_8.out (hb))
    have R10_9 := hide (keepRow R10_8.out (hb))
    have R12_9 := hide RN
    clear RN hb B_8 N_8 P_8 A_8 R3_8 R8_8 R10_8
    go_wp2_with fail
    generalize v8.alloc (.cells #[.int .i64 y1, .int .i64 y2] 31) = V9 at *
    generalize v8.heap.size = q9 at *
    have KS := kshow09 A n c f g _ A_9.out (by omega) N_9.out P_9.out
    rw [HL.out, HUX.out] at KS
    refine (KS).mono ?_
    rintro e v10 ⟨rfl, hb⟩
    clear KS
    have B_10 := hide (B_9.out.trans ((hb).mono B_9.out.size))
    have N_10 := hide (N_9.out.below (hb))
    have P_10 := hide (P_9.out.below (hb))
    have A_10 := hide (A_9.out.below (hb))
    have R3_10 := hide (keepRow R3_9.out (hb))
    have R8_10 := hide (keepRow R8_9.out (hb))
    have R10_10 := hide (keepRow R10_9.out (hb))
    have R12_10 := hide (keepRow R12_9.out (hb))
    clear B_9 N_9 P_9 A_9 R3_9 R8_9 R10_9 R12_9 hb
    go_wp2_with fail
    refine (readset09 ux _ husz N_10.out).mono ?_
    rintro e v11 ⟨M1, mk, mc, mf, mg, had, rfl, hm, hq, _, hb⟩
    obtain ⟨hms, rfl⟩ := hq.same (HUX.out ▸ sh_read (fun p hp => ((setL_mem L p).1 hp).2) (setL_up L))
    have HMS := hide hms
    have HM := hide hm
    clear hq hm hms
    have B_11 := hide (B_10.out.trans ((hb).mono B_10.out.size))
    have N_11 := hide (N_10.out.below (hb))
    have P_11 := hide (P_10.out.below (hb))
    have A_11 := hide (A_10.out.below (hb))
    have R3_11 := hide (keepRow R3_10.out (hb))
    have R8_11 := hide (keepRow R8_10.out (hb))
    have R10_11 := hide (keepRow R10_10.out (hb))
    have R12_11 := hide (keepRow R12_10.out (hb))
    clear B_10 N_10 P_10 A_10 R3_10 R8_10 R10_10 R12_10 hb
    go_wp2_with fail
    refine (readset09 s _ (by omega) N_11.out).mono ?_
    rintro e v12 ⟨P1, pk, pc, pf, pg, got, rfl, hp, hq, _, hb⟩
    have HQ2 := hide hq
    have HPP := hide hp
    clear hq hp
    have B_12 := hide (B_11.out.trans ((hb).mono B_11.out.size))
    have N_12 := hide (N_11.out.below (hb))
    have P_12 := hide (P_11.out.below (hb))
    have A_12 := hide (A_11.out.below (hb))
    have R3_12 := hide (keepRow R3_11.out (hb))
    have R8_12 := hide (keepRow R8_11.out (hb))
    have R10_12 := hide (keepRow R10_11.out (hb))
    have R12_12 := hide (keepRow R12_11.out (hb))
    have M_12 := hide (HM.out.below (hb))
    clear B_11 N_11 P_11 A_11 R3_11 R8_11 R10_11 R12_11 HM hb
    go_wp2_with fail
    refine (rreadset09 s _ (by omega)).mono ?_
    rintro e v13 ⟨Q1, qk, qc, qf, qg, would, rfl, hp, hq, _, hb⟩
    obtain ⟨hpq, rfl⟩ := HQ2.out.same hq
    have HPQ := hide hpq
    have HQQ := hide hp
    clear hq hp hpq HQ2
    have B_13 := hide (B_12.out.trans ((hb).mono B_12.out.size))
    have N_13 := hide (N_12.out.below (hb))
    have P_13 := hide (P_12.out.below (hb))
    have A_13 := hide (A_12.out.below (hb))
    have R3_13 := hide (keepRow R3_12.out (hb))
    have R8_13 := hide (keepRow R8_12.out (hb))
    have R10_13 := hide (keepRow R10_12.out (hb))
    have R12_13 := hide (keepRow R12_12.out (hb))
    have M_13 := hide (M_12.out.below (hb))
    have PP_13 := hide (HPP.out.below (hb))
    clear B_12 N_12 P_12 A_12 R3_12 R8_12 R10_12 R12_12 M_12 HPP hb
    have z1 : sameL pk qk pf pg qf qg = true := decide_eq_true HPQ.out
    have qg1 : (got == got) = true := beq_self_eq_true _
    have qg2 : (was == was) = true := beq_self_eq_true _
    have qg3 : (y1 == y1) = true := beq_self_eq_true _
    have qg4 : (y2 == y2) = true := beq_self_eq_true _
    obtain ⟨g0, g1⟩ := row2 R10_13.out
    obtain ⟨h0, h1⟩ := row2 R12_13.out
    go_wp2_with fail
    have KS := rshow09 A n c f g _ A_13.out (by omega)
    rw [HL.out, HUX.out] at KS
    refine (KS).mono ?_
    rintro e v14 ⟨rfl, hb⟩
    clear KS g0 g1 h0 h1
    have B_14 := hide (B_13.out.trans ((hb).mono B_13.out.size))
    have N_14 := hide (N_13.out.below (hb))
    have P_14 := hide (P_13.out.below (hb))
    have A_14 := hide (A_13.out.below (hb))
    have R3_14 := hide (keepRow R3_13.out (hb))
    have R8_14 := hide (keepRow R8_13.out (hb))
    have R10_14 := hide (keepRow R10_13.out (hb))
    have R12_14 := hide (keepRow R12_13.out (hb))
    have M_14 := hide (M_13.out.below (hb))
    have PP_14 := hide (PP_13.out.below (hb))
    have QQ_14 := hide (HQQ.out.below (hb))
    clear B_13 N_13 P_13 A_13 R3_13 R8_13 R10_13 R12_13 M_13 PP_13 HQQ hb
    go_wp2_with fail
    refine (rof09 A n c f g _ A_14.out (by omega)).mono ?_
    rintro e v15 ⟨X1, xk, xc, xf, xg, rfl, hx, hl, _, hb⟩
    have z2 : sameL mk xk mf mg xf xg = true := decide_eq_true (by rw [HMS.out, hl, HL.out])
    have HX := hide hx
    clear hx hl
    have B_15 := hide (B_14.out.trans ((hb).mono B_14.out.size))
    have N_15 := hide (N_14.out.below (hb))
    have P_15 := hide (P_14.out.below (hb))
    have A_15 := hide (A_14.out.below (hb))
    have R3_15 := hide (keepRow R3_14.out (hb))
    have R8_15 := hide (keepRow R8_14.out (hb))
    have R10_15 := hide (keepRow R10_14.out (hb))
    have R12_15 := hide (keepRow R12_14.out (hb))
    have M_15 := hide (M_14.out.below (hb))
    have PP_15 := hide (PP_14.out.below (hb))
    have QQ_15 := hide (QQ_14.out.below (hb))
    clear B_14 N_14 P_14 A_14 R3_14 R8_14 R10_14 R12_14 M_14 PP_14 QQ_14 hb
    go_wp2_with fail
    refine (rsame09 M1 X1 mk mc xk xc mf mg xf xg _ M_15.out HX.out).mono ?_
    rw [z2]
    rintro e v16 ⟨rfl, hd⟩
    have B_16 := hide (B_15.out.trans ((drawn_below hd _).mono B_15.out.size))
    have N_16 := hide (N_15.out.below (drawn_below hd _))
    have P_16 := hide (P_15.out.below (drawn_below hd _))
    have A_16 := hide (A_15.out.below (drawn_below hd _))
    have R3_16 := hide (keepRow R3_15.out (drawn_below hd _))
    have R8_16 := hide (keepRow R8_15.out (drawn_below hd _))
    have R10_16 := hide (keepRow R10_15.out (drawn_below hd _))
    have R12_16 := hide (keepRow R12_15.out (drawn_below hd _))
    have M_16 := hide (M_15.out.below (drawn_below hd _))
    have PP_16 := hide (PP_15.out.below (drawn_below hd _))
    have QQ_16 := hide (QQ_15.out.below (drawn_below hd _))
    have X_16 := hide (HX.out.below (drawn_below hd _))
    clear B_15 N_15 P_15 A_15 R3_15 R8_15 R10_15 R12_15 M_15 PP_15 QQ_15 HX
    clear hd z2
    go_wp2_with fail
    refine (rsame09 P1 Q1 pk pc qk qc pf pg qf qg _ PP_16.out QQ_16.out).mono ?_
    rw [z1]
    rintro e v17 ⟨rfl, hd⟩
    have B_17 := hide (B_16.out.trans ((drawn_below hd _).mono B_16.out.size))
    have N_17 := hide (N_16.out.below (drawn_below hd _))
    have P_17 := hide (P_16.out.below (drawn_below hd _))
    have A_17 := hide (A_16.out.below (drawn_below hd _))
    have R3_17 := hide (keepRow R3_16.out (drawn_below hd _))
    have R8_17 := hide (keepRow R8_16.out (drawn_below hd _))
    have R10_17 := hide (keepRow R10_16.out (drawn_below hd _))
    have R12_17 := hide (keepRow R12_16.out (drawn_below hd _))
    have M_17 := hide (M_16.out.below (drawn_below hd _))
    have PP_17 := hide (PP_16.out.below (drawn_below hd _))
    have QQ_17 := hide (QQ_16.out.below (drawn_below hd _))
    have X_17 := hide (X_16.out.below (drawn_below hd _))
    clear B_16 N_16 P_16 A_16 R3_16 R8_16 R10_16 R12_16 M_16 PP_16 QQ_16 X_16
    clear hd z1
    go_wp2_with fail
    refine (alive09 _ N_17.out P_17.out).mono ?_
    rintro e v18 ⟨rfl, hb⟩
    have B_18 := hide (B_17.out.trans ((hb).mono B_17.out.size))
    have N_18 := hide (N_17.out.below (hb))
    have P_18 := hide (P_17.out.below (hb))
    have A_18 := hide (A_17.out.below (hb))
    have R3_18 := hide (keepRow R3_17.out (hb))
    have R8_18 := hide (keepRow R8_17.out (hb))
    have R10_18 := hide (keepRow R10_17.out (hb))
    have R12_18 := hide (keepRow R12_17.out (hb))
    have M_18 := hide (M_17.out.below (hb))
    have PP_18 := hide (PP_17.out.below (hb))
    have QQ_18 := hide (QQ_17.out.below (hb))
    have X_18 := hide (X_17.out.below (hb))
    clear B_17 N_17 P_17 A_17 R3_17 R8_17 R10_17 R12_17 M_17 PP_17 QQ_17 X_17 hb
    go_wp2_with fail
    go_ret
    exact ⟨rfl, B_18.out⟩
end
end Go.Proofs.YtbkdegjkjjdcdaaDoor
