/- Layer 3: the numbers of a text, the program's side. -/
import Derived.Test.YtdlmmjnomeladaaDoorSq4
import Derived.Test.YtdlmmjnomeladaaDoorDx2
namespace Go.Proofs.YtdlmmjnomeladaaDoor
set_option linter.unusedVariables false
set_option linter.unusedSimpArgs false
open Go Go.RowKit Go.Shelf Go.PlainAid
attribute [local go_sem] Oper.semAt_some

/-- What the text of a list is read as. -/
def RlR (s : ByteArray) (k : Nat) (f : Nat → Int) (ok : Bool) : Prop :=
  (ok = true ∧ I64F k f ∧ ((s.size = 0 ∧ k = 0) ∨ (0 < s.size ∧ pcB 44 s = itL f k))) ∨ (ok = false ∧ k = 0 ∧ 0 < s.size ∧ ∃ x ∈ pcB 44 s, ∀ u, -9223372036854775808 ≤ u → u ≤ 9223372036854775807 → x ≠ intS u)
def RlE (s : ByteArray) (w : World) (e : Ending) (w' : World) : Prop := ∃ (A : Option Addr) (k c : Nat) (f : Nat → Int) (ok : Bool), e = .returned (.tuple #[.slice A k c, .bool ok]) ∧ Rd .i64 w' A k c f ∧ RlR s k f ok ∧ Below w.heap.size w w'
theorem int_info : (Tryd.prog.info? 3).map (fun i => (i.zero, i.size, i.bytes)) = some (some (.int .i64 0), 1, 8) := by kernel_rfl
theorem itL_cong {f g : Nat → Int} {k : Nat} (h : ∀ i, i < k → f i = g i) : itL f k = itL g k := List.map_congr_left fun i hi => by rw [h i (List.mem_range.1 hi)]
def PcI (w : World) (n : Nat) (pre : List ByteArray) (W : World) : Prop :=
  ∃ v f, Boxed W (n + 2) 47 v ∧ Boxed W n 47 (.slice none 0 0) ∧ Boxed W (n + 1) 4 (.bool false) ∧ pre = itL f pre.length ∧ I64F pre.length f ∧ Own .i64 3 (n + 6) W v pre.length f ∧ Below n w W
def PcX (w : World) (n : Nat) (pre : List ByteArray) (W : World) : Prop :=
  Boxed W n 47 (.slice none 0 0) ∧ Boxed W (n + 1) 4 (.bool false) ∧ (∃ x ∈ pre, ∀ u, -9223372036854775808 ≤ u → u ≤ 9223372036854775807 → x ≠ intS u) ∧ Below n w W
theorem PcI.ab {w : World} {n : Nat} (hn : n = w.heap.size) : AbI (n + 3) (n + 6) (PcI w n) := by
  rintro s X Y row ⟨v, f, h1, h2, h3, h4, h5, h6, h7⟩ hg hr
  exact ⟨v, f, ab_box hg hr h1 (by omega), ab_box hg hr h2 (by omega), ab_box hg hr h3 (by omega), h4, h5, ab_row hg hr (by omega) h6, ab_below hg hr (by omega) (by omega) (by omega) h7⟩
theorem PcX.ab {w : World} {n : Nat} (hn : n = w.heap.size) : AbI (n + 3) (n + 6) (PcX w n) := by
  rintro s X Y row ⟨h2, h3, h4, h7⟩ hg hr
  exact ⟨ab_box hg hr h2 (by omega), ab_box hg hr h3 (by omega), h4, ab_below hg hr (by omega) (by omega) (by omega) h7⟩
set_option maxRecDepth 100000 in
set_option maxHeartbeats 3200000 in
theorem readlist03_0 (s : ByteArray) (w : World) (hz : s.size = 0) : Calls Tryd.prog 42 #[.string s] w (RlE s w) := by
  have t1 := isEmpty_yes hz
  have HZ := hide hz
  clear hz
  refine callsIn_wide.1 (callsIn_of_wp_marks (F := Fence.wide) (n := 5) Tryd.func42 rfl trivial ?_ rfl)
  simp only [Tryd.ntmps42, List.size_toArray, List.length_cons, List.length_nil, Nat.reduceAdd, Nat.reduceSub, Array.replicate_succ, Array.replicate_zero, List.push_toArray, List.append_toArray, List.nil_append, List.cons_append]
  gi_wp2
  obtain ⟨V, hV⟩ : ∃ V, (w.alloc (.cells #[.slice none 0 0] 47)).alloc (.cells #[.bool true] 4) = V := ⟨_, rfl⟩
  have v0 : Boxed V w.heap.size 47 (.slice none 0 0) := by rw [← hV]; exact (Boxed.new w _ _).alloc _
  have v1 : Boxed V (w.heap.size + 1) 4 (.bool true) := by
    have h := Boxed.new (w.alloc (.cells #[.slice none 0 0] 47)) 4 (.bool true)
    rw [World.size_alloc] at h
    rw [← hV]; exact h
  have vb : Below w.heap.size w V := by rw [← hV]; exact ((Below.refl _ w).alloc (Nat.le_refl _) _).alloc (by simp) _
  rw [hV]
  have c0 := v0.cell
  have c1 := v1.cell
  clear hV v0 v1
  refine ⟨.tuple #[.slice none 0 0, .bool true], ?_, none, 0, 0, fun _ => 0, true, rfl, Rd.nil _ _ _, .inl ⟨rfl, fun i hi => absurd hi (by omega), .inl ⟨HZ.out, rfl⟩⟩, vb⟩
  simp [results, Tryd.f42, go_sem, c0, c1]
set_option maxRecDepth 100000 in
set_option maxHeartbeats 3200000 in
theorem readlist03_1 (s : ByteArray) (w : World) (hs : s.size ≤ 1000000) (hz : s.size ≠ 0) : Calls Tryd.prog 42 #[.string s] w (RlE s w) := by
  have t1 := isEmpty_no hz
  obtain ⟨i0, hi, hz0, hz1, hz2⟩ := info_parts int_info
  refine callsIn_wide.1 (callsIn_of_wp_marks (F := Fence.wide) (n := 5) Tryd.func42 rfl trivial ?_ rfl)
  simp only [Tryd.ntmps42, List.size_toArray, List.length_cons, List.length_nil, Nat.reduceAdd, Nat.reduceSub, Array.replicate_succ, Array.replicate_zero, List.push_toArray, List.append_toArray, List.nil_append, List.cons_append]
  gi_wp2
  obtain ⟨V, hV⟩ : ∃ V, ((w.alloc (.cells #[.slice none 0 0] 47)).alloc (.cells #[.bool false] 4)).alloc (.cells #[.slice none 0 0] 47) = V := ⟨_, rfl⟩
  have v0 : Boxed V w.heap.size 47 (.slice none 0 0) := by rw [← hV]; exact ((Boxed.new w _ _).alloc _).alloc _
  have v1 : Boxed V (w.heap.size + 1) 4 (.bool false) := by
    have h := Boxed.new (w.alloc (.cells #[.slice none 0 0] 47)) 4 (.bool false)
    rw [World.size_alloc] at h
    rw [← hV]; exact h.alloc _
  have v2 : Boxed V (w.heap.size + 2) 47 (.slice none 0 0) := by
    have h := Boxed.new ((w.alloc (.cells #[.slice none 0 0] 47)).alloc (.cells #[.bool false] 4)) 47 (.slice none 0 0)
    rw [World.size_alloc, World.size_alloc] at h
    rw [← hV]; exact h
  have vs : V.heap.size = w.heap.size + 3 := by rw [← hV]; simp
  have vb : Below w.heap.size w V := by rw [← hV]; exact (((Below.refl _ w).alloc (Nat.le_refl _) _).alloc (by simp) _).alloc (by simp; omega) _
  rw [hV]
  clear hV
  refine ⟨trivial, (callsIn_wide.2 (splitseq_call s ⟨#[44]⟩ V)).mono ?_⟩
  rintro e w1 ⟨rfl, rfl⟩
  have g0 : PcI w w.heap.size [] (sqW V s ⟨#[44]⟩) := by
    refine ⟨.slice none 0 0, fun _ => 0, bx_low ?_ v2, bx_low ?_ v0, bx_low ?_ v1, rfl, fun i hi => absurd hi (by simp), World.ownsRow_nil _ _ _ _, vb.trans ((sqW_below V s _).mono (by omega))⟩ <;> exact sqW_below V s _
  clear v0 v1 v2 vb
  gi_wp2
  refine range_itr (n := 5) (gf := 137) (lb := #[.pointer (some ⟨w.heap.size + 3 + 1, 0, none⟩), .pointer (some ⟨w.heap.size + 3, 0, none⟩), .pointer (some ⟨w.heap.size + 3 + 2, 0, none⟩)]) rfl (enters_of Tryd.func137 (by kernel_rfl) rfl)
    (lo := w.heap.size + 3) (hi := w.heap.size + 3 + 3) (Bs := w.heap.size + 3) (Nat.le_refl _) (by omega) (by rw [sqW_size, vs]; exact Nat.le_refl _) (by have h := sqW_itr V s 44 (by omega) 4 (by decide); rw [vs] at h; exact h) (KMid.refl _ _ _) rfl
    (PcI w w.heap.size) (PcX w w.heap.size) (by rw [sqW_size, vs]; exact PcI.ab rfl) (by rw [sqW_size, vs]; exact PcX.ab rfl) g0
    (fun x => { tmps := #[.string s, undef, .pointer (some ⟨w.heap.size, 0, none⟩), .pointer (some ⟨w.heap.size + 1, 0, none⟩), .pointer (some ⟨w.heap.size + 1 + 1, 0, none⟩), .string x, undef, undef, .string s, .bool false, .string s, sqF (w.heap.size + 3), .string x, undef, undef, undef, undef, undef, undef, undef, undef, undef, undef, undef, undef], defers := [] }) ?assign ?body ?done ?stop
  case assign =>
    intro l x A K hK
    gi_wp2
    exact hK
  case body =>
    rintro l pre x A ⟨v, f, h1, h2, h3, h4, h5, h6, h7⟩ hpre hge
    have hxs : x.size ≤ 9223372036854775807 := by
      have := pcB_size (c := 44) (s := s) (x := x) (hpre.subset (by simp))
      omega
    have hcnt : pre.length + 1 ≤ 1000001 := by
      have a := hpre.length_le
      have b := pcB_len 44 s.size s (Nat.le_refl _)
      simp at a
      omega
    rw [sqW_size, vs] at hge
    have G1 := hide h1
    have G2 := hide h2
    have G3 := hide h3
    have G4 := hide h4
    have G5 := hide h5
    have G6 := hide h6
    have G7 := hide h7
    clear h1 h2 h3 h4 h5 h6 h7 hpre
    gi_wp2
    refine ⟨trivial, (CallsIn.inRound l (callsIn_wide.2 (kread03 x A hxs))).mono ?_⟩
    rintro e A2 ⟨t, ok, rfl, hq, hb⟩
    have b1 := bx_low hb G1.out
    have b2 := bx_low hb G2.out
    have b3 := bx_low hb G3.out
    have hs2 := hb.size
    have hO : KeepsOthers A A2 := ko_below hb
    have hM : KMid (w.heap.size + 3) (w.heap.size + 3 + 3) A A2 := km_below hb (by omega)
    have hB : Below w.heap.size w A2 := G7.out.trans (hb.mono (by omega))
    have hR : Own .i64 3 (w.heap.size + 6) A2 v pre.length f := G6.out.below hb
    cases ok with
    | false =>
      have hx : ∀ u, -9223372036854775808 ≤ u → u ≤ 9223372036854775807 → x ≠ intS u := by
        rcases hq with ⟨h, _⟩ | ⟨_, _, h⟩
        · cases h
        · exact h
      have k2 := b2.cell
      have k3 := b3.cell
      have f2 := b2.frozen
      have f3 := b3.frozen
      have D2 := hide b2
      have D3 := hide b3
      have E1 := hide hO
      have E2 := hide hM
      have E3 := hide hB
      have E4 := hide hx
      clear hq hb b1 b2 b3 hO hM hB hR hx
      have k3' : (A2.setCell ⟨w.heap.size, 0, none⟩ (.slice none 0 0)).cell? ⟨w.heap.size + 1, 0, none⟩ = some (.bool false) := (bx_other (c := w.heap.size) (u := .slice none 0 0) D3.out (by omega)).cell
      have f3' : (A2.setCell ⟨w.heap.size, 0, none⟩ (.slice none 0 0)).frozen? ⟨w.heap.size + 1, 0, none⟩ = false := (bx_other (c := w.heap.size) (u := .slice none 0 0) D3.out (by omega)).frozen
      gi_wp2
      refine ⟨E1.out.trans ((KeepsOthers.setCell _ _ _).trans (KeepsOthers.setCell _ _ _)), bx_other (D2.out.set _) (by omega), (bx_other D3.out (by omega)).set _, ⟨x, by simp, E4.out⟩, (E3.out.setCell (p := ⟨w.heap.size, 0, none⟩) (Nat.le_refl _) _).setCell (p := ⟨w.heap.size + 1, 0, none⟩) (by show w.heap.size ≤ w.heap.size + 1; omega) _⟩
    | true =>
      obtain ⟨t0, t1, hx⟩ : -9223372036854775808 ≤ t ∧ t ≤ 9223372036854775807 ∧ x = intS t := by
        rcases hq with ⟨_, h⟩ | ⟨h, _⟩
        · exact h
        · cases h
      have k1 := b1.cell
      have f1 := b1.frozen
      have D1 := hide b1
      have D2 := hide b2
      have D3 := hide b3
      have E1 := hide hO
      have E2 := hide hM
      have E3 := hide hB
      have E4 := hide hx
      have E5 := hide hR
      have E6 : Hid (-9223372036854775808 ≤ t ∧ t ≤ 9223372036854775807) := ⟨t0, t1⟩
      clear hq hb b1 b2 b3 hO hM hB hR hx t0 t1
      gi_wp2_with (gi_at_builtin; refine wpListIn_append_own _ rfl _ _ 47 rfl (w.heap.size + 6) 3 i0 (.int .i64 0) 1 8 Tryd.underlying47 hi hz0 hz1 hz2 rfl (by decide) _ _ _ rfl (World.ownsRow.alloc E5.out _) ⟨A2.heap.size, 0, none⟩ 1 1 [.int .i64 t] rfl rfl (cell_one_new _ _ _) (by simp [Value.oneCell']) (by simp only [maxLen]; omega) (by omega) (by simp; omega) ?_; intro v' w3 hown' hgrow _; obtain ⟨g', cap', rfl⟩ := ownsRow_succ hown'; obtain ⟨q1, q2, q3, q4, q5, q6, q7⟩ := box_app (n := w.heap.size) (lo := w.heap.size + 3) (hi := w.heap.size + 3 + 3) D1.out (by omega) (by omega) (by omega) (by omega) (by omega) E5.out hown' hgrow; have hc1 := q1.cell; have hf1 := q1.frozen)
      refine ⟨E1.out.trans q4, E2.out.trans q5, ?_⟩
      have hl : (pre ++ [x]).length = pre.length + 1 := by simp
      rw [PcI, hl]
      refine ⟨_, fun i => if i = pre.length then t else f i, q2, bx_oth D2.out (q7 _ (by omega) (by omega)), bx_oth D3.out (q7 _ (by omega) (by omega)), ?_, ?_, ?_, E3.out.trans q6⟩
      · rw [itL_succ, itL_cong (g := f) (fun i hi => by rw [if_neg (by omega)]), ← G4.out, if_pos rfl, E4.out]
      · intro i hi
        dsimp only
        by_cases e : i = pre.length
        · rw [if_pos e]; exact E6.out
        · rw [if_neg e]; exact G5.out i (by omega)
      · have e : row .i64 pre.length f ++ [.int .i64 t] = row .i64 (pre.length + 1) (fun i => if i = pre.length then t else f i) := by
          unfold row
          rw [List.range_succ, List.map_append, List.map_cons, List.map_nil]
          dsimp only
          rw [if_pos rfl]
          refine congrArg (· ++ _) (List.map_congr_left fun i hi => ?_)
          have := List.mem_range.1 hi
          rw [if_neg (by omega)]
        unfold Own
        rw [← e]
        exact q3
  case done =>
    rintro D A hD ⟨v, f, h1, h2, h3, h4, h5, h6, h7⟩ hK
    obtain ⟨L, c, rfl, hrd, _⟩ := Own.rd h6
    rw [sqW_size, vs] at hD
    have k1 := h1.cell
    have k2 := h2.cell
    have k3 := h3.cell
    have f2 := h2.frozen
    have f3 := h3.frozen
    have D2 := hide h2
    have D3 := hide h3
    have E3 := hide h7
    have G4 := hide h4
    have G5 := hide h5
    have G6 := hide h6
    have HK := hide hK
    obtain ⟨m, hm⟩ : ∃ m, (pcB 44 s).length = m := ⟨_, rfl⟩
    have HM := hide hm
    rw [hm] at k1 G4 G5 G6
    clear h1 h2 h3 h4 h5 h6 h7 hK hrd hm
    have k3' : (A.setCell ⟨w.heap.size, 0, none⟩ (.slice L m c)).cell? ⟨w.heap.size + 1, 0, none⟩ = some (.bool false) := (bx_other (c := w.heap.size) (u := .slice L m c) D3.out (by omega)).cell
    have f3' : (A.setCell ⟨w.heap.size, 0, none⟩ (.slice L m c)).frozen? ⟨w.heap.size + 1, 0, none⟩ = false := (bx_other (c := w.heap.size) (u := .slice L m c) D3.out (by omega)).frozen
    gi_wp2
    obtain ⟨Z, hZ⟩ : ∃ Z, (A.setCell ⟨w.heap.size, 0, none⟩ (.slice L m c)).setCell ⟨w.heap.size + 1, 0, none⟩ (.bool true) = Z := ⟨_, rfl⟩
    have z0 : Boxed Z w.heap.size 47 (.slice L m c) := by rw [← hZ]; exact bx_other (D2.out.set _) (by omega)
    have z1 : Boxed Z (w.heap.size + 1) 4 (.bool true) := by rw [← hZ]; exact (bx_other D3.out (by omega)).set _
    have zK : Z.heap[D]? = some (.deferred (some [])) := by rw [← hZ]; exact ((KeepsOthers.setCell A ⟨w.heap.size, 0, none⟩ (.slice L m c)).trans (KeepsOthers.setCell _ ⟨w.heap.size + 1, 0, none⟩ (.bool true))).same D _ HK.out rfl
    have zB : Below w.heap.size w Z := by rw [← hZ]; exact (E3.out.setCell (p := ⟨w.heap.size, 0, none⟩) (Nat.le_refl _) _).setCell (p := ⟨w.heap.size + 1, 0, none⟩) (by show w.heap.size ≤ w.heap.size + 1; omega) _
    have zR : Own .i64 3 (w.heap.size + 6) Z (.slice L m c) m f := by
      rw [← hZ]
      have nb : ∀ j, j < w.heap.size + 6 → (Value.slice L m c).ownBlock ≠ some j := fun j hj e => by have := (World.ownsRow.lt G6.out j e).1; omega
      exact (World.ownsRow.kept G6.out (grownBy_setCell' A _ _) (.inr (nb _ (by omega)))).kept (grownBy_setCell' _ _ _) (.inr (nb _ (by omega)))
    rw [hZ]
    clear hZ
    refine ⟨by simp, .inl ⟨_, _, rfl, run_takeDeferred zK, ?_⟩⟩
    have c0 := (bx_put z0 zK rfl (.deferred none)).cell
    have c1 := (bx_put z1 zK rfl (.deferred none)).cell
    have zb : Below w.heap.size w (Z.putObj D (.deferred none)) := zB.trans (belowK_b (w := w) (Nat.le_refl _) Z D _ _ (by omega) zK rfl rfl)
    have zr : Own .i64 3 (w.heap.size + 6) (Z.putObj D (.deferred none)) (.slice L m c) m f := ownsRow_putObj zR _ zK rfl
    refine ⟨.tuple #[.slice L m c, .bool true], ?_, L, m, c, f, true, rfl, Own.rdS zr, .inl ⟨rfl, G5.out, .inr ⟨by omega, G4.out⟩⟩, zb⟩
    simp [results, Tryd.f42, go_sem, c0, c1]
  case stop =>
    rintro D pre A hD hpre ⟨h2, h3, h4, h7⟩ hK
    rw [sqW_size, vs] at hD
    gi_wp2
    refine ⟨by simp, .inl ⟨_, _, rfl, run_takeDeferred hK, ?_⟩⟩
    have c0 := (bx_put h2 hK rfl (.deferred none)).cell
    have c1 := (bx_put h3 hK rfl (.deferred none)).cell
    have zb : Below w.heap.size w (A.putObj D (.deferred none)) := h7.trans (belowK_b (w := w) (Nat.le_refl _) A D _ _ (by omega) hK rfl rfl)
    obtain ⟨x, hx, hu⟩ := h4
    refine ⟨.tuple #[.slice none 0 0, .bool false], ?_, none, 0, 0, fun _ => 0, false, rfl, Rd.nil _ _ _, .inr ⟨rfl, rfl, by omega, x, hpre.subset hx, hu⟩, zb⟩
    simp [results, Tryd.f42, go_sem, c0, c1]
theorem readlist03 (s : ByteArray) (w : World) (hs : s.size ≤ 1000000) : Calls Tryd.prog 42 #[.string s] w (RlE s w) := by
  by_cases hz : s.size = 0
  · exact readlist03_0 s w hz
  · exact readlist03_1 s w hs hz
end Go.Proofs.YtdlmmjnomeladaaDoor
