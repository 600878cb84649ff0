/- WdE, WdF, WdG in one text. -/
import Derived.Test.YtminoofghdpomaaDoorSq4
import Derived.Test.YtminoofghdpomaaDoorN5
import Derived.Test.YtminoofghdpomaaDoorMK
import Derived.Test.YtminoofghdpomaaDoorMJ
namespace Go.Proofs.YtminoofghdpomaaDoor
set_option linter.unusedVariables false
set_option linter.unusedSimpArgs false
section
open Go Go.RowKit Go.Shelf Go.PlainAid
attribute [local go_sem] Oper.semAt_some

/-- a list of texts, as the walk reads it -/
def stL (ps : List ByteArray) (i : Nat) : Value := .string (ps.getD i ⟨#[]⟩)
/-- What a line is read as. -/
def SwR (s : ByteArray) (ps : List ByteArray) (ok : Bool) : Prop :=
  (ok = true ∧ ((s.size = 0 ∧ ps = []) ∨ (0 < s.size ∧ ps = pcB 32 s ∧ ∀ x ∈ ps, wdB x = true))) ∨ (ok = false ∧ ps = [] ∧ 0 < s.size ∧ ∃ x ∈ pcB 32 s, wdB x = false)
def SwE (s : ByteArray) (w : World) (e : Ending) (w' : World) : Prop := ∃ (A : Option Addr) (k c : Nat) (ps : List ByteArray) (ok : Bool), e = .returned (.tuple #[.slice A k c, .bool ok]) ∧ k = ps.length ∧ RdV 1 w' A k c (stL ps) ∧ SwR s ps ok ∧ Below w.heap.size w w'
def SwI (w : World) (n : Nat) (pre : List ByteArray) (W : World) : Prop :=
  ∃ v, Boxed W (n + 2) 42 v ∧ Boxed W n 42 (.slice none 0 0) ∧ Boxed W (n + 1) 4 (.bool false) ∧ (∀ x ∈ pre, wdB x = true) ∧ OwnV 1 9 (n + 6) W v pre.length (stL pre) ∧ Below n w W
def SwX (w : World) (n : Nat) (pre : List ByteArray) (W : World) : Prop :=
  Boxed W n 42 (.slice none 0 0) ∧ Boxed W (n + 1) 4 (.bool false) ∧ (∃ x ∈ pre, wdB x = false) ∧ Below n w W
theorem SwI.ab {w : World} {n : Nat} (hn : n = w.heap.size) : AbI (n + 3) (n + 6) (SwI w n) := by
  rintro s X Y row ⟨v, h1, h2, h3, h5, h6, h7⟩ hg hr
  exact ⟨v, ab_box hg hr h1 (by omega), ab_box hg hr h2 (by omega), ab_box hg hr h3 (by omega), h5, ab_row hg hr (by omega) h6, ab_below hg hr (by omega) (by omega) (by omega) h7⟩
theorem SwX.ab {w : World} {n : Nat} (hn : n = w.heap.size) : AbI (n + 3) (n + 6) (SwX w n) := by
  rintro s X Y row ⟨h2, h3, h4, h7⟩ hg hr
  exact ⟨ab_box hg hr h2 (by omega), ab_box hg hr h3 (by omega), h4, ab_below hg hr (by omega) (by omega) (by omega) h7⟩
theorem rdV_nil (w : World) (F : Nat → Value) : RdV 1 w none 0 0 F := (OwnV.nil 1 0 0 w F).rdS2
set_option maxRecDepth 100000 in
set_option maxHeartbeats 3200000 in
theorem split04_0 (s : ByteArray) (w : World) (hz : s.size = 0) : Calls Tryd.prog 22 #[.string s] w (SwE s w) := by
  have t1 := isEmpty_yes hz
  have HZ := hide hz
  clear hz
  refine callsIn_wide.1 (callsIn_of_wp_marks (F := Fence.wide) (n := 5) Tryd.func22 rfl trivial ?_ rfl)
  simp only [Tryd.ntmps22, List.size_toArray, List.length_cons, List.length_nil, Nat.reduceAdd, Nat.reduceSub, Array.replicate_succ, Array.replicate_zero, List.push_toArray, List.append_toArray, List.nil_append, List.cons_append]
  gi_wp2
  obtain ⟨V, hV⟩ : ∃ V, (w.alloc (.cells #[.slice none 0 0] 42)).alloc (.cells #[.bool true] 4) = V := ⟨_, rfl⟩
  have v0 : Boxed V w.heap.size 42 (.slice none 0 0) := by rw [← hV]; exact (Boxed.new w _ _).alloc _
  have v1 : Boxed V (w.heap.size + 1) 4 (.bool true) := by
    have h := Boxed.new (w.alloc (.cells #[.slice none 0 0] 42)) 4 (.bool true)
    rw [World.size_alloc] at h
    rw [← hV]; exact h
  have vb : Below w.heap.size w V := by rw [← hV]; exact ((Below.refl _ w).alloc (Nat.le_refl _) _).alloc (by simp) _
  rw [hV]
  have c0 := v0.cell
  have c1 := v1.cell
  clear hV v0 v1
  refine ⟨.tuple #[.slice none 0 0, .bool true], ?_, none, 0, 0, [], true, rfl, rfl, rdV_nil _ _, .inl ⟨rfl, .inl ⟨HZ.out, rfl⟩⟩, vb⟩
  simp [results, Tryd.f22, go_sem, c0, c1]
set_option maxRecDepth 100000 in
set_option maxHeartbeats 3200000 in
theorem split04_1 (s : ByteArray) (w : World) (hs : s.size ≤ 1000000) (hz : s.size ≠ 0) : Calls Tryd.prog 22 #[.string s] w (SwE s w) := by
  have t1 := isEmpty_no hz
  obtain ⟨i0, hi, hz0, hz1, hz2⟩ := info_parts str_info
  refine callsIn_wide.1 (callsIn_of_wp_marks (F := Fence.wide) (n := 5) Tryd.func22 rfl trivial ?_ rfl)
  simp only [Tryd.ntmps22, List.size_toArray, List.length_cons, List.length_nil, Nat.reduceAdd, Nat.reduceSub, Array.replicate_succ, Array.replicate_zero, List.push_toArray, List.append_toArray, List.nil_append, List.cons_append]
  gi_wp2
  obtain ⟨V, hV⟩ : ∃ V, ((w.alloc (.cells #[.slice none 0 0] 42)).alloc (.cells #[.bool false] 4)).alloc (.cells #[.slice none 0 0] 42) = V := ⟨_, rfl⟩
  have v0 : Boxed V w.heap.size 42 (.slice none 0 0) := by rw [← hV]; exact ((Boxed.new w _ _).alloc _).alloc _
  have v1 : Boxed V (w.heap.size + 1) 4 (.bool false) := by
    have h := Boxed.new (w.alloc (.cells #[.slice none 0 0] 42)) 4 (.bool false)
    rw [World.size_alloc] at h
    rw [← hV]; exact h.alloc _
  have v2 : Boxed V (w.heap.size + 2) 42 (.slice none 0 0) := by
    have h := Boxed.new ((w.alloc (.cells #[.slice none 0 0] 42)).alloc (.cells #[.bool false] 4)) 42 (.slice none 0 0)
    rw [World.size_alloc, World.size_alloc] at h
    rw [← hV]; exact h
  have vs : V.heap.size = w.heap.size + 3 := by rw [← hV]; simp
  have vb : Below w.heap.size w V := by rw [← hV]; exact (((Below.refl _ w).alloc (Nat.le_refl _) _).alloc (by simp) _).alloc (by simp; omega) _
  rw [hV]
  clear hV
  refine ⟨trivial, (callsIn_wide.2 (splitseq_call s ⟨#[32]⟩ V)).mono ?_⟩
  rintro e w1 ⟨rfl, rfl⟩
  have g0 : SwI w w.heap.size [] (sqW V s ⟨#[32]⟩) := by
    refine ⟨.slice none 0 0, bx_low ?_ v2, bx_low ?_ v0, bx_low ?_ v1, fun x hx => absurd hx (by simp), World.ownsRow_nil _ _ _ _, vb.trans ((sqW_below V s _).mono (by omega))⟩ <;> exact sqW_below V s _
  clear v0 v1 v2 vb
  gi_wp2
  refine range_itr (n := 5) (gf := 59) (lb := #[.pointer (some ⟨w.heap.size + 3 + 1, 0, none⟩), .pointer (some ⟨w.heap.size + 3, 0, none⟩), .pointer (some ⟨w.heap.size + 3 + 2, 0, none⟩)]) rfl (enters_of Tryd.func59 (by kernel_rfl) rfl)
    (lo := w.heap.size + 3) (hi := w.heap.size + 3 + 3) (Bs := w.heap.size + 3) (Nat.le_refl _) (by omega) (by rw [sqW_size, vs]; exact Nat.le_refl _) (by have h := sqW_itr V s 32 (by omega) 4 (by decide); rw [vs] at h; exact h) (KMid.refl _ _ _) rfl
    (SwI w w.heap.size) (SwX w w.heap.size) (by rw [sqW_size, vs]; exact SwI.ab rfl) (by rw [sqW_size, vs]; exact SwX.ab rfl) g0
    (fun x => { tmps := #[.string s, undef, .pointer (some ⟨w.heap.size, 0, none⟩), .pointer (some ⟨w.heap.size + 1, 0, none⟩), .pointer (some ⟨w.heap.size + 1 + 1, 0, none⟩), .string x, .string s, .bool false, .string s, sqF (w.heap.size + 3), .string x, undef, undef, undef, undef, undef, undef, undef, undef], defers := [] }) ?assign ?body ?done ?stop
  case assign =>
    intro l x A K hK
    gi_wp2
    exact hK
  case body =>
    rintro l pre x A ⟨v, h1, h2, h3, h5, h6, h7⟩ hpre hge
    have hxs : x.size ≤ 1000000 := by
      have := pcB_size (c := 32) (s := s) (x := x) (hpre.subset (by simp))
      omega
    have hcnt : pre.length + 1 ≤ 1000001 := by
      have a := hpre.length_le
      have b := pcB_len 32 s.size s (Nat.le_refl _)
      simp at a
      omega
    rw [sqW_size, vs] at hge
    have G1 := hide h1
    have G2 := hide h2
    have G3 := hide h3
    have G5 := hide h5
    have G6 := hide h6
    have G7 := hide h7
    clear h1 h2 h3 h5 h6 h7 hpre
    gi_wp2
    refine ⟨trivial, (CallsIn.inRound l (callsIn_wide.2 (isword04 x A hxs))).mono ?_⟩
    rintro e A2 ⟨rfl, hb⟩
    have b1 := bx_low hb G1.out
    have b2 := bx_low hb G2.out
    have b3 := bx_low hb G3.out
    have hs2 := hb.size
    have hO : KeepsOthers A A2 := ko_below hb
    have hM : KMid (w.heap.size + 3) (w.heap.size + 3 + 3) A A2 := km_below hb (by omega)
    have hB : Below w.heap.size w A2 := G7.out.trans (hb.mono (by omega))
    have hR : OwnV 1 9 (w.heap.size + 6) A2 v pre.length (stL pre) := G6.out.below hb
    obtain ⟨ok, hok⟩ : ∃ ok, wdB x = ok := ⟨_, rfl⟩
    have HOK := hide hok
    rw [hok]
    clear hok
    cases ok with
    | false =>
      have k2 := b2.cell
      have k3 := b3.cell
      have f2 := b2.frozen
      have f3 := b3.frozen
      have D2 := hide b2
      have D3 := hide b3
      have E1 := hide hO
      have E2 := hide hM
      have E3 := hide hB
      clear hb b1 b2 b3 hO hM hB hR
      have k3' : (A2.setCell ⟨w.heap.size, 0, none⟩ (.slice none 0 0)).cell? ⟨w.heap.size + 1, 0, none⟩ = some (.bool false) := (bx_other (c := w.heap.size) (u := .slice none 0 0) D3.out (by omega)).cell
      have f3' : (A2.setCell ⟨w.heap.size, 0, none⟩ (.slice none 0 0)).frozen? ⟨w.heap.size + 1, 0, none⟩ = false := (bx_other (c := w.heap.size) (u := .slice none 0 0) D3.out (by omega)).frozen
      gi_wp2
      refine ⟨E1.out.trans ((KeepsOthers.setCell _ _ _).trans (KeepsOthers.setCell _ _ _)), bx_other (D2.out.set _) (by omega), (bx_other D3.out (by omega)).set _, ⟨x, by simp, HOK.out⟩, (E3.out.setCell (p := ⟨w.heap.size, 0, none⟩) (Nat.le_refl _) _).setCell (p := ⟨w.heap.size + 1, 0, none⟩) (by show w.heap.size ≤ w.heap.size + 1; omega) _⟩
    | true =>
      have k1 := b1.cell
      have f1 := b1.frozen
      have D1 := hide b1
      have D2 := hide b2
      have D3 := hide b3
      have E1 := hide hO
      have E2 := hide hM
      have E3 := hide hB
      have E5 := hide hR
      clear hb b1 b2 b3 hO hM hB hR
      gi_wp2_with (gi_at_builtin; refine wpListIn_append_own _ rfl _ _ 42 rfl (w.heap.size + 6) 9 i0 (.string ⟨#[]⟩) 1 16 Tryd.underlying42 hi hz0 hz1 hz2 rfl (by decide) _ _ _ rfl (World.ownsRow.alloc E5.out _) ⟨A2.heap.size, 0, none⟩ 1 1 [.string x] rfl rfl (cell_one_new _ _ _) (by simp [Value.oneCell']) (by simp only [maxLen]; omega) (by omega) (by simp; omega) ?_; intro v' w3 hown' hgrow _; obtain ⟨g', cap', rfl⟩ := ownsRow_succ hown'; obtain ⟨q1, q2, q3, q4, q5, q6, q7⟩ := box_app (n := w.heap.size) (lo := w.heap.size + 3) (hi := w.heap.size + 3 + 3) D1.out (by omega) (by omega) (by omega) (by omega) (by omega) E5.out hown' hgrow; have hc1 := q1.cell; have hf1 := q1.frozen)
      refine ⟨E1.out.trans q4, E2.out.trans q5, ?_⟩
      have hl : (pre ++ [x]).length = pre.length + 1 := by simp
      rw [SwI, hl]
      refine ⟨_, q2, bx_oth D2.out (q7 _ (by omega) (by omega)), bx_oth D3.out (q7 _ (by omega) (by omega)), ?_, ?_, E3.out.trans q6⟩
      · intro y hy
        rcases List.mem_append.1 hy with h | h
        · exact G5.out y h
        · rw [List.mem_singleton.1 h]; exact HOK.out
      · have e : rowV (pre.length * 1) (stL pre) ++ [.string x] = rowV ((pre.length + 1) * 1) (stL (pre ++ [x])) := by
          unfold rowV
          rw [Nat.mul_one, Nat.mul_one, List.range_succ, List.map_append, List.map_cons, List.map_nil]
          have e2 : stL (pre ++ [x]) pre.length = .string x := by simp [stL]
          rw [e2]
          refine congrArg (· ++ _) (List.map_congr_left fun i hi => ?_)
          have := List.mem_range.1 hi
          simp [stL, List.getD, List.getElem?_append_left this]
        unfold OwnV
        rw [← e]
        exact q3
  case done =>
    rintro D A hD ⟨v, h1, h2, h3, h5, h6, h7⟩ hK
    obtain ⟨L, c, rfl, hrd, _⟩ := OwnV.rd h6
    rw [sqW_size, vs] at hD
    have k1 := h1.cell
    have k2 := h2.cell
    have k3 := h3.cell
    have f2 := h2.frozen
    have f3 := h3.frozen
    have D2 := hide h2
    have D3 := hide h3
    have E3 := hide h7
    have G5 := hide h5
    have G6 := hide h6
    have HK := hide hK
    obtain ⟨m, hm⟩ : ∃ m, (pcB 32 s).length = m := ⟨_, rfl⟩
    have HM := hide hm
    rw [hm] at k1 G6
    clear h1 h2 h3 h5 h6 h7 hK hrd hm
    have k3' : (A.setCell ⟨w.heap.size, 0, none⟩ (.slice L m c)).cell? ⟨w.heap.size + 1, 0, none⟩ = some (.bool false) := (bx_other (c := w.heap.size) (u := .slice L m c) D3.out (by omega)).cell
    have f3' : (A.setCell ⟨w.heap.size, 0, none⟩ (.slice L m c)).frozen? ⟨w.heap.size + 1, 0, none⟩ = false := (bx_other (c := w.heap.size) (u := .slice L m c) D3.out (by omega)).frozen
    gi_wp2
    obtain ⟨Z, hZ⟩ : ∃ Z, (A.setCell ⟨w.heap.size, 0, none⟩ (.slice L m c)).setCell ⟨w.heap.size + 1, 0, none⟩ (.bool true) = Z := ⟨_, rfl⟩
    have z0 : Boxed Z w.heap.size 42 (.slice L m c) := by rw [← hZ]; exact bx_other (D2.out.set _) (by omega)
    have z1 : Boxed Z (w.heap.size + 1) 4 (.bool true) := by rw [← hZ]; exact (bx_other D3.out (by omega)).set _
    have zK : Z.heap[D]? = some (.deferred (some [])) := by rw [← hZ]; exact ((KeepsOthers.setCell A ⟨w.heap.size, 0, none⟩ (.slice L m c)).trans (KeepsOthers.setCell _ ⟨w.heap.size + 1, 0, none⟩ (.bool true))).same D _ HK.out rfl
    have zB : Below w.heap.size w Z := by rw [← hZ]; exact (E3.out.setCell (p := ⟨w.heap.size, 0, none⟩) (Nat.le_refl _) _).setCell (p := ⟨w.heap.size + 1, 0, none⟩) (by show w.heap.size ≤ w.heap.size + 1; omega) _
    have zR : OwnV 1 9 (w.heap.size + 6) Z (.slice L m c) m (stL (pcB 32 s)) := by
      rw [← hZ]
      have nb : ∀ j, j < w.heap.size + 6 → (Value.slice L m c).ownBlock ≠ some j := fun j hj e => by have := (World.ownsRow.lt G6.out j e).1; omega
      exact (World.ownsRow.kept G6.out (grownBy_setCell' A _ _) (.inr (nb _ (by omega)))).kept (grownBy_setCell' _ _ _) (.inr (nb _ (by omega)))
    rw [hZ]
    clear hZ
    refine ⟨by simp, .inl ⟨_, _, rfl, run_takeDeferred zK, ?_⟩⟩
    have c0 := (bx_put z0 zK rfl (.deferred none)).cell
    have c1 := (bx_put z1 zK rfl (.deferred none)).cell
    have zb : Below w.heap.size w (Z.putObj D (.deferred none)) := zB.trans (belowK_b (w := w) (Nat.le_refl _) Z D _ _ (by omega) zK rfl rfl)
    have zr : OwnV 1 9 (w.heap.size + 6) (Z.putObj D (.deferred none)) (.slice L m c) m (stL (pcB 32 s)) := ownsRow_putObj zR _ zK rfl
    refine ⟨.tuple #[.slice L m c, .bool true], ?_, L, m, c, pcB 32 s, true, rfl, HM.out.symm, zr.rdS2, .inl ⟨rfl, .inr ⟨by omega, rfl, G5.out⟩⟩, zb⟩
    simp [results, Tryd.f22, go_sem, c0, c1]
  case stop =>
    rintro D pre A hD hpre ⟨h2, h3, h4, h7⟩ hK
    rw [sqW_size, vs] at hD
    gi_wp2
    refine ⟨by simp, .inl ⟨_, _, rfl, run_takeDeferred hK, ?_⟩⟩
    have c0 := (bx_put h2 hK rfl (.deferred none)).cell
    have c1 := (bx_put h3 hK rfl (.deferred none)).cell
    have zb : Below w.heap.size w (A.putObj D (.deferred none)) := h7.trans (belowK_b (w := w) (Nat.le_refl _) A D _ _ (by omega) hK rfl rfl)
    obtain ⟨x, hx, hu⟩ := h4
    refine ⟨.tuple #[.slice none 0 0, .bool false], ?_, none, 0, 0, [], false, rfl, rfl, rdV_nil _ _, .inr ⟨rfl, rfl, by omega, x, hpre.subset hx, hu⟩, zb⟩
    simp [results, Tryd.f22, go_sem, c0, c1]
theorem split04 (s : ByteArray) (w : World) (hs : s.size ≤ 1000000) : Calls Tryd.prog 22 #[.string s] w (SwE s w) := by
  by_cases hz : s.size = 0
  · exact split04_0 s w hz
  · exact split04_1 s w hs hz
end

section
open Go Go.RowKit Go.PlainAid

theorem pcF_count (c : UInt8) : ∀ (l cur : List UInt8), (pcF c cur l).length = l.count c + 1
  | [], cur => rfl
  | b :: l, cur => by
    by_cases e : b = c
    · subst e
      rw [pcF_sep, List.length_cons, pcF_count b l [], List.count_cons_self]
    · rw [pcF_more e, pcF_count c l _, List.count_cons_of_ne (by simpa using e)]
theorem pcB_count (c : UInt8) (s : ByteArray) : (pcB c s).length = s.data.toList.count c + 1 := by
  unfold pcB
  rw [List.length_map, pcF_count]
theorem madeL (n : Nat) : (madeCells (Value.string ⟨#[]⟩).cells (n * 1)).toList = rowV (n * 1) (stL []) := by
  simp only [madeCells, rowV, Array.toList_map, Array.toList_range, Value.cells]
  refine List.map_congr_left fun i _ => ?_
  simp [stL, Nat.mod_one]
theorem stL_set {done : List ByteArray} {k : Nat} (hk : done.length = k) (x : ByteArray) (i : Nat) : setV (stL done) k (.string x) i = stL (done ++ [x]) i := by
  unfold setV stL
  by_cases e : i = k
  · subst e
    rw [if_pos rfl]
    subst hk
    simp
  · rw [if_neg e]
    by_cases e2 : i < k
    · simp [List.getD, List.getElem?_append_left (show i < done.length by omega)]
    · have h1 : done[i]? = none := List.getElem?_eq_none (by omega)
      have h2 : (done ++ [x])[i]? = none := List.getElem?_eq_none (by simp; omega)
      simp [List.getD, h1, h2]
/-- What a text's lines are. -/
def LnR (s : ByteArray) (ps : List ByteArray) (ok : Bool) : Prop := (ok = true ∧ pcB 10 s = ps ++ [⟨#[]⟩]) ∨ (ok = false ∧ ps = [] ∧ ∀ qs, pcB 10 s ≠ qs ++ [⟨#[]⟩])
def LnE (s : ByteArray) (w : World) (e : Ending) (w' : World) : Prop := ∃ (A : Option Addr) (k c : Nat) (ps : List ByteArray) (ok : Bool), e = .returned (.tuple #[.slice A k c, .bool ok]) ∧ k = ps.length ∧ RdV 1 w' A k c (stL ps) ∧ LnR s ps ok ∧ Below w.heap.size w w'
theorem pcF_end (c : UInt8) : ∀ (l cur : List UInt8), pcF c cur (l ++ [c]) = pcF c cur l ++ [[]]
  | [], cur => by simp [pcF]
  | b :: l, cur => by
    by_cases e : b = c
    · subst e
      rw [List.cons_append, pcF_sep, pcF_sep, pcF_end b l []]
      rfl
    · rw [List.cons_append, pcF_more e, pcF_more e, pcF_end c l _]
theorem pcF_last (c : UInt8) : ∀ (l cur : List UInt8) (qs : List (List UInt8)), pcF c cur l = qs ++ [[]] → (l = [] ∧ cur = []) ∨ ∃ l2, l = l2 ++ [c]
  | [], cur, qs, h => by
    rw [pcF_nil] at h
    cases qs with
    | nil => simp at h; exact .inl ⟨rfl, h⟩
    | cons a b => simp at h
  | b :: l, cur, qs, h => by
    by_cases e : b = c
    · subst e
      rw [pcF_sep] at h
      cases qs with
      | nil => simp at h; exact absurd h.2 (by have := pcF_count b l []; intro e2; rw [e2] at this; simp at this)
      | cons a qs =>
        simp only [List.cons_append, List.cons.injEq] at h
        rcases pcF_last b l [] qs h.2 with ⟨rfl, _⟩ | ⟨l2, rfl⟩
        · exact .inr ⟨[], rfl⟩
        · exact .inr ⟨b :: l2, rfl⟩
    · rw [pcF_more e] at h
      rcases pcF_last c l _ qs h with ⟨rfl, h2⟩ | ⟨l2, rfl⟩
      · simp at h2
      · exact .inr ⟨b :: l2, rfl⟩
theorem map_mk {ps : List (List UInt8)} {qs : List ByteArray} (h : ps.map (fun l => (⟨l.toArray⟩ : ByteArray)) = qs ++ [⟨#[]⟩]) : ps = qs.map (·.data.toList) ++ [[]] := by
  have h2 := congrArg (List.map fun x : ByteArray => x.data.toList) h
  rw [List.map_map, List.map_append] at h2
  have : ((fun x : ByteArray => x.data.toList) ∘ fun l => (⟨l.toArray⟩ : ByteArray)) = id := rfl
  rw [this, List.map_id] at h2
  exact h2
end

section
open Go Go.RowKit Go.PlainAid

theorem mk_one : (fun l : List UInt8 => (⟨l.toArray⟩ : ByteArray)) [] = ⟨#[]⟩ := rfl
theorem ln_suffix {s : ByteArray} {l2 : List UInt8} (h : s.data.toList = l2 ++ [10]) : pcB 10 s = pcB 10 ⟨l2.toArray⟩ ++ [⟨#[]⟩] := by
  unfold pcB
  rw [h, pcF_end]
  simp
theorem ln_no {s : ByteArray} (hz : s.size ≠ 0) (h : ∀ l2, s.data.toList ≠ l2 ++ [10]) (qs : List ByteArray) : pcB 10 s ≠ qs ++ [⟨#[]⟩] := fun e => by
  have h2 := map_mk e
  rcases pcF_last 10 _ _ _ h2 with ⟨h3, _⟩ | ⟨l2, h3⟩
  · exact hz (by rw [Lib.size_eq, h3]; rfl)
  · exact h l2 h3
theorem data_bk5 (s : ByteArray) : (⟨s.data.toList.toArray⟩ : ByteArray) = s := by
  obtain ⟨⟨l⟩⟩ := s
  rfl
theorem LnR.same {s : ByteArray} {ps qs : List ByteArray} {a b : Bool} (h : LnR s ps a) (k : LnR s qs b) : ps = qs ∧ a = b := by
  rcases h with ⟨rfl, h1⟩ | ⟨rfl, rfl, h1⟩ <;> rcases k with ⟨rfl, k1⟩ | ⟨rfl, rfl, k1⟩
  · exact ⟨List.append_cancel_right (h1.symm.trans k1), rfl⟩
  · exact absurd h1 (k1 _)
  · exact absurd k1 (h1 _)
  · exact ⟨rfl, rfl⟩
theorem stL_cat {done : List ByteArray} {k : Nat} (hk : done.length = k) (x : ByteArray) (i : Nat) (hi : i < (k + 1) * 1) : catV (k * 1) (stL done) (fun _ => .string x) i = stL (done ++ [x]) i := by
  subst hk
  unfold catV stL
  by_cases h : i < done.length
  · rw [if_pos (by omega)]
    simp [List.getD, List.getElem?_append_left h]
  · rw [if_neg (by omega)]
    obtain rfl : i = done.length := by omega
    simp
set_option maxRecDepth 20000 in
set_option maxHeartbeats 3200000 in
theorem rparts04 (c : UInt8) (s : ByteArray) (w : World) (hs : s.size ≤ 1000000) : Calls Tryd.prog 46 #[.string s, .int .u8 (c.toNat : Int)] w fun e w' => ∃ A cp, e = .returned (.slice A (pcB c s).length cp) ∧ RdV 1 w' A (pcB c s).length cp (stL (pcB c s)) ∧ Below w.heap.size w w' := by
  obtain ⟨i0, hi, hz0, hz1, hz2⟩ := info_parts str_info
  obtain ⟨ci, hci⟩ : ∃ ci : Int, (c.toNat : Int) = ci := ⟨_, rfl⟩
  have HC := hide hci
  rw [hci]
  clear hci
  go_enter Tryd.func46, Tryd.ntmps46
  go_wp2_with fail
  go_loopw [5, 6, 7] (fun v a i wr => ∃ (j aa : Nat) (done : List ByteArray), i = .int .i64 j ∧ a = .int .i64 aa ∧ j ≤ s.size ∧ aa ≤ j ∧ done.length ≤ j ∧ pcB c s = done ++ pcT c s aa j ∧ OwnV 1 9 w.heap.size wr v done.length (stL done) ∧ Below w.heap.size w wr) (fun _ _ i _ => s.size - (intOf i).toNat)
  case atStart => exact ⟨0, 0, [], rfl, rfl, Nat.zero_le _, Nat.le_refl _, Nat.le_refl _, rfl, OwnV.nil _ _ _ _ _, Below.refl _ _⟩
  case round =>
    obtain ⟨j, a, done, rfl, rfl, hj, ha, hd, hp, hO, hB⟩ := hrel
    have HO := hide hO
    have HB := hide hB
    have HP := hide hp
    have hsz := hB.size
    obtain ⟨k, hk⟩ : ∃ k, done.length = k := ⟨_, rfl⟩
    have HD := hide hk
    rw [hk] at HO hd
    clear hO hB hp hk
    by_cases hlt : j < s.size
    · have hb := get_bt s j hlt
      have hgo := hide (pcT_skip (c := c) (s := s) (a := a) hlt ha)
      have hse := hide (pcT_sep (c := c) (s := s) (a := a) hlt)
      obtain ⟨x, hx⟩ : ∃ x, bt s j = x := ⟨_, rfl⟩
      rw [hx] at hb hgo hse
      clear hx
      by_cases h2 : x = ci
      · have q1 : (x == ci) = true := by simpa using h2
        have HS : Hid (pcB c s = (done ++ [s.extract a j]) ++ pcT c s (j + 1) (j + 1)) := by
          unfold Hid
          rw [HP.out, hse.out (by rw [h2, HC.out])]
          simp
        obtain ⟨y, hy⟩ : ∃ y, s.extract a j = y := ⟨_, rfl⟩
        have HY := hide hy
        rw [hy] at HS
        have HO2 := hide (HO.out.alloc (.cells #[.string y] 9))
        have HB2 := hide (HB.out.alloc hsz (.cells #[.string y] 9))
        have Hx := hide (rdV_str wr y 9)
        clear hgo hse h2
        go_wp2_with (at_builtin; refine wp_appV rfl _ _ _ rfl 1 i0 _ 16 Tryd.underlying42 hi hz0 hz1 hz2 rfl (by omega) w.heap.size _ k _ rfl HO2.out _ 1 1 _ rfl Hx.out (fun _ _ => rfl) (by simp only [maxLen]; omega) (by omega) HB2.out.size ?_; intro v3 w3 hown3 hg3 _)
        have HO3 : Hid (OwnV 1 9 w.heap.size w3 v3 (done ++ [y]).length (stL (done ++ [y]))) := by
          unfold Hid
          rw [List.length_append, HD.out]
          exact hown3.congr (fun i hi => stL_cat HD.out y i hi)
        have HB3 := hide (HB2.out.grown hg3 HB2.out.size (fun j e => (World.ownsRow.lt HO2.out j e).1))
        clear hown3 hg3
        go_wp2_with fail
        exact ⟨⟨j + 1, j + 1, done ++ [y], rfl, rfl, by omega, Nat.le_refl _, by rw [List.length_append, HD.out]; simp; omega, HS.out, HO3.out, HB3.out⟩, by simp [intOf]; omega⟩
      · have q1 : (x == ci) = false := by simpa using h2
        have HS : Hid (pcB c s = done ++ pcT c s a (j + 1)) := by
          unfold Hid
          rw [HP.out, hgo.out (by rw [HC.out]; exact h2)]
        clear hgo hse h2
        go_wp2_with fail
        exact ⟨⟨j + 1, a, done, rfl, rfl, by omega, by omega, by rw [HD.out]; omega, HS.out, by rw [HD.out]; exact HO.out, HB.out⟩, by simp [intOf]; omega⟩
    · obtain rfl : j = s.size := by omega
      have HS : Hid (pcB c s = done ++ [s.extract a s.size]) := by
        unfold Hid
        rw [HP.out, pcT_end rfl]
      obtain ⟨y, hy⟩ : ∃ y, s.extract a s.size = y := ⟨_, rfl⟩
      have HY := hide hy
      rw [hy] at HS
      have HO2 := hide (HO.out.alloc (.cells #[.string y] 9))
      have HB2 := hide (HB.out.alloc hsz (.cells #[.string y] 9))
      have Hx := hide (rdV_str wr y 9)
      go_wp2_with (at_builtin; refine wp_appV rfl _ _ _ rfl 1 i0 _ 16 Tryd.underlying42 hi hz0 hz1 hz2 rfl (by omega) w.heap.size _ k _ rfl HO2.out _ 1 1 _ rfl Hx.out (fun _ _ => rfl) (by simp only [maxLen]; omega) (by omega) HB2.out.size ?_; intro v3 w3 hown3 hg3 _)
      have HO3 : Hid (OwnV 1 9 w.heap.size w3 v3 (done ++ [y]).length (stL (done ++ [y]))) := by
        unfold Hid
        rw [List.length_append, HD.out]
        exact hown3.congr (fun i hi => stL_cat HD.out y i hi)
      have HB3 := hide (HB2.out.grown hg3 HB2.out.size (fun j e => (World.ownsRow.lt HO2.out j e).1))
      clear hown3 hg3
      obtain ⟨A, cp, rfl, hrd, _⟩ := OwnV.rd HO3.out
      have HR := hide hrd
      have HLE : Hid ((done ++ [y]).length = k + 1) := by unfold Hid; rw [List.length_append, HD.out]; rfl
      clear hrd
      go_wp2_with fail
      go_ret
      rw [HS.out]
      exact ⟨A, cp, rfl, HR.out, HB3.out⟩
end
end Go.Proofs.YtminoofghdpomaaDoor
