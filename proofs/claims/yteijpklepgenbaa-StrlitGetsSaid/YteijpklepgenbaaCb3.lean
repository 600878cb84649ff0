/- Layer 16: the contract of 'codebook.Make'. -/
import Derived.Test.YteijpklepgenbaaCb2
import Derived.RegionTactic
import Derived.ChangeAlike
import Derived.Deep.RegionHeld3
import Derived.StillTailTactics
import Derived.Deep.Cut
namespace Go.Proofs.Yteijpklepgenbaa
open Go.RowKit

section
variable {P : Program} {w w' : World} {ops : Array Oper} {o : Oper} {a : Act} {v : Value} {K : Act → World → Prop} {Q : Exit → Act → World → Prop} {E : Prop}
theorem step_run (hgd : o.guard = none) (hrun : (execOp a.eval o).run P w = .ok (.value v) w') (h : K (a.put o.dst v) w') : if Region.wanted o (yielded ops a.tmps) = true then Oper.wp P o a w K Q else E := by
  have hw : Region.wanted o (yielded ops a.tmps) = true := by simp [Region.wanted, hgd]
  rw [if_pos hw]
  unfold Oper.wp
  rw [hrun, Oper.upon_value]
  exact h
end
/-- The cells of a book: lengths, codes, the order's slice, where each length begins. -/
def bookC (le : Nat → Int) (co : Nat → Int) (og : Nat) (be : Nat → Int) : Nat → Value := fun i =>
  if i < 257 then .int .i64 (le i) else if i < 514 then .int .i64 (co (i - 257)) else if i = 514 then .slice (some ⟨og, 0, none⟩) 257 257 else .int .i64 (be (i - 515))
def lenI (s : Nat) : Int := (len s : Int)
theorem book_cells (og : Nat) : (intL lenL ++ List.replicate 257 (.int .i64 0) ++ [.slice (some ⟨og, 0, none⟩) 257 257] ++ List.replicate 32 (.int .i64 0) : List Value) = rowV 547 (bookC lenI (oneF 0) og (oneF 0)) := by kernel_rfl
/-- A book in the making. -/
def Mk (w W : World) (og B : Nat) (co od be : Nat → Int) : Prop :=
  Blk W B 71 547 (bookC lenI co og be) ∧ Own .i64 3 w.heap.size W (.slice (some ⟨og, 0, none⟩) 257 257) 257 od ∧ Below w.heap.size w W ∧ og ≠ B ∧ w.heap.size ≤ B

/-- How many of the first k symbols have a code one bit shorter than j. -/
def b1 (k j : Nat) : Int := if j = 0 then 0 else (cnt (j - 1) k : Int)
theorem idx41 {cs : List Value} (k : Nat) (hk : k < 257) (L : Nat) (h : cs[k]? = some (.int .i64 (L : Int))) (W : World) : (Instr.index 67 (.agg cs.toArray) (.int .i64 (k : Int))).run Try.prog W = .ok (.int .i64 (L : Int)) W := by
  have hu : Try.prog.underlying 67 = some (.array 257 3) := Try.underlying67
  have h3 : (Try.prog.info? 3).map (·.size) = some 1 := by kernel_rfl
  obtain ⟨i, hi, h1⟩ := Option.map_eq_some_iff.1 h3
  have hz : Try.prog.underlying 3 = some (.int .i64) := Try.underlying3
  have e1 : (0 : Int) ≤ (k : Int) ∧ (k : Int) < 257 := by omega
  simp [Instr.index, run_underlying hu, asIntOf, e1, sizeOf, typeInfo, hi, h1, isAgg, run_underlying hz, h, go_sem]
  intro h2
  omega
def bookL (og : Nat) : List Value := intL lenL ++ List.replicate 257 (.int .i64 0) ++ [.slice (some ⟨og, 0, none⟩) 257 257] ++ List.replicate 32 (.int .i64 0)
theorem mk_new (w W : World) (og : Nat) (ho : Own .i64 3 w.heap.size W (.slice (some ⟨og, 0, none⟩) 257 257) 257 (oneF 0)) (hb : Below w.heap.size w W) (hlt : og < W.heap.size) :
    Mk w (W.alloc (.cells ⟨bookL og⟩ 71)) og W.heap.size (oneF 0) (oneF 0) (oneF 0) :=
  ⟨Blk.new W _ _ _ (by rw [show bookL og = rowV 547 (bookC lenI (oneF 0) og (oneF 0)) from book_cells og]), ho.alloc _, hb.alloc hb.size _, by omega, hb.size⟩

theorem Own.far {k : IntKind} {e : TypeId} {B0 g b n c : Nat} {w : World} {f : Nat → Int} (h : Own k e B0 w (.slice (some ⟨g, 0, none⟩) n c) n f) (j : Nat) (u : Value) (hne : g ≠ b) : Own k e B0 (w.setCell ⟨b, j, none⟩ u) (.slice (some ⟨g, 0, none⟩) n c) n f :=
  World.ownsRow.kept (row := some b) h (grown_set w b j u) (by simp [Value.ownBlock, hne])
section
variable {w W : World} {og B : Nat} {co od be : Nat → Int}
theorem Mk.setBe (h : Mk w W og B co od be) (j : Nat) (x : Int) : Mk w (W.setCell ⟨B, 515 + j, none⟩ (.int .i64 x)) og B co od (setF be j x) :=
  ⟨(h.1.set (515 + j) _).congr (fun i _ => by
    unfold setV bookC setF
    by_cases h1 : i < 257
    · have : ¬ i = 515 + j := by omega
      simp [h1, this]
    · by_cases h2 : i < 514
      · have : ¬ i = 515 + j := by omega
        simp [h1, h2, this]
      · by_cases h3 : i = 514
        · subst h3
          have : ¬ 514 = 515 + j := by omega
          simp [this]
        · by_cases h4 : i = 515 + j
          · subst h4
            simp [h1, h2, h3]
          · have : ¬ i - 515 = j := by omega
            simp [h1, h2, h3, h4, this]), h.2.1.far _ _ h.2.2.2.1, h.2.2.1.setCell h.2.2.2.2 _, h.2.2.2.1, h.2.2.2.2⟩
theorem Mk.setCo (h : Mk w W og B co od be) (j : Nat) (hj : j < 257) (x : Int) : Mk w (W.setCell ⟨B, 257 + j, none⟩ (.int .i64 x)) og B (setF co j x) od be :=
  ⟨(h.1.set (257 + j) _).congr (fun i _ => by
    unfold setV bookC setF
    by_cases h1 : i < 257
    · have : ¬ i = 257 + j := by omega
      simp [h1, this]
    · by_cases h2 : i < 514
      · by_cases h4 : i = 257 + j
        · subst h4
          simp [h1, h2]
        · have : ¬ i - 257 = j := by omega
          simp [h1, h2, h4, this]
      · have : ¬ i = 257 + j := by omega
        simp [h1, h2, this]), h.2.1.far _ _ h.2.2.2.1, h.2.2.1.setCell h.2.2.2.2 _, h.2.2.2.1, h.2.2.2.2⟩
theorem Mk.setOd (h : Mk w W og B co od be) (j : Nat) (x : Int) : Mk w (W.setCell ⟨og, j, none⟩ (.int .i64 x)) og B co (setF od j x) be :=
  ⟨h.1.other _ _ h.2.2.2.1.symm, h.2.1.set j x, h.2.2.1.setCell (World.ownsRow.lt h.2.1 og rfl).1 _, h.2.2.2.1, h.2.2.2.2⟩
theorem Mk.drew (h : Mk w W og B co od be) : Mk w W.drew og B co od be := ⟨h.1, h.2.1, h.2.2.1.drew, h.2.2.2⟩
theorem Mk.below {W' : World} (h : Mk w W og B co od be) (hb : Below W.heap.size W W') : Mk w W' og B co od be :=
  ⟨h.1.below hb, h.2.1.below hb, h.2.2.1.of hb, h.2.2.2⟩
theorem Mk.away (h : Mk w W og B co od be) (g j : Nat) (u : Value) (hg : w.heap.size ≤ g) (h1 : og ≠ g) (h2 : B ≠ g) : Mk w (W.setCell ⟨g, j, none⟩ u) og B co od be :=
  ⟨h.1.other _ _ h2, h.2.1.far _ _ h1, h.2.2.1.setCell hg _, h.2.2.2⟩
theorem Mk.congr {co' od' be' : Nat → Int} (h : Mk w W og B co od be) (h1 : ∀ i, i < 257 → co i = co' i) (h2 : ∀ i, i < 257 → od i = od' i) (h3 : ∀ i, i < 32 → be i = be' i) : Mk w W og B co' od' be' :=
  ⟨h.1.congr (fun i hi => by
    unfold bookC
    by_cases a1 : i < 257
    · simp [a1]
    · by_cases a2 : i < 514
      · simp [a1, a2, h1 (i - 257) (by omega)]
      · by_cases a3 : i = 514
        · simp [a3]
        · simp [a1, a2, a3, h3 (i - 515) (by omega)]), h.2.1.congr h2, h.2.2⟩
theorem Mk.ran (h : Mk w W og B co od be) : W.rangeAt B 0 (rowV 257 (fun i => Value.int .i64 (lenI i))) := by
  have k := h.1.range 0 257 (by omega)
  rw [rowV_congr (G := fun i => Value.int .i64 (lenI i)) (fun i hi => by simp [bookC, hi])] at k
  exact k
theorem Mk.rbe (h : Mk w W og B co od be) : W.rangeAt B 515 (rowV 32 (fun i => Value.int .i64 (be i))) := by
  have k := h.1.range 515 32 (by omega)
  rw [rowV_congr (G := fun i => Value.int .i64 (be i)) (fun i hi => by
    have e1 : ¬ 515 + i < 257 := by omega
    have e2 : ¬ 515 + i < 514 := by omega
    have e3 : ¬ 515 + i = 514 := by omega
    simp [bookC, e1, e2, e3])] at k
  exact k
theorem Mk.cbe (h : Mk w W og B co od be) (j : Nat) (hj : j < 32) : W.cell? ⟨B, 515 + j, none⟩ = some (.int .i64 (be j)) := by
  rw [h.1.cell (j := 515 + j) (by omega)]
  have e1 : ¬ 515 + j < 257 := by omega
  have e2 : ¬ 515 + j < 514 := by omega
  have e3 : ¬ 515 + j = 514 := by omega
  simp [bookC, e1, e2, e3]
theorem Mk.csl (h : Mk w W og B co od be) : W.cell? ⟨B, 514, none⟩ = some (.slice (some ⟨og, 0, none⟩) 257 257) := by
  rw [h.1.cell (j := 514) (by omega)]
  rfl
theorem Mk.cle (h : Mk w W og B co od be) (j : Nat) (hj : j < 257) : W.cell? ⟨B, j, none⟩ = some (.int .i64 (len j : Int)) := by
  rw [h.1.cell (j := j) (by omega)]
  simp [bookC, hj, lenI]
theorem Mk.cco (h : Mk w W og B co od be) (j : Nat) (hj : j < 257) : W.cell? ⟨B, 257 + j, none⟩ = some (.int .i64 (co j)) := by
  rw [h.1.cell (j := 257 + j) (by omega)]
  have e1 : ¬ 257 + j < 257 := by omega
  have e2 : 257 + j < 514 := by omega
  simp [bookC, e1, e2]
end
/-- Block g begins with the n integers f 0 .. f (n-1), which may be written. -/
def Cel (w : World) (g n : Nat) (f : Nat → Int) : Prop := ∀ j, j < n → w.cell? ⟨g, j, none⟩ = some (.int .i64 (f j)) ∧ w.frozen? ⟨g, j, none⟩ = false
theorem cel_of {w : World} {g n : Nat} {f : Nat → Int} {cs : List Value} (h : w.rangeAt g 0 cs) (h2 : ∀ j, j < n → w.frozen? ⟨g, 0 + j, none⟩ = false) (hc : ∀ j, j < n → cs[j]? = some (.int .i64 (f j))) : Cel w g n f := fun j hj => by
  have h1 := h j _ (hc j hj)
  have h3 := h2 j hj
  rw [Nat.zero_add] at h1 h3
  exact ⟨h1, h3⟩
theorem Cel.drew {w : World} {g n : Nat} {f : Nat → Int} (h : Cel w g n f) : Cel w.drew g n f := h
theorem Cel.set {w : World} {g n : Nat} {f : Nat → Int} (h : Cel w g n f) (j : Nat) (hj : j < n) (x : Int) : Cel (w.setCell ⟨g, j, none⟩ (.int .i64 x)) g n (setF f j x) := fun i hi => by
  unfold setF
  refine ⟨?_, by rw [World.frozen?_setCell]; exact (h i hi).2⟩
  by_cases e : i = j
  · subst e
    rw [if_pos rfl, World.cell?_setCell_same _ _ _ (h i hi).1]
  · rw [if_neg e, World.cell?_setCell_other _ _ _ _ (by intro h'; injection h' with _ h' _; exact e h'.symm)]
    exact (h i hi).1
theorem Cel.far {w : World} {g n : Nat} {f : Nat → Int} (h : Cel w g n f) (b j : Nat) (u : Value) (hne : b ≠ g) : Cel (w.setCell ⟨b, j, none⟩ u) g n f := fun i hi => by
  refine ⟨?_, by rw [World.frozen?_setCell]; exact (h i hi).2⟩
  rw [World.cell?_setCell_other _ _ _ _ (by intro h'; injection h' with h' _ _; exact hne h')]
  exact (h i hi).1
theorem b1_succ (k : Nat) (hk : k < 257) (L : Nat) (hL : len k = L) : setF (b1 k) (L + 1) ((cnt L k : Int) + 1) = b1 (k + 1) := by
  subst hL
  funext j
  unfold setF b1
  by_cases h0 : j = 0
  · subst h0
    simp
  · by_cases h1 : j = len k + 1
    · subst h1
      simp [cnt_succ _ _ hk]
    · have : ¬ len k = j - 1 := by omega
      simp [h0, h1, cnt_succ _ _ hk, this]
/-- Where the lengths begin, the first n reckoned. -/
def b2 (n j : Nat) : Int := if j ≤ n then (bg j : Int) else b1 257 j
theorem b2_zero (j : Nat) (_ : j < 32) : b1 257 j = b2 0 j := by
  unfold b2 b1
  by_cases h : j = 0
  · subst h
    decide +kernel
  · simp [h]
theorem b2_succ (n : Nat) (hn : n < 31) : setF (b2 n) (n + 1) ((cnt n 257 : Int) + (bg n : Int)) = b2 (n + 1) := by
  funext j
  unfold setF b2
  by_cases h1 : j = n + 1
  · subst h1
    have := bg_succ n hn
    simp
    omega
  · by_cases h2 : j ≤ n
    · have : j ≤ n + 1 := by omega
      simp [h1, h2, this]
    · have : ¬ j ≤ n + 1 := by omega
      simp [h1, h2, this]

/-- The order, the first k symbols laid. -/
def b3 (k i : Nat) : Int := if ord i < k then (ord i : Int) else 0
theorem b3_zero (i : Nat) : b3 0 i = 0 := by simp [b3]
theorem b3_succ (k : Nat) (hk : k < 257) (R : Nat) (hR : rnk k = R) (i : Nat) (hi : i < 257) : setF (b3 k) R (k : Int) i = b3 (k + 1) i := by
  subst hR
  unfold setF b3
  have h1 := ord_bd i hi
  have h2 := rnk_bd k hk
  by_cases h : i = rnk k
  · subst h
    simp [h2.2]
  · have : ord i ≠ k := fun e => h (by rw [← h1.2, e])
    by_cases h3 : ord i < k
    · have : ord i < k + 1 := by omega
      simp [h, h3, this]
    · have : ¬ ord i < k + 1 := by omega
      simp [h, h3, this]
/-- The codes, those of the first k places laid. -/
def b4 (k s : Nat) : Int := if rnk s < k then (cd (rnk s) : Int) else 0
theorem b4_succ (k : Nat) (hk : k < 257) (S : Nat) (hS : ord k = S) (i : Nat) (hi : i < 257) : setF (b4 k) S (cd k : Int) i = b4 (k + 1) i := by
  subst hS
  unfold setF b4
  have h1 := rnk_bd i hi
  have h2 := ord_bd k hk
  by_cases h : i = ord k
  · subst h
    simp [h2.2]
  · have : rnk i ≠ k := fun e => h (by rw [← h1.2, e])
    by_cases h3 : rnk i < k
    · have : rnk i < k + 1 := by omega
      simp [h, h3, this]
    · have : ¬ rnk i < k + 1 := by omega
      simp [h, h3, this]
def nx (k n : Nat) : Int := (bg n : Int) + (cnt n k : Int)
theorem nx_succ (k : Nat) (hk : k < 257) (L : Nat) (hL : len k = L) (R : Nat) (hR : nx k L = (R : Int)) : setF (nx k) L ((R : Int) + 1) = nx (k + 1) := by
  subst hL
  funext j
  unfold setF
  by_cases h : j = len k
  · subst h
    unfold nx at hR ⊢
    rw [cnt_succ _ _ hk]
    simp
    omega
  · have : ¬ len k = j := fun e => h e.symm
    unfold nx
    rw [cnt_succ _ _ hk]
    simp [h, this]

set_option maxRecDepth 100000 in
set_option maxHeartbeats 8000000 in
theorem make_any (w : World) : Calls Try.prog 20 #[] w fun e w' => ∃ B og, e = .returned (.pointer (some ⟨B, 0, none⟩)) ∧ Mk w w' og B (fun s => (cd (rnk s) : Int)) (fun i => (ord i : Int)) (fun j => (bg j : Int)) := by
  go_enter Try.func20, Try.ntmps20
  go_wp2_with fail
  rename_i K hK
  have key : ∀ (W : World) (og B : Nat) (u13 u14 u15 u16 : Value), Mk w W og B (oneF 0) (oneF 0) (oneF 0) → K { tmps := #[.pointer none, .pointer (some ⟨B, 0, none⟩), undef, undef, undef, undef, undef, undef, undef, undef, undef, undef, undef, u13, u14, u15, u16, undef, undef, undef, undef, undef, undef, undef, undef, undef, undef, undef, undef, undef, undef, undef, undef, undef, undef, undef, undef, undef, undef, undef, undef, undef, undef, undef, undef, undef, undef, undef, undef, undef, undef, undef, undef, undef, undef, undef, undef, undef, undef, undef, undef, undef, undef, undef, undef, undef, undef, undef, undef, undef, undef, undef, undef, undef, undef, undef, undef, undef, undef, undef, undef, undef, undef, undef, undef, undef, undef, undef, undef, undef, undef, undef, undef, undef, undef, undef, undef, undef, undef, undef, undef, undef, undef, undef, undef, undef, undef, undef, undef, undef, undef, undef, undef, undef], defers := [] } W := by
    intro W og B u13 u14 u15 u16 hM
    refine hK _ _ ?_
    clear hK
    obtain ⟨hBk, hOd, hB, hne, hle⟩ := hM
    have HBk := hide hBk
    have HOd := hide hOd
    have HB := hide hB
    have hltB := hBk.lt
    clear hBk hOd hB
    obtain ⟨cs, hcs⟩ : ∃ cs, cs = rowV 257 (fun i => Value.int .i64 (lenI i)) := ⟨_, rfl⟩
    have Hcs := hide hcs
    have hcl : cs.length = 257 := by rw [hcs]; exact rowV_len _ _
    have hi41 : (Try.prog.info? 67).map (·.size) = some cs.length := by rw [hcl]; kernel_rfl
    have hix : ∀ k : Nat, k < 257 → cs[k]? = some (.int .i64 (lenI k)) := fun k hk => by rw [Hcs.out]; exact rowV_get 257 _ k hk
    have Hix := hide hix
    have hran : W.rangeAt B 0 cs := by
      rw [hcs]
      have h := HBk.out.range 0 257 (by omega)
      rw [rowV_congr (G := fun i => Value.int .i64 (lenI i)) (fun i hi => by simp [bookC, hi])] at h
      exact h
    have Hran := hide hran
    have Hi41 := hide hi41
    clear hcs hix hran hi41 hcl
    go_wp2_with (refine wpList_load_mid (op := ⟨some 20, .load _ _, _, _, _, _⟩) rfl _ _ rfl B 0 rfl cs _ Hran.out Try.underlying67 rfl Hi41.out ?_)
    go_loopw [21] (fun i wr => ∃ k : Nat, k ≤ 257 ∧ i = .int .i64 k ∧ Mk w wr og B (oneF 0) (oneF 0) (b1 k)) (fun i _ => 257 - (intOf i).toNat)
    case atStart => exact ⟨0, Nat.zero_le _, rfl, ⟨HBk.out.congr (fun i hi => by unfold bookC; split; rfl; split; rfl; split; rfl; simp [b1, oneF, cnt_zero]), HOd.out, HB.out, hne, hle⟩⟩
    case round =>
      obtain ⟨k, hk, rfl, hM⟩ := hrel
      clear HBk HOd HB hltB
      by_cases hlt : k < 257
      · obtain ⟨hBk, hOd, hB, _, _⟩ := hM
        have HBk := hide hBk
        have HOd := hide hOd
        have HB := hide hB
        have hltB := hBk.lt
        have hkk : decide ((k : Int) < 257) = true := by simp; omega
        have hidx := idx41 (cs := cs) k hlt (len k) (Hix.out k hlt)
        obtain ⟨L, hL⟩ : ∃ L, len k = L := ⟨_, rfl⟩
        have hLb : 5 ≤ L ∧ L ≤ 30 := by rw [← hL]; exact len_bd k hlt
        rw [hL] at hidx
        have HL := hide hL
        have hcell := hBk.cell (j := 515 + (L + 1)) (by omega)
        have hfz := hBk.frozen (515 + (L + 1))
        have hcv : bookC lenI (oneF 0) og (b1 k) (515 + (L + 1)) = .int .i64 (cnt L k : Int) := by
          have e1 : ¬ 515 + (L + 1) < 257 := by omega
          have e2 : ¬ 515 + (L + 1) < 514 := by omega
          have e3 : ¬ 515 + (L + 1) = 514 := by omega
          simp [bookC, b1, e1, e2, e3]
        rw [hcv] at hcell
        have hcl := cnt_le L k hk
        have hw1 : IntKind.i64.wrap ((L : Int) + 1) = (L : Int) + 1 := IntWalk.i64_in _ (by omega)
        have hw2 : IntKind.i64.wrap ((cnt L k : Int) + 1) = (cnt L k : Int) + 1 := IntWalk.i64_in _ (by omega)
        have hL0 : (0 : Int) ≤ (L : Int) + 1 := by omega
        have hL1 : (L : Int) + 1 < 32 := by omega
        have hLn : ((L : Int) + 1).toNat = L + 1 := by omega
        clear hBk hOd hB hL hcv
        go_wp2_with fail
        go_region
        clear hw1 hw2
        have HM' : Hid (Mk w (wr.setCell ⟨B, 515 + (L + 1), none⟩ (.int .i64 ((cnt L k : Int) + 1))).drew og B (oneF 0) (oneF 0) (b1 (k + 1))) := by
          have h := (Mk.setBe ⟨HBk.out, HOd.out, HB.out, hne, hle⟩ (L + 1) ((cnt L k : Int) + 1)).drew
          rw [b1_succ k hlt L HL.out] at h
          exact h
        go_wp2_with fail
        go_roundw
        case rel => exact ⟨k + 1, by omega, by go_num, HM'.out⟩
        case measure => simp [intOf]; omega
      · obtain rfl : k = 257 := by omega
        have HM2 := hide (hM.congr (fun _ _ => rfl) (fun _ _ => rfl) b2_zero)
        clear hM
        go_wp2_with fail
        go_loopw [36] (fun i wr => ∃ n : Nat, n ≤ 31 ∧ i = .int .i64 n ∧ Mk w wr og B (oneF 0) (oneF 0) (b2 n)) (fun i _ => 31 - (intOf i).toNat)
        case atStart => exact ⟨0, Nat.zero_le _, rfl, HM2.out⟩
        case round =>
          obtain ⟨n, hn, rfl, hM⟩ := hrel
          clear HM2
          have HM := hide hM
          by_cases hlt : n < 31
          · have hc1 := hM.cbe (n + 1) (by omega)
            have hc2 := hM.cbe n (by omega)
            have hfz := hM.1.frozen (515 + (n + 1))
            have hltB := hM.1.lt
            have e1 : b2 n (n + 1) = (cnt n 257 : Int) := by unfold b2 b1; rw [if_neg (by omega), if_neg (by omega), Nat.add_sub_cancel]
            have e2 : b2 n n = (bg n : Int) := by simp [b2]
            rw [e1] at hc1
            rw [e2] at hc2
            have hcl := cnt_le n 257 (by omega)
            have hbl := bg_bd n (by omega)
            have hkk : decide ((n : Int) < 31) = true := by simp; omega
            have hw1 : IntKind.i64.wrap ((n : Int) + 1) = (n : Int) + 1 := IntWalk.i64_in _ (by omega)
            have hw2 : IntKind.i64.wrap ((cnt n 257 : Int) + (bg n : Int)) = (cnt n 257 : Int) + (bg n : Int) := IntWalk.i64_in _ (by omega)
            have hL0 : (0 : Int) ≤ (n : Int) + 1 := by omega
            have hL1 : (n : Int) + 1 < 32 := by omega
            have hL2 : (n : Int) < 32 := by omega
            have hLn : ((n : Int) + 1).toNat = n + 1 := by omega
            have HM' : Hid (Mk w (wr.setCell ⟨B, 515 + (n + 1), none⟩ (.int .i64 ((cnt n 257 : Int) + (bg n : Int)))).drew og B (oneF 0) (oneF 0) (b2 (n + 1))) := by
              have h := (HM.out.setBe (n + 1) ((cnt n 257 : Int) + (bg n : Int))).drew
              rw [b2_succ n hlt] at h
              exact h
            clear hM e1 e2
            go_wp2_with fail
            go_region
            clear hw1 hw2
            go_wp2_with fail
            go_roundw
            case rel => exact ⟨n + 1, by omega, by go_num, HM'.out⟩
            case measure => simp [intOf]; omega
          · obtain rfl : n = 31 := by omega
            have HM2 := hide (hM.congr (be' := fun j => (bg j : Int)) (fun _ _ => rfl) (fun _ _ => rfl) (fun i hi => by unfold b2; rw [if_pos (by omega)]))
            clear hM HM
            obtain ⟨ds, hds⟩ : ∃ ds, ds = rowV 32 (fun i => Value.int .i64 (bg i : Int)) := ⟨_, rfl⟩
            have hdl : ds.length = 32 := by rw [hds]; exact rowV_len _ _
            have Hi43 : Hid ((Try.prog.info? 69).map (·.size) = some ds.length) := by
              show _ = _
              rw [hdl]
              kernel_rfl
            have Hran2 := hide (show wr.rangeAt B 515 ds by
              rw [hds]
              exact HM2.out.rbe)
            have Hone : Hid (ds.toArray.all (·.oneCell') = true) := by
              show _ = _
              rw [hds]
              exact all_oneCell_toArray (rowV_one (fun _ _ => rfl))
            have Hth : Hid ((wr.alloc (.cells (Array.replicate 32 (.int .i64 0)) 69)).there wr.heap.size 0 ds.length) := by
              show World.there _ _ _ _
              rw [hdl]
              exact there_new wr (Array.replicate 32 (.int .i64 0)) _
            have HB2 : Hid (Below wr.heap.size wr ((wr.alloc (.cells (Array.replicate 32 (.int .i64 0)) 69)).setCells wr.heap.size 0 ds)) := below_cells (Nat.le_refl _) _ _ _ ((Below.refl _ _).alloc (Nat.le_refl _) _)
            have HM3 := hide (HM2.out.below HB2.out)
            have Hran3 : Hid (((wr.alloc (.cells (Array.replicate 32 (.int .i64 0)) 69)).setCells wr.heap.size 0 ds).rangeAt B 0 cs) := by
              show World.rangeAt _ _ _ _
              rw [Hcs.out]
              exact HM3.out.ran
            have HCel : Hid (Cel ((wr.alloc (.cells (Array.replicate 32 (.int .i64 0)) 69)).setCells wr.heap.size 0 ds) wr.heap.size 32 (fun j => (bg j : Int))) := by
              show Cel _ _ _ _
              refine cel_of (World.rangeAt_setCells_same _ _ _ _ Hth.out) (fun j hj => by rw [World.frozen?_setCells]; exact (Hth.out j (by omega)).2) (fun j hj => ?_)
              rw [hds]
              exact rowV_get 32 _ j hj
            have Hds := hide hds
            have hsz := HM2.out.2.2.1.size
            have hgB : B < wr.heap.size := HM2.out.1.lt
            have hgo : og < wr.heap.size := (World.ownsRow.lt HM2.out.2.1 og rfl).2
            clear hds
            go_upto_region 12 with (fail)
            rename_i K2 hK2
            refine wp_region_list ?_
            refine wpList_plain rfl fun K3 hK3 => ?_
            go_simp
            refine hK3 _ _ ?_
            refine wpList_plain rfl fun K3 hK3 => ?_
            go_simp
            refine hK3 _ _ ?_
            refine wpList_plain rfl fun K3 hK3 => ?_
            go_simp
            refine hK3 _ _ ?_
            refine wpList_load_mid rfl _ _ rfl B 515 rfl ds _ Hran2.out Try.underlying69 rfl Hi43.out ?_
            refine Go.Great.wpList_runTo rfl (some 5) rfl (.pointer (some ⟨wr.heap.size, 0, none⟩)) (wr.alloc (.cells (Array.replicate 32 (.int .i64 0)) 69)) (by kernel_rfl) ?_
            refine wpList_store_mid rfl _ _ _ rfl wr.heap.size 0 ds.toArray rfl rfl Hth.out Hi43.out Hone.out ?_
            refine wpList_nil ?_
            refine hK2 _ _ ?_
            clear hK2 Hran2 Hone Hth HB2 HM2 Hds Hi43
            generalize (wr.alloc (.cells (Array.replicate 32 (.int .i64 0)) 69)).setCells wr.heap.size 0 ds = W2 at *
            generalize wr.heap.size = g at *
            simp only [Act.put, List.setIfInBounds_toArray, List.set_cons_zero, List.set_cons_succ]
            refine wp_seq_k fun K4 hK4 => ?_
            refine wp_seq_k fun K5 hK5 => ?_
            refine wp_region_list ?_
            have hltB := HM3.out.1.lt
            refine wpList_plain rfl fun K3 hK3 => ?_
            go_simp
            refine hK3 _ _ ?_
            refine wpList_plain rfl fun K3 hK3 => ?_
            go_simp
            refine hK3 _ _ ?_
            refine wpList_plain rfl fun K3 hK3 => ?_
            go_simp
            refine hK3 _ _ ?_
            refine wpList_load_mid rfl _ _ rfl B 0 rfl cs _ Hran3.out Try.underlying67 rfl Hi41.out ?_
            refine wpList_plain rfl fun K3 hK3 => ?_
            go_simp
            refine hK3 _ _ ?_
            refine wpList_nil ?_
            refine hK5 _ _ ?_
            clear hK5 Hran3
            go_wp2_with fail
            go_loopw [65] (fun i wr => ∃ k : Nat, k ≤ 257 ∧ i = .int .i64 k ∧ Mk w wr og B (oneF 0) (b3 k) (fun j => (bg j : Int)) ∧ Cel wr g 32 (nx k)) (fun i _ => 257 - (intOf i).toNat)
            case atStart => exact ⟨0, Nat.zero_le _, rfl, HM3.out.congr (fun _ _ => rfl) (fun i _ => by simp [b3, oneF]) (fun _ _ => rfl), by have h := HCel.out; unfold nx; simpa [cnt_zero] using h⟩
            case round =>
              obtain ⟨k, hk, rfl, hM, hC⟩ := hrel
              clear HM3 HCel
              have HM := hide hM
              have HC := hide hC
              by_cases hlt : k < 257
              · have hidx := idx41 (cs := cs) k hlt (len k) (Hix.out k hlt)
                obtain ⟨L, hL⟩ : ∃ L, len k = L := ⟨_, rfl⟩
                have hLb : 5 ≤ L ∧ L ≤ 30 := by rw [← hL]; exact len_bd k hlt
                rw [hL] at hidx
                have hpl := place_of k hlt
                rw [hL] at hpl
                obtain ⟨R, hR⟩ : ∃ R, rnk k = R := ⟨_, rfl⟩
                have hRb : R < 257 := by rw [← hR]; exact (rnk_bd k hlt).1
                rw [hR] at hpl
                obtain ⟨hcg, hfg⟩ := hC L (by omega)
                have hnx : nx k L = (R : Int) := by unfold nx; omega
                rw [hnx] at hcg
                have hcs := hM.csl
                have hfo := hM.2.1.frozen R
                have hco := hM.2.1.cell hRb
                have hltB := hM.1.lt
                have hkk : decide ((k : Int) < 257) = true := by simp; omega
                have hL0 : (0 : Int) ≤ (L : Int) := by omega
                have hL1 : (L : Int) < 32 := by omega
                have hR0 : (0 : Int) ≤ (R : Int) := by omega
                have hR1 : (R : Int) < 257 := by omega
                have hw1 : IntKind.i64.wrap ((R : Int) + 1) = (R : Int) + 1 := IntWalk.i64_in _ (by omega)
                have hgo' : og ≠ g := by omega
                have hgo2 : g ≠ og := by omega
                have hgB' : B ≠ g := by omega
                have HM' : Hid (Mk w (((wr.setCell ⟨og, R, none⟩ (.int .i64 (k : Int))).setCell ⟨g, L, none⟩ (.int .i64 ((R : Int) + 1))).drew) og B (oneF 0) (b3 (k + 1)) (fun j => (bg j : Int))) := by
                  have h := ((HM.out.setOd R (k : Int)).away g L (.int .i64 ((R : Int) + 1)) (by omega) hgo' hgB').drew
                  exact h.congr (fun _ _ => rfl) (b3_succ k hlt R hR) (fun _ _ => rfl)
                have HC' : Hid (Cel (((wr.setCell ⟨og, R, none⟩ (.int .i64 (k : Int))).setCell ⟨g, L, none⟩ (.int .i64 ((R : Int) + 1))).drew) g 32 (nx (k + 1))) := by
                  have h := ((HC.out.far og R (.int .i64 (k : Int)) hgo').set L (by omega) ((R : Int) + 1)).drew
                  rw [nx_succ k hlt L hL R hnx] at h
                  exact h
                clear hM hC hL hR hpl hnx
                go_wp2_with fail
                go_region
                clear hw1
                go_wp2_with fail
                exact ⟨⟨k + 1, by omega, by go_num, HM'.out, HC'.out⟩, by simp [intOf]; omega⟩
              · obtain rfl : k = 257 := by omega
                have HM4 := hide (hM.congr (od' := fun i => (ord i : Int)) (fun _ _ => rfl) (fun i hi => by unfold b3; rw [if_pos (ord_bd i hi).1]) (fun _ _ => rfl))
                have hcs := hM.csl
                have hltB := hM.1.lt
                clear hM hC HM HC
                go_wp2_with fail
                go_loopw [8, 9, 89] (fun c a i wr => ∃ (k : Nat) (z : Int), k ≤ 257 ∧ i = .int .i64 k ∧ c = .int .i64 z ∧ z + 1 = (pc k : Int) ∧ a = .int .i64 (ah k : Int) ∧ Mk w wr og B (b4 k) (fun i => (ord i : Int)) (fun j => (bg j : Int))) (fun _ _ i _ => 257 - (intOf i).toNat)
                case atStart => exact ⟨0, -1, Nat.zero_le _, rfl, rfl, rfl, rfl, HM4.out.congr (fun i _ => by simp [b4, oneF]) (fun _ _ => rfl) (fun _ _ => rfl)⟩
                case round =>
                  obtain ⟨k, z, hk, rfl, rfl, hz, rfl, hM⟩ := hrel
                  clear HM4 hcs
                  have HM := hide hM
                  have hltB := hM.1.lt
                  by_cases hlt : k < 257
                  · have hob := ord_bd k hlt
                    obtain ⟨S, hS⟩ : ∃ S, ord k = S := ⟨_, rfl⟩
                    rw [hS] at hob
                    obtain ⟨hSb, hSr⟩ := hob
                    have hcd := cd_of k hlt
                    rw [hS] at hcd
                    have hLb := len_bd S hSb
                    have hoc := hM.2.1.cell hlt
                    rw [hS] at hoc
                    have hlc := hM.cle S hSb
                    have hcc := hM.cco S hSb
                    have hfz := hM.1.frozen (257 + S)
                    obtain ⟨L, hL⟩ : ∃ L, len S = L := ⟨_, rfl⟩
                    rw [hL] at hcd hlc hLb
                    obtain ⟨m, hm⟩ : ∃ m, L - ah k = m := ⟨_, rfl⟩
                    rw [hm] at hcd
                    obtain ⟨hal, hpm, hcl⟩ := hcd
                    have hmm : (L : Int) - (ah k : Int) = (m : Int) := by omega
                    have hah : ah k ≤ 30 := by omega
                    generalize ah k = a at *
                    have hkk : decide ((k : Int) < 257) = true := by simp; omega
                    have hk0 : (0 : Int) ≤ (k : Int) := by omega
                    have hk1 : (k : Int) < 257 := by omega
                    have hS0 : (0 : Int) ≤ (S : Int) := by omega
                    have hS1 : (S : Int) < 257 := by omega
                    have hz0 : -1 ≤ z := by omega
                    have hm30 : m ≤ 30 := by omega
                    have hv : wrap64 (wrap64 (pc k : Int) * 2 ^ m) = (cd k : Int) := by
                      have h1 : 1 ≤ 2 ^ m := Nat.one_le_two_pow
                      have h2 : pc k ≤ pc k * 2 ^ m := Nat.le_mul_of_pos_right _ h1
                      have h3 : ((pc k * 2 ^ m : Nat) : Int) = (pc k : Int) * 2 ^ m := by simp
                      have h4 : wrap64 (pc k : Int) = (pc k : Int) := by unfold wrap64; omega
                      rw [h4, ← h3, hpm]
                      unfold wrap64
                      omega
                    have Hv := hide hv
                    have HM' : Hid (Mk w (wr.setCell ⟨B, 257 + S, none⟩ (.int .i64 (cd k : Int))) og B (b4 (k + 1)) (fun i => (ord i : Int)) (fun j => (bg j : Int))) :=
                      (HM.out.setCo S hSb (cd k : Int)).congr (b4_succ k hlt S hS) (fun _ _ => rfl) (fun _ _ => rfl)
                    have HA : Hid (ah (k + 1) = L) := by
                      show _ = _
                      unfold ah
                      rw [if_neg (by omega), Nat.add_sub_cancel, hS, hL]
                    have HP : Hid (pc (k + 1) = cd k + 1) := by
                      show _ = _
                      unfold pc
                      rw [if_neg (by omega), Nat.add_sub_cancel]
                    clear hM hS hL hv hpm
                    go_wp2_with fail
                    rw [Hv.out]
                    refine ⟨⟨k + 1, (cd k : Int), by omega, by go_num, rfl, by rw [HP.out]; omega, by rw [HA.out], HM'.out⟩, by simp [intOf]; omega⟩
                  · obtain rfl : k = 257 := by omega
                    clear hM
                    go_wp2_with fail
                    go_ret
                    exact ⟨B, og, rfl, HM.out.congr (fun i hi => by unfold b4; rw [if_pos (rnk_bd i hi).1]) (fun _ _ => rfl) (fun _ _ => rfl)⟩
  refine wp_region_held_drew (S := fun _ => True) (by kernel_rfl) trivial (fun _ => ?_)
  refine wpAnyH_ready (rs := [0, 1]) (by kernel_rfl) (by simp) ?_
  refine AllReadyH.cons rfl (fun K1 k1 => ?_) (AllReadyH.cons rfl (fun K1 k1 => ?_) AllReadyH.nil)
  · go_simp
    refine (lengths_any _).mono ?_
    rintro e w1 ⟨rfl, hb1⟩
    refine k1.out _ _ trivial fun _ => ?_
    refine wpAnyH_ready (rs := [1]) (by kernel_rfl) (by simp) ?_
    refine AllReadyH.cons rfl (fun K2 k2 => ?_) AllReadyH.nil
    refine step_run (v := .slice (some ⟨w1.heap.size, 0, none⟩) 257 257) (w' := w1.alloc (.cells (Array.replicate 257 (.int .i64 0)) 3)) rfl (by kernel_rfl) ?_
    refine k2.out _ _ trivial fun _ => ?_
    refine wpAnyH_ready (rs := [2]) (by kernel_rfl) (by simp) ?_
    refine AllReadyH.cons rfl (fun K3 k3 => ?_) AllReadyH.nil
    refine step_run (v := .agg ⟨bookL w1.heap.size⟩) (w' := w1.alloc (.cells (Array.replicate 257 (.int .i64 0)) 3)) rfl (by kernel_rfl) ?_
    refine k3.out _ _ trivial fun _ => ?_
    have hM := mk_new w _ w1.heap.size (Own.lit .i64 3 w.heap.size w1 (oneF 0) (Array.replicate 257 (.int .i64 0)) 257 (by have := hb1.size; exact this) (by simp [maxLen]) (by kernel_rfl)) (((Below.refl w.heap.size w).drew.trans hb1).alloc hb1.size _) (by simp)
    generalize bookL w1.heap.size = cs at *
    refine wpAnyH_ready (rs := [3]) (by kernel_rfl) (by simp) ?_
    refine AllReadyH.cons rfl (fun K4 k4 => ?_) AllReadyH.nil
    refine step_run (v := .pointer (some ⟨(w1.alloc (.cells (Array.replicate 257 (.int .i64 0)) 3)).heap.size, 0, none⟩)) (w' := (w1.alloc (.cells (Array.replicate 257 (.int .i64 0)) 3)).alloc (.cells ⟨cs⟩ 71)) rfl (by kernel_rfl) ?_
    refine k4.out _ _ trivial fun _ => ?_
    refine wpAnyH_ready (rs := [4]) (by kernel_rfl) (by simp) ?_
    refine AllReadyH.cons rfl (fun K5 k5 => ?_) AllReadyH.nil
    refine step_run (v := .pointer (some ⟨(w1.alloc (.cells (Array.replicate 257 (.int .i64 0)) 3)).heap.size, 0, none⟩)) (w' := (w1.alloc (.cells (Array.replicate 257 (.int .i64 0)) 3)).alloc (.cells ⟨cs⟩ 71)) rfl (by kernel_rfl) ?_
    refine k5.out _ _ trivial fun _ => ?_
    refine wpAnyH_done (by kernel_rfl) ?_ _
    exact key _ _ _ _ _ _ _ hM
  · refine step_run (v := .slice (some ⟨w.drew.heap.size, 0, none⟩) 257 257) (w' := w.drew.alloc (.cells (Array.replicate 257 (.int .i64 0)) 3)) rfl (by kernel_rfl) ?_
    refine k1.out _ _ trivial fun _ => ?_
    have Ho := Own.lit .i64 3 w.heap.size w.drew (oneF 0) (Array.replicate 257 (.int .i64 0)) 257 (Nat.le_refl _) (by simp [maxLen]) (by kernel_rfl)
    have hB : Below w.heap.size w (w.drew.alloc (.cells (Array.replicate 257 (.int .i64 0)) 3)) := (Below.refl w.heap.size w).drew.alloc (Nat.le_refl _) _
    have hlt : w.drew.heap.size < (w.drew.alloc (.cells (Array.replicate 257 (.int .i64 0)) 3)).heap.size := by simp
    generalize w.drew.alloc (.cells (Array.replicate 257 (.int .i64 0)) 3) = W1 at *
    refine wpAnyH_ready (rs := [0]) (by kernel_rfl) (by simp) ?_
    refine AllReadyH.cons rfl (fun K2 k2 => ?_) AllReadyH.nil
    go_simp
    refine (lengths_any _).mono ?_
    rintro e w1 ⟨rfl, hb1⟩
    refine k2.out _ _ trivial fun _ => ?_
    refine wpAnyH_ready (rs := [2]) (by kernel_rfl) (by simp) ?_
    refine AllReadyH.cons rfl (fun K3 k3 => ?_) AllReadyH.nil
    refine step_run (v := .agg ⟨bookL w.drew.heap.size⟩) (w' := w1) rfl (by kernel_rfl) ?_
    refine k3.out _ _ trivial fun _ => ?_
    have hM := mk_new w _ w.drew.heap.size (Ho.below hb1) (hB.of hb1) (Nat.lt_of_lt_of_le hlt hb1.size)
    generalize bookL w.drew.heap.size = cs at *
    refine wpAnyH_ready (rs := [3]) (by kernel_rfl) (by simp) ?_
    refine AllReadyH.cons rfl (fun K4 k4 => ?_) AllReadyH.nil
    refine step_run (v := .pointer (some ⟨w1.heap.size, 0, none⟩)) (w' := w1.alloc (.cells ⟨cs⟩ 71)) rfl (by kernel_rfl) ?_
    refine k4.out _ _ trivial fun _ => ?_
    refine wpAnyH_ready (rs := [4]) (by kernel_rfl) (by simp) ?_
    refine AllReadyH.cons rfl (fun K5 k5 => ?_) AllReadyH.nil
    refine step_run (v := .pointer (some ⟨w1.heap.size, 0, none⟩)) (w' := w1.alloc (.cells ⟨cs⟩ 71)) rfl (by kernel_rfl) ?_
    refine k5.out _ _ trivial fun _ => ?_
    refine wpAnyH_done (by kernel_rfl) ?_ _
    exact key _ _ _ _ _ _ _ hM
end Go.Proofs.Yteijpklepgenbaa
