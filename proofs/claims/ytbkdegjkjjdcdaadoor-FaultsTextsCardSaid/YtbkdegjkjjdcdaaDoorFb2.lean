/- Layer 9: the set of any faults, the program's side. -/
import Derived.Test.YtbkdegjkjjdcdaaDoorFb1
namespace Go.Proofs.YtbkdegjkjjdcdaaDoor
set_option linter.unusedVariables false
set_option linter.unusedSimpArgs false
open Go.RowKit Go.PlainAid

def insP (x : Int × Int) : List (Int × Int) → List (Int × Int)
  | [] => [x]
  | y :: L => if LtP x y then x :: y :: L else if x = y then y :: L else y :: insP x L
/-- The set of some: each right one once, in order. -/
def setL (L : List (Int × Int)) : List (Int × Int) := (L.filter rP).foldr insP []
theorem ltP_irrefl (x : Int × Int) : ¬ LtP x x := by unfold LtP; omega
theorem ltP_tri {x y : Int × Int} (h : ¬ LtP x y) (h2 : x ≠ y) : LtP y x := by
  have : ¬ (x.1 = y.1 ∧ x.2 = y.2) := fun e => h2 (Prod.ext e.1 e.2)
  unfold LtP at *
  omega
theorem insP_mem (x p : Int × Int) : ∀ L, p ∈ insP x L ↔ p = x ∨ p ∈ L
  | [] => by simp [insP]
  | y :: L => by
    unfold insP
    by_cases h : LtP x y
    · rw [if_pos h]
      simp
    · rw [if_neg h]
      by_cases e : x = y
      · rw [if_pos e]
        subst e
        simp
      · rw [if_neg e, List.mem_cons, insP_mem x p L, List.mem_cons]
        constructor
        · rintro (a | a | a)
          · exact .inr (.inl a)
          · exact .inl a
          · exact .inr (.inr a)
        · rintro (a | a | a)
          · exact .inr (.inl a)
          · exact .inl a
          · exact .inr (.inr a)
theorem insP_up (x : Int × Int) : ∀ L, L.Pairwise LtP → (insP x L).Pairwise LtP
  | [], _ => by simp [insP]
  | y :: L, h => by
    have h1 := List.pairwise_cons.1 h
    unfold insP
    by_cases hx : LtP x y
    · rw [if_pos hx]
      refine List.pairwise_cons.2 ⟨fun z hz => ?_, h⟩
      rcases List.mem_cons.1 hz with rfl | hz
      · exact hx
      · exact LtP.trans hx (h1.1 z hz)
    · rw [if_neg hx]
      by_cases e : x = y
      · rw [if_pos e]
        exact h
      · rw [if_neg e]
        refine List.pairwise_cons.2 ⟨fun z hz => ?_, insP_up x L h1.2⟩
        rcases (insP_mem x z L).1 hz with rfl | hz
        · exact ltP_tri hx e
        · exact h1.1 z hz
theorem insP_len (x : Int × Int) : ∀ L, (insP x L).length ≤ L.length + 1
  | [] => by simp [insP]
  | y :: L => by
    have := insP_len x L
    unfold insP
    split
    · simp
    · split
      · simp
      · simp only [List.length_cons]
        omega
theorem fold_mem (p : Int × Int) : ∀ L : List (Int × Int), p ∈ L.foldr insP [] ↔ p ∈ L
  | [] => by simp
  | x :: L => by rw [List.foldr_cons, insP_mem, fold_mem p L, List.mem_cons]
theorem fold_up : ∀ L : List (Int × Int), (L.foldr insP []).Pairwise LtP
  | [] => by simp
  | x :: L => by rw [List.foldr_cons]; exact insP_up x _ (fold_up L)
theorem fold_len : ∀ L : List (Int × Int), (L.foldr insP []).length ≤ L.length
  | [] => by simp
  | x :: L => by
    rw [List.foldr_cons, List.length_cons]
    have := insP_len x (L.foldr insP [])
    have := fold_len L
    omega
theorem setL_mem (L : List (Int × Int)) (p : Int × Int) : p ∈ setL L ↔ p ∈ L ∧ rP p = true := by
  unfold setL
  rw [fold_mem, List.mem_filter]
theorem setL_up (L : List (Int × Int)) : (setL L).Pairwise LtP := fold_up _
theorem setL_len (L : List (Int × Int)) : (setL L).length ≤ L.length := Nat.le_trans (fold_len _) (List.length_filter_le _ _)
theorem strict_ext : ∀ (L M : List (Int × Int)), L.Pairwise LtP → M.Pairwise LtP → (∀ p, p ∈ L ↔ p ∈ M) → L = M
  | [], [], _, _, _ => rfl
  | [], y :: M, _, _, h => absurd ((h y).2 (by simp)) (by simp)
  | x :: L, [], _, _, h => absurd ((h x).1 (by simp)) (by simp)
  | x :: L, y :: M, hL, hM, h => by
    have h1 := List.pairwise_cons.1 hL
    have h2 := List.pairwise_cons.1 hM
    have e : x = y := by
      rcases List.mem_cons.1 ((h x).1 (by simp)) with a | a
      · exact a
      · rcases List.mem_cons.1 ((h y).2 (by simp)) with b | b
        · exact b.symm
        · exact absurd (LtP.trans (h1.1 y b) (h2.1 x a)) (ltP_irrefl _)
    subst e
    rw [strict_ext L M h1.2 h2.2 (fun p => ?_)]
    constructor
    · intro hp
      rcases List.mem_cons.1 ((h p).1 (by simp [hp])) with a | a
      · subst a
        exact absurd (h1.1 p hp) (ltP_irrefl _)
      · exact a
    · intro hp
      rcases List.mem_cons.1 ((h p).2 (by simp [hp])) with a | a
      · subst a
        exact absurd (h2.1 p hp) (ltP_irrefl _)
      · exact a
theorem lsF_up {m : Nat} {f g : Nat → Int} (h : ∀ i j, i < j → j < m → LtP (f i, g i) (f j, g j)) : (lsF m f g).Pairwise LtP := by
  rw [List.pairwise_iff_getElem]
  intro i j hi hj hij
  rw [lsF_len] at hi hj
  have a := lsF_get m f g i hi
  have b := lsF_get m f g j hj
  rw [List.getElem?_eq_getElem (by rw [lsF_len]; exact hi)] at a
  rw [List.getElem?_eq_getElem (by rw [lsF_len]; exact hj)] at b
  rw [Option.some.inj a, Option.some.inj b]
  exact h i j hij hj
theorem lsF_set {n m : Nat} {f g f' g' : Nat → Int} (h : ∀ i j, i < j → j < m → LtP (f' i, g' i) (f' j, g' j)) (hm : ∀ p, p ∈ lsF m f' g' ↔ p ∈ (lsF n f g).filter rP) : lsF m f' g' = setL (lsF n f g) :=
  strict_ext _ _ (lsF_up h) (setL_up _) (fun p => by rw [hm, List.mem_filter, setL_mem])
/-- A row of the call's own that reads as this set. -/
def SetE (L : List (Int × Int)) (w : World) (e : Ending) (w' : World) : Prop :=
  ∃ A' m c' f' g', e = .returned (.slice A' m c') ∧ Rd2 w' A' m c' f' g' ∧ lsF m f' g' = setL L ∧ (∀ a, A' = some a → w.heap.size ≤ a.block) ∧ Below w.heap.size w w'
set_option maxRecDepth 20000 in
set_option maxHeartbeats 3200000 in
theorem ofG09 (A : Option Addr) (n c : Nat) (f g : Nat → Int) (w : World) (h : Rd2 w A n c f g) (hn : n ≤ 100000) :
    Calls Tryd.prog 17 #[.slice A n c] w (SetE (lsF n f g) w) := by
  obtain ⟨i0, hi, hz0, hz1, hz2⟩ := info_parts flt09_info
  have Ha := hide h
  clear h
  go_enter Tryd.func17, Tryd.ntmps17
  go_wp2_with fail
  go_loopw [3, 8] (fun v i wr => ∃ (k m : Nat) (f' g' : Nat → Int), k ≤ n ∧ m ≤ k ∧ i = .int .i64 k ∧ OwnV 2 31 w.heap.size wr v m (pr f' g') ∧ lsF m f' g' = (lsF k f g).filter rP ∧ Below w.heap.size w wr) (fun _ i _ => n - (intOf i).toNat)
  case atStart => exact ⟨0, 0, fun _ => 0, fun _ => 0, Nat.zero_le _, Nat.le_refl _, rfl, OwnV.nil _ _ _ _ _, rfl, Below.refl _ _⟩
  case round =>
    obtain ⟨k, m, f', g', hk, hmk, rfl, hown, hls, hB⟩ := hrel
    have Hown := hide hown
    have Hls := hide hls
    have HB := hide hB
    have hsz := hB.size
    clear hown hls hB
    by_cases hlt : k < n
    · obtain ⟨b, off, rfl, hc0, hc1⟩ := (Ha.out.below HB.out).at_ hlt
      have d1 : decide ((k : Int) < (n : Int)) = true := decide_eq_true (by omega)
      obtain ⟨x, hx⟩ : ∃ x, f k = x := ⟨_, rfl⟩
      obtain ⟨y, hy⟩ : ∃ y, g k = y := ⟨_, rfl⟩
      rw [hx] at hc0
      rw [hy] at hc1
      have HX := hide hx
      have HY := hide hy
      clear hx hy
      go_wp2_with fail
      have R0 := heap_alloc_new wr (.cells #[.int .i64 x, .int .i64 y] 31)
      have B0 := hide (HB.out.alloc hsz (.cells #[.int .i64 x, .int .i64 y] 31))
      have Ho0 := hide (Hown.out.alloc (.cells #[.int .i64 x, .int .i64 y] 31))
      generalize wr.alloc (.cells #[.int .i64 x, .int .i64 y] 31) = W0 at *
      refine (right09 x y _).mono ?_
      rintro e w1 ⟨rfl, hb1⟩
      have R1 := keepRow R0 hb1
      have HB1 := hide (B0.out.of hb1)
      have Ho1 := hide (Ho0.out.below hb1)
      have hs1 := HB1.out.size
      obtain ⟨r0, r1⟩ := row2 R1
      clear hb1 R0 R1 B0 Ho0 HB Hown
      cases hr : rightB x y with
      | false =>
        have HF : Hid (lsF m f' g' = (lsF (k + 1) f g).filter rP) := Hls.out.trans (filt_no (by rw [HX.out, HY.out]; exact hr)).symm
        clear hr
        go_wp2_with fail
        exact ⟨⟨k + 1, m, f', g', by omega, by omega, by simp, Ho1.out, HF.out, HB1.out⟩, by simp [intOf]; omega⟩
      | true =>
        have HF : Hid (lsF (m + 1) (catF m f' (oneF x)) (catF m g' (oneF y)) = (lsF (k + 1) f g).filter rP) := by
          show _ = _
          rw [lsF_app, Hls.out, filt_yes (by rw [HX.out, HY.out]; exact hr), HX.out, HY.out]
        clear hr
        go_wp2_with (at_builtin; refine wp_appV rfl (.tmp 14) (.tmp 16) _ rfl 2 i0 _ 16 Tryd.underlying29 hi hz0 hz1 hz2 rfl (by omega) w.heap.size _ m _ rfl (Ho1.out.alloc _) _ 1 1 _ rfl (lit2F _ x y) (pr_one _ _ _) (by simp only [maxLen]; omega) (by omega) (by simp; omega) ?_; intro v3 w3 hown3 hg3 _)
        have HB3 := hide ((HB1.out.alloc hs1 _).grown hg3 (by simp; omega) (ownB09 Ho1.out))
        rw [pr_cat] at hown3
        have Ho3 := hide hown3
        clear hown3 hg3
        go_wp2_with fail
        exact ⟨⟨k + 1, m + 1, _, _, by omega, by omega, by simp, Ho3.out, HF.out, HB3.out⟩, by simp [intOf]; omega⟩
    · obtain rfl : k = n := by omega
      obtain ⟨A0, c0, rfl, _⟩ := Hown.out.rd
      go_wp2_with fail
      refine (sort09 _ m f' g' _ Hown.out (by omega)).mono ?_
      rintro e w2 ⟨rfl, f2, g2, ho2, hp2, hs2, hb2⟩
      have HP : Hid (∀ p, p ∈ lsF m f2 g2 ↔ p ∈ (lsF k f g).filter rP) := fun p => by
        rw [hp2.mem_iff, Hls.out]
      have HB2 := hide (HB.out.trans hb2)
      have HO2 := hide ho2
      have HS2 := hide hs2
      obtain ⟨A2, c2, e2, hr2, hz2⟩ := ho2.rd
      injection e2 with e3 _ e4
      subst e3
      subst e4
      have HR2 := hide (rd2_of_rdV hr2)
      have HZ2 := hide hz2
      clear ho2 hp2 hs2 hb2 hr2 hz2
      cases A0 with
      | none =>
        have hm0 : m = 0 := by have h1 := HR2.out.1; have h2 := HR2.out.2.2.1 rfl; omega
        have HM0 := hide hm0
        clear hm0
        go_wp2_with fail
        refine (compact09 none m c0 f2 g2 _ HR2.out (fun i hi => by have := HM0.out; omega)).mono ?_
        rintro e w3 ⟨rfl, hd3⟩
        have HB3 := hide (HB2.out.trans (drawn_below hd3 _))
        have HR3 := hide (HR2.out.below (drawn_below hd3 _))
        clear hd3
        go_wp2_with fail
        go_ret
        exact ⟨none, m, c0, f2, g2, rfl, HR3.out, lsF_set (fun i j hij hj => by have := HM0.out; omega) HP.out, fun a e => (by cases e), HB3.out⟩
      | some a0 =>
        obtain ⟨b, off, spot⟩ := a0
        obtain ⟨z1, _, z2, z3⟩ := HZ2.out _ rfl
        have z2' : off = 0 := z2
        have z3' : spot = none := z3
        subst z2'
        subst z3'
        have HZB : Hid (w.heap.size ≤ b) := z1
        clear z1 z2 z3 HZ2
        go_wp2_with fail
        refine (compactA b m c0 f2 g2 _ HO2.out HS2.out).mono ?_
        rintro e w3 ⟨m3, f3, g3, rfl, hm3, ho3, hu3, hq3, hb3⟩
        have HB3 := hide (HB2.out.trans hb3)
        have HR3 := hide (rd2_of_rdV ho3.rdS2)
        have HU3 := hide hu3
        have HQ3 := hide hq3
        clear hm3 ho3 hu3 hq3 hb3
        go_wp2_with fail
        go_ret
        exact ⟨_, m3, c0, f3, g3, rfl, HR3.out, lsF_set HU3.out (fun p => (HQ3.out p).trans (HP.out p)), fun a e => (by cases e; exact HZB.out), HB3.out⟩
end Go.Proofs.YtbkdegjkjjdcdaaDoor
