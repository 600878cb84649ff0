/- Layer 9: the set of some faults. -/
import Derived.Test.YtbkdegjkjjdcdaaDoorFa3
namespace Go.Proofs.YtbkdegjkjjdcdaaDoor
set_option linter.unusedVariables false
set_option linter.unusedSimpArgs false
open Go.RowKit Go.PlainAid

def rP (p : Int × Int) : Bool := rightB p.1 p.2
theorem lsF_succ (n : Nat) (f g : Nat → Int) : lsF (n + 1) f g = lsF n f g ++ [(f n, g n)] := by simp [lsF, List.range_succ]
theorem lsF_app (m : Nat) (f g : Nat → Int) (x y : Int) : lsF (m + 1) (catF m f (oneF x)) (catF m g (oneF y)) = lsF m f g ++ [(x, y)] := by
  rw [lsF_succ]
  congr 1
  · apply List.map_congr_left
    intro i hi
    have := List.mem_range.1 hi
    simp [catF, this]
  · simp [catF, oneF]
theorem filt_yes {k : Nat} {f g : Nat → Int} (h : rightB (f k) (g k) = true) : (lsF (k + 1) f g).filter rP = (lsF k f g).filter rP ++ [(f k, g k)] := by
  rw [lsF_succ, List.filter_append]
  simp [rP, h]
theorem filt_no {k : Nat} {f g : Nat → Int} (h : rightB (f k) (g k) = false) : (lsF (k + 1) f g).filter rP = (lsF k f g).filter rP := by
  rw [lsF_succ, List.filter_append]
  simp [rP, h]
theorem strict09 {m : Nat} {f g : Nat → Int} (hd : (lsF m f g).Nodup) (h : ∀ i j, i < j → j < m → ¬ LtP (f j, g j) (f i, g i)) : ∀ i j, i < j → j < m → LtP (f i, g i) (f j, g j) := fun i j hij hj => by
  have h1 := h i j hij hj
  have hne : (f i, g i) ≠ (f j, g j) := fun e => by
    have a := lsF_get m f g i (by omega)
    have b := lsF_get m f g j hj
    rw [e, ← b] at a
    have hi : i < (lsF m f g).length := by rw [lsF_len]; omega
    have := (List.getElem?_inj hi hd).1 a
    omega
  have hne2 : ¬ (f i = f j ∧ g i = g j) := fun e => hne (by rw [e.1, e.2])
  simp only [LtP] at *
  omega
theorem ownB09 {s : Nat} {e : TypeId} {B : Nat} {w : World} {v : Value} {n : Nat} {F : Nat → Value} (h : OwnV s e B w v n F) : ∀ j, v.ownBlock = some j → B ≤ j := fun j e => (World.ownsRow.lt h j e).1
theorem lit2F (w : World) (x y : Int) : RdV 2 (w.alloc (.cells #[.int .i64 x, .int .i64 y] 31)) (some ⟨w.heap.size, 0, none⟩) 1 1 (pr (oneF x) (oneF y)) :=
  (OwnV.lit 2 31 0 w (pr (oneF x) (oneF y)) #[.int .i64 x, .int .i64 y] 1 (Nat.zero_le _) (by simp [maxLen]) rfl).rdS2
theorem flt09_info : (Tryd.prog.info? 31).map (fun i => (i.zero, i.size, i.bytes)) = some (some (.agg #[.int .i64 0, .int .i64 0]), 2, 16) := by kernel_rfl
set_option maxRecDepth 20000 in
set_option maxHeartbeats 1600000 in
theorem of09 (A : Option Addr) (n c : Nat) (f g : Nat → Int) (w : World) (h : Rd2 w A n c f g) (hn : n ≤ 100000) (hd : ((lsF n f g).filter rP).Nodup) :
    Calls Tryd.prog 17 #[.slice A n c] w fun e w' => ∃ A' m c' f' g', e = .returned (.slice A' m c') ∧ Rd2 w' A' m c' f' g' ∧ (lsF m f' g').Perm ((lsF n f g).filter rP) ∧ (∀ i j, i < j → j < m → LtP (f' i, g' i) (f' j, g' j)) ∧ (∀ a, A' = some a → w.heap.size ≤ a.block) ∧ Below w.heap.size w w' := by
  obtain ⟨i0, hi, hz0, hz1, hz2⟩ := info_parts flt09_info
  have Ha := hide h
  have Hd := hide hd
  clear h hd
  go_enter Tryd.func17, Tryd.ntmps17
  go_wp2_with fail
  go_loopw [3, 8] (fun v i wr => ∃ (k m : Nat) (f' g' : Nat → Int), k ≤ n ∧ m ≤ k ∧ i = .int .i64 k ∧ OwnV 2 31 w.heap.size wr v m (pr f' g') ∧ lsF m f' g' = (lsF k f g).filter rP ∧ Below w.heap.size w wr) (fun _ i _ => n - (intOf i).toNat)
  case atStart => exact ⟨0, 0, fun _ => 0, fun _ => 0, Nat.zero_le _, Nat.le_refl _, rfl, OwnV.nil _ _ _ _ _, rfl, Below.refl _ _⟩
  case round =>
    obtain ⟨k, m, f', g', hk, hmk, rfl, hown, hls, hB⟩ := hrel
    have Hown := hide hown
    have Hls := hide hls
    have HB := hide hB
    have hsz := hB.size
    clear hown hls hB
    by_cases hlt : k < n
    · obtain ⟨b, off, rfl, hc0, hc1⟩ := (Ha.out.below HB.out).at_ hlt
      have d1 : decide ((k : Int) < (n : Int)) = true := decide_eq_true (by omega)
      obtain ⟨x, hx⟩ : ∃ x, f k = x := ⟨_, rfl⟩
      obtain ⟨y, hy⟩ : ∃ y, g k = y := ⟨_, rfl⟩
      rw [hx] at hc0
      rw [hy] at hc1
      have HX := hide hx
      have HY := hide hy
      clear hx hy
      go_wp2_with fail
      have R0 := heap_alloc_new wr (.cells #[.int .i64 x, .int .i64 y] 31)
      have B0 := hide (HB.out.alloc hsz (.cells #[.int .i64 x, .int .i64 y] 31))
      have Ho0 := hide (Hown.out.alloc (.cells #[.int .i64 x, .int .i64 y] 31))
      generalize wr.alloc (.cells #[.int .i64 x, .int .i64 y] 31) = W0 at *
      refine (right09 x y _).mono ?_
      rintro e w1 ⟨rfl, hb1⟩
      have R1 := keepRow R0 hb1
      have HB1 := hide (B0.out.of hb1)
      have Ho1 := hide (Ho0.out.below hb1)
      have hs1 := HB1.out.size
      obtain ⟨r0, r1⟩ := row2 R1
      clear hb1 R0 R1 B0 Ho0 HB Hown
      cases hr : rightB x y with
      | false =>
        have HF : Hid (lsF m f' g' = (lsF (k + 1) f g).filter rP) := Hls.out.trans (filt_no (by rw [HX.out, HY.out]; exact hr)).symm
        clear hr
        go_wp2_with fail
        exact ⟨⟨k + 1, m, f', g', by omega, by omega, by simp, Ho1.out, HF.out, HB1.out⟩, by simp [intOf]; omega⟩
      | true =>
        have HF : Hid (lsF (m + 1) (catF m f' (oneF x)) (catF m g' (oneF y)) = (lsF (k + 1) f g).filter rP) := by
          show _ = _
          rw [lsF_app, Hls.out, filt_yes (by rw [HX.out, HY.out]; exact hr), HX.out, HY.out]
        clear hr
        go_wp2_with (at_builtin; refine wp_appV rfl (.tmp 14) (.tmp 16) _ rfl 2 i0 _ 16 Tryd.underlying29 hi hz0 hz1 hz2 rfl (by omega) w.heap.size _ m _ rfl (Ho1.out.alloc _) _ 1 1 _ rfl (lit2F _ x y) (pr_one _ _ _) (by simp only [maxLen]; omega) (by omega) (by simp; omega) ?_; intro v3 w3 hown3 hg3 _)
        have HB3 := hide ((HB1.out.alloc hs1 _).grown hg3 (by simp; omega) (ownB09 Ho1.out))
        rw [pr_cat] at hown3
        have Ho3 := hide hown3
        clear hown3 hg3
        go_wp2_with fail
        exact ⟨⟨k + 1, m + 1, _, _, by omega, by omega, by simp, Ho3.out, HF.out, HB3.out⟩, by simp [intOf]; omega⟩
    · obtain rfl : k = n := by omega
      obtain ⟨A0, c0, rfl, _⟩ := Hown.out.rd
      go_wp2_with fail
      refine (sort09 _ m f' g' _ Hown.out (by omega)).mono ?_
      rintro e w2 ⟨rfl, f2, g2, ho2, hp2, hs2, hb2⟩
      have hnd : (lsF m f2 g2).Nodup := hp2.nodup_iff.2 (by rw [Hls.out]; exact Hd.out)
      have HP : Hid ((lsF m f2 g2).Perm ((lsF k f g).filter rP)) := by
        show List.Perm _ _
        rw [← Hls.out]
        exact hp2
      have HS := hide (strict09 hnd hs2)
      have hne : ∀ i, i + 1 < m → ¬ (f2 (i + 1) = f2 i ∧ g2 (i + 1) = g2 i) := fun i hi e => by
        have := HS.out i (i + 1) (by omega) hi
        simp only [LtP] at this
        omega
      have HN := hide hne
      have HB2 := hide (HB.out.trans hb2)
      obtain ⟨A2, c2, e2, hr2, hz2⟩ := ho2.rd
      have HR2 := hide (rd2_of_rdV hr2)
      have HZ : Hid (∀ a, A2 = some a → w.heap.size ≤ a.block) := fun a e => (hz2 a e).1
      injection e2 with e3 _ e4
      subst e3
      subst e4
      clear ho2 hp2 hs2 hb2 hnd hne hr2 hz2
      go_wp2_with fail
      refine (compact09 A0 m c0 f2 g2 _ HR2.out HN.out).mono ?_
      rintro e w3 ⟨rfl, hd3⟩
      have HB3 := hide (HB2.out.trans (drawn_below hd3 _))
      have HR3 := hide (HR2.out.below (drawn_below hd3 _))
      clear hd3
      go_wp2_with fail
      go_ret
      exact ⟨A0, m, c0, f2, g2, rfl, HR3.out, HP.out, HS.out, HZ.out, HB3.out⟩
end Go.Proofs.YtbkdegjkjjdcdaaDoor
