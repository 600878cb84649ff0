/- Layer 9: two rows, one behind the other. -/
import Derived.Test.YtbkdegjkjjdcdaaDoorFb4
import Derived.Test.YtbkdegjkjjdcdaaDoorShlz
namespace Go.Proofs.YtbkdegjkjjdcdaaDoor
set_option linter.unusedVariables false
set_option linter.unusedSimpArgs false
open Go.RowKit Go.PlainAid

theorem zeroC_size (n : Nat) : (Builtin.zeroCells (Value.agg #[.int .i64 0, .int .i64 0]).cells n).size = n * 2 := by simp [Builtin.zeroCells, Value.cells]
theorem grow09 (n : Nat) (w : World) (hn : n ≤ 100000) : Calls Tryd.prog 69 #[.slice none 0 0, .int .i64 n] w fun e w' => ∃ v, e = .returned v ∧ OwnV 2 31 w.heap.size w' v 0 (fun _ => .int .i64 0) ∧ (∃ A c, v = .slice A 0 c) ∧ Below w.heap.size w w' := by
  by_cases h0 : n = 0
  · subst h0
    refine (Any8.slices_Grow_room Tryd.growF none 0 0 0 w (by omega) (by omega) (by omega) (by omega)).mono ?_
    rintro e w' ⟨rfl, rfl⟩
    exact ⟨_, rfl, OwnV.nil _ _ _ _ _, ⟨none, 0, rfl⟩, Below.refl _ _⟩
  · obtain ⟨i0, hi, hz0, hz1, hz2⟩ := info_parts flt09_info
    refine (Any8.slices_Grow_grow Tryd.growF i0 _ hi hz0 (by omega) none 0 0 n [] w (by omega) (by omega) (by rw [hz2]; omega) (by omega) (by simp) (fun _ => rfl) (fun a e => by cases e)).mono ?_
    rintro e w' ⟨rfl, rfl⟩
    have hG := grownCap_ge w (0 + n) 0 31
    have hM := grownCap_le_maxLen w (0 + n) 0 31 (by simp only [maxLen]; omega)
    refine ⟨_, rfl, ?_, ⟨_, _, rfl⟩, (Below.refl _ _).drew.alloc (Nat.le_refl _) _⟩
    unfold OwnV World.ownsRow
    refine ⟨by simp [rowV], .inr ⟨w.heap.size, _, _, rfl, Nat.le_refl _, heap_alloc_new w.drew _, Nat.zero_le _, hM, ?_, by simp [rowV]⟩⟩
    simp only [Array.size_append, zeroC_size]
    have h3 : ∀ G, 0 + n ≤ G → 0 + (0 + n - 0) * 2 + (G - (0 + n)) * 2 = G * 2 := fun G h => by omega
    exact h3 _ hG
set_option maxRecDepth 20000 in
set_option maxHeartbeats 3200000 in
theorem concat09 (b0 : Nat) (A C : Option Addr) (n c m d : Nat) (f g p r : Nat → Int) (w : World) (c0 : w.cell? ⟨b0, 0, none⟩ = some (.slice A n c)) (c1 : w.cell? ⟨b0, 1, none⟩ = some (.slice C m d)) (ha : Rd2 w A n c f g) (hb : Rd2 w C m d p r) (hnm : n + m ≤ 100000) :
    Calls Tryd.prog 46 #[.slice (some ⟨b0, 0, none⟩) 2 2] w fun e w' => ∃ A' c', e = .returned (.slice A' (n + m) c') ∧ Rd2 w' A' (n + m) c' (catF n f p) (catF n g r) ∧ Below w.heap.size w w' := by
  obtain ⟨i0, hi, hz0, hz1, hz2⟩ := info_parts flt09_info
  have Ha := hide ha
  have Hb := hide hb
  have K0 := hide c0
  have K1 := hide c1
  have ew : IntKind.i64.wrap ((n : Int) + (m : Int)) = ((n + m : Nat) : Int) := by rw [IntWalk.i64_in _ (by omega)]; omega
  have ew0 : IntKind.i64.wrap ((0 : Int) + (n : Int)) = (n : Int) := by rw [IntWalk.i64_in _ (by omega)]; omega
  have en : decide ((n : Int) < 0) = false := decide_eq_false (by omega)
  have em : decide (((n + m : Nat) : Int) < 0) = false := decide_eq_false (by omega)
  clear ha hb
  go_enter Tryd.func46, Tryd.ntmps46
  go_wp2_with fail
  go_loopw [3, 5, 11] (fun s _ i wr => wr = w ∧ ((i = .int .i64 0 ∧ s = .int .i64 0) ∨ (i = .int .i64 1 ∧ s = .int .i64 n) ∨ (i = .int .i64 2 ∧ s = .int .i64 ((n + m : Nat) : Int)))) (fun _ _ i _ => 2 - (intOf i).toNat)
  case atStart => exact ⟨rfl, .inl ⟨rfl, rfl⟩⟩
  case round =>
    obtain ⟨rfl, ⟨rfl, rfl⟩ | ⟨rfl, rfl⟩ | ⟨rfl, rfl⟩⟩ := hrel
    · go_wp2_with fail
      exact ⟨⟨(by first | rfl | trivial), .inr (.inl ⟨rfl, rfl⟩)⟩, by simp [intOf]⟩
    · go_wp2_with fail
      exact ⟨⟨(by first | rfl | trivial), .inr (.inr ⟨rfl, rfl⟩)⟩, by simp [intOf]⟩
    · go_wp2_with fail
      have KG := grow09 (n + m) wr hnm
      rw [Int.natCast_add] at KG
      refine KG.mono ?_
      rintro e w1 ⟨v0, rfl, ho1, ⟨A1, c1', rfl⟩, hb1⟩
      have HB1 := hide hb1
      have HO1 := hide ho1
      clear ho1 hb1 KG
      go_wp2_with fail
      go_loopw [6, 8, 27] (fun v _ i wr2 => Below wr.heap.size wr wr2 ∧ ((i = .int .i64 0 ∧ OwnV 2 31 wr.heap.size wr2 v 0 (fun _ => .int .i64 0)) ∨ (i = .int .i64 1 ∧ OwnV 2 31 wr.heap.size wr2 v n (pr f g)) ∨ (i = .int .i64 2 ∧ OwnV 2 31 wr.heap.size wr2 v (n + m) (pr (catF n f p) (catF n g r))))) (fun _ _ i _ => 2 - (intOf i).toNat)
      case atStart => exact ⟨HB1.out, .inl ⟨rfl, HO1.out⟩⟩
      case round =>
        obtain ⟨hB, ⟨rfl, hO⟩ | ⟨rfl, hO⟩ | ⟨rfl, hO⟩⟩ := hrel
        · have HB := hide hB
          have HO := hide hO
          have hsz := hB.size
          have k0 := (hB.cell (World.block_lt_of_cell? _ _ K0.out)).trans K0.out
          clear hB hO
          go_wp2_with (at_builtin; refine wp_appV rfl (.tmp 31) (.tmp 32) _ rfl 2 i0 _ 16 Tryd.underlying29 hi hz0 hz1 hz2 rfl (by omega) _ _ 0 _ rfl HO.out _ n c _ rfl (rdV_of_rd2 (Ha.out.below HB.out)) (pr_one _ _ _) (by simp only [maxLen]; omega) (by omega) hsz ?_; intro v3 w3 hown3 hg3 _)
          have HB3 := hide (HB.out.grown hg3 hsz (ownB09 HO.out))
          rw [Nat.zero_add] at hown3
          have HO3 := hide (hown3.congr (G := pr f g) (fun i hi => by simp [catV]))
          clear hown3 hg3
          go_wp2_with fail
          exact ⟨⟨HB3.out, .inr (.inl ⟨rfl, HO3.out⟩)⟩, by simp [intOf]⟩
        · have HB := hide hB
          have HO := hide hO
          have hsz := hB.size
          have k1 := (hB.cell (World.block_lt_of_cell? _ _ K1.out)).trans K1.out
          clear hB hO
          go_wp2_with (at_builtin; refine wp_appV rfl (.tmp 31) (.tmp 32) _ rfl 2 i0 _ 16 Tryd.underlying29 hi hz0 hz1 hz2 rfl (by omega) _ _ n _ rfl HO.out _ m d _ rfl (rdV_of_rd2 (Hb.out.below HB.out)) (pr_one _ _ _) (by simp only [maxLen]; omega) (by omega) hsz ?_; intro v3 w3 hown3 hg3 _)
          have HB3 := hide (HB.out.grown hg3 hsz (ownB09 HO.out))
          rw [pr_cat] at hown3
          have HO3 := hide hown3
          clear hown3 hg3
          go_wp2_with fail
          exact ⟨⟨HB3.out, .inr (.inr ⟨rfl, HO3.out⟩)⟩, by simp [intOf]⟩
        · have HB := hide hB
          obtain ⟨A2, c2, rfl, hr2, _⟩ := hO.rd
          have HR := hide (rd2_of_rdV hr2)
          clear hO hB hr2
          go_wp2_with fail
          go_ret
          exact ⟨A2, c2, rfl, HR.out, HB.out⟩
end Go.Proofs.YtbkdegjkjjdcdaaDoor
