/- Layer 21: a table that is not there; a copy. -/
import Derived.Test.YteikpdolickkaaaDz7
namespace Go.Proofs.Yteikpdolickkaaa
open Go.RowKit Go.Deep Go.ChangeShapes Go.WideShapes

theorem addNil21 (a b : ByteArray) (c : Bool) (w : World) : Calls Try.prog 24 #[.pointer none, .agg #[.string a, .string b, .bool c]] w fun e w' => e = .returned (.tuple #[]) ∧ Below w.heap.size w w' := by
  have E := hide ((Below.refl w.heap.size w).alloc (Nat.le_refl _) (.cells #[.string a, .string b, .bool c] 52))
  go_enter Try.func24, Try.ntmps24
  go_wp2_with fail
  refine bodyPost_ret (results_none rfl _ _ _) rfl ?_
  exact ⟨rfl, E.out⟩
theorem resizeNil21 (x : Int) (w : World) : Calls Try.prog 26 #[.pointer none, .int .i64 x] w fun e w' => e = .returned (.int .i64 2) ∧ w = w' := by
  go_enter Try.func26, Try.ntmps26
  go_wp2
  go_ret
  exact ⟨rfl, rfl⟩
theorem lenNil21 (w : World) : Calls Try.prog 35 #[.pointer none] w fun e w' => e = .returned (.int .i64 0) ∧ w = w' := by
  go_enter Try.func35, Try.ntmps35
  go_wp2
  go_ret
  exact ⟨rfl, rfl⟩
theorem sizeNil21 (w : World) : Calls Try.prog 33 #[.pointer none] w fun e w' => e = .returned (.int .i64 0) ∧ w = w' := by
  go_enter Try.func33, Try.ntmps33
  go_wp2
  go_ret
  exact ⟨rfl, rfl⟩
theorem maxNil21 (w : World) : Calls Try.prog 31 #[.pointer none] w fun e w' => e = .returned (.int .i64 0) ∧ w = w' := by
  go_enter Try.func31, Try.ntmps31
  go_wp2
  go_ret
  exact ⟨rfl, rfl⟩
theorem copyNil21 (w : World) : Calls Try.prog 34 #[.pointer none] w fun e w' => e = .returned (.pointer none) ∧ w = w' := by
  go_enter Try.func34, Try.ntmps34
  go_wp2
  go_ret
  exact ⟨rfl, rfl⟩
theorem allNil21 (w : World) : Calls Try.prog 32 #[.pointer none] w fun e w' => e = .returned (.slice none 0 0) ∧ w = w' := by
  go_enter Try.func32, Try.ntmps32
  go_wp2
  go_ret
  exact ⟨rfl, rfl⟩
set_option maxRecDepth 20000 in
theorem atNil21 (w : World) : Calls Try.prog 29 #[.pointer none, .int .i64 1] w fun e w' => e = .returned (.tuple #[.agg #[.string ⟨#[]⟩, .string ⟨#[]⟩, .bool false], .bool false]) ∧ Below w.heap.size w w' := by
  have R := heap_alloc_new w (.cells #[.string ⟨#[]⟩, .string ⟨#[]⟩, .bool false] 52)
  obtain ⟨c0, c1, c2⟩ := rowT R
  clear R
  go_enter Try.func29, Try.ntmps29
  go_wp2_with fail
  refine (lenNil21 _).mono ?_
  rintro e w0 ⟨rfl, rfl⟩
  go_wp2_with fail
  refine bodyPost_ret (v := .tuple #[.agg #[.string ⟨#[]⟩, .string ⟨#[]⟩, .bool false], .bool false]) ?_ rfl ⟨rfl, ?_⟩
  · rw [results_cell_tmp rfl]
    go_simp
  · go_grown
set_option maxRecDepth 20000 in
set_option maxHeartbeats 1600000 in
theorem copy21 {B : Nat} {w : World} {p : Nat} {g : Option Nat} {n max : Nat} {F : Nat → Fd} (h : TOk B w p g n max F) (hn : n ≤ 1000) :
    Calls Try.prog 34 #[.pointer (some ⟨p, 0, none⟩)] w fun e w' => ∃ p' g', e = .returned (.pointer (some ⟨p', 0, none⟩)) ∧ TOk w.heap.size w' p' g' n max F ∧ Below w.heap.size w w' := by
  obtain ⟨A, c, h1, h2, h3⟩ := h.row
  obtain ⟨c0, c1, c2⟩ := rowT h1
  have Hr := hide h3.rdS
  have hmx := h.mx
  have HW := hide h.wl
  have H1 := hide h1
  clear h1 h2 h3 h
  obtain ⟨S, hS⟩ : ∃ S : Int, S = (sumW F n : Int) := ⟨_, rfl⟩
  have HS := hide hS
  rw [← hS] at c1
  clear hS
  go_enter Try.func34, Try.ntmps34
  go_wp2_with fail
  go_region_held3 (fun W => W.cell? ⟨p, 0, none⟩ = some (.slice A n c) ∧ W.cell? ⟨p, 1, none⟩ = some (.int .i64 S) ∧ W.cell? ⟨p, 2, none⟩ = some (.int .i64 (max : Int)))
    ((first | exact ⟨c0, c1, c2⟩ | exact S1.out | (go_keep; done)))
    ((first
      | (go_at_call 105; (with_reducible refine (cloneF21 A n c F _ (Hr.out.below36O (Below.refl _ _).drew) hn).mono ?_); rintro e w1 ⟨v, rfl, ho, hb1⟩; obtain ⟨A1, c1', rfl, _, _⟩ := ho.rd; have HO := hide ho; have Hb : Hid (Below w.heap.size w w1) := (Below.refl w.heap.size w).drew.of hb1; have S1 := hide (And.intro ((hb1.cell (World.block_lt_of_cell? w _ c0)).trans c0) (And.intro ((hb1.cell (World.block_lt_of_cell? w _ c1)).trans c1) ((hb1.cell (World.block_lt_of_cell? w _ c2)).trans c2))))))
  all_goals
    go_wp2_with fail
    go_ret
    refine ⟨w1.heap.size, (Value.slice A1 n c1').ownBlock, rfl, ⟨⟨_, ?_, rfl, (HO.out.toO.base (Nat.le_refl _)).below ((Below.refl _ _).alloc (Nat.le_refl _) _)⟩, Hb.out.size, fun e => ?_, hmx, HW.out⟩, Hb.out.alloc Hb.out.size _⟩
    · rw [← HS.out]
      exact heap_alloc_new w1 _
    · have := (World.ownsRow.lt HO.out _ e).2
      omega
end Go.Proofs.Yteikpdolickkaaa
