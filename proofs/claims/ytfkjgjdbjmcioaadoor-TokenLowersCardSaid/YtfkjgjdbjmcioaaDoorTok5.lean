/- Layer 25: the chapter's examples; the walks of TokenNames and TokenValues. -/
import Derived.Test.YtfkjgjdbjmcioaaDoorTok4
namespace Go.Proofs.YtfkjgjdbjmcioaaDoor
open Go.RowKit Go.PlainAid

theorem name_pse {s : ByteArray} (h : nameB s = true) : pseB s = false := by
  have h1 := of_decide_eq_true h
  have h2 := h1.2 0 h1.1
  have h3 := of_decide_eq_true h2
  simp only [pseB]
  rw [show decide (0 < s.size ∧ bt s 0 = 58) = false from decide_eq_false fun hh => h3.2.2.1 hh.2]
  rfl
theorem ex_host : nameB ⟨#[72, 111, 115, 116]⟩ = false := name_no (k := 0) (by decide) (by decide +kernel)
theorem ex_ab : valB ⟨#[97, 32, 98]⟩ = true := by decide +kernel
theorem ex_a : valB ⟨#[97, 32]⟩ = false := by decide +kernel
theorem alive25 (w : World) : Calls Tryd.prog 30 #[] w fun e w' => e = .returned (.bool true) ∧ w = w' := by
  go_enter Tryd.func30, Tryd.ntmps30
  go_wp2_with fail
  refine (name_any _ _ (by decide)).mono ?_
  rintro e w' ⟨rfl, rfl⟩
  rw [ex_host]
  go_wp2_with fail
  refine (value_any _ _ (by decide)).mono ?_
  rintro e w' ⟨rfl, rfl⟩
  rw [ex_ab]
  go_wp2_with fail
  refine (value_any _ _ (by decide)).mono ?_
  rintro e w' ⟨rfl, rfl⟩
  rw [ex_a]
  go_wp2_with fail
  go_ret
  exact ⟨rfl, rfl⟩
theorem row3 {w : World} {b : Nat} {T : TypeId} {v0 v1 v2 : Value} (h : w.heap[b]? = some (.cells #[v0, v1, v2] T (0, 0))) : w.cell? ⟨b, 0, none⟩ = some v0 ∧ w.cell? ⟨b, 1, none⟩ = some v1 ∧ w.cell? ⟨b, 2, none⟩ = some v2 := by
  refine ⟨?_, ?_, ?_⟩
  · rw [cell_of_row w b 0 _ _ _ h]; rfl
  · rw [cell_of_row w b 1 _ _ _ h]; rfl
  · rw [cell_of_row w b 2 _ _ _ h]; rfl
end Go.Proofs.YtfkjgjdbjmcioaaDoor
