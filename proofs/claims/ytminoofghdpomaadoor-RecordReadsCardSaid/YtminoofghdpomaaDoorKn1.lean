/- Layer 8: the names of types; the document's Name. -/
import Derived.Test.YtminoofghdpomaaDoorTx3
namespace Go.Proofs.YtminoofghdpomaaDoor
set_option linter.unusedVariables false
set_option linter.unusedSimpArgs false
open Go.RowKit Go.PlainAid

def nmL : List ByteArray := [⟨#[68, 65, 84, 65]⟩, ⟨#[72, 69, 65, 68, 69, 82, 83]⟩, ⟨#[80, 82, 73, 79, 82, 73, 84, 89]⟩, ⟨#[82, 83, 84, 95, 83, 84, 82, 69, 65, 77]⟩, ⟨#[83, 69, 84, 84, 73, 78, 71, 83]⟩, ⟨#[80, 85, 83, 72, 95, 80, 82, 79, 77, 73, 83, 69]⟩, ⟨#[80, 73, 78, 71]⟩, ⟨#[71, 79, 65, 87, 65, 89]⟩, ⟨#[87, 73, 78, 68, 79, 87, 95, 85, 80, 68, 65, 84, 69]⟩, ⟨#[67, 79, 78, 84, 73, 78, 85, 65, 84, 73, 79, 78]⟩]
def nmP : ByteArray := ⟨#[80, 82, 69, 70, 65, 67, 69]⟩
/-- A type's name. -/
def nameT (t : Int) : ByteArray := if t = -1 then nmP else if t < 0 ∨ 255 < t then ⟨#[]⟩ else if t < 10 then nmL.getD t.toNat ⟨#[]⟩ else ⟨#[84, 89, 80, 69, 95]⟩ ++ decS t.toNat
theorem nameT_other {t : Int} (h : t ≠ -1) (h2 : t < 0 ∨ 255 < t) : nameT t = ⟨#[]⟩ := by unfold nameT; rw [if_neg h, if_pos h2]
theorem nameT_known {t : Int} (h : 0 ≤ t) (h2 : t < 10) : nameT t = nmL.getD t.toNat ⟨#[]⟩ := by unfold nameT; rw [if_neg (by omega), if_neg (by omega), if_pos h2]
theorem nameT_more {t : Int} (h : 10 ≤ t) (h2 : t ≤ 255) : nameT t = ⟨#[84, 89, 80, 69, 95]⟩ ++ decS t.toNat := by unfold nameT; rw [if_neg (by omega), if_neg (by omega), if_neg (by omega)]
theorem at10 {t : Int} (h : 0 ≤ t) (h2 : t < 10) : t = 0 ∨ t = 1 ∨ t = 2 ∨ t = 3 ∨ t = 4 ∨ t = 5 ∨ t = 6 ∨ t = 7 ∨ t = 8 ∨ t = 9 := by omega
set_option maxRecDepth 20000 in
theorem rnames08 (w : World) : Calls Tryd.prog 44 #[] w fun e w' => e = .returned (.slice (some ⟨w.heap.size, 0, none⟩) 10 10) ∧ w' = w.alloc (.cells #[.string ⟨#[68, 65, 84, 65]⟩, .string ⟨#[72, 69, 65, 68, 69, 82, 83]⟩, .string ⟨#[80, 82, 73, 79, 82, 73, 84, 89]⟩, .string ⟨#[82, 83, 84, 95, 83, 84, 82, 69, 65, 77]⟩, .string ⟨#[83, 69, 84, 84, 73, 78, 71, 83]⟩, .string ⟨#[80, 85, 83, 72, 95, 80, 82, 79, 77, 73, 83, 69]⟩, .string ⟨#[80, 73, 78, 71]⟩, .string ⟨#[71, 79, 65, 87, 65, 89]⟩, .string ⟨#[87, 73, 78, 68, 79, 87, 95, 85, 80, 68, 65, 84, 69]⟩, .string ⟨#[67, 79, 78, 84, 73, 78, 85, 65, 84, 73, 79, 78]⟩] 9) := by
  go_enter Tryd.func44, Tryd.ntmps44
  go_wp2_with fail
  go_ret
  exact ⟨rfl, rfl⟩
set_option maxRecDepth 20000 in
set_option maxHeartbeats 800000 in
theorem rname08_0 (w : World) : Calls Tryd.prog 28 #[.int .i64 0] w fun e w' => e = .returned (.string ⟨#[68, 65, 84, 65]⟩) ∧ Below w.heap.size w w' := by
  have al := hide ((Below.refl w.heap.size w).alloc (Nat.le_refl _) (.cells #[.string ⟨#[68, 65, 84, 65]⟩, .string ⟨#[72, 69, 65, 68, 69, 82, 83]⟩, .string ⟨#[80, 82, 73, 79, 82, 73, 84, 89]⟩, .string ⟨#[82, 83, 84, 95, 83, 84, 82, 69, 65, 77]⟩, .string ⟨#[83, 69, 84, 84, 73, 78, 71, 83]⟩, .string ⟨#[80, 85, 83, 72, 95, 80, 82, 79, 77, 73, 83, 69]⟩, .string ⟨#[80, 73, 78, 71]⟩, .string ⟨#[71, 79, 65, 87, 65, 89]⟩, .string ⟨#[87, 73, 78, 68, 79, 87, 95, 85, 80, 68, 65, 84, 69]⟩, .string ⟨#[67, 79, 78, 84, 73, 78, 85, 65, 84, 73, 79, 78]⟩] 9))
  have R := heap_alloc_new w (.cells #[.string ⟨#[68, 65, 84, 65]⟩, .string ⟨#[72, 69, 65, 68, 69, 82, 83]⟩, .string ⟨#[80, 82, 73, 79, 82, 73, 84, 89]⟩, .string ⟨#[82, 83, 84, 95, 83, 84, 82, 69, 65, 77]⟩, .string ⟨#[83, 69, 84, 84, 73, 78, 71, 83]⟩, .string ⟨#[80, 85, 83, 72, 95, 80, 82, 79, 77, 73, 83, 69]⟩, .string ⟨#[80, 73, 78, 71]⟩, .string ⟨#[71, 79, 65, 87, 65, 89]⟩, .string ⟨#[87, 73, 78, 68, 79, 87, 95, 85, 80, 68, 65, 84, 69]⟩, .string ⟨#[67, 79, 78, 84, 73, 78, 85, 65, 84, 73, 79, 78]⟩] 9)
  have c0 : (w.alloc (.cells #[.string ⟨#[68, 65, 84, 65]⟩, .string ⟨#[72, 69, 65, 68, 69, 82, 83]⟩, .string ⟨#[80, 82, 73, 79, 82, 73, 84, 89]⟩, .string ⟨#[82, 83, 84, 95, 83, 84, 82, 69, 65, 77]⟩, .string ⟨#[83, 69, 84, 84, 73, 78, 71, 83]⟩, .string ⟨#[80, 85, 83, 72, 95, 80, 82, 79, 77, 73, 83, 69]⟩, .string ⟨#[80, 73, 78, 71]⟩, .string ⟨#[71, 79, 65, 87, 65, 89]⟩, .string ⟨#[87, 73, 78, 68, 79, 87, 95, 85, 80, 68, 65, 84, 69]⟩, .string ⟨#[67, 79, 78, 84, 73, 78, 85, 65, 84, 73, 79, 78]⟩] 9)).cell? ⟨w.heap.size, 0, none⟩ = some (.string ⟨#[68, 65, 84, 65]⟩) := by
    unfold World.cell?
    simp only
    rw [R]
    rfl
  clear R
  go_enter Tryd.func28, Tryd.ntmps28
  go_wp2_with fail
  refine (rnames08 _).mono ?_
  rintro e w1 ⟨rfl, rfl⟩
  go_wp2_with fail
  go_ret
  exact ⟨rfl, al.out⟩
set_option maxRecDepth 20000 in
set_option maxHeartbeats 800000 in
theorem rname08_1 (w : World) : Calls Tryd.prog 28 #[.int .i64 1] w fun e w' => e = .returned (.string ⟨#[72, 69, 65, 68, 69, 82, 83]⟩) ∧ Below w.heap.size w w' := by
  have al := hide ((Below.refl w.heap.size w).alloc (Nat.le_refl _) (.cells #[.string ⟨#[68, 65, 84, 65]⟩, .string ⟨#[72, 69, 65, 68, 69, 82, 83]⟩, .string ⟨#[80, 82, 73, 79, 82, 73, 84, 89]⟩, .string ⟨#[82, 83, 84, 95, 83, 84, 82, 69, 65, 77]⟩, .string ⟨#[83, 69, 84, 84, 73, 78, 71, 83]⟩, .string ⟨#[80, 85, 83, 72, 95, 80, 82, 79, 77, 73, 83, 69]⟩, .string ⟨#[80, 73, 78, 71]⟩, .string ⟨#[71, 79, 65, 87, 65, 89]⟩, .string ⟨#[87, 73, 78, 68, 79, 87, 95, 85, 80, 68, 65, 84, 69]⟩, .string ⟨#[67, 79, 78, 84, 73, 78, 85, 65, 84, 73, 79, 78]⟩] 9))
  have R := heap_alloc_new w (.cells #[.string ⟨#[68, 65, 84, 65]⟩, .string ⟨#[72, 69, 65, 68, 69, 82, 83]⟩, .string ⟨#[80, 82, 73, 79, 82, 73, 84, 89]⟩, .string ⟨#[82, 83, 84, 95, 83, 84, 82, 69, 65, 77]⟩, .string ⟨#[83, 69, 84, 84, 73, 78, 71, 83]⟩, .string ⟨#[80, 85, 83, 72, 95, 80, 82, 79, 77, 73, 83, 69]⟩, .string ⟨#[80, 73, 78, 71]⟩, .string ⟨#[71, 79, 65, 87, 65, 89]⟩, .string ⟨#[87, 73, 78, 68, 79, 87, 95, 85, 80, 68, 65, 84, 69]⟩, .string ⟨#[67, 79, 78, 84, 73, 78, 85, 65, 84, 73, 79, 78]⟩] 9)
  have c0 : (w.alloc (.cells #[.string ⟨#[68, 65, 84, 65]⟩, .string ⟨#[72, 69, 65, 68, 69, 82, 83]⟩, .string ⟨#[80, 82, 73, 79, 82, 73, 84, 89]⟩, .string ⟨#[82, 83, 84, 95, 83, 84, 82, 69, 65, 77]⟩, .string ⟨#[83, 69, 84, 84, 73, 78, 71, 83]⟩, .string ⟨#[80, 85, 83, 72, 95, 80, 82, 79, 77, 73, 83, 69]⟩, .string ⟨#[80, 73, 78, 71]⟩, .string ⟨#[71, 79, 65, 87, 65, 89]⟩, .string ⟨#[87, 73, 78, 68, 79, 87, 95, 85, 80, 68, 65, 84, 69]⟩, .string ⟨#[67, 79, 78, 84, 73, 78, 85, 65, 84, 73, 79, 78]⟩] 9)).cell? ⟨w.heap.size, 1, none⟩ = some (.string ⟨#[72, 69, 65, 68, 69, 82, 83]⟩) := by
    unfold World.cell?
    simp only
    rw [R]
    rfl
  clear R
  go_enter Tryd.func28, Tryd.ntmps28
  go_wp2_with fail
  refine (rnames08 _).mono ?_
  rintro e w1 ⟨rfl, rfl⟩
  go_wp2_with fail
  go_ret
  exact ⟨rfl, al.out⟩
set_option maxRecDepth 20000 in
set_option maxHeartbeats 800000 in
theorem rname08_2 (w : World) : Calls Tryd.prog 28 #[.int .i64 2] w fun e w' => e = .returned (.string ⟨#[80, 82, 73, 79, 82, 73, 84, 89]⟩) ∧ Below w.heap.size w w' := by
  have al := hide ((Below.refl w.heap.size w).alloc (Nat.le_refl _) (.cells #[.string ⟨#[68, 65, 84, 65]⟩, .string ⟨#[72, 69, 65, 68, 69, 82, 83]⟩, .string ⟨#[80, 82, 73, 79, 82, 73, 84, 89]⟩, .string ⟨#[82, 83, 84, 95, 83, 84, 82, 69, 65, 77]⟩, .string ⟨#[83, 69, 84, 84, 73, 78, 71, 83]⟩, .string ⟨#[80, 85, 83, 72, 95, 80, 82, 79, 77, 73, 83, 69]⟩, .string ⟨#[80, 73, 78, 71]⟩, .string ⟨#[71, 79, 65, 87, 65, 89]⟩, .string ⟨#[87, 73, 78, 68, 79, 87, 95, 85, 80, 68, 65, 84, 69]⟩, .string ⟨#[67, 79, 78, 84, 73, 78, 85, 65, 84, 73, 79, 78]⟩] 9))
  have R := heap_alloc_new w (.cells #[.string ⟨#[68, 65, 84, 65]⟩, .string ⟨#[72, 69, 65, 68, 69, 82, 83]⟩, .string ⟨#[80, 82, 73, 79, 82, 73, 84, 89]⟩, .string ⟨#[82, 83, 84, 95, 83, 84, 82, 69, 65, 77]⟩, .string ⟨#[83, 69, 84, 84, 73, 78, 71, 83]⟩, .string ⟨#[80, 85, 83, 72, 95, 80, 82, 79, 77, 73, 83, 69]⟩, .string ⟨#[80, 73, 78, 71]⟩, .string ⟨#[71, 79, 65, 87, 65, 89]⟩, .string ⟨#[87, 73, 78, 68, 79, 87, 95, 85, 80, 68, 65, 84, 69]⟩, .string ⟨#[67, 79, 78, 84, 73, 78, 85, 65, 84, 73, 79, 78]⟩] 9)
  have c0 : (w.alloc (.cells #[.string ⟨#[68, 65, 84, 65]⟩, .string ⟨#[72, 69, 65, 68, 69, 82, 83]⟩, .string ⟨#[80, 82, 73, 79, 82, 73, 84, 89]⟩, .string ⟨#[82, 83, 84, 95, 83, 84, 82, 69, 65, 77]⟩, .string ⟨#[83, 69, 84, 84, 73, 78, 71, 83]⟩, .string ⟨#[80, 85, 83, 72, 95, 80, 82, 79, 77, 73, 83, 69]⟩, .string ⟨#[80, 73, 78, 71]⟩, .string ⟨#[71, 79, 65, 87, 65, 89]⟩, .string ⟨#[87, 73, 78, 68, 79, 87, 95, 85, 80, 68, 65, 84, 69]⟩, .string ⟨#[67, 79, 78, 84, 73, 78, 85, 65, 84, 73, 79, 78]⟩] 9)).cell? ⟨w.heap.size, 2, none⟩ = some (.string ⟨#[80, 82, 73, 79, 82, 73, 84, 89]⟩) := by
    unfold World.cell?
    simp only
    rw [R]
    rfl
  clear R
  go_enter Tryd.func28, Tryd.ntmps28
  go_wp2_with fail
  refine (rnames08 _).mono ?_
  rintro e w1 ⟨rfl, rfl⟩
  go_wp2_with fail
  go_ret
  exact ⟨rfl, al.out⟩
set_option maxRecDepth 20000 in
set_option maxHeartbeats 800000 in
theorem rname08_3 (w : World) : Calls Tryd.prog 28 #[.int .i64 3] w fun e w' => e = .returned (.string ⟨#[82, 83, 84, 95, 83, 84, 82, 69, 65, 77]⟩) ∧ Below w.heap.size w w' := by
  have al := hide ((Below.refl w.heap.size w).alloc (Nat.le_refl _) (.cells #[.string ⟨#[68, 65, 84, 65]⟩, .string ⟨#[72, 69, 65, 68, 69, 82, 83]⟩, .string ⟨#[80, 82, 73, 79, 82, 73, 84, 89]⟩, .string ⟨#[82, 83, 84, 95, 83, 84, 82, 69, 65, 77]⟩, .string ⟨#[83, 69, 84, 84, 73, 78, 71, 83]⟩, .string ⟨#[80, 85, 83, 72, 95, 80, 82, 79, 77, 73, 83, 69]⟩, .string ⟨#[80, 73, 78, 71]⟩, .string ⟨#[71, 79, 65, 87, 65, 89]⟩, .string ⟨#[87, 73, 78, 68, 79, 87, 95, 85, 80, 68, 65, 84, 69]⟩, .string ⟨#[67, 79, 78, 84, 73, 78, 85, 65, 84, 73, 79, 78]⟩] 9))
  have R := heap_alloc_new w (.cells #[.string ⟨#[68, 65, 84, 65]⟩, .string ⟨#[72, 69, 65, 68, 69, 82, 83]⟩, .string ⟨#[80, 82, 73, 79, 82, 73, 84, 89]⟩, .string ⟨#[82, 83, 84, 95, 83, 84, 82, 69, 65, 77]⟩, .string ⟨#[83, 69, 84, 84, 73, 78, 71, 83]⟩, .string ⟨#[80, 85, 83, 72, 95, 80, 82, 79, 77, 73, 83, 69]⟩, .string ⟨#[80, 73, 78, 71]⟩, .string ⟨#[71, 79, 65, 87, 65, 89]⟩, .string ⟨#[87, 73, 78, 68, 79, 87, 95, 85, 80, 68, 65, 84, 69]⟩, .string ⟨#[67, 79, 78, 84, 73, 78, 85, 65, 84, 73, 79, 78]⟩] 9)
  have c0 : (w.alloc (.cells #[.string ⟨#[68, 65, 84, 65]⟩, .string ⟨#[72, 69, 65, 68, 69, 82, 83]⟩, .string ⟨#[80, 82, 73, 79, 82, 73, 84, 89]⟩, .string ⟨#[82, 83, 84, 95, 83, 84, 82, 69, 65, 77]⟩, .string ⟨#[83, 69, 84, 84, 73, 78, 71, 83]⟩, .string ⟨#[80, 85, 83, 72, 95, 80, 82, 79, 77, 73, 83, 69]⟩, .string ⟨#[80, 73, 78, 71]⟩, .string ⟨#[71, 79, 65, 87, 65, 89]⟩, .string ⟨#[87, 73, 78, 68, 79, 87, 95, 85, 80, 68, 65, 84, 69]⟩, .string ⟨#[67, 79, 78, 84, 73, 78, 85, 65, 84, 73, 79, 78]⟩] 9)).cell? ⟨w.heap.size, 3, none⟩ = some (.string ⟨#[82, 83, 84, 95, 83, 84, 82, 69, 65, 77]⟩) := by
    unfold World.cell?
    simp only
    rw [R]
    rfl
  clear R
  go_enter Tryd.func28, Tryd.ntmps28
  go_wp2_with fail
  refine (rnames08 _).mono ?_
  rintro e w1 ⟨rfl, rfl⟩
  go_wp2_with fail
  go_ret
  exact ⟨rfl, al.out⟩
set_option maxRecDepth 20000 in
set_option maxHeartbeats 800000 in
theorem rname08_4 (w : World) : Calls Tryd.prog 28 #[.int .i64 4] w fun e w' => e = .returned (.string ⟨#[83, 69, 84, 84, 73, 78, 71, 83]⟩) ∧ Below w.heap.size w w' := by
  have al := hide ((Below.refl w.heap.size w).alloc (Nat.le_refl _) (.cells #[.string ⟨#[68, 65, 84, 65]⟩, .string ⟨#[72, 69, 65, 68, 69, 82, 83]⟩, .string ⟨#[80, 82, 73, 79, 82, 73, 84, 89]⟩, .string ⟨#[82, 83, 84, 95, 83, 84, 82, 69, 65, 77]⟩, .string ⟨#[83, 69, 84, 84, 73, 78, 71, 83]⟩, .string ⟨#[80, 85, 83, 72, 95, 80, 82, 79, 77, 73, 83, 69]⟩, .string ⟨#[80, 73, 78, 71]⟩, .string ⟨#[71, 79, 65, 87, 65, 89]⟩, .string ⟨#[87, 73, 78, 68, 79, 87, 95, 85, 80, 68, 65, 84, 69]⟩, .string ⟨#[67, 79, 78, 84, 73, 78, 85, 65, 84, 73, 79, 78]⟩] 9))
  have R := heap_alloc_new w (.cells #[.string ⟨#[68, 65, 84, 65]⟩, .string ⟨#[72, 69, 65, 68, 69, 82, 83]⟩, .string ⟨#[80, 82, 73, 79, 82, 73, 84, 89]⟩, .string ⟨#[82, 83, 84, 95, 83, 84, 82, 69, 65, 77]⟩, .string ⟨#[83, 69, 84, 84, 73, 78, 71, 83]⟩, .string ⟨#[80, 85, 83, 72, 95, 80, 82, 79, 77, 73, 83, 69]⟩, .string ⟨#[80, 73, 78, 71]⟩, .string ⟨#[71, 79, 65, 87, 65, 89]⟩, .string ⟨#[87, 73, 78, 68, 79, 87, 95, 85, 80, 68, 65, 84, 69]⟩, .string ⟨#[67, 79, 78, 84, 73, 78, 85, 65, 84, 73, 79, 78]⟩] 9)
  have c0 : (w.alloc (.cells #[.string ⟨#[68, 65, 84, 65]⟩, .string ⟨#[72, 69, 65, 68, 69, 82, 83]⟩, .string ⟨#[80, 82, 73, 79, 82, 73, 84, 89]⟩, .string ⟨#[82, 83, 84, 95, 83, 84, 82, 69, 65, 77]⟩, .string ⟨#[83, 69, 84, 84, 73, 78, 71, 83]⟩, .string ⟨#[80, 85, 83, 72, 95, 80, 82, 79, 77, 73, 83, 69]⟩, .string ⟨#[80, 73, 78, 71]⟩, .string ⟨#[71, 79, 65, 87, 65, 89]⟩, .string ⟨#[87, 73, 78, 68, 79, 87, 95, 85, 80, 68, 65, 84, 69]⟩, .string ⟨#[67, 79, 78, 84, 73, 78, 85, 65, 84, 73, 79, 78]⟩] 9)).cell? ⟨w.heap.size, 4, none⟩ = some (.string ⟨#[83, 69, 84, 84, 73, 78, 71, 83]⟩) := by
    unfold World.cell?
    simp only
    rw [R]
    rfl
  clear R
  go_enter Tryd.func28, Tryd.ntmps28
  go_wp2_with fail
  refine (rnames08 _).mono ?_
  rintro e w1 ⟨rfl, rfl⟩
  go_wp2_with fail
  go_ret
  exact ⟨rfl, al.out⟩
set_option maxRecDepth 20000 in
set_option maxHeartbeats 800000 in
theorem rname08_5 (w : World) : Calls Tryd.prog 28 #[.int .i64 5] w fun e w' => e = .returned (.string ⟨#[80, 85, 83, 72, 95, 80, 82, 79, 77, 73, 83, 69]⟩) ∧ Below w.heap.size w w' := by
  have al := hide ((Below.refl w.heap.size w).alloc (Nat.le_refl _) (.cells #[.string ⟨#[68, 65, 84, 65]⟩, .string ⟨#[72, 69, 65, 68, 69, 82, 83]⟩, .string ⟨#[80, 82, 73, 79, 82, 73, 84, 89]⟩, .string ⟨#[82, 83, 84, 95, 83, 84, 82, 69, 65, 77]⟩, .string ⟨#[83, 69, 84, 84, 73, 78, 71, 83]⟩, .string ⟨#[80, 85, 83, 72, 95, 80, 82, 79, 77, 73, 83, 69]⟩, .string ⟨#[80, 73, 78, 71]⟩, .string ⟨#[71, 79, 65, 87, 65, 89]⟩, .string ⟨#[87, 73, 78, 68, 79, 87, 95, 85, 80, 68, 65, 84, 69]⟩, .string ⟨#[67, 79, 78, 84, 73, 78, 85, 65, 84, 73, 79, 78]⟩] 9))
  have R := heap_alloc_new w (.cells #[.string ⟨#[68, 65, 84, 65]⟩, .string ⟨#[72, 69, 65, 68, 69, 82, 83]⟩, .string ⟨#[80, 82, 73, 79, 82, 73, 84, 89]⟩, .string ⟨#[82, 83, 84, 95, 83, 84, 82, 69, 65, 77]⟩, .string ⟨#[83, 69, 84, 84, 73, 78, 71, 83]⟩, .string ⟨#[80, 85, 83, 72, 95, 80, 82, 79, 77, 73, 83, 69]⟩, .string ⟨#[80, 73, 78, 71]⟩, .string ⟨#[71, 79, 65, 87, 65, 89]⟩, .string ⟨#[87, 73, 78, 68, 79, 87, 95, 85, 80, 68, 65, 84, 69]⟩, .string ⟨#[67, 79, 78, 84, 73, 78, 85, 65, 84, 73, 79, 78]⟩] 9)
  have c0 : (w.alloc (.cells #[.string ⟨#[68, 65, 84, 65]⟩, .string ⟨#[72, 69, 65, 68, 69, 82, 83]⟩, .string ⟨#[80, 82, 73, 79, 82, 73, 84, 89]⟩, .string ⟨#[82, 83, 84, 95, 83, 84, 82, 69, 65, 77]⟩, .string ⟨#[83, 69, 84, 84, 73, 78, 71, 83]⟩, .string ⟨#[80, 85, 83, 72, 95, 80, 82, 79, 77, 73, 83, 69]⟩, .string ⟨#[80, 73, 78, 71]⟩, .string ⟨#[71, 79, 65, 87, 65, 89]⟩, .string ⟨#[87, 73, 78, 68, 79, 87, 95, 85, 80, 68, 65, 84, 69]⟩, .string ⟨#[67, 79, 78, 84, 73, 78, 85, 65, 84, 73, 79, 78]⟩] 9)).cell? ⟨w.heap.size, 5, none⟩ = some (.string ⟨#[80, 85, 83, 72, 95, 80, 82, 79, 77, 73, 83, 69]⟩) := by
    unfold World.cell?
    simp only
    rw [R]
    rfl
  clear R
  go_enter Tryd.func28, Tryd.ntmps28
  go_wp2_with fail
  refine (rnames08 _).mono ?_
  rintro e w1 ⟨rfl, rfl⟩
  go_wp2_with fail
  go_ret
  exact ⟨rfl, al.out⟩
set_option maxRecDepth 20000 in
set_option maxHeartbeats 800000 in
theorem rname08_6 (w : World) : Calls Tryd.prog 28 #[.int .i64 6] w fun e w' => e = .returned (.string ⟨#[80, 73, 78, 71]⟩) ∧ Below w.heap.size w w' := by
  have al := hide ((Below.refl w.heap.size w).alloc (Nat.le_refl _) (.cells #[.string ⟨#[68, 65, 84, 65]⟩, .string ⟨#[72, 69, 65, 68, 69, 82, 83]⟩, .string ⟨#[80, 82, 73, 79, 82, 73, 84, 89]⟩, .string ⟨#[82, 83, 84, 95, 83, 84, 82, 69, 65, 77]⟩, .string ⟨#[83, 69, 84, 84, 73, 78, 71, 83]⟩, .string ⟨#[80, 85, 83, 72, 95, 80, 82, 79, 77, 73, 83, 69]⟩, .string ⟨#[80, 73, 78, 71]⟩, .string ⟨#[71, 79, 65, 87, 65, 89]⟩, .string ⟨#[87, 73, 78, 68, 79, 87, 95, 85, 80, 68, 65, 84, 69]⟩, .string ⟨#[67, 79, 78, 84, 73, 78, 85, 65, 84, 73, 79, 78]⟩] 9))
  have R := heap_alloc_new w (.cells #[.string ⟨#[68, 65, 84, 65]⟩, .string ⟨#[72, 69, 65, 68, 69, 82, 83]⟩, .string ⟨#[80, 82, 73, 79, 82, 73, 84, 89]⟩, .string ⟨#[82, 83, 84, 95, 83, 84, 82, 69, 65, 77]⟩, .string ⟨#[83, 69, 84, 84, 73, 78, 71, 83]⟩, .string ⟨#[80, 85, 83, 72, 95, 80, 82, 79, 77, 73, 83, 69]⟩, .string ⟨#[80, 73, 78, 71]⟩, .string ⟨#[71, 79, 65, 87, 65, 89]⟩, .string ⟨#[87, 73, 78, 68, 79, 87, 95, 85, 80, 68, 65, 84, 69]⟩, .string ⟨#[67, 79, 78, 84, 73, 78, 85, 65, 84, 73, 79, 78]⟩] 9)
  have c0 : (w.alloc (.cells #[.string ⟨#[68, 65, 84, 65]⟩, .string ⟨#[72, 69, 65, 68, 69, 82, 83]⟩, .string ⟨#[80, 82, 73, 79, 82, 73, 84, 89]⟩, .string ⟨#[82, 83, 84, 95, 83, 84, 82, 69, 65, 77]⟩, .string ⟨#[83, 69, 84, 84, 73, 78, 71, 83]⟩, .string ⟨#[80, 85, 83, 72, 95, 80, 82, 79, 77, 73, 83, 69]⟩, .string ⟨#[80, 73, 78, 71]⟩, .string ⟨#[71, 79, 65, 87, 65, 89]⟩, .string ⟨#[87, 73, 78, 68, 79, 87, 95, 85, 80, 68, 65, 84, 69]⟩, .string ⟨#[67, 79, 78, 84, 73, 78, 85, 65, 84, 73, 79, 78]⟩] 9)).cell? ⟨w.heap.size, 6, none⟩ = some (.string ⟨#[80, 73, 78, 71]⟩) := by
    unfold World.cell?
    simp only
    rw [R]
    rfl
  clear R
  go_enter Tryd.func28, Tryd.ntmps28
  go_wp2_with fail
  refine (rnames08 _).mono ?_
  rintro e w1 ⟨rfl, rfl⟩
  go_wp2_with fail
  go_ret
  exact ⟨rfl, al.out⟩
set_option maxRecDepth 20000 in
set_option maxHeartbeats 800000 in
theorem rname08_7 (w : World) : Calls Tryd.prog 28 #[.int .i64 7] w fun e w' => e = .returned (.string ⟨#[71, 79, 65, 87, 65, 89]⟩) ∧ Below w.heap.size w w' := by
  have al := hide ((Below.refl w.heap.size w).alloc (Nat.le_refl _) (.cells #[.string ⟨#[68, 65, 84, 65]⟩, .string ⟨#[72, 69, 65, 68, 69, 82, 83]⟩, .string ⟨#[80, 82, 73, 79, 82, 73, 84, 89]⟩, .string ⟨#[82, 83, 84, 95, 83, 84, 82, 69, 65, 77]⟩, .string ⟨#[83, 69, 84, 84, 73, 78, 71, 83]⟩, .string ⟨#[80, 85, 83, 72, 95, 80, 82, 79, 77, 73, 83, 69]⟩, .string ⟨#[80, 73, 78, 71]⟩, .string ⟨#[71, 79, 65, 87, 65, 89]⟩, .string ⟨#[87, 73, 78, 68, 79, 87, 95, 85, 80, 68, 65, 84, 69]⟩, .string ⟨#[67, 79, 78, 84, 73, 78, 85, 65, 84, 73, 79, 78]⟩] 9))
  have R := heap_alloc_new w (.cells #[.string ⟨#[68, 65, 84, 65]⟩, .string ⟨#[72, 69, 65, 68, 69, 82, 83]⟩, .string ⟨#[80, 82, 73, 79, 82, 73, 84, 89]⟩, .string ⟨#[82, 83, 84, 95, 83, 84, 82, 69, 65, 77]⟩, .string ⟨#[83, 69, 84, 84, 73, 78, 71, 83]⟩, .string ⟨#[80, 85, 83, 72, 95, 80, 82, 79, 77, 73, 83, 69]⟩, .string ⟨#[80, 73, 78, 71]⟩, .string ⟨#[71, 79, 65, 87, 65, 89]⟩, .string ⟨#[87, 73, 78, 68, 79, 87, 95, 85, 80, 68, 65, 84, 69]⟩, .string ⟨#[67, 79, 78, 84, 73, 78, 85, 65, 84, 73, 79, 78]⟩] 9)
  have c0 : (w.alloc (.cells #[.string ⟨#[68, 65, 84, 65]⟩, .string ⟨#[72, 69, 65, 68, 69, 82, 83]⟩, .string ⟨#[80, 82, 73, 79, 82, 73, 84, 89]⟩, .string ⟨#[82, 83, 84, 95, 83, 84, 82, 69, 65, 77]⟩, .string ⟨#[83, 69, 84, 84, 73, 78, 71, 83]⟩, .string ⟨#[80, 85, 83, 72, 95, 80, 82, 79, 77, 73, 83, 69]⟩, .string ⟨#[80, 73, 78, 71]⟩, .string ⟨#[71, 79, 65, 87, 65, 89]⟩, .string ⟨#[87, 73, 78, 68, 79, 87, 95, 85, 80, 68, 65, 84, 69]⟩, .string ⟨#[67, 79, 78, 84, 73, 78, 85, 65, 84, 73, 79, 78]⟩] 9)).cell? ⟨w.heap.size, 7, none⟩ = some (.string ⟨#[71, 79, 65, 87, 65, 89]⟩) := by
    unfold World.cell?
    simp only
    rw [R]
    rfl
  clear R
  go_enter Tryd.func28, Tryd.ntmps28
  go_wp2_with fail
  refine (rnames08 _).mono ?_
  rintro e w1 ⟨rfl, rfl⟩
  go_wp2_with fail
  go_ret
  exact ⟨rfl, al.out⟩
set_option maxRecDepth 20000 in
set_option maxHeartbeats 800000 in
theorem rname08_8 (w : World) : Calls Tryd.prog 28 #[.int .i64 8] w fun e w' => e = .returned (.string ⟨#[87, 73, 78, 68, 79, 87, 95, 85, 80, 68, 65, 84, 69]⟩) ∧ Below w.heap.size w w' := by
  have al := hide ((Below.refl w.heap.size w).alloc (Nat.le_refl _) (.cells #[.string ⟨#[68, 65, 84, 65]⟩, .string ⟨#[72, 69, 65, 68, 69, 82, 83]⟩, .string ⟨#[80, 82, 73, 79, 82, 73, 84, 89]⟩, .string ⟨#[82, 83, 84, 95, 83, 84, 82, 69, 65, 77]⟩, .string ⟨#[83, 69, 84, 84, 73, 78, 71, 83]⟩, .string ⟨#[80, 85, 83, 72, 95, 80, 82, 79, 77, 73, 83, 69]⟩, .string ⟨#[80, 73, 78, 71]⟩, .string ⟨#[71, 79, 65, 87, 65, 89]⟩, .string ⟨#[87, 73, 78, 68, 79, 87, 95, 85, 80, 68, 65, 84, 69]⟩, .string ⟨#[67, 79, 78, 84, 73, 78, 85, 65, 84, 73, 79, 78]⟩] 9))
  have R := heap_alloc_new w (.cells #[.string ⟨#[68, 65, 84, 65]⟩, .string ⟨#[72, 69, 65, 68, 69, 82, 83]⟩, .string ⟨#[80, 82, 73, 79, 82, 73, 84, 89]⟩, .string ⟨#[82, 83, 84, 95, 83, 84, 82, 69, 65, 77]⟩, .string ⟨#[83, 69, 84, 84, 73, 78, 71, 83]⟩, .string ⟨#[80, 85, 83, 72, 95, 80, 82, 79, 77, 73, 83, 69]⟩, .string ⟨#[80, 73, 78, 71]⟩, .string ⟨#[71, 79, 65, 87, 65, 89]⟩, .string ⟨#[87, 73, 78, 68, 79, 87, 95, 85, 80, 68, 65, 84, 69]⟩, .string ⟨#[67, 79, 78, 84, 73, 78, 85, 65, 84, 73, 79, 78]⟩] 9)
  have c0 : (w.alloc (.cells #[.string ⟨#[68, 65, 84, 65]⟩, .string ⟨#[72, 69, 65, 68, 69, 82, 83]⟩, .string ⟨#[80, 82, 73, 79, 82, 73, 84, 89]⟩, .string ⟨#[82, 83, 84, 95, 83, 84, 82, 69, 65, 77]⟩, .string ⟨#[83, 69, 84, 84, 73, 78, 71, 83]⟩, .string ⟨#[80, 85, 83, 72, 95, 80, 82, 79, 77, 73, 83, 69]⟩, .string ⟨#[80, 73, 78, 71]⟩, .string ⟨#[71, 79, 65, 87, 65, 89]⟩, .string ⟨#[87, 73, 78, 68, 79, 87, 95, 85, 80, 68, 65, 84, 69]⟩, .string ⟨#[67, 79, 78, 84, 73, 78, 85, 65, 84, 73, 79, 78]⟩] 9)).cell? ⟨w.heap.size, 8, none⟩ = some (.string ⟨#[87, 73, 78, 68, 79, 87, 95, 85, 80, 68, 65, 84, 69]⟩) := by
    unfold World.cell?
    simp only
    rw [R]
    rfl
  clear R
  go_enter Tryd.func28, Tryd.ntmps28
  go_wp2_with fail
  refine (rnames08 _).mono ?_
  rintro e w1 ⟨rfl, rfl⟩
  go_wp2_with fail
  go_ret
  exact ⟨rfl, al.out⟩
set_option maxRecDepth 20000 in
set_option maxHeartbeats 800000 in
theorem rname08_9 (w : World) : Calls Tryd.prog 28 #[.int .i64 9] w fun e w' => e = .returned (.string ⟨#[67, 79, 78, 84, 73, 78, 85, 65, 84, 73, 79, 78]⟩) ∧ Below w.heap.size w w' := by
  have al := hide ((Below.refl w.heap.size w).alloc (Nat.le_refl _) (.cells #[.string ⟨#[68, 65, 84, 65]⟩, .string ⟨#[72, 69, 65, 68, 69, 82, 83]⟩, .string ⟨#[80, 82, 73, 79, 82, 73, 84, 89]⟩, .string ⟨#[82, 83, 84, 95, 83, 84, 82, 69, 65, 77]⟩, .string ⟨#[83, 69, 84, 84, 73, 78, 71, 83]⟩, .string ⟨#[80, 85, 83, 72, 95, 80, 82, 79, 77, 73, 83, 69]⟩, .string ⟨#[80, 73, 78, 71]⟩, .string ⟨#[71, 79, 65, 87, 65, 89]⟩, .string ⟨#[87, 73, 78, 68, 79, 87, 95, 85, 80, 68, 65, 84, 69]⟩, .string ⟨#[67, 79, 78, 84, 73, 78, 85, 65, 84, 73, 79, 78]⟩] 9))
  have R := heap_alloc_new w (.cells #[.string ⟨#[68, 65, 84, 65]⟩, .string ⟨#[72, 69, 65, 68, 69, 82, 83]⟩, .string ⟨#[80, 82, 73, 79, 82, 73, 84, 89]⟩, .string ⟨#[82, 83, 84, 95, 83, 84, 82, 69, 65, 77]⟩, .string ⟨#[83, 69, 84, 84, 73, 78, 71, 83]⟩, .string ⟨#[80, 85, 83, 72, 95, 80, 82, 79, 77, 73, 83, 69]⟩, .string ⟨#[80, 73, 78, 71]⟩, .string ⟨#[71, 79, 65, 87, 65, 89]⟩, .string ⟨#[87, 73, 78, 68, 79, 87, 95, 85, 80, 68, 65, 84, 69]⟩, .string ⟨#[67, 79, 78, 84, 73, 78, 85, 65, 84, 73, 79, 78]⟩] 9)
  have c0 : (w.alloc (.cells #[.string ⟨#[68, 65, 84, 65]⟩, .string ⟨#[72, 69, 65, 68, 69, 82, 83]⟩, .string ⟨#[80, 82, 73, 79, 82, 73, 84, 89]⟩, .string ⟨#[82, 83, 84, 95, 83, 84, 82, 69, 65, 77]⟩, .string ⟨#[83, 69, 84, 84, 73, 78, 71, 83]⟩, .string ⟨#[80, 85, 83, 72, 95, 80, 82, 79, 77, 73, 83, 69]⟩, .string ⟨#[80, 73, 78, 71]⟩, .string ⟨#[71, 79, 65, 87, 65, 89]⟩, .string ⟨#[87, 73, 78, 68, 79, 87, 95, 85, 80, 68, 65, 84, 69]⟩, .string ⟨#[67, 79, 78, 84, 73, 78, 85, 65, 84, 73, 79, 78]⟩] 9)).cell? ⟨w.heap.size, 9, none⟩ = some (.string ⟨#[67, 79, 78, 84, 73, 78, 85, 65, 84, 73, 79, 78]⟩) := by
    unfold World.cell?
    simp only
    rw [R]
    rfl
  clear R
  go_enter Tryd.func28, Tryd.ntmps28
  go_wp2_with fail
  refine (rnames08 _).mono ?_
  rintro e w1 ⟨rfl, rfl⟩
  go_wp2_with fail
  go_ret
  exact ⟨rfl, al.out⟩
set_option maxRecDepth 20000 in
set_option maxHeartbeats 800000 in
theorem rname08 (t : Int) (w : World) : Calls Tryd.prog 28 #[.int .i64 t] w fun e w' => e = .returned (.string (nameT t)) ∧ Below w.heap.size w w' := by
  by_cases h1 : t = -1
  · subst h1
    go_enter Tryd.func28, Tryd.ntmps28
    go_wp2_with fail
    go_ret
    exact ⟨rfl, Below.refl _ _⟩
  have t1 : (t == -1) = false := by simpa using h1
  by_cases h2 : t < 0 ∨ 255 < t
  · rw [nameT_other h1 h2]
    rcases h2 with h2 | h2
    · have t2 : decide (t < 0) = true := decide_eq_true h2
      go_enter Tryd.func28, Tryd.ntmps28
      go_wp2_with fail
      go_ret
      exact ⟨rfl, Below.refl _ _⟩
    · have t2 : decide (t < 0) = false := decide_eq_false (by omega)
      have t3 : decide (255 < t) = true := decide_eq_true h2
      go_enter Tryd.func28, Tryd.ntmps28
      go_wp2_with fail
      go_ret
      exact ⟨rfl, Below.refl _ _⟩
  have t2 : decide (t < 0) = false := decide_eq_false (by omega)
  have t3 : decide (255 < t) = false := decide_eq_false (by omega)
  by_cases h4 : t < 10
  · have h10 := at10 (t := t) (by omega) h4
    clear t1 t2 t3 h1 h2 h4
    rcases h10 with rfl | rfl | rfl | rfl | rfl | rfl | rfl | rfl | rfl | rfl
    · exact rname08_0 w
    · exact rname08_1 w
    · exact rname08_2 w
    · exact rname08_3 w
    · exact rname08_4 w
    · exact rname08_5 w
    · exact rname08_6 w
    · exact rname08_7 w
    · exact rname08_8 w
    · exact rname08_9 w
  · have t4 : decide (t < 10) = false := decide_eq_false h4
    obtain ⟨m, rfl⟩ : ∃ m : Nat, t = (m : Int) := ⟨t.toNat, by omega⟩
    have hm := hide (fun W => rtext03 m (by omega) W)
    have hN : Hid (nameT (m : Int) = ⟨#[84, 89, 80, 69, 95]⟩ ++ decS m) := nameT_more (t := (m : Int)) (by omega) (by omega)
    have hsz := decS_19 (n := m) (by omega)
    obtain ⟨s, hs⟩ : ∃ s, decS m = s := ⟨_, rfl⟩
    rw [hs] at hm hN hsz
    clear hs
    obtain ⟨y, hy⟩ : ∃ y, nameT (m : Int) = y := ⟨_, rfl⟩
    rw [hy] at hN ⊢
    clear hy
    have hcat : ∀ W, (Op.stringOp .add ⟨#[84, 89, 80, 69, 95]⟩ s).run Tryd.prog W = .ok (.string y) W := fun W => by
      rw [run_string_add_sum W ⟨#[84, 89, 80, 69, 95]⟩ s (by have : (⟨#[84, 89, 80, 69, 95]⟩ : ByteArray).size = 5 := rfl; omega), hN.out]
    obtain ⟨z, hz⟩ : ∃ z : Int, (m : Int) = z := ⟨_, rfl⟩
    rw [hz] at hm t1 t2 t3 t4 ⊢
    clear hz h1 h2 h4
    go_enter Tryd.func28, Tryd.ntmps28
    go_wp2_with fail
    refine (hm.out _).mono ?_
    rintro e w1 ⟨rfl, m1, rfl⟩
    go_wp2_with fail
    go_ret
    exact ⟨rfl, ⟨rfl, rfl, rfl, Nat.le_refl _, fun _ _ => rfl⟩⟩
end Go.Proofs.YtminoofghdpomaaDoor
