/- Layer 8: the program's ByName. -/
import Derived.Test.YtminoofghdpomaaDoorKn4
namespace Go.Proofs.YtminoofghdpomaaDoor
set_option linter.unusedVariables false
set_option linter.unusedSimpArgs false
open Go.RowKit Go.PlainAid

theorem nmL_at (d : Nat) (h : d < 10) : nameT (d : Int) = nmL.getD d ⟨#[]⟩ := by
  rw [nameT_known (by omega) (by omega)]
  rfl
theorem str_no {a b : ByteArray} (h : a ≠ b) : (a.toList == b.toList) = false := by
  cases hx : a.toList == b.toList with
  | false => rfl
  | true =>
    have h2 := eq_of_beq hx
    rw [toList_data, toList_data] at h2
    exact absurd (by rw [← data_toArray a, h2, data_toArray]) h
theorem str_noL {a : ByteArray} {l : List UInt8} (h : a ≠ ⟨l.toArray⟩) : (a.toList == l) = false ∧ (l == a.toList) = false := by
  have e : a.toList ≠ l := fun h2 => by
    rw [toList_data] at h2
    exact h (by rw [← data_toArray a, h2])
  exact ⟨by simpa using e, by simpa using fun h2 => e h2.symm⟩
theorem str_yesL {a : ByteArray} {l : List UInt8} (h : a = ⟨l.toArray⟩) : (a.toList == l) = true ∧ (l == a.toList) = true := by
  subst h
  rw [toList_data]
  exact ⟨beq_self_eq_true _, beq_self_eq_true _⟩
def NmR (s : ByteArray) (x : Int) (is : Bool) : Prop :=
  (is = true ∧ -1 ≤ x ∧ x ≤ 255 ∧ nameT x = s ∧ ∀ u, -1 ≤ u → u < x → nameT u ≠ s) ∨ (is = false ∧ x = 0 ∧ ∀ u, -1 ≤ u → u ≤ 255 → nameT u ≠ s)
theorem NmR.same {s : ByteArray} {x y : Int} {a b : Bool} (h : NmR s x a) (k : NmR s y b) : x = y ∧ a = b := by
  rcases h with ⟨rfl, h1, h2, h3, h4⟩ | ⟨rfl, rfl, h4⟩
  · rcases k with ⟨rfl, k1, k2, k3, k4⟩ | ⟨rfl, rfl, k4⟩
    · refine ⟨?_, rfl⟩
      by_cases e : x < y
      · exact absurd h3 (k4 x h1 e)
      · by_cases e2 : y < x
        · exact absurd k3 (h4 y k1 e2)
        · omega
    · exact absurd h3 (k4 x h1 h2)
  · rcases k with ⟨rfl, k1, k2, k3, k4⟩ | ⟨rfl, rfl, k4⟩
    · exact absurd k3 (h4 y k1 k2)
    · exact ⟨rfl, rfl⟩
def NmE (s : ByteArray) (w : World) (e : Ending) (w' : World) : Prop := ∃ (x : Int) (is : Bool), e = .returned (.tuple #[.int .i64 x, .bool is]) ∧ NmR s x is ∧ Below w.heap.size w w'
def tyL : List UInt8 := [84, 89, 80, 69, 95]
theorem more_data {t : Int} (h : 10 ≤ t) (h2 : t ≤ 255) : (nameT t).data.toList = tyL ++ decL t.toNat := by
  rw [nameT_more h h2]
  unfold decS
  rw [show (⟨#[84, 89, 80, 69, 95]⟩ : ByteArray) = ⟨tyL.toArray⟩ from rfl, bytes_cat]
theorem eq_of_data {a b : ByteArray} (h : a.data.toList = b.data.toList) : a = b := by rw [← data_toArray a, h, data_toArray]
theorem prefix_ty (l : List UInt8) : Lib.hasPrefix (tyL ++ l) tyL = true := by
  unfold Lib.hasPrefix
  rw [List.isPrefixOf_iff_prefix]
  exact List.prefix_append _ _
theorem of_prefix {l : List UInt8} (h : Lib.hasPrefix l tyL = true) : tyL ++ Lib.trimPrefix l tyL = l := by
  unfold Lib.trimPrefix
  rw [if_pos h]
  unfold Lib.hasPrefix at h
  rw [List.isPrefixOf_iff_prefix] at h
  obtain ⟨r, rfl⟩ := h
  rw [List.drop_append]
  simp
theorem no_names {s : ByteArray} (h1 : s ≠ nmP) (h2 : ∀ j, j < 10 → nmL.getD j ⟨#[]⟩ ≠ s) (h3 : ∀ u : Int, 10 ≤ u → u ≤ 255 → nameT u ≠ s) : ∀ u, -1 ≤ u → u ≤ 255 → nameT u ≠ s := fun u a b => by
  by_cases e : u = -1
  · subst e
    exact fun h => h1 h.symm
  · by_cases e2 : u < 10
    · obtain ⟨j, rfl⟩ : ∃ j : Nat, u = (j : Int) := ⟨u.toNat, by omega⟩
      rw [nmL_at j (by omega)]
      exact h2 j (by omega)
    · exact h3 u (by omega) b
theorem no_names' {s : ByteArray} (h1 : s ≠ nmP) (h2 : ∀ j, j < 10 → nmL.getD j ⟨#[]⟩ ≠ s) (u : Int) (a : -1 ≤ u) (b : u < 10) : nameT u ≠ s := by
  by_cases e : u = -1
  · subst e
    exact fun h => h1 h.symm
  · obtain ⟨j, rfl⟩ : ∃ j : Nat, u = (j : Int) := ⟨u.toNat, by omega⟩
    rw [nmL_at j (by omega)]
    exact h2 j (by omega)
theorem before_names {s : ByteArray} (h1 : s ≠ nmP) (d : Nat) (hd : d < 10) (h2 : ∀ j, j < d → nmL.getD j ⟨#[]⟩ ≠ s) : ∀ u : Int, -1 ≤ u → u < (d : Int) → nameT u ≠ s := fun u a b => by
  by_cases e : u = -1
  · subst e
    exact fun h => h1 h.symm
  · obtain ⟨j, rfl⟩ : ∃ j : Nat, u = (j : Int) := ⟨u.toNat, by omega⟩
    rw [nmL_at j (by omega)]
    exact h2 j (by omega)
theorem ix08_0 (W : World) : (Instr.index 63 (.agg #[.string ⟨#[68, 65, 84, 65]⟩, .string ⟨#[72, 69, 65, 68, 69, 82, 83]⟩, .string ⟨#[80, 82, 73, 79, 82, 73, 84, 89]⟩, .string ⟨#[82, 83, 84, 95, 83, 84, 82, 69, 65, 77]⟩, .string ⟨#[83, 69, 84, 84, 73, 78, 71, 83]⟩, .string ⟨#[80, 85, 83, 72, 95, 80, 82, 79, 77, 73, 83, 69]⟩, .string ⟨#[80, 73, 78, 71]⟩, .string ⟨#[71, 79, 65, 87, 65, 89]⟩, .string ⟨#[87, 73, 78, 68, 79, 87, 95, 85, 80, 68, 65, 84, 69]⟩, .string ⟨#[67, 79, 78, 84, 73, 78, 85, 65, 84, 73, 79, 78]⟩]) (.int .i64 0)).run Tryd.prog W = .ok (.string ⟨#[68, 65, 84, 65]⟩) W := by kernel_rfl
theorem ix08_1 (W : World) : (Instr.index 63 (.agg #[.string ⟨#[68, 65, 84, 65]⟩, .string ⟨#[72, 69, 65, 68, 69, 82, 83]⟩, .string ⟨#[80, 82, 73, 79, 82, 73, 84, 89]⟩, .string ⟨#[82, 83, 84, 95, 83, 84, 82, 69, 65, 77]⟩, .string ⟨#[83, 69, 84, 84, 73, 78, 71, 83]⟩, .string ⟨#[80, 85, 83, 72, 95, 80, 82, 79, 77, 73, 83, 69]⟩, .string ⟨#[80, 73, 78, 71]⟩, .string ⟨#[71, 79, 65, 87, 65, 89]⟩, .string ⟨#[87, 73, 78, 68, 79, 87, 95, 85, 80, 68, 65, 84, 69]⟩, .string ⟨#[67, 79, 78, 84, 73, 78, 85, 65, 84, 73, 79, 78]⟩]) (.int .i64 1)).run Tryd.prog W = .ok (.string ⟨#[72, 69, 65, 68, 69, 82, 83]⟩) W := by kernel_rfl
theorem ix08_2 (W : World) : (Instr.index 63 (.agg #[.string ⟨#[68, 65, 84, 65]⟩, .string ⟨#[72, 69, 65, 68, 69, 82, 83]⟩, .string ⟨#[80, 82, 73, 79, 82, 73, 84, 89]⟩, .string ⟨#[82, 83, 84, 95, 83, 84, 82, 69, 65, 77]⟩, .string ⟨#[83, 69, 84, 84, 73, 78, 71, 83]⟩, .string ⟨#[80, 85, 83, 72, 95, 80, 82, 79, 77, 73, 83, 69]⟩, .string ⟨#[80, 73, 78, 71]⟩, .string ⟨#[71, 79, 65, 87, 65, 89]⟩, .string ⟨#[87, 73, 78, 68, 79, 87, 95, 85, 80, 68, 65, 84, 69]⟩, .string ⟨#[67, 79, 78, 84, 73, 78, 85, 65, 84, 73, 79, 78]⟩]) (.int .i64 2)).run Tryd.prog W = .ok (.string ⟨#[80, 82, 73, 79, 82, 73, 84, 89]⟩) W := by kernel_rfl
theorem ix08_3 (W : World) : (Instr.index 63 (.agg #[.string ⟨#[68, 65, 84, 65]⟩, .string ⟨#[72, 69, 65, 68, 69, 82, 83]⟩, .string ⟨#[80, 82, 73, 79, 82, 73, 84, 89]⟩, .string ⟨#[82, 83, 84, 95, 83, 84, 82, 69, 65, 77]⟩, .string ⟨#[83, 69, 84, 84, 73, 78, 71, 83]⟩, .string ⟨#[80, 85, 83, 72, 95, 80, 82, 79, 77, 73, 83, 69]⟩, .string ⟨#[80, 73, 78, 71]⟩, .string ⟨#[71, 79, 65, 87, 65, 89]⟩, .string ⟨#[87, 73, 78, 68, 79, 87, 95, 85, 80, 68, 65, 84, 69]⟩, .string ⟨#[67, 79, 78, 84, 73, 78, 85, 65, 84, 73, 79, 78]⟩]) (.int .i64 3)).run Tryd.prog W = .ok (.string ⟨#[82, 83, 84, 95, 83, 84, 82, 69, 65, 77]⟩) W := by kernel_rfl
theorem ix08_4 (W : World) : (Instr.index 63 (.agg #[.string ⟨#[68, 65, 84, 65]⟩, .string ⟨#[72, 69, 65, 68, 69, 82, 83]⟩, .string ⟨#[80, 82, 73, 79, 82, 73, 84, 89]⟩, .string ⟨#[82, 83, 84, 95, 83, 84, 82, 69, 65, 77]⟩, .string ⟨#[83, 69, 84, 84, 73, 78, 71, 83]⟩, .string ⟨#[80, 85, 83, 72, 95, 80, 82, 79, 77, 73, 83, 69]⟩, .string ⟨#[80, 73, 78, 71]⟩, .string ⟨#[71, 79, 65, 87, 65, 89]⟩, .string ⟨#[87, 73, 78, 68, 79, 87, 95, 85, 80, 68, 65, 84, 69]⟩, .string ⟨#[67, 79, 78, 84, 73, 78, 85, 65, 84, 73, 79, 78]⟩]) (.int .i64 4)).run Tryd.prog W = .ok (.string ⟨#[83, 69, 84, 84, 73, 78, 71, 83]⟩) W := by kernel_rfl
theorem ix08_5 (W : World) : (Instr.index 63 (.agg #[.string ⟨#[68, 65, 84, 65]⟩, .string ⟨#[72, 69, 65, 68, 69, 82, 83]⟩, .string ⟨#[80, 82, 73, 79, 82, 73, 84, 89]⟩, .string ⟨#[82, 83, 84, 95, 83, 84, 82, 69, 65, 77]⟩, .string ⟨#[83, 69, 84, 84, 73, 78, 71, 83]⟩, .string ⟨#[80, 85, 83, 72, 95, 80, 82, 79, 77, 73, 83, 69]⟩, .string ⟨#[80, 73, 78, 71]⟩, .string ⟨#[71, 79, 65, 87, 65, 89]⟩, .string ⟨#[87, 73, 78, 68, 79, 87, 95, 85, 80, 68, 65, 84, 69]⟩, .string ⟨#[67, 79, 78, 84, 73, 78, 85, 65, 84, 73, 79, 78]⟩]) (.int .i64 5)).run Tryd.prog W = .ok (.string ⟨#[80, 85, 83, 72, 95, 80, 82, 79, 77, 73, 83, 69]⟩) W := by kernel_rfl
theorem ix08_6 (W : World) : (Instr.index 63 (.agg #[.string ⟨#[68, 65, 84, 65]⟩, .string ⟨#[72, 69, 65, 68, 69, 82, 83]⟩, .string ⟨#[80, 82, 73, 79, 82, 73, 84, 89]⟩, .string ⟨#[82, 83, 84, 95, 83, 84, 82, 69, 65, 77]⟩, .string ⟨#[83, 69, 84, 84, 73, 78, 71, 83]⟩, .string ⟨#[80, 85, 83, 72, 95, 80, 82, 79, 77, 73, 83, 69]⟩, .string ⟨#[80, 73, 78, 71]⟩, .string ⟨#[71, 79, 65, 87, 65, 89]⟩, .string ⟨#[87, 73, 78, 68, 79, 87, 95, 85, 80, 68, 65, 84, 69]⟩, .string ⟨#[67, 79, 78, 84, 73, 78, 85, 65, 84, 73, 79, 78]⟩]) (.int .i64 6)).run Tryd.prog W = .ok (.string ⟨#[80, 73, 78, 71]⟩) W := by kernel_rfl
theorem ix08_7 (W : World) : (Instr.index 63 (.agg #[.string ⟨#[68, 65, 84, 65]⟩, .string ⟨#[72, 69, 65, 68, 69, 82, 83]⟩, .string ⟨#[80, 82, 73, 79, 82, 73, 84, 89]⟩, .string ⟨#[82, 83, 84, 95, 83, 84, 82, 69, 65, 77]⟩, .string ⟨#[83, 69, 84, 84, 73, 78, 71, 83]⟩, .string ⟨#[80, 85, 83, 72, 95, 80, 82, 79, 77, 73, 83, 69]⟩, .string ⟨#[80, 73, 78, 71]⟩, .string ⟨#[71, 79, 65, 87, 65, 89]⟩, .string ⟨#[87, 73, 78, 68, 79, 87, 95, 85, 80, 68, 65, 84, 69]⟩, .string ⟨#[67, 79, 78, 84, 73, 78, 85, 65, 84, 73, 79, 78]⟩]) (.int .i64 7)).run Tryd.prog W = .ok (.string ⟨#[71, 79, 65, 87, 65, 89]⟩) W := by kernel_rfl
theorem ix08_8 (W : World) : (Instr.index 63 (.agg #[.string ⟨#[68, 65, 84, 65]⟩, .string ⟨#[72, 69, 65, 68, 69, 82, 83]⟩, .string ⟨#[80, 82, 73, 79, 82, 73, 84, 89]⟩, .string ⟨#[82, 83, 84, 95, 83, 84, 82, 69, 65, 77]⟩, .string ⟨#[83, 69, 84, 84, 73, 78, 71, 83]⟩, .string ⟨#[80, 85, 83, 72, 95, 80, 82, 79, 77, 73, 83, 69]⟩, .string ⟨#[80, 73, 78, 71]⟩, .string ⟨#[71, 79, 65, 87, 65, 89]⟩, .string ⟨#[87, 73, 78, 68, 79, 87, 95, 85, 80, 68, 65, 84, 69]⟩, .string ⟨#[67, 79, 78, 84, 73, 78, 85, 65, 84, 73, 79, 78]⟩]) (.int .i64 8)).run Tryd.prog W = .ok (.string ⟨#[87, 73, 78, 68, 79, 87, 95, 85, 80, 68, 65, 84, 69]⟩) W := by kernel_rfl
theorem ix08_9 (W : World) : (Instr.index 63 (.agg #[.string ⟨#[68, 65, 84, 65]⟩, .string ⟨#[72, 69, 65, 68, 69, 82, 83]⟩, .string ⟨#[80, 82, 73, 79, 82, 73, 84, 89]⟩, .string ⟨#[82, 83, 84, 95, 83, 84, 82, 69, 65, 77]⟩, .string ⟨#[83, 69, 84, 84, 73, 78, 71, 83]⟩, .string ⟨#[80, 85, 83, 72, 95, 80, 82, 79, 77, 73, 83, 69]⟩, .string ⟨#[80, 73, 78, 71]⟩, .string ⟨#[71, 79, 65, 87, 65, 89]⟩, .string ⟨#[87, 73, 78, 68, 79, 87, 95, 85, 80, 68, 65, 84, 69]⟩, .string ⟨#[67, 79, 78, 84, 73, 78, 85, 65, 84, 73, 79, 78]⟩]) (.int .i64 9)).run Tryd.prog W = .ok (.string ⟨#[67, 79, 78, 84, 73, 78, 85, 65, 84, 73, 79, 78]⟩) W := by kernel_rfl
set_option maxRecDepth 20000 in
set_option maxHeartbeats 3200000 in
theorem kbyname08 (s : ByteArray) (w : World) (hs : s.size ≤ 9223372036854775807) (hN : NmW w) : Calls Tryd.prog 24 #[.string s] w (NmE s w) := by
  by_cases h1 : s = nmP
  · have t1 : (s.toList == [80, 82, 69, 70, 65, 67, 69]) = true := (str_yesL (l := [80, 82, 69, 70, 65, 67, 69]) h1).1
    subst h1
    go_enter Tryd.func24, Tryd.ntmps24
    go_wp2_with fail
    go_ret2
    exact ⟨-1, true, rfl, .inl ⟨rfl, by omega, by omega, rfl, fun u a b => absurd b (by omega)⟩, Below.refl _ _⟩
  have t1 : (s.toList == [80, 82, 69, 70, 65, 67, 69]) = false := (str_noL (l := [80, 82, 69, 70, 65, 67, 69]) h1).1
  have H1 := hide h1
  have hcells : ∀ d, d < 10 → w.cell? ⟨0, d, none⟩ = some (.string (nmL.getD d ⟨#[]⟩)) := fun d hd => by
    obtain ⟨T, fr, h⟩ := hN
    have hd10 : d = 0 ∨ d = 1 ∨ d = 2 ∨ d = 3 ∨ d = 4 ∨ d = 5 ∨ d = 6 ∨ d = 7 ∨ d = 8 ∨ d = 9 := by omega
    unfold World.cell?
    simp only
    rw [h]
    rcases hd10 with rfl | rfl | rfl | rfl | rfl | rfl | rfl | rfl | rfl | rfl <;> rfl
  have c0 : w.cell? ⟨0, 0, none⟩ = some (.string ⟨#[68, 65, 84, 65]⟩) := hcells 0 (by omega)
  have c1 : w.cell? ⟨0, 1, none⟩ = some (.string ⟨#[72, 69, 65, 68, 69, 82, 83]⟩) := hcells 1 (by omega)
  have c2 : w.cell? ⟨0, 2, none⟩ = some (.string ⟨#[80, 82, 73, 79, 82, 73, 84, 89]⟩) := hcells 2 (by omega)
  have c3 : w.cell? ⟨0, 3, none⟩ = some (.string ⟨#[82, 83, 84, 95, 83, 84, 82, 69, 65, 77]⟩) := hcells 3 (by omega)
  have c4 : w.cell? ⟨0, 4, none⟩ = some (.string ⟨#[83, 69, 84, 84, 73, 78, 71, 83]⟩) := hcells 4 (by omega)
  have c5 : w.cell? ⟨0, 5, none⟩ = some (.string ⟨#[80, 85, 83, 72, 95, 80, 82, 79, 77, 73, 83, 69]⟩) := hcells 5 (by omega)
  have c6 : w.cell? ⟨0, 6, none⟩ = some (.string ⟨#[80, 73, 78, 71]⟩) := hcells 6 (by omega)
  have c7 : w.cell? ⟨0, 7, none⟩ = some (.string ⟨#[71, 79, 65, 87, 65, 89]⟩) := hcells 7 (by omega)
  have c8 : w.cell? ⟨0, 8, none⟩ = some (.string ⟨#[87, 73, 78, 68, 79, 87, 95, 85, 80, 68, 65, 84, 69]⟩) := hcells 8 (by omega)
  have c9 : w.cell? ⟨0, 9, none⟩ = some (.string ⟨#[67, 79, 78, 84, 73, 78, 85, 65, 84, 73, 79, 78]⟩) := hcells 9 (by omega)
  have Hs := hide hs
  clear hcells hN h1 hs
  go_enter Tryd.func24, Tryd.ntmps24
  go_wp2_with fail
  clear c0 c1 c2 c3 c4 c5 c6 c7 c8 c9
  go_loopw [12] (fun i wr => ∃ k : Nat, k ≤ 10 ∧ i = .int .i64 k ∧ wr = w ∧ ∀ j, j < k → nmL.getD j ⟨#[]⟩ ≠ s) (fun i _ => 10 - (intOf i).toNat)
  case atStart => exact ⟨0, by omega, rfl, rfl, fun j hj => absurd hj (by omega)⟩
  case round =>
    obtain ⟨k, hk, rfl, rfl, hne⟩ := hrel
    have HN := hide hne
    clear hne
    obtain ⟨z, hz⟩ : ∃ z : Int, (k : Int) = z := ⟨_, rfl⟩
    rw [hz]
    have hk11 : (k = 0 ∧ z = 0) ∨ (k = 1 ∧ z = 1) ∨ (k = 2 ∧ z = 2) ∨ (k = 3 ∧ z = 3) ∨ (k = 4 ∧ z = 4) ∨ (k = 5 ∧ z = 5) ∨ (k = 6 ∧ z = 6) ∨ (k = 7 ∧ z = 7) ∨ (k = 8 ∧ z = 8) ∨ (k = 9 ∧ z = 9) ∨ (k = 10 ∧ z = 10) := by omega
    clear hk hz
    rcases hk11 with ⟨rfl, rfl⟩ | ⟨rfl, rfl⟩ | ⟨rfl, rfl⟩ | ⟨rfl, rfl⟩ | ⟨rfl, rfl⟩ | ⟨rfl, rfl⟩ | ⟨rfl, rfl⟩ | ⟨rfl, rfl⟩ | ⟨rfl, rfl⟩ | ⟨rfl, rfl⟩ | ⟨rfl, rfl⟩
    · by_cases he : s = ⟨#[68, 65, 84, 65]⟩
      · obtain ⟨q1, q2⟩ := str_yesL (l := [68, 65, 84, 65]) he
        have HE := hide he
        have kx := ix08_0
        clear he
        go_wp2_with fail
        go_ret2
        exact ⟨0, true, rfl, .inl ⟨rfl, by omega, by omega, by rw [HE.out]; exact nmL_at 0 (by omega), before_names H1.out 0 (by omega) HN.out⟩, Below.refl _ _⟩
      · obtain ⟨q1, q2⟩ := str_noL (l := [68, 65, 84, 65]) he
        have HE := hide he
        have kx := ix08_0
        clear he
        go_wp2_with fail
        refine ⟨⟨1, by omega, rfl, (by first | rfl | trivial), fun j hj => ?_⟩, by simp [intOf]⟩
        by_cases e : j = 0
        · subst e
          exact fun h2 => HE.out h2.symm
        · exact HN.out j (by omega)
    · by_cases he : s = ⟨#[72, 69, 65, 68, 69, 82, 83]⟩
      · obtain ⟨q1, q2⟩ := str_yesL (l := [72, 69, 65, 68, 69, 82, 83]) he
        have HE := hide he
        have kx := ix08_1
        clear he
        go_wp2_with fail
        go_ret2
        exact ⟨1, true, rfl, .inl ⟨rfl, by omega, by omega, by rw [HE.out]; exact nmL_at 1 (by omega), before_names H1.out 1 (by omega) HN.out⟩, Below.refl _ _⟩
      · obtain ⟨q1, q2⟩ := str_noL (l := [72, 69, 65, 68, 69, 82, 83]) he
        have HE := hide he
        have kx := ix08_1
        clear he
        go_wp2_with fail
        refine ⟨⟨2, by omega, rfl, (by first | rfl | trivial), fun j hj => ?_⟩, by simp [intOf]⟩
        by_cases e : j = 1
        · subst e
          exact fun h2 => HE.out h2.symm
        · exact HN.out j (by omega)
    · by_cases he : s = ⟨#[80, 82, 73, 79, 82, 73, 84, 89]⟩
      · obtain ⟨q1, q2⟩ := str_yesL (l := [80, 82, 73, 79, 82, 73, 84, 89]) he
        have HE := hide he
        have kx := ix08_2
        clear he
        go_wp2_with fail
        go_ret2
        exact ⟨2, true, rfl, .inl ⟨rfl, by omega, by omega, by rw [HE.out]; exact nmL_at 2 (by omega), before_names H1.out 2 (by omega) HN.out⟩, Below.refl _ _⟩
      · obtain ⟨q1, q2⟩ := str_noL (l := [80, 82, 73, 79, 82, 73, 84, 89]) he
        have HE := hide he
        have kx := ix08_2
        clear he
        go_wp2_with fail
        refine ⟨⟨3, by omega, rfl, (by first | rfl | trivial), fun j hj => ?_⟩, by simp [intOf]⟩
        by_cases e : j = 2
        · subst e
          exact fun h2 => HE.out h2.symm
        · exact HN.out j (by omega)
    · by_cases he : s = ⟨#[82, 83, 84, 95, 83, 84, 82, 69, 65, 77]⟩
      · obtain ⟨q1, q2⟩ := str_yesL (l := [82, 83, 84, 95, 83, 84, 82, 69, 65, 77]) he
        have HE := hide he
        have kx := ix08_3
        clear he
        go_wp2_with fail
        go_ret2
        exact ⟨3, true, rfl, .inl ⟨rfl, by omega, by omega, by rw [HE.out]; exact nmL_at 3 (by omega), before_names H1.out 3 (by omega) HN.out⟩, Below.refl _ _⟩
      · obtain ⟨q1, q2⟩ := str_noL (l := [82, 83, 84, 95, 83, 84, 82, 69, 65, 77]) he
        have HE := hide he
        have kx := ix08_3
        clear he
        go_wp2_with fail
        refine ⟨⟨4, by omega, rfl, (by first | rfl | trivial), fun j hj => ?_⟩, by simp [intOf]⟩
        by_cases e : j = 3
        · subst e
          exact fun h2 => HE.out h2.symm
        · exact HN.out j (by omega)
    · by_cases he : s = ⟨#[83, 69, 84, 84, 73, 78, 71, 83]⟩
      · obtain ⟨q1, q2⟩ := str_yesL (l := [83, 69, 84, 84, 73, 78, 71, 83]) he
        have HE := hide he
        have kx := ix08_4
        clear he
        go_wp2_with fail
        go_ret2
        exact ⟨4, true, rfl, .inl ⟨rfl, by omega, by omega, by rw [HE.out]; exact nmL_at 4 (by omega), before_names H1.out 4 (by omega) HN.out⟩, Below.refl _ _⟩
      · obtain ⟨q1, q2⟩ := str_noL (l := [83, 69, 84, 84, 73, 78, 71, 83]) he
        have HE := hide he
        have kx := ix08_4
        clear he
        go_wp2_with fail
        refine ⟨⟨5, by omega, rfl, (by first | rfl | trivial), fun j hj => ?_⟩, by simp [intOf]⟩
        by_cases e : j = 4
        · subst e
          exact fun h2 => HE.out h2.symm
        · exact HN.out j (by omega)
    · by_cases he : s = ⟨#[80, 85, 83, 72, 95, 80, 82, 79, 77, 73, 83, 69]⟩
      · obtain ⟨q1, q2⟩ := str_yesL (l := [80, 85, 83, 72, 95, 80, 82, 79, 77, 73, 83, 69]) he
        have HE := hide he
        have kx := ix08_5
        clear he
        go_wp2_with fail
        go_ret2
        exact ⟨5, true, rfl, .inl ⟨rfl, by omega, by omega, by rw [HE.out]; exact nmL_at 5 (by omega), before_names H1.out 5 (by omega) HN.out⟩, Below.refl _ _⟩
      · obtain ⟨q1, q2⟩ := str_noL (l := [80, 85, 83, 72, 95, 80, 82, 79, 77, 73, 83, 69]) he
        have HE := hide he
        have kx := ix08_5
        clear he
        go_wp2_with fail
        refine ⟨⟨6, by omega, rfl, (by first | rfl | trivial), fun j hj => ?_⟩, by simp [intOf]⟩
        by_cases e : j = 5
        · subst e
          exact fun h2 => HE.out h2.symm
        · exact HN.out j (by omega)
    · by_cases he : s = ⟨#[80, 73, 78, 71]⟩
      · obtain ⟨q1, q2⟩ := str_yesL (l := [80, 73, 78, 71]) he
        have HE := hide he
        have kx := ix08_6
        clear he
        go_wp2_with fail
        go_ret2
        exact ⟨6, true, rfl, .inl ⟨rfl, by omega, by omega, by rw [HE.out]; exact nmL_at 6 (by omega), before_names H1.out 6 (by omega) HN.out⟩, Below.refl _ _⟩
      · obtain ⟨q1, q2⟩ := str_noL (l := [80, 73, 78, 71]) he
        have HE := hide he
        have kx := ix08_6
        clear he
        go_wp2_with fail
        refine ⟨⟨7, by omega, rfl, (by first | rfl | trivial), fun j hj => ?_⟩, by simp [intOf]⟩
        by_cases e : j = 6
        · subst e
          exact fun h2 => HE.out h2.symm
        · exact HN.out j (by omega)
    · by_cases he : s = ⟨#[71, 79, 65, 87, 65, 89]⟩
      · obtain ⟨q1, q2⟩ := str_yesL (l := [71, 79, 65, 87, 65, 89]) he
        have HE := hide he
        have kx := ix08_7
        clear he
        go_wp2_with fail
        go_ret2
        exact ⟨7, true, rfl, .inl ⟨rfl, by omega, by omega, by rw [HE.out]; exact nmL_at 7 (by omega), before_names H1.out 7 (by omega) HN.out⟩, Below.refl _ _⟩
      · obtain ⟨q1, q2⟩ := str_noL (l := [71, 79, 65, 87, 65, 89]) he
        have HE := hide he
        have kx := ix08_7
        clear he
        go_wp2_with fail
        refine ⟨⟨8, by omega, rfl, (by first | rfl | trivial), fun j hj => ?_⟩, by simp [intOf]⟩
        by_cases e : j = 7
        · subst e
          exact fun h2 => HE.out h2.symm
        · exact HN.out j (by omega)
    · by_cases he : s = ⟨#[87, 73, 78, 68, 79, 87, 95, 85, 80, 68, 65, 84, 69]⟩
      · obtain ⟨q1, q2⟩ := str_yesL (l := [87, 73, 78, 68, 79, 87, 95, 85, 80, 68, 65, 84, 69]) he
        have HE := hide he
        have kx := ix08_8
        clear he
        go_wp2_with fail
        go_ret2
        exact ⟨8, true, rfl, .inl ⟨rfl, by omega, by omega, by rw [HE.out]; exact nmL_at 8 (by omega), before_names H1.out 8 (by omega) HN.out⟩, Below.refl _ _⟩
      · obtain ⟨q1, q2⟩ := str_noL (l := [87, 73, 78, 68, 79, 87, 95, 85, 80, 68, 65, 84, 69]) he
        have HE := hide he
        have kx := ix08_8
        clear he
        go_wp2_with fail
        refine ⟨⟨9, by omega, rfl, (by first | rfl | trivial), fun j hj => ?_⟩, by simp [intOf]⟩
        by_cases e : j = 8
        · subst e
          exact fun h2 => HE.out h2.symm
        · exact HN.out j (by omega)
    · by_cases he : s = ⟨#[67, 79, 78, 84, 73, 78, 85, 65, 84, 73, 79, 78]⟩
      · obtain ⟨q1, q2⟩ := str_yesL (l := [67, 79, 78, 84, 73, 78, 85, 65, 84, 73, 79, 78]) he
        have HE := hide he
        have kx := ix08_9
        clear he
        go_wp2_with fail
        go_ret2
        exact ⟨9, true, rfl, .inl ⟨rfl, by omega, by omega, by rw [HE.out]; exact nmL_at 9 (by omega), before_names H1.out 9 (by omega) HN.out⟩, Below.refl _ _⟩
      · obtain ⟨q1, q2⟩ := str_noL (l := [67, 79, 78, 84, 73, 78, 85, 65, 84, 73, 79, 78]) he
        have HE := hide he
        have kx := ix08_9
        clear he
        go_wp2_with fail
        refine ⟨⟨10, by omega, rfl, (by first | rfl | trivial), fun j hj => ?_⟩, by simp [intOf]⟩
        by_cases e : j = 9
        · subst e
          exact fun h2 => HE.out h2.symm
        · exact HN.out j (by omega)
    · have hc := fun W => Tryd.strings_CutPrefix s ⟨#[84, 89, 80, 69, 95]⟩ W
      change ∀ W, Calls Tryd.prog 41 #[.string s, .string ⟨#[84, 89, 80, 69, 95]⟩] W fun e w' => e = .returned (.tuple #[.string ⟨(Lib.trimPrefix s.data.toList tyL).toArray⟩, .bool (Lib.hasPrefix s.data.toList tyL)]) ∧ w' = W at hc
      cases hp : Lib.hasPrefix s.data.toList tyL with
      | false =>
        rw [hp] at hc
        obtain ⟨body, hbody⟩ : ∃ b : ByteArray, (⟨(Lib.trimPrefix s.data.toList tyL).toArray⟩ : ByteArray) = b := ⟨_, rfl⟩
        rw [hbody] at hc
        have HC := hide hc
        have HP := hide hp
        clear hc hp hbody
        go_wp2_with fail
        refine (HC.out _).mono ?_
        rintro e w1 ⟨rfl, rfl⟩
        go_wp2_with fail
        go_ret2
        exact ⟨0, false, rfl, .inr ⟨rfl, rfl, no_names H1.out HN.out fun u a b h => by
          have h2 := more_data a b
          rw [h] at h2
          have h3 := HP.out
          rw [h2, prefix_ty] at h3
          cases h3⟩, Below.refl _ _⟩
      | true =>
        rw [hp] at hc
        have hcat := of_prefix hp
        obtain ⟨l, hl⟩ : ∃ l, Lib.trimPrefix s.data.toList tyL = l := ⟨_, rfl⟩
        rw [hl] at hc hcat
        obtain ⟨body, hbody⟩ : ∃ b : ByteArray, (⟨l.toArray⟩ : ByteArray) = b := ⟨_, rfl⟩
        have hbl : body.data.toList = l := by rw [← hbody]
        rw [hbody] at hc
        have hbs : body.size ≤ s.size := by
          have e1 : body.size = l.length := by rw [← hbl, Array.length_toList]; rfl
          have e2 : s.size = s.data.toList.length := by rw [Array.length_toList]; rfl
          rw [e1, e2, ← hcat, List.length_append]
          omega
        have hnum : ∀ u : Int, 10 ≤ u → u ≤ 255 → (nameT u = s ↔ body = decS u.toNat) := fun u a b => by
          have h2 := more_data a b
          constructor
          · intro h
            rw [h, ← hcat] at h2
            exact eq_of_data (by rw [hbl, decS_data]; exact List.append_cancel_left h2)
          · intro h
            exact eq_of_data (by rw [h2, ← hcat, ← hbl, h, decS_data])
        have HC := hide hc
        have HM := hide hnum
        have HBS := hide hbs
        clear hc hp hbody hbl hcat hl hnum hbs
        go_wp2_with fail
        refine (HC.out _).mono ?_
        rintro e w1 ⟨rfl, rfl⟩
        go_wp2_with fail
        refine (read03 body _ (Nat.le_trans HBS.out Hs.out)).mono ?_
        rintro e w2 ⟨t, ok, rfl, hq, hb⟩
        have HQ := hide hq
        have HB := hide hb
        clear hq hb
        cases ok with
        | false =>
          go_wp2_with fail
          go_ret2
          exact ⟨0, false, rfl, .inr ⟨rfl, rfl, no_names H1.out HN.out fun u a b h => by
            have := (HQ.out.1 u.toNat (by omega) (by omega) ((HM.out u a b).1 h)).2
            cases this⟩, HB.out⟩
        | true =>
          go_wp2_with fail
          refine (other08 t _).mono ?_
          rintro e w3 ⟨rfl, rfl⟩
          by_cases ho : 10 ≤ t ∧ t ≤ 255
          · rw [decide_eq_true ho.1, decide_eq_true ho.2, Bool.and_self]
            have HO := hide ho
            clear ho
            go_wp2_with fail
            go_ret2
            exact ⟨t, true, rfl, .inl ⟨rfl, by have := HO.out; omega, HO.out.2, (HM.out t HO.out.1 HO.out.2).2 (HQ.out.2 rfl HO.out.1), fun u a b => by
              have h2 := HO.out
              by_cases hu : u < 10
              · exact no_names' H1.out HN.out u a hu
              · intro h
                have := (HQ.out.1 u.toNat (by omega) (by omega) ((HM.out u (by omega) (by omega)).1 h)).1
                omega⟩, HB.out⟩
          · have hf : (decide (10 ≤ t) && decide (t ≤ 255)) = false := by simp; omega
            rw [hf]
            have HO := hide ho
            clear ho hf
            go_wp2_with fail
            go_ret2
            exact ⟨0, false, rfl, .inr ⟨rfl, rfl, no_names H1.out HN.out fun u a b h => by
              have := (HQ.out.1 u.toNat (by omega) (by omega) ((HM.out u a b).1 h)).1
              exact HO.out ⟨by omega, by omega⟩⟩, HB.out⟩
end Go.Proofs.YtminoofghdpomaaDoor
