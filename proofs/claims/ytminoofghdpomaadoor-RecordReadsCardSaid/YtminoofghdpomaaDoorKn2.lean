/- Layer 8: the program's Name; digits.Text by the shelf. -/
import Derived.Test.YtminoofghdpomaaDoorKn1
import Derived.Test.YtminoofghdpomaaDoorShlf
import Derived.Test.YtminoofghdpomaaDoorLaid
namespace Go.Proofs.YtminoofghdpomaaDoor
set_option linter.unusedVariables false
set_option linter.unusedSimpArgs false
open Go.RowKit Go.PlainAid

theorem dec_lib : ∀ n : Nat, Lib.decDigits n = decL n := by
  intro n
  induction n using Nat.strongRecOn with
  | ind n ih =>
    by_cases h : n < 10
    · rw [decL_small h, Lib.decDigits, dif_pos h]
      have : n = 0 ∨ n = 1 ∨ n = 2 ∨ n = 3 ∨ n = 4 ∨ n = 5 ∨ n = 6 ∨ n = 7 ∨ n = 8 ∨ n = 9 := by omega
      rcases this with rfl | rfl | rfl | rfl | rfl | rfl | rfl | rfl | rfl | rfl <;> rfl
    · rw [decL_more h, Lib.decDigits, dif_neg h, ih (n / 10) (by omega)]
      have : n % 10 = 0 ∨ n % 10 = 1 ∨ n % 10 = 2 ∨ n % 10 = 3 ∨ n % 10 = 4 ∨ n % 10 = 5 ∨ n % 10 = 6 ∨ n % 10 = 7 ∨ n % 10 = 8 ∨ n % 10 = 9 := by omega
      rcases this with e | e | e | e | e | e | e | e | e | e <;> rw [e] <;> rfl
theorem itoa_dec (n : Nat) : (⟨(Lib.itoa (n : Int)).toArray⟩ : ByteArray) = decS n := by
  unfold Lib.itoa decS
  rw [if_neg (by omega), Int.toNat_natCast, dec_lib]
theorem below_grow {w : World} {k : Nat} {os : Array Obj} : Below w.heap.size w (Go.Sort.grow (w.drewN k) os) :=
  ⟨rfl, rfl, rfl, by simp [Go.Sort.grow], fun b hb => by
    show (w.heap ++ os)[b]? = w.heap[b]?
    rw [Array.getElem?_append_left hb]⟩
def powV : List Value := Lib.pow10Tab.map fun z => Value.int .u64 z
/-- The library's table of powers lies there. -/
def PowW (w : World) : Prop := ∃ T fr, w.heap[2]? = some (.cells powV.toArray T fr)
theorem PowW.below {w w' : World} (h : PowW w) (hb : Below w.heap.size w w') : PowW w' := by
  obtain ⟨T, fr, h⟩ := h
  exact ⟨T, fr, (hb.block _ (rowLt h)).trans h⟩
theorem PowW.tab {w : World} (h : PowW w) : Lib.TabIs Tryd.prog w "internal/strconv.uint64pow10" .u64 Lib.pow10Tab := by
  obtain ⟨T, fr, h⟩ := h
  unfold Lib.TabIs World.var?
  rw [show Tryd.prog.globalNamed "internal/strconv.uint64pow10" = some 2 by kernel_rfl]
  simp only [Option.bind_some, h]
  rfl
theorem PowW.of_tab {w : World} (h : Lib.TabIs Tryd.prog w "internal/strconv.uint64pow10" .u64 Lib.pow10Tab) : PowW w :=
  var_heap (by kernel_rfl) h
set_option maxRecDepth 20000 in
theorem dtext (n : Nat) (hn : n ≤ 9223372036854775807) (w : World) (hp : PowW w) : Calls Tryd.prog 19 #[.int .i64 (n : Int)] w fun e w' => e = .returned (.string (decS n)) ∧ Below w.heap.size w w' := by
  have h := hide (Tryd.strconv_Itoa (n : Int) (by omega) (by omega) w hp.tab)
  rw [itoa_dec] at h
  obtain ⟨s, hs⟩ : ∃ s, decS n = s := ⟨_, rfl⟩
  obtain ⟨z, hz⟩ : ∃ z : Int, (n : Int) = z := ⟨_, rfl⟩
  rw [hs, hz] at h
  rw [hs, hz]
  clear hs hz hp
  go_enter Tryd.func19, Tryd.ntmps19
  go_wp2_with fail
  refine h.out.mono ?_
  rintro e w1 ⟨rfl, k, os, rfl⟩
  go_wp2_with fail
  go_ret
  exact ⟨rfl, below_grow⟩
theorem known08 (t : Int) (w : World) : Calls Tryd.prog 36 #[.int .i64 t] w fun e w' => e = .returned (.bool (decide (0 ≤ t) && decide (t < 10))) ∧ w = w' := by
  by_cases h : 0 ≤ t
  · have t1 : decide (0 ≤ t) = true := decide_eq_true h
    rw [t1, Bool.true_and]
    go_enter Tryd.func36, Tryd.ntmps36
    go_wp2
    all_goals (go_ret; simp_all)
  · have t1 : decide (0 ≤ t) = false := decide_eq_false h
    rw [t1, Bool.false_and]
    go_enter Tryd.func36, Tryd.ntmps36
    go_wp2
    go_ret
    exact ⟨rfl, rfl⟩
theorem other08 (t : Int) (w : World) : Calls Tryd.prog 37 #[.int .i64 t] w fun e w' => e = .returned (.bool (decide (10 ≤ t) && decide (t ≤ 255))) ∧ w = w' := by
  by_cases h : 10 ≤ t
  · have t1 : decide (10 ≤ t) = true := decide_eq_true h
    rw [t1, Bool.true_and]
    go_enter Tryd.func37, Tryd.ntmps37
    go_wp2
    all_goals (go_ret; simp_all)
  · have t1 : decide (10 ≤ t) = false := decide_eq_false h
    rw [t1, Bool.false_and]
    go_enter Tryd.func37, Tryd.ntmps37
    go_wp2
    go_ret
    exact ⟨rfl, rfl⟩
def nmLL : List (List UInt8) := [[68, 65, 84, 65], [72, 69, 65, 68, 69, 82, 83], [80, 82, 73, 79, 82, 73, 84, 89], [82, 83, 84, 95, 83, 84, 82, 69, 65, 77], [83, 69, 84, 84, 73, 78, 71, 83], [80, 85, 83, 72, 95, 80, 82, 79, 77, 73, 83, 69], [80, 73, 78, 71], [71, 79, 65, 87, 65, 89], [87, 73, 78, 68, 79, 87, 95, 85, 80, 68, 65, 84, 69], [67, 79, 78, 84, 73, 78, 85, 65, 84, 73, 79, 78]]
/-- The program's table of names lies there. -/
def NmW (w : World) : Prop := ∃ T fr, w.heap[0]? = some (.cells (strsV nmLL).toArray T fr)
theorem NmW.below {w w' : World} (h : NmW w) (hb : Below w.heap.size w w') : NmW w' := by
  obtain ⟨T, fr, h⟩ := h
  exact ⟨T, fr, (hb.block _ (rowLt h)).trans h⟩
set_option maxRecDepth 20000 in
theorem kname08_0 (w : World) (h : NmW w) : Calls Tryd.prog 18 #[.int .i64 0] w fun e w' => e = .returned (.string ⟨#[68, 65, 84, 65]⟩) ∧ w = w' := by
  have c0 : w.cell? ⟨0, 0, none⟩ = some (.string ⟨#[68, 65, 84, 65]⟩) := by
    obtain ⟨T, fr, h⟩ := h
    unfold World.cell?
    simp only
    rw [h]
    rfl
  clear h
  go_enter Tryd.func18, Tryd.ntmps18
  go_wp2_with fail
  refine (known08 0 _).mono ?_
  rintro e w1 ⟨rfl, rfl⟩
  go_wp2_with fail
  go_ret
  exact ⟨rfl, rfl⟩
set_option maxRecDepth 20000 in
theorem kname08_1 (w : World) (h : NmW w) : Calls Tryd.prog 18 #[.int .i64 1] w fun e w' => e = .returned (.string ⟨#[72, 69, 65, 68, 69, 82, 83]⟩) ∧ w = w' := by
  have c0 : w.cell? ⟨0, 1, none⟩ = some (.string ⟨#[72, 69, 65, 68, 69, 82, 83]⟩) := by
    obtain ⟨T, fr, h⟩ := h
    unfold World.cell?
    simp only
    rw [h]
    rfl
  clear h
  go_enter Tryd.func18, Tryd.ntmps18
  go_wp2_with fail
  refine (known08 1 _).mono ?_
  rintro e w1 ⟨rfl, rfl⟩
  go_wp2_with fail
  go_ret
  exact ⟨rfl, rfl⟩
set_option maxRecDepth 20000 in
theorem kname08_2 (w : World) (h : NmW w) : Calls Tryd.prog 18 #[.int .i64 2] w fun e w' => e = .returned (.string ⟨#[80, 82, 73, 79, 82, 73, 84, 89]⟩) ∧ w = w' := by
  have c0 : w.cell? ⟨0, 2, none⟩ = some (.string ⟨#[80, 82, 73, 79, 82, 73, 84, 89]⟩) := by
    obtain ⟨T, fr, h⟩ := h
    unfold World.cell?
    simp only
    rw [h]
    rfl
  clear h
  go_enter Tryd.func18, Tryd.ntmps18
  go_wp2_with fail
  refine (known08 2 _).mono ?_
  rintro e w1 ⟨rfl, rfl⟩
  go_wp2_with fail
  go_ret
  exact ⟨rfl, rfl⟩
set_option maxRecDepth 20000 in
theorem kname08_3 (w : World) (h : NmW w) : Calls Tryd.prog 18 #[.int .i64 3] w fun e w' => e = .returned (.string ⟨#[82, 83, 84, 95, 83, 84, 82, 69, 65, 77]⟩) ∧ w = w' := by
  have c0 : w.cell? ⟨0, 3, none⟩ = some (.string ⟨#[82, 83, 84, 95, 83, 84, 82, 69, 65, 77]⟩) := by
    obtain ⟨T, fr, h⟩ := h
    unfold World.cell?
    simp only
    rw [h]
    rfl
  clear h
  go_enter Tryd.func18, Tryd.ntmps18
  go_wp2_with fail
  refine (known08 3 _).mono ?_
  rintro e w1 ⟨rfl, rfl⟩
  go_wp2_with fail
  go_ret
  exact ⟨rfl, rfl⟩
set_option maxRecDepth 20000 in
theorem kname08_4 (w : World) (h : NmW w) : Calls Tryd.prog 18 #[.int .i64 4] w fun e w' => e = .returned (.string ⟨#[83, 69, 84, 84, 73, 78, 71, 83]⟩) ∧ w = w' := by
  have c0 : w.cell? ⟨0, 4, none⟩ = some (.string ⟨#[83, 69, 84, 84, 73, 78, 71, 83]⟩) := by
    obtain ⟨T, fr, h⟩ := h
    unfold World.cell?
    simp only
    rw [h]
    rfl
  clear h
  go_enter Tryd.func18, Tryd.ntmps18
  go_wp2_with fail
  refine (known08 4 _).mono ?_
  rintro e w1 ⟨rfl, rfl⟩
  go_wp2_with fail
  go_ret
  exact ⟨rfl, rfl⟩
set_option maxRecDepth 20000 in
theorem kname08_5 (w : World) (h : NmW w) : Calls Tryd.prog 18 #[.int .i64 5] w fun e w' => e = .returned (.string ⟨#[80, 85, 83, 72, 95, 80, 82, 79, 77, 73, 83, 69]⟩) ∧ w = w' := by
  have c0 : w.cell? ⟨0, 5, none⟩ = some (.string ⟨#[80, 85, 83, 72, 95, 80, 82, 79, 77, 73, 83, 69]⟩) := by
    obtain ⟨T, fr, h⟩ := h
    unfold World.cell?
    simp only
    rw [h]
    rfl
  clear h
  go_enter Tryd.func18, Tryd.ntmps18
  go_wp2_with fail
  refine (known08 5 _).mono ?_
  rintro e w1 ⟨rfl, rfl⟩
  go_wp2_with fail
  go_ret
  exact ⟨rfl, rfl⟩
set_option maxRecDepth 20000 in
theorem kname08_6 (w : World) (h : NmW w) : Calls Tryd.prog 18 #[.int .i64 6] w fun e w' => e = .returned (.string ⟨#[80, 73, 78, 71]⟩) ∧ w = w' := by
  have c0 : w.cell? ⟨0, 6, none⟩ = some (.string ⟨#[80, 73, 78, 71]⟩) := by
    obtain ⟨T, fr, h⟩ := h
    unfold World.cell?
    simp only
    rw [h]
    rfl
  clear h
  go_enter Tryd.func18, Tryd.ntmps18
  go_wp2_with fail
  refine (known08 6 _).mono ?_
  rintro e w1 ⟨rfl, rfl⟩
  go_wp2_with fail
  go_ret
  exact ⟨rfl, rfl⟩
set_option maxRecDepth 20000 in
theorem kname08_7 (w : World) (h : NmW w) : Calls Tryd.prog 18 #[.int .i64 7] w fun e w' => e = .returned (.string ⟨#[71, 79, 65, 87, 65, 89]⟩) ∧ w = w' := by
  have c0 : w.cell? ⟨0, 7, none⟩ = some (.string ⟨#[71, 79, 65, 87, 65, 89]⟩) := by
    obtain ⟨T, fr, h⟩ := h
    unfold World.cell?
    simp only
    rw [h]
    rfl
  clear h
  go_enter Tryd.func18, Tryd.ntmps18
  go_wp2_with fail
  refine (known08 7 _).mono ?_
  rintro e w1 ⟨rfl, rfl⟩
  go_wp2_with fail
  go_ret
  exact ⟨rfl, rfl⟩
set_option maxRecDepth 20000 in
theorem kname08_8 (w : World) (h : NmW w) : Calls Tryd.prog 18 #[.int .i64 8] w fun e w' => e = .returned (.string ⟨#[87, 73, 78, 68, 79, 87, 95, 85, 80, 68, 65, 84, 69]⟩) ∧ w = w' := by
  have c0 : w.cell? ⟨0, 8, none⟩ = some (.string ⟨#[87, 73, 78, 68, 79, 87, 95, 85, 80, 68, 65, 84, 69]⟩) := by
    obtain ⟨T, fr, h⟩ := h
    unfold World.cell?
    simp only
    rw [h]
    rfl
  clear h
  go_enter Tryd.func18, Tryd.ntmps18
  go_wp2_with fail
  refine (known08 8 _).mono ?_
  rintro e w1 ⟨rfl, rfl⟩
  go_wp2_with fail
  go_ret
  exact ⟨rfl, rfl⟩
set_option maxRecDepth 20000 in
theorem kname08_9 (w : World) (h : NmW w) : Calls Tryd.prog 18 #[.int .i64 9] w fun e w' => e = .returned (.string ⟨#[67, 79, 78, 84, 73, 78, 85, 65, 84, 73, 79, 78]⟩) ∧ w = w' := by
  have c0 : w.cell? ⟨0, 9, none⟩ = some (.string ⟨#[67, 79, 78, 84, 73, 78, 85, 65, 84, 73, 79, 78]⟩) := by
    obtain ⟨T, fr, h⟩ := h
    unfold World.cell?
    simp only
    rw [h]
    rfl
  clear h
  go_enter Tryd.func18, Tryd.ntmps18
  go_wp2_with fail
  refine (known08 9 _).mono ?_
  rintro e w1 ⟨rfl, rfl⟩
  go_wp2_with fail
  go_ret
  exact ⟨rfl, rfl⟩
set_option maxRecDepth 20000 in
set_option maxHeartbeats 800000 in
theorem kname08 (t : Int) (w : World) (hN : NmW w) (hP : PowW w) : Calls Tryd.prog 18 #[.int .i64 t] w fun e w' => e = .returned (.string (nameT t)) ∧ Below w.heap.size w w' := by
  by_cases h1 : t = -1
  · subst h1
    go_enter Tryd.func18, Tryd.ntmps18
    go_wp2_with fail
    go_ret
    exact ⟨rfl, Below.refl _ _⟩
  have t1 : (t == -1) = false := by simpa using h1
  by_cases h2 : t < 0 ∨ 255 < t
  · rw [nameT_other h1 h2]
    have t2 : (decide (0 ≤ t) && decide (t < 10)) = false := by simp; omega
    have t3 : (decide (10 ≤ t) && decide (t ≤ 255)) = false := by simp; omega
    have k1 := hide (fun W => known08 t W)
    have k2 := hide (fun W => other08 t W)
    rw [t2] at k1
    rw [t3] at k2
    clear t2 t3 h1 h2 hN hP
    go_enter Tryd.func18, Tryd.ntmps18
    go_wp2_with fail
    refine (k1.out _).mono ?_
    rintro e w1 ⟨rfl, rfl⟩
    go_wp2_with fail
    refine (k2.out _).mono ?_
    rintro e w1 ⟨rfl, rfl⟩
    go_wp2_with fail
    go_ret
    exact ⟨rfl, Below.refl _ _⟩
  by_cases h4 : t < 10
  · have h10 := at10 (t := t) (by omega) h4
    clear t1 h1 h2 h4
    rcases h10 with rfl | rfl | rfl | rfl | rfl | rfl | rfl | rfl | rfl | rfl
    · exact (kname08_0 w hN).mono fun _ _ ⟨h, e⟩ => ⟨h, e ▸ Below.refl _ _⟩
    · exact (kname08_1 w hN).mono fun _ _ ⟨h, e⟩ => ⟨h, e ▸ Below.refl _ _⟩
    · exact (kname08_2 w hN).mono fun _ _ ⟨h, e⟩ => ⟨h, e ▸ Below.refl _ _⟩
    · exact (kname08_3 w hN).mono fun _ _ ⟨h, e⟩ => ⟨h, e ▸ Below.refl _ _⟩
    · exact (kname08_4 w hN).mono fun _ _ ⟨h, e⟩ => ⟨h, e ▸ Below.refl _ _⟩
    · exact (kname08_5 w hN).mono fun _ _ ⟨h, e⟩ => ⟨h, e ▸ Below.refl _ _⟩
    · exact (kname08_6 w hN).mono fun _ _ ⟨h, e⟩ => ⟨h, e ▸ Below.refl _ _⟩
    · exact (kname08_7 w hN).mono fun _ _ ⟨h, e⟩ => ⟨h, e ▸ Below.refl _ _⟩
    · exact (kname08_8 w hN).mono fun _ _ ⟨h, e⟩ => ⟨h, e ▸ Below.refl _ _⟩
    · exact (kname08_9 w hN).mono fun _ _ ⟨h, e⟩ => ⟨h, e ▸ Below.refl _ _⟩
  · have t2 : (decide (0 ≤ t) && decide (t < 10)) = false := by simp; omega
    have t3 : (decide (10 ≤ t) && decide (t ≤ 255)) = true := by simp; omega
    have k1 := hide (fun W => known08 t W)
    have k2 := hide (fun W => other08 t W)
    rw [t2] at k1
    rw [t3] at k2
    clear t2 t3
    obtain ⟨m, rfl⟩ : ∃ m : Nat, t = (m : Int) := ⟨t.toNat, by omega⟩
    have hm := hide (dtext m (by omega) w hP)
    have hN : Hid (nameT (m : Int) = ⟨#[84, 89, 80, 69, 95]⟩ ++ decS m) := nameT_more (t := (m : Int)) (by omega) (by omega)
    have hsz := decS_19 (n := m) (by omega)
    obtain ⟨s, hs⟩ : ∃ s, decS m = s := ⟨_, rfl⟩
    rw [hs] at hm hN hsz
    clear hs
    obtain ⟨y, hy⟩ : ∃ y, nameT (m : Int) = y := ⟨_, rfl⟩
    rw [hy] at hN ⊢
    clear hy
    have hcat : ∀ W, (Op.stringOp .add ⟨#[84, 89, 80, 69, 95]⟩ s).run Tryd.prog W = .ok (.string y) W := fun W => by
      rw [run_string_add_sum W ⟨#[84, 89, 80, 69, 95]⟩ s (by have : (⟨#[84, 89, 80, 69, 95]⟩ : ByteArray).size = 5 := rfl; omega), hN.out]
    obtain ⟨z, hz⟩ : ∃ z : Int, (m : Int) = z := ⟨_, rfl⟩
    rw [hz] at hm t1 k1 k2 ⊢
    clear hz h1 h2 h4 hP
    go_enter Tryd.func18, Tryd.ntmps18
    go_wp2_with fail
    refine (k1.out _).mono ?_
    rintro e w1 ⟨rfl, rfl⟩
    go_wp2_with fail
    refine (k2.out _).mono ?_
    rintro e w1 ⟨rfl, rfl⟩
    go_wp2_with fail
    refine hm.out.mono ?_
    rintro e w1 ⟨rfl, hb⟩
    have HB := hide hb
    clear hb
    go_wp2_with fail
    go_ret
    exact ⟨rfl, HB.out⟩
end Go.Proofs.YtminoofghdpomaaDoor
