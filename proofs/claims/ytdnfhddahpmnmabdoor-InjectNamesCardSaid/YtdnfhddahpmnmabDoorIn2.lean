/- Layer 46: the kinds' names, by the program's table and by the reference's. -/
import Derived.Test.YtdnfhddahpmnmabDoorIn1
namespace Go.Proofs.YtdnfhddahpmnmabDoor
open Go.RowKit

/-- The program's table: each kind's name and rule, at 0 none. -/
def entV : Array Value := #[.string ⟨#[]⟩, .int .i64 0, .string ⟨#[112, 97, 100]⟩, .int .i64 5, .string ⟨#[112, 105, 110, 103, 55]⟩, .int .i64 5, .string ⟨#[112, 105, 110, 103, 111, 110]⟩, .int .i64 5, .string ⟨#[115, 101, 116, 115, 111, 110]⟩, .int .i64 5, .string ⟨#[97, 99, 107, 98, 111, 100, 121]⟩, .int .i64 5, .string ⟨#[115, 101, 116, 115, 53]⟩, .int .i64 5, .string ⟨#[115, 116, 101, 112, 48]⟩, .int .i64 17, .string ⟨#[111, 118, 101, 114]⟩, .int .i64 18, .string ⟨#[100, 97, 116, 97, 105, 100, 108, 101]⟩, .int .i64 10, .string ⟨#[114, 115, 116, 105, 100, 108, 101]⟩, .int .i64 10, .string ⟨#[97, 108, 111, 110, 101]⟩, .int .i64 4, .string ⟨#[112, 114, 105, 111, 52]⟩, .int .i64 5, .string ⟨#[97, 119, 97, 121, 55]⟩, .int .i64 5, .string ⟨#[112, 117, 115, 104]⟩, .int .i64 22, .string ⟨#[108, 111, 110, 103]⟩, .int .i64 3, .string ⟨#[116, 97, 98, 108, 101]⟩, .int .i64 25, .string ⟨#[117, 112, 100, 97, 116, 101]⟩, .int .i64 26, .string ⟨#[117, 112, 112, 101, 114]⟩, .int .i64 28, .string ⟨#[98, 97, 114, 114, 101, 100]⟩, .int .i64 29, .string ⟨#[110, 111, 112, 97, 116, 104]⟩, .int .i64 30, .string ⟨#[119, 105, 116, 104, 105, 110]⟩, .int .i64 4, .string ⟨#[112, 117, 115, 104, 50]⟩, .int .i64 6, .string ⟨#[102, 114, 97, 109, 101, 48]⟩, .int .i64 6, .string ⟨#[119, 105, 110, 100, 111, 119]⟩, .int .i64 6, .string ⟨#[114, 115, 116, 48]⟩, .int .i64 5, .string ⟨#[97, 99, 107]⟩, .int .i64 7]
def nmA : Array ByteArray := #[⟨#[112, 97, 100]⟩, ⟨#[112, 105, 110, 103, 55]⟩, ⟨#[112, 105, 110, 103, 111, 110]⟩, ⟨#[115, 101, 116, 115, 111, 110]⟩, ⟨#[97, 99, 107, 98, 111, 100, 121]⟩, ⟨#[115, 101, 116, 115, 53]⟩, ⟨#[115, 116, 101, 112, 48]⟩, ⟨#[111, 118, 101, 114]⟩, ⟨#[100, 97, 116, 97, 105, 100, 108, 101]⟩, ⟨#[114, 115, 116, 105, 100, 108, 101]⟩, ⟨#[97, 108, 111, 110, 101]⟩, ⟨#[112, 114, 105, 111, 52]⟩, ⟨#[97, 119, 97, 121, 55]⟩, ⟨#[112, 117, 115, 104]⟩, ⟨#[108, 111, 110, 103]⟩, ⟨#[116, 97, 98, 108, 101]⟩, ⟨#[117, 112, 100, 97, 116, 101]⟩, ⟨#[117, 112, 112, 101, 114]⟩, ⟨#[98, 97, 114, 114, 101, 100]⟩, ⟨#[110, 111, 112, 97, 116, 104]⟩, ⟨#[119, 105, 116, 104, 105, 110]⟩, ⟨#[112, 117, 115, 104, 50]⟩, ⟨#[102, 114, 97, 109, 101, 48]⟩, ⟨#[119, 105, 110, 100, 111, 119]⟩, ⟨#[114, 115, 116, 48]⟩, ⟨#[97, 99, 107]⟩]
def nm46 (j : Nat) : ByteArray := nmA.getD j ⟨#[]⟩
theorem ent_at {w : World} {T : TypeId} {fr : Nat × Nat} (hg : w.heap[1]? = some (.cells entV T fr)) (i : Nat) (v : Value) (h : entV[i]? = some v) : w.cell? ⟨1, i, none⟩ = some v := by
  simp only [World.cell?, hg]
  exact h
theorem ent_nm : ∀ j, j < 26 → entV[(j + 1) * 2]? = some (.string (nm46 j)) := by
  intro j hj
  rcases (show j = 0 ∨ j = 1 ∨ j = 2 ∨ j = 3 ∨ j = 4 ∨ j = 5 ∨ j = 6 ∨ j = 7 ∨ j = 8 ∨ j = 9 ∨ j = 10 ∨ j = 11 ∨ j = 12 ∨ j = 13 ∨ j = 14 ∨ j = 15 ∨ j = 16 ∨ j = 17 ∨ j = 18 ∨ j = 19 ∨ j = 20 ∨ j = 21 ∨ j = 22 ∨ j = 23 ∨ j = 24 ∨ j = 25 by omega) with rfl | rfl | rfl | rfl | rfl | rfl | rfl | rfl | rfl | rfl | rfl | rfl | rfl | rfl | rfl | rfl | rfl | rfl | rfl | rfl | rfl | rfl | rfl | rfl | rfl | rfl <;> rfl
theorem nm_inj : ∀ i, i < 26 → ∀ j, j < 26 → (nm46 i).toList = (nm46 j).toList → i = j := by decide +kernel
set_option maxRecDepth 20000 in
set_option maxHeartbeats 1600000 in
theorem name46 (j : Nat) (hj : j < 26) (w : World) (T : TypeId) (fr : Nat × Nat) (hg : w.heap[1]? = some (.cells entV T fr)) : Calls Tryd.prog 24 #[.int .i64 ((j : Int) + 1)] w fun e w' => e = .returned (.string (nm46 j)) ∧ w = w' := by
  have c0 := ent_at hg ((j + 1) * 2) _ (ent_nm j hj)
  have d1 : decide ((j : Int) + 1 < 1) = false := decide_eq_false (by omega)
  have d2 : decide ((26 : Int) < (j : Int) + 1) = false := decide_eq_false (by omega)
  generalize nm46 j = s at *
  go_enter Tryd.func24, Tryd.ntmps24
  go_wp2_with fail
  go_ret
  exact ⟨rfl, rfl⟩
theorem name46_no (k : Int) (h : k < 1 ∨ 26 < k) (w : World) : Calls Tryd.prog 24 #[.int .i64 k] w fun e w' => e = .returned (.string ⟨#[]⟩) ∧ w = w' := by
  by_cases h1 : k < 1
  · have d1 : decide (k < 1) = true := decide_eq_true h1
    clear h h1
    go_enter Tryd.func24, Tryd.ntmps24
    go_wp2_with fail
    go_ret
    exact ⟨rfl, rfl⟩
  · have d1 : decide (k < 1) = false := decide_eq_false h1
    have d2 : decide (26 < k) = true := decide_eq_true (by omega)
    clear h h1
    go_enter Tryd.func24, Tryd.ntmps24
    go_wp2_with fail
    go_ret
    exact ⟨rfl, rfl⟩
def stV46 : Array Value := #[.string ⟨#[112, 97, 100]⟩, .string ⟨#[112, 105, 110, 103, 55]⟩, .string ⟨#[112, 105, 110, 103, 111, 110]⟩, .string ⟨#[115, 101, 116, 115, 111, 110]⟩, .string ⟨#[97, 99, 107, 98, 111, 100, 121]⟩, .string ⟨#[115, 101, 116, 115, 53]⟩, .string ⟨#[115, 116, 101, 112, 48]⟩, .string ⟨#[111, 118, 101, 114]⟩, .string ⟨#[100, 97, 116, 97, 105, 100, 108, 101]⟩, .string ⟨#[114, 115, 116, 105, 100, 108, 101]⟩, .string ⟨#[97, 108, 111, 110, 101]⟩, .string ⟨#[112, 114, 105, 111, 52]⟩, .string ⟨#[97, 119, 97, 121, 55]⟩, .string ⟨#[112, 117, 115, 104]⟩, .string ⟨#[108, 111, 110, 103]⟩, .string ⟨#[116, 97, 98, 108, 101]⟩, .string ⟨#[117, 112, 100, 97, 116, 101]⟩, .string ⟨#[117, 112, 112, 101, 114]⟩, .string ⟨#[98, 97, 114, 114, 101, 100]⟩, .string ⟨#[110, 111, 112, 97, 116, 104]⟩, .string ⟨#[119, 105, 116, 104, 105, 110]⟩, .string ⟨#[112, 117, 115, 104, 50]⟩, .string ⟨#[102, 114, 97, 109, 101, 48]⟩, .string ⟨#[119, 105, 110, 100, 111, 119]⟩, .string ⟨#[114, 115, 116, 48]⟩, .string ⟨#[97, 99, 107]⟩]
theorem st_at {w : World} {p : Nat} {T : TypeId} {fr : Nat × Nat} (hg : w.heap[p]? = some (.cells stV46 T fr)) (j : Nat) (hj : j < 26) : w.cell? ⟨p, j, none⟩ = some (.string (nm46 j)) := by
  simp only [World.cell?, hg]
  rcases (show j = 0 ∨ j = 1 ∨ j = 2 ∨ j = 3 ∨ j = 4 ∨ j = 5 ∨ j = 6 ∨ j = 7 ∨ j = 8 ∨ j = 9 ∨ j = 10 ∨ j = 11 ∨ j = 12 ∨ j = 13 ∨ j = 14 ∨ j = 15 ∨ j = 16 ∨ j = 17 ∨ j = 18 ∨ j = 19 ∨ j = 20 ∨ j = 21 ∨ j = 22 ∨ j = 23 ∨ j = 24 ∨ j = 25 by omega) with rfl | rfl | rfl | rfl | rfl | rfl | rfl | rfl | rfl | rfl | rfl | rfl | rfl | rfl | rfl | rfl | rfl | rfl | rfl | rfl | rfl | rfl | rfl | rfl | rfl | rfl <;> rfl
set_option maxRecDepth 20000 in
set_option maxHeartbeats 1600000 in
theorem rnames46 (w : World) : Calls Tryd.prog 22 #[] w fun e w' => ∃ p, e = .returned (.slice (some ⟨p, 0, none⟩) 26 26) ∧ w'.heap[p]? = some (.cells stV46 9 (0, 0)) ∧ Below w.heap.size w w' := by
  have R0 := hide (heap_alloc_new w (.cells stV46 9))
  have E0 := hide ((Below.refl w.heap.size w).alloc (Nat.le_refl _) (.cells stV46 9))
  go_enter Tryd.func22, Tryd.ntmps22
  go_wp2_with fail
  go_ret
  exact ⟨_, rfl, R0.out, E0.out⟩
/-- Which kind a name is: the place of the name, counted from 1; 0: of none. -/
def Is46 (s : ByteArray) (n : Nat) : Prop := (n = 0 ∧ ∀ j, j < 26 → nm46 j ≠ s) ∨ (∃ j, n = j + 1 ∧ j < 26 ∧ nm46 j = s)
theorem Is46.same {s : ByteArray} {n m : Nat} (h : Is46 s n) (h' : Is46 s m) : n = m := by
  rcases h with ⟨rfl, h⟩ | ⟨j, rfl, hj, h⟩ <;> rcases h' with ⟨rfl, h'⟩ | ⟨i, rfl, hi, h'⟩
  · rfl
  · exact absurd h' (h i hi)
  · exact absurd h (h' j hj)
  · rw [nm_inj j hj i hi (by rw [h, h'])]
theorem str_eq46 {a b : ByteArray} (h : a = b) : (a.toList == b.toList) = true := by rw [h]; simp
theorem str_ne46 {a b : ByteArray} (h : a ≠ b) : (a.toList == b.toList) = false := by
  rw [beq_eq_false_iff_ne]
  intro h1
  rw [ByteArray.toList_eq, ByteArray.toList_eq] at h1
  exact h (ByteArray.ext (Array.toList_inj.1 h1))
set_option maxRecDepth 20000 in
set_option maxHeartbeats 1600000 in
theorem byname46 (s : ByteArray) (w : World) (T : TypeId) (fr : Nat × Nat) (hg : w.heap[1]? = some (.cells entV T fr)) : Calls Tryd.prog 23 #[.string s] w fun e w' => (∃ n : Nat, e = .returned (.tuple #[.int .i64 n, .bool (decide (0 < n))]) ∧ Is46 s n) ∧ w = w' := by
  have Hg := hide hg
  clear hg
  go_enter Tryd.func23, Tryd.ntmps23
  go_wp2
  go_loopw [4] (fun i wr => (∃ j : Nat, j ≤ 26 ∧ i = .int .i64 ((j : Int) + 1) ∧ ∀ k, k < j → nm46 k ≠ s) ∧ w = wr) (fun i _ => 27 - (intOf i).toNat)
  case atStart => exact ⟨⟨0, by omega, rfl, fun k hk => absurd hk (by omega)⟩, rfl⟩
  case round =>
    obtain ⟨⟨j, hj, rfl, hall⟩, rfl⟩ := hrel
    have Hall := hide hall
    clear hall
    by_cases hlt : j < 26
    · have c0 := ent_at Hg.out ((j + 1) * 2) _ (ent_nm j hlt)
      have d1 : decide ((j : Int) + 1 ≤ 26) = true := decide_eq_true (by omega)
      by_cases he : nm46 j = s
      · have t0 := str_eq46 he
        have HI : Hid (Is46 s (j + 1)) := .inr ⟨j, rfl, hlt, he⟩
        clear he
        generalize nm46 j = x at *
        go_wp2
        go_ret2
        exact ⟨⟨j + 1, by simp, HI.out⟩, rfl⟩
      · have t0 := str_ne46 he
        have HN : Hid (∀ k, k < j + 1 → nm46 k ≠ s) := fun k hk => by
          by_cases e : k = j
          · subst e; exact he
          · exact Hall.out k (by omega)
        clear he
        generalize nm46 j = x at *
        go_wp2
        exact ⟨⟨⟨j + 1, by omega, by simp, HN.out⟩, trivial⟩, by simp [intOf]; omega⟩
    · obtain rfl : j = 26 := by omega
      have HI : Hid (Is46 s 0) := .inl ⟨rfl, Hall.out⟩
      go_wp2
      go_ret2
      exact ⟨⟨0, rfl, HI.out⟩, rfl⟩
set_option maxRecDepth 20000 in
set_option maxHeartbeats 1600000 in
theorem alive46 (w : World) (T : TypeId) (fr : Nat × Nat) (hg : w.heap[1]? = some (.cells entV T fr)) : Calls Tryd.prog 21 #[] w (Yes w) := by
  have Hg := hide hg
  clear hg
  go_enter Tryd.func21, Tryd.ntmps21
  go_wp2_with fail
  refine (sent46 _).mono ?_
  rintro e w1 ⟨p, A, c, rfl, hr, hb⟩
  have G1 := hide ((hb.block _ (rowLt Hg.out)).trans Hg.out)
  have HB := hide hb
  obtain ⟨c0, c1, c2, c3, c4, c5⟩ := row6I hr
  clear hb hr
  go_wp2_with fail
  refine (name46 1 (by decide) _ T fr G1.out).mono ?_
  rw [show nm46 1 = ⟨#[112, 105, 110, 103, 55]⟩ from rfl]
  rintro e w2 ⟨rfl, rfl⟩
  go_wp2_with fail
  go_ret
  exact ⟨by first | rfl | decide | kernel_rfl, HB.out⟩
end Go.Proofs.YtdnfhddahpmnmabDoor
