/- Layer 20: the contracts of 'static.At' and 'static.Find'; the chapter's example. -/
import Derived.Test.YtlpbonfapglocaaSt1
namespace Go.Proofs.Ytlpbonfapglocaa
open Go.RowKit

/-- The k-th name and value, from 0 on. -/
def nmB (k : Nat) : ByteArray := ⟨(stL.getD k ([], [])).1.toArray⟩
def vlB (k : Nat) : ByteArray := ⟨(stL.getD k ([], [])).2.toArray⟩
theorem stV_get : ∀ k, k < 61 → stV[k * 2]? = some (.string (nmB k)) ∧ stV[k * 2 + 1]? = some (.string (vlB k)) := by
  have h : ∀ k : Fin 61, stV[k.val * 2]? = some (.string (nmB k.val)) ∧ stV[k.val * 2 + 1]? = some (.string (vlB k.val)) := by
    intro k
    rcases k with ⟨k, hk⟩
    have : k = 0 ∨ k = 1 ∨ k = 2 ∨ k = 3 ∨ k = 4 ∨ k = 5 ∨ k = 6 ∨ k = 7 ∨ k = 8 ∨ k = 9 ∨ k = 10 ∨ k = 11 ∨ k = 12 ∨ k = 13 ∨ k = 14 ∨ k = 15 ∨ k = 16 ∨ k = 17 ∨ k = 18 ∨ k = 19 ∨ k = 20 ∨ k = 21 ∨ k = 22 ∨ k = 23 ∨ k = 24 ∨ k = 25 ∨ k = 26 ∨ k = 27 ∨ k = 28 ∨ k = 29 ∨ k = 30 ∨ k = 31 ∨ k = 32 ∨ k = 33 ∨ k = 34 ∨ k = 35 ∨ k = 36 ∨ k = 37 ∨ k = 38 ∨ k = 39 ∨ k = 40 ∨ k = 41 ∨ k = 42 ∨ k = 43 ∨ k = 44 ∨ k = 45 ∨ k = 46 ∨ k = 47 ∨ k = 48 ∨ k = 49 ∨ k = 50 ∨ k = 51 ∨ k = 52 ∨ k = 53 ∨ k = 54 ∨ k = 55 ∨ k = 56 ∨ k = 57 ∨ k = 58 ∨ k = 59 ∨ k = 60 := by omega
    rcases this with rfl | rfl | rfl | rfl | rfl | rfl | rfl | rfl | rfl | rfl | rfl | rfl | rfl | rfl | rfl | rfl | rfl | rfl | rfl | rfl | rfl | rfl | rfl | rfl | rfl | rfl | rfl | rfl | rfl | rfl | rfl | rfl | rfl | rfl | rfl | rfl | rfl | rfl | rfl | rfl | rfl | rfl | rfl | rfl | rfl | rfl | rfl | rfl | rfl | rfl | rfl | rfl | rfl | rfl | rfl | rfl | rfl | rfl | rfl | rfl | rfl <;> exact ⟨by kernel_rfl, by kernel_rfl⟩
  exact fun k hk => h ⟨k, hk⟩
theorem idx61 {cs : List Value} (k : Nat) (hk : k < 61) (N V : ByteArray) (hl : cs.length = 122) (h : cs[k * 2]? = some (.string N)) (h' : cs[k * 2 + 1]? = some (.string V)) (W : World) :
    (Instr.index 86 (.agg cs.toArray) (.int .i64 (k : Int))).run Try.prog W = .ok (.agg #[.string N, .string V]) W := by
  have hu : Try.prog.underlying 86 = some (.array 61 85) := Try.underlying86
  have h3 : (Try.prog.info? 85).map (·.size) = some 2 := by kernel_rfl
  obtain ⟨i, hi, h1⟩ := Option.map_eq_some_iff.1 h3
  have hz := Try.underlying85
  have e1 : (0 : Int) ≤ (k : Int) ∧ (k : Int) < 61 := by omega
  have hd : (cs.drop (k * 2)).take 2 = [.string N, .string V] := by
    refine List.ext_getElem? fun j => ?_
    rw [List.getElem?_take]
    by_cases hj : j < 2
    · rw [if_pos hj, List.getElem?_drop]
      have hj' : j = 0 ∨ j = 1 := by omega
      rcases hj' with rfl | rfl
      · simpa using h
      · simpa using h'
    · rw [if_neg hj, List.getElem?_eq_none (by simp; omega)]
  simp [Instr.index, run_underlying hu, asIntOf, e1, sizeOf, typeInfo, hi, h1, isAgg, run_underlying hz, part, go_sem]
  rw [if_pos hk, hd]

/-! ### At -/
theorem row3s {w : World} {b : Nat} {T : TypeId} {v0 v1 v2 : Value} (h : w.heap[b]? = some (.cells #[v0, v1, v2] T (0, 0))) : w.cell? ⟨b, 0, none⟩ = some v0 ∧ w.cell? ⟨b, 1, none⟩ = some v1 ∧ w.cell? ⟨b, 2, none⟩ = some v2 := by
  refine ⟨?_, ?_, ?_⟩
  · rw [cell_of_row w b 0 _ _ _ h]; rfl
  · rw [cell_of_row w b 1 _ _ _ h]; rfl
  · rw [cell_of_row w b 2 _ _ _ h]; rfl
set_option maxHeartbeats 1600000 in
theorem at_out (z : Int) (w : World) (h : z < 1 ∨ 61 < z) : Calls Try.prog 35 #[.int .i64 z] w fun e w' => e = .returned (.tuple #[.agg #[.string ⟨#[]⟩, .string ⟨#[]⟩, .bool false], .bool false]) ∧ Below w.heap.size w w' := by
  have R0 := hide (heap_alloc_new w (.cells #[.string ⟨#[]⟩, .string ⟨#[]⟩, .bool false] 60))
  by_cases h0 : z < 1
  · have d0 : decide (z < 1) = true := by simpa using h0
    go_enter Try.func35, Try.ntmps35
    go_wp2_with fail
    refine bodyPost_ret (v := .tuple #[.agg #[.string ⟨#[]⟩, .string ⟨#[]⟩, .bool false], .bool false]) ?_ rfl ⟨rfl, ?_⟩
    · rw [results_cell_tmp rfl]
      go_simp
    · repeat (first | exact Below.refl _ _ | refine Below.setCell ?_ (by simp) _ | refine Below.alloc ?_ (by simp) _)
  · have d0 : decide (z < 1) = false := by simpa using h0
    have d1 : decide (61 < z) = true := by simp; omega
    go_enter Try.func35, Try.ntmps35
    go_wp2_with fail
    refine bodyPost_ret (v := .tuple #[.agg #[.string ⟨#[]⟩, .string ⟨#[]⟩, .bool false], .bool false]) ?_ rfl ⟨rfl, ?_⟩
    · rw [results_cell_tmp rfl]
      go_simp
    · repeat (first | exact Below.refl _ _ | refine Below.setCell ?_ (by simp) _ | refine Below.alloc ?_ (by simp) _)
set_option maxHeartbeats 1600000 in
theorem at_in (k : Nat) (w : World) (hk : k < 61) : Calls Try.prog 35 #[.int .i64 ((k : Int) + 1)] w fun e w' => e = .returned (.tuple #[.agg #[.string (nmB k), .string (vlB k), .bool false], .bool true]) ∧ Below w.heap.size w w' := by
  have d0 : decide ((k : Int) + 1 < 1) = false := by simp; omega
  have d1 : decide (61 < (k : Int) + 1) = false := by simp; omega
  obtain ⟨g1, g2⟩ := stV_get k hk
  obtain ⟨N, hN⟩ : ∃ N, nmB k = N := ⟨_, rfl⟩
  obtain ⟨V, hV⟩ : ∃ V, vlB k = V := ⟨_, rfl⟩
  rw [hN] at g1 ⊢
  rw [hV] at g2 ⊢
  obtain ⟨cs, hcs⟩ : ∃ cs, cs = stV := ⟨_, rfl⟩
  have Hf : Hid (∀ W, Calls Try.prog 63 #[] W fun e w' => e = .returned (.agg cs.toArray) ∧ Below W.heap.size W w') := fun W => by rw [hcs]; exact fields_any W
  rw [← hcs] at g1 g2
  have hl : cs.length = 122 := by rw [hcs]; exact stV_len
  have hidx := idx61 (cs := cs) k hk N V hl g1 g2
  have hk1 : (k : Int) + 1 - 1 = (k : Int) := by omega
  have R0 := hide (heap_alloc_new w (.cells #[.string ⟨#[]⟩, .string ⟨#[]⟩, .bool false] 60))
  have B0 : Hid (Below w.heap.size w (w.alloc (.cells #[.string ⟨#[]⟩, .string ⟨#[]⟩, .bool false] 60))) := (Below.refl _ _).alloc (Nat.le_refl _) _
  clear hN hV hcs g1 g2 hl
  go_enter Try.func35, Try.ntmps35
  go_wp2_with fail
  refine (Hf.out _).mono ?_
  rintro e w1 ⟨rfl, hb1⟩
  have R1 := hide (keepRow R0.out hb1)
  have HB1 := hide (B0.out.of hb1)
  have hl1 := rowLt R1.out
  have hs1 := HB1.out.size
  have S1 := setRow w1 w.heap.size 0 (.string N) R1.out
  have S2 := setRow _ w.heap.size 1 (.string V) S1
  have S3 := setRow _ w.heap.size 2 (.bool false) S2
  simp only [List.setIfInBounds_toArray, List.set_cons_zero, List.set_cons_succ] at S1 S2 S3
  have A3 := hide (keepRow S3 ((Below.refl _ _).alloc (Nat.le_refl _) (.cells #[.string N, .string V] 85)))
  have A0 := keepRow R1.out ((Below.refl _ _).alloc (Nat.le_refl _) (.cells #[.string N, .string V] 85))
  have A1 := keepRow S1 ((Below.refl _ _).alloc (Nat.le_refl _) (.cells #[.string N, .string V] 85))
  have A2 := keepRow S2 ((Below.refl _ _).alloc (Nat.le_refl _) (.cells #[.string N, .string V] 85))
  have z00 := frozenRow A0 0
  have z11 := frozenRow A1 1
  have z22 := frozenRow A2 2
  obtain ⟨c00, c01, c02⟩ := row3s A0
  obtain ⟨c10, c11, c12⟩ := row3s A1
  obtain ⟨c20, c21, c22⟩ := row3s A2
  have y00 := frozenRow R1.out 0
  have y11 := frozenRow S1 1
  have y22 := frozenRow S2 2
  obtain ⟨d00, d01, d02⟩ := row3s R1.out
  obtain ⟨d10, d11, d12⟩ := row3s S1
  obtain ⟨d20, d21, d22⟩ := row3s S2
  clear S1 S2 S3 A0 A1 A2
  have hne : w.heap.size ≠ w1.heap.size := by omega
  clear hb1
  go_wp2_with fail
  obtain ⟨e0, e1, e2⟩ := row3s A3.out
  refine bodyPost_ret (v := .tuple #[.agg #[.string N, .string V, .bool false], .bool true]) ?_ rfl ⟨rfl, ?_⟩
  · rw [results_cell_tmp rfl]
    go_simp
  · exact (((HB1.out.setCell (Nat.le_refl _) _).setCell (Nat.le_refl _) _).setCell (Nat.le_refl _) _).alloc (by simp [World.setCell]; exact hs1) _

/-! ### Find -/
/-- Where a field stands: the least place of both; else of the name; else 0. -/
def FdR (n v : ByteArray) (i : Int) (b : Bool) : Prop :=
  (b = true ∧ ∃ k : Nat, k < 61 ∧ i = (k : Int) + 1 ∧ nmB k = n ∧ vlB k = v ∧ ∀ j, j < k → ¬ (nmB j = n ∧ vlB j = v)) ∨
  (b = false ∧ (∀ j, j < 61 → ¬ (nmB j = n ∧ vlB j = v)) ∧ ((i = 0 ∧ ∀ j, j < 61 → nmB j ≠ n) ∨ ∃ k : Nat, k < 61 ∧ i = (k : Int) + 1 ∧ nmB k = n ∧ ∀ j, j < k → nmB j ≠ n))
theorem FdR.same {n v : ByteArray} {i j : Int} {b d : Bool} (h : FdR n v i b) (k : FdR n v j d) : i = j ∧ b = d := by
  rcases h with ⟨rfl, p, hp, rfl, h1, h2, h3⟩ | ⟨rfl, h0, h⟩
  · rcases k with ⟨rfl, q, hq, rfl, k1, k2, k3⟩ | ⟨rfl, k0, _⟩
    · rcases Nat.lt_trichotomy p q with e | e | e
      · exact absurd ⟨h1, h2⟩ (k3 p e)
      · subst e
        exact ⟨rfl, rfl⟩
      · exact absurd ⟨k1, k2⟩ (h3 q e)
    · exact absurd ⟨h1, h2⟩ (k0 p hp)
  · rcases k with ⟨rfl, q, hq, rfl, k1, k2, k3⟩ | ⟨rfl, k0, k⟩
    · exact absurd ⟨k1, k2⟩ (h0 q hq)
    · refine ⟨?_, rfl⟩
      rcases h with ⟨rfl, h⟩ | ⟨p, hp, rfl, h1, h2⟩
      · rcases k with ⟨rfl, _⟩ | ⟨q, hq, _, k1, _⟩
        · rfl
        · exact absurd k1 (h q hq)
      · rcases k with ⟨_, k⟩ | ⟨q, hq, rfl, k1, k2⟩
        · exact absurd h1 (k p hp)
        · rcases Nat.lt_trichotomy p q with e | e | e
          · exact absurd h1 (k2 p e)
          · subst e
            rfl
          · exact absurd k1 (h2 q e)
end Go.Proofs.Ytlpbonfapglocaa
