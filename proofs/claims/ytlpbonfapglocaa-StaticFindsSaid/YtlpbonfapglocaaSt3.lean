/- Layer 20: the contract of 'static.Find'; the chapter's example. -/
import Derived.Test.YtlpbonfapglocaaSt2
namespace Go.Proofs.Ytlpbonfapglocaa
open Go.RowKit

theorem str_eq {a b : ByteArray} (h : a = b) : (a.toList == b.toList) = true := by subst h; simp
theorem str_ne {a b : ByteArray} (h : a ≠ b) : (a.toList == b.toList) = false := by
  have : ¬ a.toList = b.toList := fun e => h (Go.WideShapes.bytes_inj (by rw [← ByteArray.toList_eq, ← ByteArray.toList_eq]; exact e))
  simpa using this
def FdE (n v : ByteArray) (w : World) (e : Ending) (w' : World) : Prop := ∃ i b, e = .returned (.tuple #[.int .i64 i, .bool b]) ∧ FdR n v i b ∧ Below w.heap.size w w'
set_option maxHeartbeats 3200000 in
theorem sfind_any (n v : ByteArray) (w : World) : Calls Try.prog 38 #[.string n, .string v] w (FdE n v w) := by
  obtain ⟨cs, hcs⟩ : ∃ cs, cs = stV := ⟨_, rfl⟩
  have Hf : Hid (∀ W, Calls Try.prog 63 #[] W fun e w' => e = .returned (.agg cs.toArray) ∧ Below W.heap.size W w') := fun W => by rw [hcs]; exact fields_any W
  have hl : cs.length = 122 := by rw [hcs]; exact stV_len
  have Hix : Hid (∀ k : Nat, k < 61 → ∀ W, (Instr.index 86 (.agg cs.toArray) (.int .i64 (k : Int))).run Try.prog W = .ok (.agg #[.string (nmB k), .string (vlB k)]) W) := fun k hk => by
    obtain ⟨g1, g2⟩ := stV_get k hk
    rw [← hcs] at g1 g2
    exact idx61 (cs := cs) k hk _ _ hl g1 g2
  clear hcs hl
  go_enter Try.func38, Try.ntmps38
  go_wp2_with fail
  refine (Hf.out _).mono ?_
  rintro e w1 ⟨rfl, hb1⟩
  have HB1 := hide hb1
  have hs1 := hb1.size
  clear hb1
  go_wp2_with fail
  go_loopw [6, 10] (fun f i wr => ∃ (k : Nat) (F : Int), k ≤ 61 ∧ i = .int .i64 k ∧ f = .int .i64 F ∧ (∀ j, j < k → ¬ (nmB j = n ∧ vlB j = v)) ∧ ((F = 0 ∧ ∀ j, j < k → nmB j ≠ n) ∨ ∃ q : Nat, q < k ∧ F = (q : Int) + 1 ∧ nmB q = n ∧ ∀ j, j < q → nmB j ≠ n) ∧ Below w1.heap.size w1 wr) (fun _ i _ => 61 - (intOf i).toNat)
  case atStart => exact ⟨0, 0, Nat.zero_le _, rfl, rfl, fun j h => absurd h (by omega), .inl ⟨rfl, fun j h => absurd h (by omega)⟩, Below.refl _ _⟩
  case round =>
    obtain ⟨k, F, hk, rfl, rfl, hno, hF, hB⟩ := hrel
    have Hno := hide hno
    have HF := hide hF
    have HB := hide hB
    have hsz := hB.size
    clear hno hF hB
    by_cases hlt : k < 61
    · have hd : decide ((k : Int) < 61) = true := by simp; omega
      have hidx := Hix.out k hlt
      obtain ⟨N, hN⟩ : ∃ N, nmB k = N := ⟨_, rfl⟩
      obtain ⟨V, hV⟩ : ∃ V, vlB k = V := ⟨_, rfl⟩
      rw [hN, hV] at hidx
      have HN := hide hN
      have HV := hide hV
      clear hN hV
      have HA : Hid (Below w1.heap.size w1 (wr.alloc (.cells #[.string N, .string V] 85))) := HB.out.alloc hsz _
      by_cases hn : N = n
      · have t1 : (!N.toList == n.toList) = false := by rw [str_eq hn]; rfl
        by_cases hv : V = v
        · have t2 := str_eq hv
          have HR : Hid (FdR n v ((k : Int) + 1) true) := .inl ⟨rfl, k, hlt, rfl, by rw [HN.out, hn], by rw [HV.out, hv], Hno.out⟩
          clear hn hv
          go_wp2_with fail
          go_ret2
          exact ⟨_, _, rfl, HR.out, HB1.out.of HA.out⟩
        · have t2 := str_ne hv
          have Hno' : Hid (∀ j, j < k + 1 → ¬ (nmB j = n ∧ vlB j = v)) := fun j hj => by
            by_cases e : j = k
            · subst e
              exact fun h => hv (by rw [← HV.out]; exact h.2)
            · exact Hno.out j (by omega)
          have Hn := hide hn
          clear hn hv
          by_cases hF0 : F = 0
          · have t3 : (F == 0) = true := by simpa using hF0
            have HF' : Hid (∃ q : Nat, q < k + 1 ∧ (k : Int) + 1 = (q : Int) + 1 ∧ nmB q = n ∧ ∀ j, j < q → nmB j ≠ n) := by
              refine ⟨k, by omega, rfl, by rw [HN.out, Hn.out], ?_⟩
              rcases HF.out with ⟨_, h⟩ | ⟨q, _, e, _⟩
              · exact h
              · omega
            clear hF0
            go_wp2_with fail
            exact ⟨⟨k + 1, (k : Int) + 1, by omega, by go_num, rfl, Hno'.out, .inr HF'.out, HA.out⟩, by simp [intOf]; omega⟩
          · have t3 : (F == 0) = false := by simpa using hF0
            have HF' : Hid (∃ q : Nat, q < k + 1 ∧ F = (q : Int) + 1 ∧ nmB q = n ∧ ∀ j, j < q → nmB j ≠ n) := by
              rcases HF.out with ⟨e, _⟩ | ⟨q, hq, e, h1, h2⟩
              · exact absurd e hF0
              · exact ⟨q, by omega, e, h1, h2⟩
            clear hF0
            go_wp2_with fail
            exact ⟨⟨k + 1, F, by omega, by go_num, rfl, Hno'.out, .inr HF'.out, HA.out⟩, by simp [intOf]; omega⟩
      · have t1 : (!N.toList == n.toList) = true := by rw [str_ne hn]; rfl
        have hnk : nmB k ≠ n := by rw [HN.out]; exact hn
        have Hno' : Hid (∀ j, j < k + 1 → ¬ (nmB j = n ∧ vlB j = v)) := fun j hj => by
          by_cases e : j = k
          · subst e
            exact fun h => hnk h.1
          · exact Hno.out j (by omega)
        have HF' : Hid ((F = 0 ∧ ∀ j, j < k + 1 → nmB j ≠ n) ∨ ∃ q : Nat, q < k + 1 ∧ F = (q : Int) + 1 ∧ nmB q = n ∧ ∀ j, j < q → nmB j ≠ n) := by
          rcases HF.out with ⟨e, h⟩ | ⟨q, hq, e, h1, h2⟩
          · refine .inl ⟨e, fun j hj => ?_⟩
            by_cases e : j = k
            · subst e
              exact hnk
            · exact h j (by omega)
          · exact .inr ⟨q, by omega, e, h1, h2⟩
        clear hn hnk
        go_wp2_with fail
        exact ⟨⟨k + 1, F, by omega, by go_num, rfl, Hno'.out, HF'.out, HA.out⟩, by simp [intOf]; omega⟩
    · obtain rfl : k = 61 := by omega
      go_wp2_with fail
      go_ret2
      exact ⟨_, _, rfl, .inr ⟨rfl, Hno.out, HF.out⟩, HB1.out.of HB.out⟩
theorem meth_at : nmB 1 = ⟨#[58, 109, 101, 116, 104, 111, 100]⟩ ∧ (∀ j, j < 1 → nmB j ≠ ⟨#[58, 109, 101, 116, 104, 111, 100]⟩) := by
  refine ⟨by kernel_rfl, fun j hj => ?_⟩
  obtain rfl : j = 0 := by omega
  decide +kernel
theorem put_no : ∀ j, j < 61 → ¬ (nmB j = ⟨#[58, 109, 101, 116, 104, 111, 100]⟩ ∧ vlB j = ⟨#[80, 85, 84]⟩) := fun j hj => by
  have h : ∀ i : Fin 61, ¬ (nmB i.val = ⟨#[58, 109, 101, 116, 104, 111, 100]⟩ ∧ vlB i.val = ⟨#[80, 85, 84]⟩) := by decide +kernel
  exact h ⟨j, hj⟩
theorem alive20 (w : World) : Calls Try.prog 37 #[] w (Yes w) := by
  go_enter Try.func37, Try.ntmps37
  go_wp2_with fail
  refine (sfind_any _ _ _).mono ?_
  rintro e w1 ⟨i, b, rfl, hR, hb1⟩
  have HB1 := hide hb1
  clear hb1
  obtain ⟨rfl, rfl⟩ := hR.same (j := ((1 : Nat) : Int) + 1) (d := false) (.inr ⟨rfl, put_no, .inr ⟨1, by omega, rfl, meth_at.1, meth_at.2⟩⟩)
  clear hR
  go_wp2_with fail
  go_ret
  exact ⟨rfl, HB1.out⟩
end Go.Proofs.Ytlpbonfapglocaa
