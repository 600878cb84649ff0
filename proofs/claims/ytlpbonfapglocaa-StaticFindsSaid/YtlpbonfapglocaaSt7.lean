/- Layer 20: the reference's Find. -/
import Derived.Test.YtlpbonfapglocaaSt6
namespace Go.Proofs.Ytlpbonfapglocaa
open Go.RowKit

/-- The least place of the name from m on, one more; else 0. -/
def Fd1 (n : ByteArray) (m : Nat) (F : Int) : Prop := (F = 0 ∧ ∀ j, m ≤ j → j < 61 → nmB j ≠ n) ∨ ∃ q : Nat, m ≤ q ∧ q < 61 ∧ F = (q : Int) + 1 ∧ nmB q = n ∧ ∀ j, m ≤ j → j < q → nmB j ≠ n
theorem Fd1.no {n : ByteArray} {k : Nat} {F : Int} (h : Fd1 n (k + 1) F) (hn : nmB k ≠ n) : Fd1 n k F := by
  rcases h with ⟨e, h⟩ | ⟨q, h1, h2, e, h3, h4⟩
  · refine .inl ⟨e, fun j hj hl => ?_⟩
    by_cases ej : j = k
    · subst ej
      exact hn
    · exact h j (by omega) hl
  · refine .inr ⟨q, by omega, h2, e, h3, fun j hj hl => ?_⟩
    by_cases ej : j = k
    · subst ej
      exact hn
    · exact h4 j (by omega) hl
theorem Fd1.yes {n : ByteArray} {k : Nat} (hk : k < 61) (hn : nmB k = n) : Fd1 n k ((k : Int) + 1) := .inr ⟨k, Nat.le_refl _, hk, rfl, hn, fun j hj hl => by omega⟩
theorem str_none {a : ByteArray} (h : a = ⟨#[]⟩) : a.toList.isEmpty = true := by subst h; decide +kernel
def RfE (n v : ByteArray) (w : World) (e : Ending) (w' : World) : Prop := ∃ i b, e = .returned (.tuple #[.int .i64 i, .bool b]) ∧ FdR n v i b ∧ w' = w
set_option maxHeartbeats 3200000 in
theorem rfind_any (n v : ByteArray) (w : World) : Calls Try.prog 39 #[.string n, .string v] w (RfE n v w) := by
  have HN : Hid (∀ (k : Nat) (_ : k < 61) (W : World), Calls Try.prog 64 #[.int .i64 ((k : Int) + 1)] W (fun e w' => e = .returned (.string (nmB k)) ∧ w' = W)) := fun k hk W => by
    have := rname_any ((k : Int) + 1) W
    rwa [rnm_at k hk] at this
  have HV : Hid (∀ (k : Nat) (_ : k < 61) (W : World), Calls Try.prog 65 #[.int .i64 ((k : Int) + 1)] W (fun e w' => e = .returned (.string (vlB k)) ∧ w' = W)) := fun k hk W => by
    have := rvalue_any ((k : Int) + 1) W
    rwa [rvl_at k hk] at this
  by_cases h0 : n = ⟨#[]⟩
  · have t0 := str_none h0
    have HR : Hid (FdR n v 0 false) := .inr ⟨rfl, fun j hj h => nm_some j hj (by rw [h.1, h0]), .inl ⟨rfl, fun j hj h => nm_some j hj (by rw [h, h0])⟩⟩
    clear h0
    go_enter Try.func39, Try.ntmps39
    go_wp2_with fail
    go_ret2
    exact ⟨_, _, rfl, HR.out, rfl⟩
  have t0 := str_some h0
  clear h0
  go_enter Try.func39, Try.ntmps39
  go_wp2_with fail
  go_loopw [6, 7] (fun f i wr => ∃ (m : Nat) (I F : Int), m ≤ 61 ∧ I = m ∧ i = .int .i64 I ∧ f = .int .i64 F ∧ Fd1 n m F ∧ wr = w) (fun _ i _ => (intOf i).toNat)
  case atStart => exact ⟨61, 61, 0, Nat.le_refl _, rfl, rfl, rfl, .inl ⟨rfl, fun j h1 h2 => by omega⟩, rfl⟩
  case round =>
    obtain ⟨m, I, F, hm, hI, rfl, rfl, hF, rfl⟩ := hrel
    have HF := hide hF
    clear hF
    by_cases h1 : 1 ≤ m
    · obtain ⟨k, rfl⟩ : ∃ k, m = k + 1 := ⟨m - 1, by omega⟩
      have hk : k < 61 := by omega
      have hI' : I = (k : Int) + 1 := by omega
      clear hI
      subst hI'
      have hd : decide (1 ≤ (k : Int) + 1) = true := by simp; omega
      have hNk := hide (HN.out k hk)
      obtain ⟨N, hN⟩ : ∃ N, nmB k = N := ⟨_, rfl⟩
      rw [hN] at hNk
      have e1 : (k : Int) + 1 - 1 = (k : Int) := by omega
      by_cases hn : N = n
      · have t1 := str_eq hn
        have HF' : Hid (Fd1 n k ((k : Int) + 1)) := Fd1.yes hk (by rw [hN, hn])
        clear hn hN
        go_wp2_with fail
        refine (hNk.out _).mono ?_
        rintro e w1 ⟨rfl, rfl⟩
        go_wp2_with fail
        exact ⟨⟨k, k, (k : Int) + 1, by omega, rfl, by go_num, rfl, HF'.out, trivial⟩, by simp [intOf]⟩
      · have t1 := str_ne hn
        have HF' : Hid (Fd1 n k F) := HF.out.no (by rw [hN]; exact hn)
        clear hn hN
        go_wp2_with fail
        refine (hNk.out _).mono ?_
        rintro e w1 ⟨rfl, rfl⟩
        go_wp2_with fail
        exact ⟨⟨k, k, F, by omega, rfl, by go_num, rfl, HF'.out, trivial⟩, by simp [intOf]⟩
    · obtain rfl : m = 0 := by omega
      have hI' : I = 0 := by omega
      clear hI
      subst hI'
      have HF0 : Hid (Fd1 n 0 F) := HF.out
      go_wp2_with fail
      go_loopw [8] (fun i wr' => ∃ k : Nat, k ≤ 61 ∧ i = .int .i64 ((k : Int) + 1) ∧ (∀ j, j < k → ¬ (nmB j = n ∧ vlB j = v)) ∧ wr' = wr) (fun i _ => 62 - (intOf i).toNat)
      case atStart => exact ⟨0, by omega, rfl, fun j h => absurd h (by omega), rfl⟩
      case round =>
        obtain ⟨k, hk, rfl, hno, rfl⟩ := hrel
        have Hno := hide hno
        clear hno
        by_cases hlt : k < 61
        · have hd : decide ((k : Int) + 1 ≤ 61) = true := by simp; omega
          have hNk := hide (HN.out k hlt)
          have hVk := hide (HV.out k hlt)
          obtain ⟨N, hN⟩ : ∃ N, nmB k = N := ⟨_, rfl⟩
          obtain ⟨V, hV⟩ : ∃ V, vlB k = V := ⟨_, rfl⟩
          rw [hN] at hNk
          rw [hV] at hVk
          by_cases hn : N = n
          · have t1 := str_eq hn
            by_cases hv : V = v
            · have t2 := str_eq hv
              have HR : Hid (FdR n v ((k : Int) + 1) true) := .inl ⟨rfl, k, hlt, rfl, by rw [hN, hn], by rw [hV, hv], Hno.out⟩
              clear hn hv hN hV
              go_wp2_with fail
              refine (hNk.out _).mono ?_
              rintro e w1 ⟨rfl, rfl⟩
              go_wp2_with fail
              refine (hVk.out _).mono ?_
              rintro e w1 ⟨rfl, rfl⟩
              go_wp2_with fail
              go_ret2
              exact ⟨_, _, rfl, HR.out, rfl⟩
            · have t2 := str_ne hv
              have Hno' : Hid (∀ j, j < k + 1 → ¬ (nmB j = n ∧ vlB j = v)) := fun j hj => by
                by_cases e : j = k
                · subst e
                  exact fun h => hv (by rw [← hV]; exact h.2)
                · exact Hno.out j (by omega)
              clear hn hv hN hV
              go_wp2_with fail
              refine (hNk.out _).mono ?_
              rintro e w1 ⟨rfl, rfl⟩
              go_wp2_with fail
              refine (hVk.out _).mono ?_
              rintro e w1 ⟨rfl, rfl⟩
              go_wp2_with fail
              exact ⟨⟨k + 1, by omega, by go_num, Hno'.out, trivial⟩, by simp [intOf]; omega⟩
          · have t1 := str_ne hn
            have Hno' : Hid (∀ j, j < k + 1 → ¬ (nmB j = n ∧ vlB j = v)) := fun j hj => by
              by_cases e : j = k
              · subst e
                exact fun h => hn (by rw [← hN]; exact h.1)
              · exact Hno.out j (by omega)
            clear hn hN hV
            go_wp2_with fail
            refine (hNk.out _).mono ?_
            rintro e w1 ⟨rfl, rfl⟩
            go_wp2_with fail
            exact ⟨⟨k + 1, by omega, by go_num, Hno'.out, trivial⟩, by simp [intOf]; omega⟩
        · obtain rfl : k = 61 := by omega
          have HR : Hid (FdR n v F false) := by
            refine .inr ⟨rfl, Hno.out, ?_⟩
            rcases HF0.out with ⟨e, h⟩ | ⟨q, _, h2, e, h3, h4⟩
            · exact .inl ⟨e, fun j hj => h j (Nat.zero_le _) hj⟩
            · exact .inr ⟨q, h2, e, h3, fun j hj => h4 j (Nat.zero_le _) hj⟩
          go_wp2_with fail
          go_ret2
          exact ⟨_, _, rfl, HR.out, rfl⟩
end Go.Proofs.Ytlpbonfapglocaa
