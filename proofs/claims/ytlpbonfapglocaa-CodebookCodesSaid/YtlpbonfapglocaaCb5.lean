/- Layer 16: whatever thirty bits come, just one code begins them: the walk of the law. -/
import Derived.Test.YtlpbonfapglocaaCb4
namespace Go.Proofs.Ytlpbonfapglocaa
open Go.RowKit

/-- How many numbers of thirty bits a code begins. -/
def wd (i : Nat) : Nat := 2 ^ (30 - len (ord i))
theorem wd_pos (i : Nat) : 0 < wd i := Nat.pow_pos (by omega)
theorem st_next : ∀ i, i < 256 → st (i + 1) = st i + wd i := st_succ
theorem st_le (i : Nat) : ∀ d, i + d < 257 → st i ≤ st (i + d) := by
  intro d
  induction d with
  | zero => intro _; exact Nat.le_refl _
  | succ d ih =>
    intro h
    have h1 := ih (by omega)
    have h2 := st_next (i + d) (by omega)
    rw [← Nat.add_assoc, h2]
    omega
theorem st_lt {i j : Nat} (h : i < j) (hj : j < 257) : st i + wd i ≤ st j := by
  have h1 := st_next i (by omega)
  have h2 := st_le (i + 1) (j - (i + 1)) (by omega)
  rw [show i + 1 + (j - (i + 1)) = j by omega] at h2
  omega
theorem st_find (v : Nat) : ∀ n, n < 257 → v < st n + wd n → ∃ i, i ≤ n ∧ st i ≤ v ∧ v < st i + wd i := by
  intro n
  induction n with
  | zero => exact fun _ h => ⟨0, Nat.le_refl _, by rw [st_zero]; omega, h⟩
  | succ n ih =>
    intro hn h
    by_cases hlt : v < st n + wd n
    · obtain ⟨i, hi, h1, h2⟩ := ih (by omega) hlt
      exact ⟨i, by omega, h1, h2⟩
    · have := st_next n (by omega)
      exact ⟨n + 1, Nat.le_refl _, by omega, h⟩
theorem div_code (v P c : Nat) (hP : 0 < P) : v / P = c ↔ c * P ≤ v ∧ v < c * P + P := by
  constructor
  · rintro rfl
    have h1 := Nat.div_mul_le_self v P
    have h2 := Nat.lt_div_mul_add (a := v) hP
    exact ⟨h1, h2⟩
  · rintro ⟨h1, h2⟩
    refine Nat.le_antisymm ?_ ?_
    · have h3 : v < (c + 1) * P := by rw [Nat.add_mul, Nat.one_mul]; exact h2
      have := (Nat.div_lt_iff_lt_mul hP).2 h3
      omega
    · exact (Nat.le_div_iff_mul_le hP).2 h1
/-- The one symbol whose code begins the bits. -/
theorem one_code (v : Nat) (hv : v < 1073741824) : ∃ t, t < 257 ∧ ∀ s, s < 257 → (v / 2 ^ (30 - len s) = cd (rnk s) ↔ s = t) := by
  obtain ⟨i, hi, h1, h2⟩ := st_find v 256 (by omega) (by unfold wd; rw [st_end]; exact hv)
  have hoi := ord_bd i (by omega)
  refine ⟨ord i, hoi.1, fun s hs => ?_⟩
  have hr := rnk_bd s hs
  have e : v / 2 ^ (30 - len s) = cd (rnk s) ↔ st (rnk s) ≤ v ∧ v < st (rnk s) + wd (rnk s) := by
    unfold st wd
    rw [hr.2]
    exact div_code v _ _ (Nat.pow_pos (by omega))
  rw [e]
  constructor
  · rintro ⟨h3, h4⟩
    have : rnk s = i := by
      rcases Nat.lt_trichotomy (rnk s) i with h | h | h
      · have := st_lt h (by omega)
        omega
      · exact h
      · have := st_lt h hr.1
        omega
    rw [← this, hr.2]
  · rintro rfl
    rw [hoi.2]
    exact ⟨h1, h2⟩

/-- How many of the first k symbols it is. -/
def mn (t k : Nat) : Int := if t < k then 1 else 0
set_option maxRecDepth 100000 in
set_option maxHeartbeats 3200000 in
theorem one_walk (b : Int) (w : World) (h0 : 0 ≤ b) (h1 : b < 4294967296) : Calls Try.prog 9 #[.int .u32 b] w (Yes w) := by
  obtain ⟨v, hv⟩ : ∃ v : Nat, b % 1073741824 = (v : Int) := ⟨(b % 1073741824).toNat, by omega⟩
  have hv1 : v < 1073741824 := by omega
  obtain ⟨t, ht, hone⟩ := one_code v hv1
  have Hone := hide hone
  have hv0 : 0 ≤ (v : Int) := by omega
  have hv2 : (v : Int) ≤ 1073741823 := by omega
  clear hone
  go_enter Try.func9, Try.ntmps9
  go_wp2_with fail
  refine (mk_any _).mono ?_
  rintro e w1 ⟨B, rfl, hb, hb1⟩
  have HBk := hide hb
  have HB1 := hide hb1
  clear hb hb1
  go_wp2_with fail
  go_loopw [5, 6] (fun m i wr => ∃ k : Nat, k ≤ 257 ∧ i = .int .i64 k ∧ m = .int .i64 (mn t k) ∧ Drawn w1 wr) (fun _ i _ => 257 - (intOf i).toNat)
  case atStart => exact ⟨0, Nat.zero_le _, rfl, by simp [mn], Drawn.refl _⟩
  case round =>
    obtain ⟨k, hk, rfl, rfl, hd⟩ := hrel
    have HD := hide hd
    clear hd
    by_cases hlt : k < 257
    · have dk : decide ((k : Int) ≤ 256) = true := by simp; omega
      have hL := len_bd k hlt
      have hc := cd_of (rnk k) (rnk_bd k hlt).1
      have hcd := hc.2.2
      have eC : codI (k : Int) = (cd (rnk k) : Int) := by unfold codI; rw [if_pos (by omega)]; rfl
      have eL : lnI (k : Int) = (len k : Int) := by unfold lnI; rw [if_pos (by omega)]; rfl
      have hO := Hone.out k hlt
      have EC := hide eC
      have EL := hide eL
      have hm0 : 0 ≤ mn t k ∧ mn t k ≤ 1 := by unfold mn; split <;> omega
      clear hc eC eL
      generalize len k = L at *
      generalize cd (rnk k) = x at *
      have d1 : decide ((L : Int) < 1) = false := by simp; omega
      have d2 : decide (30 < (L : Int)) = false := by simp; omega
      have h30 : 0 ≤ 30 - (L : Int) := by omega
      have h31 : 30 - (L : Int) ≤ 25 := by omega
      have hcast : ((v / 2 ^ (30 - L) : Nat) : Int) = (v : Int) / 2 ^ (30 - L) := by simp
      by_cases hkt : k = t
      · have dt : ((v : Int) / 2 ^ (30 - L) == (x : Int)) = true := by
          rw [← hcast, hO.2 hkt]
          simp
        have HM : Hid (mn t k + 1 = mn t (k + 1)) := by
          show _ = _
          unfold mn
          rw [if_neg (by omega), if_pos (by omega)]
          rfl
        clear hO hcast hkt
        generalize mn t k = M at *
        go_wp2_with fail
        refine (code_any B k _ (HBk.out.below (drawn_below HD.out _))).mono ?_
        rintro e w2 ⟨rfl, hd2⟩
        rw [EC.out, EL.out]
        have HD2 := hide (HD.out.trans hd2)
        clear hd2
        go_wp2_with fail
        exact ⟨⟨k + 1, by omega, by go_num, by rw [HM.out], HD2.out⟩, by simp [intOf]; omega⟩
      · have dt : ((v : Int) / 2 ^ (30 - L) == (x : Int)) = false := by
          rw [← hcast]
          have h : v / 2 ^ (30 - L) ≠ x := fun e => hkt (hO.1 e)
          simpa using fun e => h (by exact_mod_cast e)
        have HM : Hid (mn t k = mn t (k + 1)) := by
          show _ = _
          unfold mn
          by_cases h : t < k
          · rw [if_pos h, if_pos (by omega)]
          · rw [if_neg h, if_neg (by omega)]
        clear hO hcast hkt
        generalize mn t k = M at *
        go_wp2_with fail
        refine (code_any B k _ (HBk.out.below (drawn_below HD.out _))).mono ?_
        rintro e w2 ⟨rfl, hd2⟩
        rw [EC.out, EL.out]
        have HD2 := hide (HD.out.trans hd2)
        clear hd2
        go_wp2_with fail
        exact ⟨⟨k + 1, by omega, by go_num, by rw [HM.out], HD2.out⟩, by simp [intOf]; omega⟩
    · obtain rfl : k = 257 := by omega
      have hm : mn t 257 = 1 := by unfold mn; rw [if_pos ht]
      rw [hm]
      go_wp2_with fail
      refine (alive16 _).mono ?_
      rintro e w6 ⟨rfl, hb6⟩
      go_wp2_with fail
      go_ret
      exact ⟨rfl, (HB1.out.trans (drawn_below HD.out _)).of hb6⟩
end Go.Proofs.Ytlpbonfapglocaa
