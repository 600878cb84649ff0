/- Layer 16: the contract of 'Find'; the walk of the law on finding. -/
import Derived.Test.YteijpklepgenbaaCb9
namespace Go.Proofs.Yteijpklepgenbaa
open Go.RowKit

theorem grp : ∀ L, L < 31 → ∀ d, d < bg (L + 1) - bg L → len (ord (bg L + d)) = L ∧ cd (bg L + d) = cd (bg L) + d := fun L hL d hd => by
  have h := all_lt (p := fun L => (List.range (bg (L + 1) - bg L)).all fun d => decide (len (ord (bg L + d)) = L ∧ cd (bg L + d) = cd (bg L) + d)) (by decide +kernel) L hL
  have k := all_lt (p := fun d => decide (len (ord (bg L + d)) = L ∧ cd (bg L + d) = cd (bg L) + d)) h d hd
  simpa using k
theorem grp2 : ∀ i, i < 257 → bg (len (ord i)) ≤ i ∧ i < bg (len (ord i) + 1) := fun i hi => by
  have h := all_lt (p := fun i => decide (bg (len (ord i)) ≤ i ∧ i < bg (len (ord i) + 1))) (by decide +kernel) i hi
  simpa using h
/-- Of a symbol with a code of so many bits: its place, and its code. -/
theorem sym_at {S L : Nat} (hS : S < 257) (h : len S = L) (hL : L < 31) : bg L ≤ rnk S ∧ rnk S < bg (L + 1) ∧ cd (rnk S) = cd (bg L) + (rnk S - bg L) := by
  have hr := rnk_bd S hS
  have h2 := grp2 (rnk S) hr.1
  rw [hr.2, h] at h2
  have h3 := (grp L hL (rnk S - bg L) (by omega)).2
  rw [show bg L + (rnk S - bg L) = rnk S by omega] at h3
  exact ⟨h2.1, h2.2, h3⟩
theorem Book.sl {W : World} {B : Nat} (h : Book W B) : ∃ og, W.cell? ⟨B, 514, none⟩ = some (.slice (some ⟨og, 0, none⟩) 257 257) ∧ Rd .i64 W (some ⟨og, 0, none⟩) 257 257 (fun i => (ord i : Int)) := by
  obtain ⟨og, h1, h2⟩ := h
  refine ⟨og, ?_, h2⟩
  rw [h1.cell (j := 514) (by omega)]
  rfl
theorem Book.be {W : World} {B : Nat} (h : Book W B) (j : Nat) (hj : j < 32) : W.cell? ⟨B, 515 + j, none⟩ = some (.int .i64 (bg j : Int)) := by
  obtain ⟨og, h1, _⟩ := h
  rw [h1.cell (j := 515 + j) (by omega)]
  have e1 : ¬ 515 + j < 257 := by omega
  have e2 : ¬ 515 + j < 514 := by omega
  have e3 : ¬ 515 + j = 514 := by omega
  simp [bookC, e1, e2, e3]
def FoundD (c n : Int) (w : World) (e : Ending) (w' : World) : Prop := ∃ s b, e = .returned (.tuple #[.int .i64 s, .bool b]) ∧ Found c n s b ∧ Drawn w w'
theorem found_no {c n : Int} (h : ∀ S : Nat, S < 257 → ¬ ((cd (rnk S) : Int) = c ∧ (len S : Int) = n)) : Found c n 0 false := .inr ⟨rfl, rfl, h⟩

set_option maxRecDepth 100000 in
set_option maxHeartbeats 3200000 in
theorem find_any (B L : Nat) (c : Int) (w : World) (h : Book w B) (h1 : 1 ≤ L) (h2 : L ≤ 30) (hc0 : -9223372036854775808 ≤ c) (hc1 : c ≤ 9223372036854775807) :
    Calls Try.prog 35 #[.pointer (some ⟨B, 0, none⟩), .int .i64 c, .int .i64 (L : Int)] w (FoundD c (L : Int) w) := by
  have d0 : decide ((L : Int) < 1) = false := by simp; omega
  have d1 : decide (30 < (L : Int)) = false := by simp; omega
  obtain ⟨og, k1, hrd⟩ := h.sl
  have k2 := h.be L (by omega)
  have k3 := h.be (L + 1) (by omega)
  have hB := h.lt
  have l0 : (0 : Int) ≤ (L : Int) := by omega
  have l1 : (L : Int) < 32 := by omega
  have l2 : (0 : Int) ≤ (L : Int) + 1 := by omega
  have l3 : (L : Int) + 1 < 32 := by omega
  have l4 : ((L : Int) + 1).toNat = L + 1 := by omega
  have hw : IntKind.i64.wrap ((L : Int) + 1) = (L : Int) + 1 := IntWalk.i64_in _ (by omega)
  have hmo := bg_mono L (by omega)
  have hhi := bg_bd (L + 1) (by omega)
  have Hg := hide (grp L (by omega))
  have Hsym : Hid (∀ S : Nat, S < 257 → len S = L → bg L ≤ rnk S ∧ rnk S < bg (L + 1) ∧ cd (rnk S) = cd (bg L) + (rnk S - bg L)) := fun S hS e => sym_at hS e (by omega)
  have HBk := hide h
  obtain ⟨lo, hlo⟩ : ∃ lo, bg L = lo := ⟨_, rfl⟩
  obtain ⟨hi, hhi'⟩ : ∃ hi, bg (L + 1) = hi := ⟨_, rfl⟩
  rw [hlo] at k2 hmo Hg Hsym
  rw [hhi'] at k3 hmo hhi Hg Hsym
  have hcut := cints_cut (some ⟨og, 0, none⟩) 257 257 lo hi hmo hhi
  have Hrl := hide (hrd.cutR (lo := lo) (hi := hi) hmo hhi)
  generalize cutA (some ⟨og, 0, none⟩) 257 lo = A5 at *
  clear h hrd hlo hhi'
  by_cases hq : hi = lo
  · have hq0 : hi - lo = 0 := by omega
    rw [hq0] at hcut
    have HF : Hid (Found c (L : Int) 0 false) := found_no fun S hS hh => by
      have := Hsym.out S hS (by omega)
      omega
    clear hq hq0
    go_enter Try.func35, Try.ntmps35
    go_wp2_with fail
    go_quiet (fail)
    clear hw
    go_wp2_with fail
    go_ret2
    exact ⟨_, _, rfl, HF.out, Drawn.of _ _⟩
  have hqp : 0 < hi - lo := by omega
  obtain ⟨b5, o5, rfl, hs0⟩ := Hrl.out.at_ (i := 0) hqp
  obtain ⟨S0, hS0⟩ : ∃ S0, ord lo = S0 := ⟨_, rfl⟩
  rw [Nat.add_zero, Nat.add_zero, hS0] at hs0
  have hob := ord_bd lo (by omega)
  rw [hS0] at hob
  have k4 := HBk.out.co S0 hob.1
  rw [hob.2] at k4
  have hcb := (cd_of lo (by omega)).2.2
  obtain ⟨x, hx⟩ : ∃ x, cd lo = x := ⟨_, rfl⟩
  rw [hx] at k4 hcb Hsym Hg
  have s0 : (0 : Int) ≤ (S0 : Int) := by omega
  have s1 : (S0 : Int) < 257 := by omega
  obtain ⟨q, hqq⟩ : ∃ q, hi - lo = q := ⟨_, rfl⟩
  rw [hqq] at hcut hqp
  have dq : ((q : Int) == 0) = false := by simp; omega
  have dq' : (q == 0) = false := by simp; omega
  have q0 : (0 : Int) < (q : Int) := by omega
  have Hqq := hide hqq
  clear hS0 hx hqq hq
  by_cases hlt : c < (x : Int)
  · have dc : decide (c < (x : Int)) = true := by simpa using hlt
    have HF : Hid (Found c (L : Int) 0 false) := found_no fun S hS hh => by
      have := Hsym.out S hS (by omega)
      omega
    clear hlt
    go_enter Try.func35, Try.ntmps35
    go_wp2_with fail
    go_quiet (fail)
    go_wp2_with fail
    go_quiet (fail)
    clear hw
    go_wp2_with fail
    go_ret2
    exact ⟨_, _, rfl, HF.out, Drawn.of _ _⟩
  have dc : decide (c < (x : Int)) = false := by simpa using hlt
  have hcx : 0 ≤ c - (x : Int) := by omega
  obtain ⟨d, hd⟩ := Int.eq_ofNat_of_zero_le hcx
  have Hd := hide hd
  by_cases hge : q ≤ d
  · have dg : decide ((q : Int) ≤ (d : Int)) = true := by simp; omega
    have dg' : decide (q ≤ d) = true := by simpa using hge
    have HF : Hid (Found c (L : Int) 0 false) := found_no fun S hS hh => by
      have := Hsym.out S hS (by omega)
      have := Hd.out
      have := Hqq.out
      omega
    clear hge hlt
    go_enter Try.func35, Try.ntmps35
    go_wp2_with fail
    go_quiet (fail)
    go_wp2_with fail
    go_quiet (fail)
    clear hw
    go_wp2_with fail
    go_ret2
    exact ⟨_, _, rfl, HF.out, Drawn.of _ _⟩
  · have dg : decide ((q : Int) ≤ (d : Int)) = false := by simp; omega
    have dg' : decide (q ≤ d) = false := by simpa using hge
    have hdq : d < hi - lo := by have := Hqq.out; omega
    obtain ⟨b6, o6, e6, hsd⟩ := Hrl.out.at_ (i := d) hdq
    obtain ⟨rfl, rfl⟩ : b5 = b6 ∧ o5 = o6 := by simpa using e6
    have hod := ord_bd (lo + d) (by omega)
    have hgd := Hg.out d hdq
    obtain ⟨S, hS⟩ : ∃ S, ord (lo + d) = S := ⟨_, rfl⟩
    rw [hS] at hod hgd hsd
    have HF : Hid (Found c (L : Int) (S : Int) true) := .inl ⟨rfl, S, hod.1, rfl, by rw [hod.2, hgd.2]; omega, by rw [hgd.1]⟩
    have dd0 : (0 : Int) ≤ (d : Int) := by omega
    have dd1 : (d : Int) < (q : Int) := by omega
    clear hge hlt e6 hS hod hgd
    go_enter Try.func35, Try.ntmps35
    go_wp2_with fail
    go_quiet (fail)
    go_wp2_with fail
    go_quiet (fail)
    clear hw
    go_wp2_with fail
    go_ret2
    exact ⟨_, _, rfl, HF.out, Drawn.of _ _⟩
theorem findI (B : Nat) (c n : Int) (w : World) (h : Book w B) (hc0 : -9223372036854775808 ≤ c) (hc1 : c ≤ 9223372036854775807) :
    Calls Try.prog 35 #[.pointer (some ⟨B, 0, none⟩), .int .i64 c, .int .i64 n] w (FoundD c n w) := by
  by_cases hn : n < 1 ∨ 30 < n
  · refine (find_out B c n w hn).mono fun e w' hh => ⟨_, _, hh.1, found_no fun S hS k => ?_, hh.2⟩
    have := len_bd S hS
    omega
  · obtain ⟨L, rfl⟩ := Int.eq_ofNat_of_zero_le (show 0 ≤ n by omega)
    exact find_any B L c w h (by omega) (by omega) hc0 hc1
end Go.Proofs.Yteijpklepgenbaa
