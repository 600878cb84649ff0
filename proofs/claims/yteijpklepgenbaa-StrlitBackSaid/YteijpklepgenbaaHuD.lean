/- Layer 17: Decode, the reference's. -/
import Derived.Test.YteijpklepgenbaaHuC
namespace Go.Proofs.Yteijpklepgenbaa
open Go.RowKit

def Beg (h : Nat → Int) (m : Nat) (w : World) (e : Ending) (w' : World) : Prop :=
  w = w' ∧ ((∃ S, Mt h m 0 S ∧ e = .returned (.tuple #[.int .i64 (S : Int), .int .i64 (len S : Int)])) ∨ ((∀ S, ¬ Mt h m 0 S) ∧ e = .returned (.tuple #[.int .i64 (-1), .int .i64 0])))
theorem bnum_zero (h : Nat → Int) (L : Nat) : bnum (fun i => h (0 + i)) L = bnum h L := bnum_ext fun k _ => by rw [Nat.zero_add]
set_option maxRecDepth 20000 in
set_option maxHeartbeats 3200000 in
theorem begins_any (A C D : Option Addr) (m c cc dc : Nat) (h : Nat → Int) (w : World) (ha : Rd .i64 w A m c h) (hh : Bits h m) (hc : Rd .i64 w C 257 cc (fun s => (cd (rnk s) : Int))) (hd : Rd .i64 w D 257 dc (fun s => (len s : Int))) (hm : m ≤ 100000) :
    Calls Try.prog 38 #[.slice A m c, .slice C 257 cc, .slice D 257 dc] w (Beg h m w) := by
  have Ha := hide ha
  have Hh := hide hh
  have Hc := hide hc
  have Hd := hide hd
  clear ha hh hc hd
  go_enter Try.func38, Try.ntmps38
  go_wp2_with fail
  go_loop [8, 9, 10] (fun cd_ n _ => ∃ k : Nat, k ≤ 30 ∧ k ≤ m ∧ n = .int .i64 ((k + 1 : Nat) : Int) ∧ cd_ = .int .i64 (bnum h k) ∧ ∀ S, len S ≤ k → ¬ Mt h m 0 S) (fun _ n _ => 40 - (intOf n).toNat)
  case atStart => exact ⟨0, by omega, Nat.zero_le _, rfl, rfl, fun S hS hM => by have := len_bd S hM.1; omega⟩
  case round =>
    obtain ⟨k, hk30, hkm, rfl, rfl, hno⟩ := hrel
    have Hno := hide hno
    clear hno
    by_cases hgo : k < 30 ∧ k < m
    · obtain ⟨hg1, hg2⟩ := hgo
      have d1 : decide (((k + 1 : Nat) : Int) ≤ 30) = true := decide_eq_true (by omega)
      have d2 : decide (((k + 1 : Nat) : Int) ≤ (m : Int)) = true := decide_eq_true (by omega)
      have d2' : decide (k + 1 ≤ m) = true := decide_eq_true (by omega)
      have d1' : decide ((k : Int) + 1 ≤ 30) = true := decide_eq_true (by omega)
      have d2'' : decide ((k : Int) + 1 ≤ (m : Int)) = true := decide_eq_true (by omega)
      have hx : ((k + 1 : Nat) : Int) = (k : Int) + 1 := by omega
      obtain ⟨b, off, rfl, hca⟩ := Ha.out.at_ hg2
      have hb1 := bnum_lt Hh.out k hkm (by omega)
      have hb2 := bnum_lt Hh.out (k + 1) (by omega) (by omega)
      have hbk := Hh.out k hg2
      have e2 : bnum h (k + 1) = 2 * bnum h k + h k := rfl
      have Hb2 := hide hb2
      have E2 := hide e2
      obtain ⟨x, hX⟩ : ∃ x, h k = x := ⟨_, rfl⟩
      obtain ⟨y, hY⟩ : ∃ y, bnum h k = y := ⟨_, rfl⟩
      rw [hX] at hca hbk E2
      rw [hY] at hb1 E2 ⊢
      obtain ⟨hb10, hb11⟩ := hb1
      obtain ⟨hbk0, hbk1⟩ := hbk
      have hk1 : (k : Int) < (m : Int) := by omega
      clear hX hY e2 hb2
      have hone : (k : Int) + 1 - 1 = (k : Int) := by omega
      rw [hx]
      go_wp2_with fail
      rw [← E2.out]
      have hbb := Hb2.out
      obtain ⟨z, hZ⟩ : ∃ z, bnum h (k + 1) = z := ⟨_, rfl⟩
      have HZ := hide hZ
      rw [hZ] at hbb ⊢
      clear hZ
      go_loop [10] (fun s => ∃ q : Nat, q ≤ 257 ∧ s = .int .i64 q ∧ ∀ S, S < q → ¬ ((cd (rnk S) : Int) = z ∧ len S = k + 1)) (fun s => 257 - (intOf s).toNat)
      case atStart => exact ⟨0, by omega, rfl, fun S hS => by omega⟩
      case round =>
        obtain ⟨q, hq, rfl, hnq⟩ := hrel
        have Hnq := hide hnq
        clear hnq
        by_cases hlt : q < 257
        · have c1 : decide ((q : Int) ≤ 256) = true := decide_eq_true (by omega)
          have c2 : (q : Int) < 257 := by omega
          obtain ⟨bc, oc, rfl, hcc⟩ := Hc.out.at_ (i := q) hlt
          obtain ⟨bd, od, rfl, hcd⟩ := Hd.out.at_ (i := q) hlt
          have Hst : Hid (((cd (rnk q) : Int) = z ∧ len q = k + 1) → Mt h m 0 q) := fun hh => ⟨hlt, by omega, by rw [hh.2, bnum_zero, HZ.out, hh.1]⟩
          have Hnx : Hid (¬ ((cd (rnk q) : Int) = z ∧ len q = k + 1) → ∀ S, S < q + 1 → ¬ ((cd (rnk S) : Int) = z ∧ len S = k + 1)) := fun hh S hS => by
            by_cases e : S = q
            · subst e; exact hh
            · exact Hnq.out S (by omega)
          obtain ⟨X, hX⟩ : ∃ X, (cd (rnk q) : Int) = X := ⟨_, rfl⟩
          obtain ⟨L, hL⟩ : ∃ L, len q = L := ⟨_, rfl⟩
          have HL := hide hL
          rw [hX] at hcc Hst Hnx
          rw [hL] at hcd Hst Hnx
          clear hX hL
          by_cases t1 : X = z
          · have t1' : (X == z) = true := by simpa using t1
            by_cases t2 : L = k + 1
            · have t2' : ((L : Int) == (k : Int) + 1) = true := by simp; omega
              have HM := hide (Hst.out ⟨t1, t2⟩)
              have E3 : Hid ((len q : Int) = (k : Int) + 1) := by show _ = _; rw [HL.out]; omega
              clear t1 t2
              go_wp2_with fail
              go_ret2
              exact ⟨rfl, .inl ⟨q, HM.out, by rw [E3.out]; rfl⟩⟩
            · have t2' : ((L : Int) == (k : Int) + 1) = false := by simp; omega
              have HN := hide (Hnx.out fun hh => t2 hh.2)
              clear t1 t2
              go_wp2_with fail
              exact ⟨⟨q + 1, by omega, by go_num, HN.out⟩, by simp [intOf]; omega⟩
          · have t1' : (X == z) = false := by simpa using t1
            have HN := hide (Hnx.out fun hh => t1 hh.1)
            clear t1
            go_wp2_with fail
            exact ⟨⟨q + 1, by omega, by go_num, HN.out⟩, by simp [intOf]; omega⟩
        · obtain rfl : q = 257 := by omega
          have HN : Hid (∀ S, len S ≤ k + 1 → ¬ Mt h m 0 S) := fun S hS hM => by
            by_cases e : len S ≤ k
            · exact Hno.out S e hM
            · refine Hnq.out S hM.1 ⟨?_, by omega⟩
              have := hM.2.2
              rw [bnum_zero, show len S = k + 1 by omega, HZ.out] at this
              exact this.symm
          go_wp2_with fail
          exact ⟨⟨k + 1, by omega, by omega, by go_num, by rw [HZ.out], HN.out⟩, by simp [intOf]; omega⟩
    · have HN : Hid (∀ S, ¬ Mt h m 0 S) := fun S hM => by
        have hl := len_bd S hM.1
        have hl2 := hM.2.1
        exact Hno.out S (by omega) hM
      by_cases h30 : k < 30
      · have d1 : decide (((k + 1 : Nat) : Int) ≤ 30) = true := decide_eq_true (by omega)
        have d1' : decide ((k : Int) + 1 ≤ 30) = true := decide_eq_true (by omega)
        have d2 : decide (((k + 1 : Nat) : Int) ≤ (m : Int)) = false := decide_eq_false (by omega)
        have d2' : decide (k + 1 ≤ m) = false := decide_eq_false (by omega)
        have d2'' : decide ((k : Int) + 1 ≤ (m : Int)) = false := decide_eq_false (by omega)
        clear hgo
        go_wp2_with fail
        go_ret2
        exact ⟨rfl, .inr ⟨HN.out, rfl⟩⟩
      · have d1 : decide (((k + 1 : Nat) : Int) ≤ 30) = false := decide_eq_false (by omega)
        have d1' : decide ((k : Int) + 1 ≤ 30) = false := decide_eq_false (by omega)
        clear hgo
        go_wp2_with fail
        go_ret2
        exact ⟨rfl, .inr ⟨HN.out, rfl⟩⟩
end Go.Proofs.Yteijpklepgenbaa
