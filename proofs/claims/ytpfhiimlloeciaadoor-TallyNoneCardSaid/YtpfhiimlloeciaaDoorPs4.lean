/- Layer 27: the reference's words on fields. -/
import Derived.Test.YtpfhiimlloeciaaDoorPs2
import Derived.Test.YtpfhiimlloeciaaDoorMN
import Derived.Laws.ResultCell
namespace Go.Proofs.YtpfhiimlloeciaaDoor
open Go.RowKit Go.PlainAid

theorem ris_any (nm vl : ByteArray) (nv : Bool) (w : World) (hs : nm.size ≤ 9223372036854775807) : Calls Tryd.prog 100 #[.agg #[.string nm, .string vl, .bool nv]] w fun e w' => e = .returned (.bool (colB nm)) ∧ Below w.heap.size w w' := by
  by_cases h0 : 0 < nm.size
  · have hb := get_bt nm 0 h0
    have H : Hid (colB nm = decide (bt nm 0 = 58)) := by simp [Hid, colB, h0]
    obtain ⟨c, hc⟩ : ∃ c, bt nm 0 = c := ⟨_, rfl⟩
    rw [hc] at hb H
    clear hc
    have hd : decide ((0 : Int) < (nm.size : Int)) = true := decide_eq_true (by omega)
    have hd2 : (0 : Int) < (nm.size : Int) := by omega
    by_cases h58 : c = 58
    · have t1 : (c == 58) = true := by simpa using h58
      have H' : Hid (colB nm = true) := by show _ = _; rw [H.out]; simpa using h58
      clear H h58
      go_enter Tryd.func100, Tryd.ntmps100
      go_wp2
      go_ret
      exact ⟨by rw [H'.out]; rfl, by go_grown⟩
    · have t1 : (c == 58) = false := by simpa using h58
      have H' : Hid (colB nm = false) := by show _ = _; rw [H.out]; simpa using h58
      clear H h58
      go_enter Tryd.func100, Tryd.ntmps100
      go_wp2
      go_ret
      exact ⟨by rw [H'.out]; rfl, by go_grown⟩
  · have hd : decide ((0 : Int) < (nm.size : Int)) = false := decide_eq_false (by omega)
    have H : Hid (colB nm = false) := by simp [Hid, colB, h0]
    have hz : nm.size = 0 := by omega
    go_enter Tryd.func100, Tryd.ntmps100
    go_wp2
    go_ret
    exact ⟨by rw [H.out]; rfl, by go_grown⟩
theorem eqN_false {a b : ByteArray} (h : a ≠ b) : eqN a b = false := by
  cases e : eqN a b with
  | false => rfl
  | true => exact absurd (eqN_iff.1 e) h
set_option maxHeartbeats 1600000 in
theorem rmany_any (A : Option Addr) (n c : Nat) (F : Nat → Fd) (x : ByteArray) (w : World) (ha : RdFd w A n c F) : Calls Tryd.prog 103 #[.slice A n c, .string x] w fun e w' => e = .returned (.int .i64 (cntF F x n)) ∧ Drawn w w' := by
  have Ha := hide ha
  have hn := ha.le
  clear ha
  go_enter Tryd.func103, Tryd.ntmps103
  go_wp2_with fail
  go_loopw [5, 6] (fun t i wr => ∃ k : Nat, k ≤ n ∧ i = .int .i64 k ∧ t = .int .i64 (cntF F x k) ∧ Drawn w wr) (fun _ i _ => n - (intOf i).toNat)
  case atStart => exact ⟨0, Nat.zero_le _, rfl, rfl, Drawn.refl _⟩
  case round =>
    obtain ⟨k, hk, rfl, rfl, hd⟩ := hrel
    have Hd := hide hd
    have Hr := hide (Ha.out.below (drawn_below hd _))
    clear hd
    by_cases hlt : k < n
    · obtain ⟨b, off, rfl, hc0, _, _⟩ := Hr.out.at_ hlt
      have hkn : (k : Int) < (n : Int) := by omega
      have hsucc : cntF F x (k + 1) = cntF F x k + if eqN (F k).name x then 1 else 0 := rfl
      have hle : cntF F x k ≤ k := cntF_le
      obtain ⟨nm, hnm⟩ : ∃ nm, (F k).name = nm := ⟨_, rfl⟩
      rw [hnm] at hc0 hsucc
      obtain ⟨m, hm⟩ : ∃ m, cntF F x k = m := ⟨_, rfl⟩
      rw [hm] at hle hsucc ⊢
      clear hm hnm
      cases he : eqN nm x with
      | true =>
        have t1 : (nm.toList == x.toList) = true := he
        rw [he] at hsucc
        have HS : Hid (cntF F x (k + 1) = m + 1) := hsucc
        clear hsucc he
        go_wp2_with fail
        go_roundw
        case rel => exact ⟨k + 1, by omega, by go_num, by rw [HS.out]; go_num, Hd.out⟩
        case measure => simp [intOf]; omega
      | false =>
        have t1 : (nm.toList == x.toList) = false := he
        rw [he] at hsucc
        have HS : Hid (cntF F x (k + 1) = m) := hsucc
        clear hsucc he
        go_wp2_with fail
        go_roundw
        case rel => exact ⟨k + 1, by omega, by go_num, by rw [HS.out], Hd.out⟩
        case measure => simp [intOf]; omega
    · obtain rfl : k = n := by omega
      go_wp2_with fail
      go_ret
      exact ⟨rfl, Hd.out⟩
theorem valF_succ_none {F : Nat → Fd} {x : ByteArray} {k : Nat} (h : valF F x k = none) : valF F x (k + 1) = if eqN (F k).name x then some (F k).val else none := by
  show (match valF F x k with | some v => some v | none => if eqN (F k).name x then some (F k).val else none) = _
  rw [h]
theorem valF_stay {F : Nat → Fd} {x v : ByteArray} {k n : Nat} (h : valF F x k = some v) (hk : k ≤ n) : valF F x n = some v := by
  induction n with
  | zero => rw [show k = 0 by omega] at h; exact h
  | succ n ih =>
    by_cases e : k = n + 1
    · rw [← e]; exact h
    · have := ih (by omega)
      show (match valF F x n with | some v => some v | none => if eqN (F n).name x then some (F n).val else none) = _
      rw [this]
set_option maxHeartbeats 1600000 in
theorem rvalF_any (A : Option Addr) (n c : Nat) (F : Nat → Fd) (x : ByteArray) (w : World) (ha : RdFd w A n c F) : Calls Tryd.prog 102 #[.slice A n c, .string x] w fun e w' => e = .returned (.string (txt (valF F x n))) ∧ Drawn w w' := by
  have Ha := hide ha
  have hn := ha.le
  clear ha
  go_enter Tryd.func102, Tryd.ntmps102
  go_wp2_with fail
  go_loopw [5] (fun i wr => ∃ k : Nat, k ≤ n ∧ i = .int .i64 k ∧ valF F x k = none ∧ Drawn w wr) (fun i _ => n - (intOf i).toNat)
  case atStart => exact ⟨0, Nat.zero_le _, rfl, rfl, Drawn.refl _⟩
  case round =>
    obtain ⟨k, hk, rfl, hv, hd⟩ := hrel
    have Hd := hide hd
    have Hr := hide (Ha.out.below (drawn_below hd _))
    clear hd
    by_cases hlt : k < n
    · obtain ⟨b, off, rfl, hc0, hc1, _⟩ := Hr.out.at_ hlt
      have hkn : (k : Int) < (n : Int) := by omega
      have hsucc := valF_succ_none hv
      obtain ⟨X, hX⟩ : ∃ X, F k = X := ⟨_, rfl⟩
      rw [hX] at hc0 hc1 hsucc
      obtain ⟨nm, vl, nv⟩ := X
      simp only at hc0 hc1 hsucc
      clear hX hv
      cases he : eqN nm x with
      | true =>
        have t1 : (nm.toList == x.toList) = true := he
        rw [he] at hsucc
        have HS : Hid (valF F x n = some vl) := valF_stay hsucc (by omega)
        clear hsucc he
        go_wp2_with fail
        go_ret
        exact ⟨by rw [HS.out]; rfl, Hd.out⟩
      | false =>
        have t1 : (nm.toList == x.toList) = false := he
        rw [he] at hsucc
        have HS : Hid (valF F x (k + 1) = none) := hsucc
        clear hsucc he
        go_wp2_with fail
        go_roundw
        case rel => exact ⟨k + 1, by omega, by go_num, HS.out, Hd.out⟩
        case measure => simp [intOf]; omega
    · obtain rfl : k = n := by omega
      have HV := hide hv
      clear hv
      go_wp2_with fail
      go_ret
      exact ⟨by rw [HV.out]; rfl, Hd.out⟩
theorem any_no {NM : List ByteArray} {p : ByteArray → Bool} (h : ∀ m, m < NM.length → p (NM.getD m sE) = false) : NM.any p = false := by
  cases e : NM.any p with
  | false => rfl
  | true =>
    obtain ⟨m, hm, hp⟩ := any_getD.1 e
    rw [h m hm] at hp
    cases hp
set_option maxHeartbeats 1600000 in
theorem ramong_any (NA : Option Addr) (qc : Nat) (NM : List ByteArray) (x : ByteArray) (w : World) (hN : RdV 1 w NA NM.length qc (fun i => .string (NM.getD i sE))) (hq : NM.length ≤ 100) : Calls Tryd.prog 130 #[.slice NA NM.length qc, .string x] w fun e w' => e = .returned (.bool (NM.any (eqN x ·))) ∧ Drawn w w' := by
  have HN := hide hN
  clear hN
  obtain ⟨q, hqq⟩ : ∃ q, q = NM.length := ⟨_, rfl⟩
  rw [← hqq] at HN hq
  rw [← hqq]
  have Hq := hide hqq
  clear hqq
  go_enter Tryd.func130, Tryd.ntmps130
  go_wp2_with fail
  go_loopw [5] (fun i wr => ∃ k : Nat, k ≤ q ∧ i = .int .i64 k ∧ (∀ j, j < k → eqN x (NM.getD j sE) = false) ∧ Drawn w wr) (fun i _ => q - (intOf i).toNat)
  case atStart => exact ⟨0, Nat.zero_le _, rfl, fun j hj => absurd hj (by omega), Drawn.refl _⟩
  case round =>
    obtain ⟨k, hk, rfl, hv, hd⟩ := hrel
    have Hd := hide hd
    have Hv := hide hv
    clear hv
    by_cases hlt : k < q
    · obtain ⟨nb, no, hNA, hnc⟩ := HN.out.2.2.2 (by omega)
      have hnj := cellKeepT (drawn_below hd _) (hnc k (by omega))
      simp only at hnj
      subst hNA
      have hkn : (k : Int) < (q : Int) := by omega
      obtain ⟨nm, hnm⟩ : ∃ nm, nm = NM.getD k sE := ⟨_, rfl⟩
      rw [← hnm] at hnj
      have Hnm := hide hnm
      clear hnm hnc hd
      by_cases he : nm = x
      · have t1 : (nm.toList == x.toList) = true := eqN_iff.2 he
        have HR : Hid (NM.any (eqN x ·) = true) := any_getD.2 ⟨k, by rw [← Hq.out]; exact hlt, by rw [← Hnm.out]; exact eqN_iff.2 he.symm⟩
        clear he
        go_wp2_with fail
        go_ret
        exact ⟨by rw [HR.out]; rfl, Hd.out⟩
      · have t1 : (nm.toList == x.toList) = false := eqN_false he
        have HE : Hid (eqN x nm = false) := eqN_false (Ne.symm he)
        clear he
        go_wp2_with fail
        go_roundw
        case rel =>
          refine ⟨k + 1, by omega, by go_num, fun j hj => ?_, Hd.out⟩
          by_cases e : j = k
          · subst e; rw [← Hnm.out]; exact HE.out
          · exact Hv.out j (by omega)
        case measure => simp [intOf]; omega
    · obtain rfl : k = q := by omega
      have HR : Hid (NM.any (eqN x ·) = false) := any_no fun m hm => Hv.out m (by rw [Hq.out]; exact hm)
      clear hd
      go_wp2_with fail
      go_ret
      exact ⟨by rw [HR.out]; rfl, Hd.out⟩
def okR (NM : List ByteArray) (F : Nat → Fd) (n : Nat) : Nat → Bool
  | 0 => true
  | k + 1 => okR NM F n k && (!colB (F k).name || ((k == 0 || colB (F (k - 1)).name) && NM.any (eqN (F k).name ·) && decide (cntF F (F k).name n ≤ 1)))
theorem okR_iff {NM : List ByteArray} {F : Nat → Fd} {n k : Nat} : okR NM F n k = true ↔ ∀ i, i < k → colB (F i).name = true → (i = 0 ∨ colB (F (i - 1)).name = true) ∧ NM.any (eqN (F i).name ·) = true ∧ cntF F (F i).name n ≤ 1 := by
  induction k with
  | zero => exact ⟨fun _ j hj => by omega, fun _ => rfl⟩
  | succ k ih =>
    unfold okR
    rw [Bool.and_eq_true, ih]
    constructor
    · rintro ⟨h1, h2⟩ j hj hc
      by_cases e : j = k
      · subst e
        rw [hc] at h2
        simpa [and_assoc] using h2
      · exact h1 j (by omega) hc
    · intro h
      refine ⟨fun j hj => h j (by omega), ?_⟩
      cases hc : colB (F k).name with
      | false => rfl
      | true =>
        have := h k (by omega) hc
        simpa [and_assoc] using this
theorem okR_ok {NM : List ByteArray} {F : Nat → Fd} {n : Nat} : okR NM F n n = okF NM F n := by
  rw [Bool.eq_iff_iff, okR_iff, okF_okD]
  rfl
theorem okR_bad {NM : List ByteArray} {F : Nat → Fd} {n k : Nat} (hk : k < n) (h : okR NM F n (k + 1) = false) : okR NM F n n = false := by
  cases e : okR NM F n n with
  | false => rfl
  | true =>
    have : okR NM F n (k + 1) = true := okR_iff.2 fun i hi => okR_iff.1 e i (by omega)
    rw [h] at this
    cases this
end Go.Proofs.YtpfhiimlloeciaaDoor
