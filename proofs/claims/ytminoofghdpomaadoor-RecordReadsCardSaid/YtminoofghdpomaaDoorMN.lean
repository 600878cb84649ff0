/- Nat1, Nat2, Nat3 in one text. -/
import Derived.Test.YtminoofghdpomaaDoorMA
import Derived.PlainAid
import Derived.Test.YtminoofghdpomaaDoorMT
import Derived.Laws.RangeAny
namespace Go.Proofs.YtminoofghdpomaaDoor
set_option linter.unusedVariables false
set_option linter.unusedSimpArgs false
section
open Go.RowKit Go.PlainAid

/-- The number of the first k digits, while it is not above most. -/
def natG (f : Nat → Int) (most : Int) : Nat → Option Int
  | 0 => some 0
  | k + 1 => match natG f most k with
    | none => none
    | some n => if 48 ≤ f k ∧ f k ≤ 57 ∧ 10 * n + (f k - 48) ≤ most then some (10 * n + (f k - 48)) else none
theorem natG_yes {f : Nat → Int} {most n : Int} {k : Nat} (h : natG f most k = some n) (h1 : 48 ≤ f k) (h2 : f k ≤ 57) (h3 : 10 * n + (f k - 48) ≤ most) : natG f most (k + 1) = some (10 * n + (f k - 48)) := by
  simp only [natG, h]
  rw [if_pos ⟨h1, h2, h3⟩]
theorem natG_no {f : Nat → Int} {most n : Int} {k : Nat} (h : natG f most k = some n) (h1 : ¬ (48 ≤ f k ∧ f k ≤ 57 ∧ 10 * n + (f k - 48) ≤ most)) : natG f most (k + 1) = none := by
  simp only [natG, h]
  rw [if_neg h1]
theorem natG_none {f : Nat → Int} {most : Int} {k m : Nat} (h : natG f most k = none) (hm : k ≤ m) : natG f most m = none := by
  induction m with
  | zero => obtain rfl : k = 0 := by omega
            exact h
  | succ m ih =>
    by_cases e : k = m + 1
    · subst e; exact h
    · simp only [natG, ih (by omega)]
theorem natG_bd {f : Nat → Int} {most : Int} {k : Nat} {n : Int} (h : natG f most k = some n) : 0 ≤ n ∧ (0 < k → n ≤ most) := by
  cases k with
  | zero =>
    simp only [natG, Option.some.injEq] at h
    exact ⟨by omega, fun h => by omega⟩
  | succ k =>
    have ih : ∀ k n, natG f most k = some n → 0 ≤ n := by
      intro k
      induction k with
      | zero => intro n h; simp only [natG, Option.some.injEq] at h; omega
      | succ k ih =>
        intro n h
        cases hk : natG f most k with
        | none => simp only [natG, hk] at h; cases h
        | some m =>
          have := ih m hk
          simp only [natG, hk] at h
          split at h
          · have := Option.some.inj h; omega
          · cases h
    refine ⟨ih _ _ h, fun _ => ?_⟩
    cases hk : natG f most k with
    | none => simp only [natG, hk] at h; cases h
    | some m =>
      simp only [natG, hk] at h
      split at h
      · have := Option.some.inj h; omega
      · cases h
def natN (s : ByteArray) (most : Int) : Int := if s.size = 0 then 0 else match natG (bt s) most s.size with | some n => n | none => 0
def natB (s : ByteArray) (most : Int) : Bool := if s.size = 0 then false else match natG (bt s) most s.size with | some _ => true | none => false
theorem nat_empty {s : ByteArray} (most : Int) (h : s.size = 0) : natN s most = 0 ∧ natB s most = false := by simp [natN, natB, h]
theorem nat_yes {s : ByteArray} {most n : Int} (h0 : 0 < s.size) (h : natG (bt s) most s.size = some n) : natN s most = n ∧ natB s most = true := by
  have : s.size ≠ 0 := by omega
  simp [natN, natB, h, this]
theorem nat_no {s : ByteArray} {most : Int} {k : Nat} (hk : k ≤ s.size) (h : natG (bt s) most k = none) : natN s most = 0 ∧ natB s most = false := by
  have h2 := natG_none h hk
  by_cases h0 : s.size = 0
  · exact nat_empty most h0
  · simp [natN, natB, h2, h0]
theorem nat_some {s : ByteArray} {most : Int} (h : natB s most = true) : 0 ≤ natN s most ∧ natN s most ≤ most := by
  unfold natB at h
  unfold natN
  by_cases h0 : s.size = 0
  · simp [h0] at h
  · cases hg : natG (bt s) most s.size with
    | none => simp [h0, hg] at h
    | some n =>
      have := natG_bd hg
      simp only [h0, if_false]
      exact ⟨this.1, this.2 (by omega)⟩
theorem natN_zero {s : ByteArray} {most : Int} (h : natB s most = false) : natN s most = 0 := by
  unfold natB at h
  unfold natN
  by_cases h0 : s.size = 0
  · simp [h0]
  · cases hg : natG (bt s) most s.size with
    | none => simp [h0]
    | some n => simp [h0, hg] at h
end

section
open Go.RowKit Go.PlainAid

set_option maxHeartbeats 400000 in
theorem dval_yes (r d : Int) (h : r = d + 48) (h0 : 0 ≤ d) (h1 : d ≤ 9) (w : World) : Calls Tryd.prog 43 #[.int .i32 r] w fun e w' => e = .returned (.tuple #[.int .i64 d, .bool true]) ∧ w = w' := by
  subst h
  have d1 : decide (d + 48 < 48) = false := decide_eq_false (by omega)
  have d2 : decide (57 < d + 48) = false := decide_eq_false (by omega)
  go_enter Tryd.func43, Tryd.ntmps43
  go_wp2
  go_ret2
  exact ⟨rfl, rfl⟩
theorem dval_no (r : Int) (h : r < 48 ∨ 57 < r) (w : World) : Calls Tryd.prog 43 #[.int .i32 r] w fun e w' => e = .returned (.tuple #[.int .i64 0, .bool false]) ∧ w = w' := by
  by_cases h1 : r < 48
  · have d1 : decide (r < 48) = true := decide_eq_true h1
    clear h
    go_enter Tryd.func43, Tryd.ntmps43
    go_wp2
    go_ret2
    exact ⟨rfl, rfl⟩
  · have d1 : decide (r < 48) = false := decide_eq_false h1
    have d2 : decide (57 < r) = true := decide_eq_true (by omega)
    clear h
    go_enter Tryd.func43, Tryd.ntmps43
    go_wp2
    go_ret2
    exact ⟨rfl, rfl⟩
theorem isEmpty_yes {s : ByteArray} (h : s.size = 0) : s.toList.isEmpty = true := by rw [toList_nil h]; rfl
theorem isEmpty_no {s : ByteArray} (h : s.size ≠ 0) : s.toList.isEmpty = false := by
  have : s.toList ≠ [] := fun e => h (by
    rw [ByteArray.toList_eq] at e
    have : s.data.toList.length = 0 := by rw [e]; rfl
    simpa using this)
  simpa using this
def NatE (s : ByteArray) (most : Int) (w : World) (e : Ending) (w' : World) : Prop := e = .returned (.tuple #[.int .i64 (natN s most), .bool (natB s most)]) ∧ Below w.heap.size w w'
theorem iter_below (w : World) (s : ByteArray) (pos : Nat) : Below w.heap.size w (w.iter s pos) := (Below.refl _ _).alloc (Nat.le_refl _) _
set_option maxHeartbeats 1600000 in
theorem natural_any (s : ByteArray) (most : Int) (w : World) (hs : s.size ≤ 9223372036854775807) (m0 : -9223372036854775808 ≤ most) (m1 : most ≤ 9223372036854775807) : Calls Tryd.prog 42 #[.string s, .int .i64 most] w (NatE s most w) := by
  by_cases hz : s.size = 0
  · obtain ⟨e1, e2⟩ := nat_empty most hz
    have t1 := isEmpty_yes hz
    have E1 := hide e1
    have E2 := hide e2
    clear e1 e2 hz
    go_enter Tryd.func42, Tryd.ntmps42
    go_wp2
    go_ret2
    exact ⟨by rw [E1.out, E2.out]; rfl, Below.refl _ _⟩
  have t1 := isEmpty_no hz
  have hz' : 0 < s.size := by omega
  clear hz
  go_enter Tryd.func42, Tryd.ntmps42
  go_wp2
  go_loopw [6, 8, 9, 10] (fun n _ _ _ wr => ∃ (pos : Nat) (N : Int), pos ≤ s.size ∧ wr = w.iter s pos ∧ n = .int .i64 N ∧ natG (bt s) most pos = some N) (fun _ _ _ _ wr => s.size - wr.iterPos w.heap.size)
  case atStart => exact ⟨0, 0, Nat.zero_le _, rfl, rfl, rfl⟩
  case round =>
    obtain ⟨pos, N, hk, rfl, rfl, hN⟩ := hrel
    have HN := hide hN
    obtain ⟨n0, n1⟩ := natG_bd hN
    clear hN
    by_cases hp : pos < s.size
    · by_cases ha : (s[pos]'hp).toNat < 128
      · have hnx : ∀ ty, (Instr.next (.pointer (some ⟨w.heap.size, 0, none⟩)) true ty).run Tryd.prog (w.iter s pos) = _ := fun ty => run_next_ascii w s pos ty hp ha
        have hb : ((s[pos]'hp).toNat : Int) = bt s pos := get_bt s pos hp
        obtain ⟨c, hc⟩ : ∃ c, bt s pos = c := ⟨_, rfl⟩
        rw [hc] at hb
        have HC := hide hc
        clear hc ha
        by_cases hdig : 48 ≤ c ∧ c ≤ 57
        · obtain ⟨d, rfl⟩ : ∃ d, c = d + 48 := ⟨c - 48, by omega⟩
          have q0 : 0 ≤ d := by omega
          have q1 : d ≤ 9 := by omega
          clear hdig
          by_cases hfit : 10 * N + d ≤ most
          · have HG : Hid (natG (bt s) most (pos + 1) = some (N * 10 + d)) := by
              have := natG_yes HN.out (by rw [HC.out]; omega) (by rw [HC.out]; omega) (by rw [HC.out]; omega)
              rw [HC.out] at this
              unfold Hid
              rw [this]
              congr 1
              omega
            have d1 : decide (most < d) = false := decide_eq_false (by omega)
            have f0 : 0 ≤ most - d := by omega
            have f1 : most - d ≤ 9223372036854775807 := by omega
            have d2 : decide ((most - d) / 10 < N) = false := decide_eq_false (by omega)
            have g0 : 0 ≤ N * 10 := by omega
            have g1 : N * 10 ≤ 9223372036854775807 := by omega
            have g2 : N * 10 + d ≤ 9223372036854775807 := by omega
            have g3 : 0 ≤ N * 10 + d := by omega
            clear hfit
            go_wp2_with fail
            refine (dval_yes _ d rfl q0 q1 _).mono ?_
            rintro e w' ⟨rfl, rfl⟩
            go_wp2_with fail
            exact ⟨⟨pos + 1, N * 10 + d, by omega, rfl, rfl, HG.out⟩, by simp; omega⟩
          · have HG : Hid (natG (bt s) most (pos + 1) = none) := natG_no HN.out (by rw [HC.out]; omega)
            obtain ⟨e1, e2⟩ := nat_no (show pos + 1 ≤ s.size by omega) HG.out
            have E1 := hide e1
            have E2 := hide e2
            clear e1 e2
            by_cases hd : most < d
            · have d1 : decide (most < d) = true := decide_eq_true hd
              clear hfit
              go_wp2_with fail
              refine (dval_yes _ d rfl q0 q1 _).mono ?_
              rintro e w' ⟨rfl, rfl⟩
              go_wp2_with fail
              go_ret2
              exact ⟨by rw [E1.out, E2.out]; rfl, iter_below _ _ _⟩
            · have d1 : decide (most < d) = false := decide_eq_false hd
              have f0 : 0 ≤ most - d := by omega
              have f1 : most - d ≤ 9223372036854775807 := by omega
              have d2 : decide ((most - d) / 10 < N) = true := decide_eq_true (by omega)
              clear hfit
              go_wp2_with fail
              refine (dval_yes _ d rfl q0 q1 _).mono ?_
              rintro e w' ⟨rfl, rfl⟩
              go_wp2_with fail
              go_ret2
              exact ⟨by rw [E1.out, E2.out]; rfl, iter_below _ _ _⟩
        · have HG : Hid (natG (bt s) most (pos + 1) = none) := natG_no HN.out (by rw [HC.out]; omega)
          obtain ⟨e1, e2⟩ := nat_no (show pos + 1 ≤ s.size by omega) HG.out
          have E1 := hide e1
          have E2 := hide e2
          clear e1 e2
          go_wp2_with fail
          refine (dval_no _ (by omega) _).mono ?_
          rintro e w' ⟨rfl, rfl⟩
          go_wp2_with fail
          go_ret2
          exact ⟨by rw [E1.out, E2.out]; rfl, iter_below _ _ _⟩
      · obtain ⟨r0, r1⟩ := decode_high s pos hp (by omega)
        have hnx : ∀ ty, (Instr.next (.pointer (some ⟨w.heap.size, 0, none⟩)) true ty).run Tryd.prog (w.iter s pos) = _ := fun ty => run_next_any w s pos ty hp
        have hb : ((s[pos]'hp).toNat : Int) = bt s pos := get_bt s pos hp
        have HG : Hid (natG (bt s) most (pos + 1) = none) := natG_no HN.out (by omega)
        obtain ⟨e1, e2⟩ := nat_no (show pos + 1 ≤ s.size by omega) HG.out
        have E1 := hide e1
        have E2 := hide e2
        clear e1 e2 hb ha
        generalize Utf8.decode s pos = rd at *
        obtain ⟨r, wd⟩ := rd
        simp only at r0 r1 hnx
        go_wp2_with fail
        refine (dval_no _ (by omega) _).mono ?_
        rintro e w' ⟨rfl, rfl⟩
        go_wp2_with fail
        go_ret2
        exact ⟨by rw [E1.out, E2.out]; rfl, iter_below _ _ _⟩
    · have hnx : ∀ ty, (Instr.next (.pointer (some ⟨w.heap.size, 0, none⟩)) true ty).run Tryd.prog (w.iter s pos) = _ := fun ty => run_next_end w s pos ty hp
      obtain rfl : pos = s.size := by omega
      obtain ⟨e1, e2⟩ := nat_yes hz' HN.out
      have E1 := hide e1
      have E2 := hide e2
      clear e1 e2
      go_wp2_with fail
      go_ret2
      exact ⟨by rw [E1.out, E2.out]; rfl, iter_below _ _ _⟩
end

section
open Go.RowKit Go.PlainAid

end
end Go.Proofs.YtminoofghdpomaaDoor
