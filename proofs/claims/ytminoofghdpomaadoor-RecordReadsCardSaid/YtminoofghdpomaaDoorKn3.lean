/- Layer 3: the program's Read of a text, as far as the names of types ask. -/
import Derived.Test.YtminoofghdpomaaDoorTs3
import Derived.Test.YtminoofghdpomaaDoorKn2
import Derived.Test.YtminoofghdpomaaDoorMN
import Derived.Test.YtminoofghdpomaaDoorMT
namespace Go.Proofs.YtminoofghdpomaaDoor
set_option linter.unusedVariables false
set_option linter.unusedSimpArgs false
open Go.RowKit Go.PlainAid

/-- What Read tells of a text: of a number's own text, from 10 on, the number; and of nothing else one that is 10 or more. -/
def ReadQ (s : ByteArray) (t : Int) (ok : Bool) : Prop :=
  (∀ u : Nat, 10 ≤ u → u ≤ 255 → s = decS u → t = (u : Int) ∧ ok = true) ∧ (ok = true → 10 ≤ t → s = decS t.toNat)
theorem ReadQ.no {s : ByteArray} (h : ∀ u : Nat, 10 ≤ u → u ≤ 255 → s ≠ decS u) (t : Int) (ok : Bool) (ht : ok = true → t < 10) : ReadQ s t ok :=
  ⟨fun u h1 h2 e => absurd e (h u h1 h2), fun h1 h2 => by have := ht h1; omega⟩
theorem decS_ne {u : Nat} {s : ByteArray} (h : s.size = 0) : s ≠ decS u := fun e => by
  have h2 := decS_len u
  have h3 := (decL_len (u + 1) u (by omega) (Nat.lt_of_lt_of_le (Nat.lt_pow_self (by decide)) (Nat.pow_le_pow_right (by decide) (by omega)))).2
  rw [← e, h] at h2
  omega
theorem data_toArray (s : ByteArray) : (⟨s.data.toList.toArray⟩ : ByteArray) = s := by
  obtain ⟨⟨l⟩⟩ := s
  rfl
theorem decS_data (u : Nat) : (decS u).data.toList = decL u := rfl
theorem bt_head (s : ByteArray) (c : UInt8) : s.data.toList.head? = some c → bt s 0 = (c.toNat : Int) := fun h => by
  obtain ⟨⟨l⟩⟩ := s
  cases l with
  | nil => cases h
  | cons x r =>
    obtain rfl := Option.some.inj h
    have := bt_dec (x :: r) 0
    exact this
/-- A minus ahead: no number from 10 on. -/
theorem read_minus {s : ByteArray} (h : Lib.hasPrefix s.data.toList [45] = true) (u : Nat) : s ≠ decS u := fun e => by
  subst e
  rw [decS_data] at h
  cases hd : decL u with
  | nil => rw [hd] at h; cases h
  | cons c r =>
    rw [hd] at h
    have hc : c = 45 := by
      unfold Lib.hasPrefix at h
      simp [List.isPrefixOf] at h
      exact h.symm
    have := decL_dig u c (by rw [hd]; exact List.mem_cons_self ..)
    rw [hc] at this
    exact absurd this.1 (by decide)
theorem read_nought {s : ByteArray} (h : bt s 0 = 48) (u : Nat) (hu : 10 ≤ u) : s ≠ decS u := fun e => by
  subst e
  have h1 := decL_head u (by omega)
  cases hd : (decL u).head? with
  | none =>
    have h3 := (decL_len (u + 1) u (by omega) (Nat.lt_of_lt_of_le (Nat.lt_pow_self (by decide)) (Nat.pow_le_pow_right (by decide) (by omega)))).2
    cases hl : decL u with
    | nil => rw [hl] at h3; simp at h3
    | cons c r => rw [hl] at hd; cases hd
  | some c =>
    rw [bt_head (decS u) c (by rw [decS_data]; exact hd)] at h
    have : c = 48 := by
      have e2 : c = UInt8.ofNat c.toNat := by simp
      rw [e2, show c.toNat = 48 by omega]
      rfl
    exact h1 (by rw [hd, this])
theorem read_natural {s : ByteArray} (h : bt s 0 ≠ 48) : ReadQ s (natN s 9223372036854775807) (natB s 9223372036854775807) := by
  refine ⟨fun u h1 h2 e => ?_, fun h1 h2 => ?_⟩
  · subst e
    exact dec_natM (most := 9223372036854775807) (n := u) (by omega)
  · by_cases h0 : s.size = 0
    · rw [(nat_empty _ h0).2] at h1; cases h1
    cases hg : natG (bt s) 9223372036854775807 s.size with
    | none => rw [(nat_no (Nat.le_refl _) hg).2] at h1; cases h1
    | some N =>
      rw [(nat_yes (by omega) hg).1]
      obtain ⟨k, hk⟩ : ∃ k, s.size = k + 1 := ⟨s.size - 1, by omega⟩
      rw [hk] at hg
      have hsl : s.data.toList.length = s.size := by rw [Array.length_toList]; rfl
      have := (canonL s.data.toList 9223372036854775807 (by rw [data_toArray]; exact h) k N (by omega) (by rw [data_toArray]; exact hg)).2
      rw [List.take_of_length_le (by omega)] at this
      unfold decS
      rw [← this, data_toArray]
theorem read_zero : ReadQ ⟨#[48]⟩ (natN ⟨#[48]⟩ 9223372036854775807) (natB ⟨#[48]⟩ 9223372036854775807) :=
  ReadQ.no (fun u h1 h2 => read_nought (s := ⟨#[48]⟩) rfl u h1) _ _ fun _ => by decide +kernel
def ReadE (s : ByteArray) (w : World) (e : Ending) (w' : World) : Prop := ∃ (t : Int) (ok : Bool), e = .returned (.tuple #[.int .i64 t, .bool ok]) ∧ ReadQ s t ok ∧ Below w.heap.size w w'
set_option maxRecDepth 20000 in
set_option maxHeartbeats 3200000 in
/-- Behind a minus: no number from 10 on is told. -/
theorem read_below03 (s body : ByteArray) (w : World) (hq : ∀ u : Nat, 10 ≤ u → u ≤ 255 → s ≠ decS u) (hb : body.size ≠ 0) (h48 : ¬ (bt body 0 = 48)) (hsz : body.size ≤ 9223372036854775807)
    (hcut : ∀ W, Calls Tryd.prog 41 #[.string s, .string ⟨#[45]⟩] W fun e w' => e = .returned (.tuple #[.string body, .bool true]) ∧ w' = W) :
    Calls Tryd.prog 25 #[.string s] w (ReadE s w) := by
  have t1 := isEmpty_no hb
  have HC := hide hcut
  have HQ := hide hq
  have hb0 : 0 < body.size := by omega
  have hgb := get_bt body 0 hb0
  have t2 : ((body[0]'hb0) == (48 : UInt8)) = false := by
    cases hx : ((body[0]'hb0) == (48 : UInt8)) with
    | false => rfl
    | true =>
      have := eq_of_beq hx
      rw [this] at hgb
      exact absurd hgb.symm h48
  have t3 : (bt body 0 == 48) = false := by simpa using h48
  have t4 : decide (0 < body.size) = true := decide_eq_true hb0
  clear hcut hq
  go_enter Tryd.func25, Tryd.ntmps25
  go_wp2_with fail
  refine (HC.out _).mono ?_
  rintro e w1 ⟨rfl, rfl⟩
  go_wp2_with fail
  clear t1 t2 t3 t4 hgb h48 hb
  go_loopw [6, 8, 9, 10] (fun n _ _ _ wr => ∃ (pos : Nat) (N : Int), pos ≤ body.size ∧ wr = w1.iter body pos ∧ n = .int .i64 N ∧ -9223372036854775808 ≤ N ∧ N ≤ 0) (fun _ _ _ _ wr => body.size - wr.iterPos w1.heap.size)
  case atStart => exact ⟨0, 0, Nat.zero_le _, rfl, rfl, by omega, by omega⟩
  case round =>
    obtain ⟨pos, N, hk, rfl, rfl, n0, n1⟩ := hrel
    by_cases hp : pos < body.size
    · by_cases ha : (body[pos]'hp).toNat < 128
      · have hnx : ∀ ty, (Instr.next (.pointer (some ⟨w1.heap.size, 0, none⟩)) true ty).run Tryd.prog (w1.iter body pos) = _ := fun ty => run_next_ascii w1 body pos ty hp ha
        have hb : ((body[pos]'hp).toNat : Int) = bt body pos := get_bt body pos hp
        obtain ⟨c, hc⟩ : ∃ c, bt body pos = c := ⟨_, rfl⟩
        rw [hc] at hb
        clear hc ha
        by_cases hdig : 48 ≤ c ∧ c ≤ 57
        · obtain ⟨d, rfl⟩ : ∃ d, c = d + 48 := ⟨c - 48, by omega⟩
          have hd10 := at10 (t := d) (by omega) (by omega)
          clear hdig
          rcases hd10 with rfl | rfl | rfl | rfl | rfl | rfl | rfl | rfl | rfl | rfl
          · by_cases hL : N < -922337203685477580
            · have d2 : decide (N < -922337203685477580) = true := decide_eq_true hL
              go_wp2_with fail
              refine (dval_yes _ 0 rfl (by omega) (by omega) _).mono ?_
              rintro e w' ⟨rfl, rfl⟩
              go_wp2_with fail
              go_ret2
              exact ⟨0, false, rfl, ReadQ.no HQ.out _ _ fun h => (by cases h), iter_below _ _ _⟩
            · have d2 : decide (N < -922337203685477580) = false := decide_eq_false hL
              have g0 : -9223372036854775808 ≤ N * 10 := by omega
              have g1 : N * 10 ≤ 0 := by omega
              have g2 : -9223372036854775808 ≤ N * 10 - 0 := by omega
              have g3 : N * 10 - 0 ≤ 0 := by omega
              go_wp2_with fail
              refine (dval_yes _ 0 rfl (by omega) (by omega) _).mono ?_
              rintro e w' ⟨rfl, rfl⟩
              go_wp2_with fail
              exact ⟨⟨pos + 1, N * 10 - 0, by omega, rfl, (by first | rfl | (congr 1; omega)), g2, g3⟩, by simp; omega⟩
          · by_cases hL : N < -922337203685477580
            · have d2 : decide (N < -922337203685477580) = true := decide_eq_true hL
              go_wp2_with fail
              refine (dval_yes _ 1 rfl (by omega) (by omega) _).mono ?_
              rintro e w' ⟨rfl, rfl⟩
              go_wp2_with fail
              go_ret2
              exact ⟨0, false, rfl, ReadQ.no HQ.out _ _ fun h => (by cases h), iter_below _ _ _⟩
            · have d2 : decide (N < -922337203685477580) = false := decide_eq_false hL
              have g0 : -9223372036854775808 ≤ N * 10 := by omega
              have g1 : N * 10 ≤ 0 := by omega
              have g2 : -9223372036854775808 ≤ N * 10 - 1 := by omega
              have g3 : N * 10 - 1 ≤ 0 := by omega
              go_wp2_with fail
              refine (dval_yes _ 1 rfl (by omega) (by omega) _).mono ?_
              rintro e w' ⟨rfl, rfl⟩
              go_wp2_with fail
              exact ⟨⟨pos + 1, N * 10 - 1, by omega, rfl, (by first | rfl | (congr 1; omega)), g2, g3⟩, by simp; omega⟩
          · by_cases hL : N < -922337203685477580
            · have d2 : decide (N < -922337203685477580) = true := decide_eq_true hL
              go_wp2_with fail
              refine (dval_yes _ 2 rfl (by omega) (by omega) _).mono ?_
              rintro e w' ⟨rfl, rfl⟩
              go_wp2_with fail
              go_ret2
              exact ⟨0, false, rfl, ReadQ.no HQ.out _ _ fun h => (by cases h), iter_below _ _ _⟩
            · have d2 : decide (N < -922337203685477580) = false := decide_eq_false hL
              have g0 : -9223372036854775808 ≤ N * 10 := by omega
              have g1 : N * 10 ≤ 0 := by omega
              have g2 : -9223372036854775808 ≤ N * 10 - 2 := by omega
              have g3 : N * 10 - 2 ≤ 0 := by omega
              go_wp2_with fail
              refine (dval_yes _ 2 rfl (by omega) (by omega) _).mono ?_
              rintro e w' ⟨rfl, rfl⟩
              go_wp2_with fail
              exact ⟨⟨pos + 1, N * 10 - 2, by omega, rfl, (by first | rfl | (congr 1; omega)), g2, g3⟩, by simp; omega⟩
          · by_cases hL : N < -922337203685477580
            · have d2 : decide (N < -922337203685477580) = true := decide_eq_true hL
              go_wp2_with fail
              refine (dval_yes _ 3 rfl (by omega) (by omega) _).mono ?_
              rintro e w' ⟨rfl, rfl⟩
              go_wp2_with fail
              go_ret2
              exact ⟨0, false, rfl, ReadQ.no HQ.out _ _ fun h => (by cases h), iter_below _ _ _⟩
            · have d2 : decide (N < -922337203685477580) = false := decide_eq_false hL
              have g0 : -9223372036854775808 ≤ N * 10 := by omega
              have g1 : N * 10 ≤ 0 := by omega
              have g2 : -9223372036854775808 ≤ N * 10 - 3 := by omega
              have g3 : N * 10 - 3 ≤ 0 := by omega
              go_wp2_with fail
              refine (dval_yes _ 3 rfl (by omega) (by omega) _).mono ?_
              rintro e w' ⟨rfl, rfl⟩
              go_wp2_with fail
              exact ⟨⟨pos + 1, N * 10 - 3, by omega, rfl, (by first | rfl | (congr 1; omega)), g2, g3⟩, by simp; omega⟩
          · by_cases hL : N < -922337203685477580
            · have d2 : decide (N < -922337203685477580) = true := decide_eq_true hL
              go_wp2_with fail
              refine (dval_yes _ 4 rfl (by omega) (by omega) _).mono ?_
              rintro e w' ⟨rfl, rfl⟩
              go_wp2_with fail
              go_ret2
              exact ⟨0, false, rfl, ReadQ.no HQ.out _ _ fun h => (by cases h), iter_below _ _ _⟩
            · have d2 : decide (N < -922337203685477580) = false := decide_eq_false hL
              have g0 : -9223372036854775808 ≤ N * 10 := by omega
              have g1 : N * 10 ≤ 0 := by omega
              have g2 : -9223372036854775808 ≤ N * 10 - 4 := by omega
              have g3 : N * 10 - 4 ≤ 0 := by omega
              go_wp2_with fail
              refine (dval_yes _ 4 rfl (by omega) (by omega) _).mono ?_
              rintro e w' ⟨rfl, rfl⟩
              go_wp2_with fail
              exact ⟨⟨pos + 1, N * 10 - 4, by omega, rfl, (by first | rfl | (congr 1; omega)), g2, g3⟩, by simp; omega⟩
          · by_cases hL : N < -922337203685477580
            · have d2 : decide (N < -922337203685477580) = true := decide_eq_true hL
              go_wp2_with fail
              refine (dval_yes _ 5 rfl (by omega) (by omega) _).mono ?_
              rintro e w' ⟨rfl, rfl⟩
              go_wp2_with fail
              go_ret2
              exact ⟨0, false, rfl, ReadQ.no HQ.out _ _ fun h => (by cases h), iter_below _ _ _⟩
            · have d2 : decide (N < -922337203685477580) = false := decide_eq_false hL
              have g0 : -9223372036854775808 ≤ N * 10 := by omega
              have g1 : N * 10 ≤ 0 := by omega
              have g2 : -9223372036854775808 ≤ N * 10 - 5 := by omega
              have g3 : N * 10 - 5 ≤ 0 := by omega
              go_wp2_with fail
              refine (dval_yes _ 5 rfl (by omega) (by omega) _).mono ?_
              rintro e w' ⟨rfl, rfl⟩
              go_wp2_with fail
              exact ⟨⟨pos + 1, N * 10 - 5, by omega, rfl, (by first | rfl | (congr 1; omega)), g2, g3⟩, by simp; omega⟩
          · by_cases hL : N < -922337203685477580
            · have d2 : decide (N < -922337203685477580) = true := decide_eq_true hL
              go_wp2_with fail
              refine (dval_yes _ 6 rfl (by omega) (by omega) _).mono ?_
              rintro e w' ⟨rfl, rfl⟩
              go_wp2_with fail
              go_ret2
              exact ⟨0, false, rfl, ReadQ.no HQ.out _ _ fun h => (by cases h), iter_below _ _ _⟩
            · have d2 : decide (N < -922337203685477580) = false := decide_eq_false hL
              have g0 : -9223372036854775808 ≤ N * 10 := by omega
              have g1 : N * 10 ≤ 0 := by omega
              have g2 : -9223372036854775808 ≤ N * 10 - 6 := by omega
              have g3 : N * 10 - 6 ≤ 0 := by omega
              go_wp2_with fail
              refine (dval_yes _ 6 rfl (by omega) (by omega) _).mono ?_
              rintro e w' ⟨rfl, rfl⟩
              go_wp2_with fail
              exact ⟨⟨pos + 1, N * 10 - 6, by omega, rfl, (by first | rfl | (congr 1; omega)), g2, g3⟩, by simp; omega⟩
          · by_cases hL : N < -922337203685477580
            · have d2 : decide (N < -922337203685477580) = true := decide_eq_true hL
              go_wp2_with fail
              refine (dval_yes _ 7 rfl (by omega) (by omega) _).mono ?_
              rintro e w' ⟨rfl, rfl⟩
              go_wp2_with fail
              go_ret2
              exact ⟨0, false, rfl, ReadQ.no HQ.out _ _ fun h => (by cases h), iter_below _ _ _⟩
            · have d2 : decide (N < -922337203685477580) = false := decide_eq_false hL
              have g0 : -9223372036854775808 ≤ N * 10 := by omega
              have g1 : N * 10 ≤ 0 := by omega
              have g2 : -9223372036854775808 ≤ N * 10 - 7 := by omega
              have g3 : N * 10 - 7 ≤ 0 := by omega
              go_wp2_with fail
              refine (dval_yes _ 7 rfl (by omega) (by omega) _).mono ?_
              rintro e w' ⟨rfl, rfl⟩
              go_wp2_with fail
              exact ⟨⟨pos + 1, N * 10 - 7, by omega, rfl, (by first | rfl | (congr 1; omega)), g2, g3⟩, by simp; omega⟩
          · by_cases hL : N < -922337203685477580
            · have d2 : decide (N < -922337203685477580) = true := decide_eq_true hL
              go_wp2_with fail
              refine (dval_yes _ 8 rfl (by omega) (by omega) _).mono ?_
              rintro e w' ⟨rfl, rfl⟩
              go_wp2_with fail
              go_ret2
              exact ⟨0, false, rfl, ReadQ.no HQ.out _ _ fun h => (by cases h), iter_below _ _ _⟩
            · have d2 : decide (N < -922337203685477580) = false := decide_eq_false hL
              have g0 : -9223372036854775808 ≤ N * 10 := by omega
              have g1 : N * 10 ≤ 0 := by omega
              have g2 : -9223372036854775808 ≤ N * 10 - 8 := by omega
              have g3 : N * 10 - 8 ≤ 0 := by omega
              go_wp2_with fail
              refine (dval_yes _ 8 rfl (by omega) (by omega) _).mono ?_
              rintro e w' ⟨rfl, rfl⟩
              go_wp2_with fail
              exact ⟨⟨pos + 1, N * 10 - 8, by omega, rfl, (by first | rfl | (congr 1; omega)), g2, g3⟩, by simp; omega⟩
          · by_cases hL : N < -922337203685477579
            · have d2 : decide (N < -922337203685477579) = true := decide_eq_true hL
              go_wp2_with fail
              refine (dval_yes _ 9 rfl (by omega) (by omega) _).mono ?_
              rintro e w' ⟨rfl, rfl⟩
              go_wp2_with fail
              go_ret2
              exact ⟨0, false, rfl, ReadQ.no HQ.out _ _ fun h => (by cases h), iter_below _ _ _⟩
            · have d2 : decide (N < -922337203685477579) = false := decide_eq_false hL
              have g0 : -9223372036854775808 ≤ N * 10 := by omega
              have g1 : N * 10 ≤ 0 := by omega
              have g2 : -9223372036854775808 ≤ N * 10 - 9 := by omega
              have g3 : N * 10 - 9 ≤ 0 := by omega
              go_wp2_with fail
              refine (dval_yes _ 9 rfl (by omega) (by omega) _).mono ?_
              rintro e w' ⟨rfl, rfl⟩
              go_wp2_with fail
              exact ⟨⟨pos + 1, N * 10 - 9, by omega, rfl, (by first | rfl | (congr 1; omega)), g2, g3⟩, by simp; omega⟩
        · go_wp2_with fail
          refine (dval_no _ (by omega) _).mono ?_
          rintro e w' ⟨rfl, rfl⟩
          go_wp2_with fail
          go_ret2
          exact ⟨0, false, rfl, ReadQ.no HQ.out _ _ fun h => (by cases h), iter_below _ _ _⟩
      · obtain ⟨r0, r1⟩ := decode_high body pos hp (by omega)
        have hnx : ∀ ty, (Instr.next (.pointer (some ⟨w1.heap.size, 0, none⟩)) true ty).run Tryd.prog (w1.iter body pos) = _ := fun ty => run_next_any w1 body pos ty hp
        clear ha
        generalize Utf8.decode body pos = rd at *
        obtain ⟨r, wd⟩ := rd
        simp only at r0 r1 hnx
        go_wp2_with fail
        refine (dval_no _ (by omega) _).mono ?_
        rintro e w' ⟨rfl, rfl⟩
        go_wp2_with fail
        go_ret2
        exact ⟨0, false, rfl, ReadQ.no HQ.out _ _ fun h => (by cases h), iter_below _ _ _⟩
    · have hnx : ∀ ty, (Instr.next (.pointer (some ⟨w1.heap.size, 0, none⟩)) true ty).run Tryd.prog (w1.iter body pos) = _ := fun ty => run_next_end w1 body pos ty hp
      go_wp2_with fail
      go_ret2
      exact ⟨N, true, rfl, ReadQ.no HQ.out _ _ fun _ => (by omega), iter_below _ _ _⟩
end Go.Proofs.YtminoofghdpomaaDoor
