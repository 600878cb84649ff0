/- Layer 3: the program's Read, behind a minus. -/
import Derived.Test.YtminoofghdpomaaDoorRd2
import Derived.Test.YtminoofghdpomaaDoorMT
namespace Go.Proofs.YtminoofghdpomaaDoor
set_option linter.unusedVariables false
set_option linter.unusedSimpArgs false
open Go.RowKit Go.PlainAid

set_option maxRecDepth 20000 in
set_option maxHeartbeats 3200000 in
theorem read_belowR (s body : ByteArray) (w : World) (hy : natB body P63 = true → ReadR s (-(natN body P63)) true) (hx : natB body P63 = false → ReadR s 0 false) (hb : body.size ≠ 0) (h48 : ¬ (bt body 0 = 48)) (hsz : body.size ≤ 9223372036854775807)
    (hcut : ∀ W, Calls Tryd.prog 41 #[.string s, .string ⟨#[45]⟩] W fun e w' => e = .returned (.tuple #[.string body, .bool true]) ∧ w' = W) :
    Calls Tryd.prog 25 #[.string s] w (ReadRE s w) := by
  have t1 := isEmpty_no hb
  have HC := hide hcut
  have HY := hide hy
  have HX := hide hx
  have hb0 : 0 < body.size := by omega
  have hgb := get_bt body 0 hb0
  have t3 : (bt body 0 == 48) = false := by simpa using h48
  have t4 : decide (0 < body.size) = true := decide_eq_true hb0
  clear hcut hy hx
  go_enter Tryd.func25, Tryd.ntmps25
  go_wp2_with fail
  refine (HC.out _).mono ?_
  rintro e w1 ⟨rfl, rfl⟩
  go_wp2_with fail
  clear t1 t3 t4 hgb h48 hb
  go_loopw [6, 8, 9, 10] (fun n _ _ _ wr => ∃ (pos : Nat) (N : Int), pos ≤ body.size ∧ wr = w1.iter body pos ∧ n = .int .i64 N ∧ -9223372036854775808 ≤ N ∧ N ≤ 0 ∧ natG (bt body) P63 pos = some (-N)) (fun _ _ _ _ wr => body.size - wr.iterPos w1.heap.size)
  case atStart => exact ⟨0, 0, Nat.zero_le _, rfl, rfl, by omega, by omega, rfl⟩
  case round =>
    obtain ⟨pos, N, hk, rfl, rfl, n0, n1, hN⟩ := hrel
    have HN := hide hN
    clear hN
    have hno := hide (fun (h : natG (bt body) P63 (pos + 1) = none) (hp : pos + 1 ≤ body.size) => HX.out (nat_no hp h).2)
    by_cases hp : pos < body.size
    · by_cases ha : (body[pos]'hp).toNat < 128
      · have hnx : ∀ ty, (Instr.next (.pointer (some ⟨w1.heap.size, 0, none⟩)) true ty).run Tryd.prog (w1.iter body pos) = _ := fun ty => run_next_ascii w1 body pos ty hp ha
        have hb : ((body[pos]'hp).toNat : Int) = bt body pos := get_bt body pos hp
        obtain ⟨c, hc⟩ : ∃ c, bt body pos = c := ⟨_, rfl⟩
        rw [hc] at hb
        have HCC := hide hc
        clear hc ha
        by_cases hdig : 48 ≤ c ∧ c ≤ 57
        · obtain ⟨d, rfl⟩ : ∃ d, c = d + 48 := ⟨c - 48, by omega⟩
          have hd10 : d = 0 ∨ d = 1 ∨ d = 2 ∨ d = 3 ∨ d = 4 ∨ d = 5 ∨ d = 6 ∨ d = 7 ∨ d = 8 ∨ d = 9 := by omega
          clear hdig
          rcases hd10 with rfl | rfl | rfl | rfl | rfl | rfl | rfl | rfl | rfl | rfl
          · by_cases hL : N < -922337203685477580
            · have d2 : decide (N < -922337203685477580) = true := decide_eq_true hL
              have HG := hide (hno.out (natG_no HN.out (by rw [HCC.out]; unfold P63; omega)) (by omega))
              clear hno
              go_wp2_with fail
              refine (dval_yes _ 0 rfl (by omega) (by omega) _).mono ?_
              rintro e w' ⟨rfl, rfl⟩
              go_wp2_with fail
              go_ret2
              exact ⟨0, false, rfl, HG.out, iter_below _ _ _⟩
            · have d2 : decide (N < -922337203685477580) = false := decide_eq_false hL
              have HG : Hid (natG (bt body) P63 (pos + 1) = some (-(N * 10 - 0))) := by
                have := natG_yes HN.out (by rw [HCC.out]; omega) (by rw [HCC.out]; omega) (by rw [HCC.out]; unfold P63; omega)
                rw [HCC.out] at this
                unfold Hid
                rw [this]
                congr 1
                omega
              have g0 : -9223372036854775808 ≤ N * 10 := by omega
              have g1 : N * 10 ≤ 0 := by omega
              have g2 : -9223372036854775808 ≤ N * 10 - 0 := by omega
              have g3 : N * 10 - 0 ≤ 0 := by omega
              clear hno
              go_wp2_with fail
              refine (dval_yes _ 0 rfl (by omega) (by omega) _).mono ?_
              rintro e w' ⟨rfl, rfl⟩
              go_wp2_with fail
              exact ⟨⟨pos + 1, N * 10 - 0, by omega, rfl, (by first | rfl | (congr 1; omega)), g2, g3, HG.out⟩, by simp; omega⟩
          · by_cases hL : N < -922337203685477580
            · have d2 : decide (N < -922337203685477580) = true := decide_eq_true hL
              have HG := hide (hno.out (natG_no HN.out (by rw [HCC.out]; unfold P63; omega)) (by omega))
              clear hno
              go_wp2_with fail
              refine (dval_yes _ 1 rfl (by omega) (by omega) _).mono ?_
              rintro e w' ⟨rfl, rfl⟩
              go_wp2_with fail
              go_ret2
              exact ⟨0, false, rfl, HG.out, iter_below _ _ _⟩
            · have d2 : decide (N < -922337203685477580) = false := decide_eq_false hL
              have HG : Hid (natG (bt body) P63 (pos + 1) = some (-(N * 10 - 1))) := by
                have := natG_yes HN.out (by rw [HCC.out]; omega) (by rw [HCC.out]; omega) (by rw [HCC.out]; unfold P63; omega)
                rw [HCC.out] at this
                unfold Hid
                rw [this]
                congr 1
                omega
              have g0 : -9223372036854775808 ≤ N * 10 := by omega
              have g1 : N * 10 ≤ 0 := by omega
              have g2 : -9223372036854775808 ≤ N * 10 - 1 := by omega
              have g3 : N * 10 - 1 ≤ 0 := by omega
              clear hno
              go_wp2_with fail
              refine (dval_yes _ 1 rfl (by omega) (by omega) _).mono ?_
              rintro e w' ⟨rfl, rfl⟩
              go_wp2_with fail
              exact ⟨⟨pos + 1, N * 10 - 1, by omega, rfl, (by first | rfl | (congr 1; omega)), g2, g3, HG.out⟩, by simp; omega⟩
          · by_cases hL : N < -922337203685477580
            · have d2 : decide (N < -922337203685477580) = true := decide_eq_true hL
              have HG := hide (hno.out (natG_no HN.out (by rw [HCC.out]; unfold P63; omega)) (by omega))
              clear hno
              go_wp2_with fail
              refine (dval_yes _ 2 rfl (by omega) (by omega) _).mono ?_
              rintro e w' ⟨rfl, rfl⟩
              go_wp2_with fail
              go_ret2
              exact ⟨0, false, rfl, HG.out, iter_below _ _ _⟩
            · have d2 : decide (N < -922337203685477580) = false := decide_eq_false hL
              have HG : Hid (natG (bt body) P63 (pos + 1) = some (-(N * 10 - 2))) := by
                have := natG_yes HN.out (by rw [HCC.out]; omega) (by rw [HCC.out]; omega) (by rw [HCC.out]; unfold P63; omega)
                rw [HCC.out] at this
                unfold Hid
                rw [this]
                congr 1
                omega
              have g0 : -9223372036854775808 ≤ N * 10 := by omega
              have g1 : N * 10 ≤ 0 := by omega
              have g2 : -9223372036854775808 ≤ N * 10 - 2 := by omega
              have g3 : N * 10 - 2 ≤ 0 := by omega
              clear hno
              go_wp2_with fail
              refine (dval_yes _ 2 rfl (by omega) (by omega) _).mono ?_
              rintro e w' ⟨rfl, rfl⟩
              go_wp2_with fail
              exact ⟨⟨pos + 1, N * 10 - 2, by omega, rfl, (by first | rfl | (congr 1; omega)), g2, g3, HG.out⟩, by simp; omega⟩
          · by_cases hL : N < -922337203685477580
            · have d2 : decide (N < -922337203685477580) = true := decide_eq_true hL
              have HG := hide (hno.out (natG_no HN.out (by rw [HCC.out]; unfold P63; omega)) (by omega))
              clear hno
              go_wp2_with fail
              refine (dval_yes _ 3 rfl (by omega) (by omega) _).mono ?_
              rintro e w' ⟨rfl, rfl⟩
              go_wp2_with fail
              go_ret2
              exact ⟨0, false, rfl, HG.out, iter_below _ _ _⟩
            · have d2 : decide (N < -922337203685477580) = false := decide_eq_false hL
              have HG : Hid (natG (bt body) P63 (pos + 1) = some (-(N * 10 - 3))) := by
                have := natG_yes HN.out (by rw [HCC.out]; omega) (by rw [HCC.out]; omega) (by rw [HCC.out]; unfold P63; omega)
                rw [HCC.out] at this
                unfold Hid
                rw [this]
                congr 1
                omega
              have g0 : -9223372036854775808 ≤ N * 10 := by omega
              have g1 : N * 10 ≤ 0 := by omega
              have g2 : -9223372036854775808 ≤ N * 10 - 3 := by omega
              have g3 : N * 10 - 3 ≤ 0 := by omega
              clear hno
              go_wp2_with fail
              refine (dval_yes _ 3 rfl (by omega) (by omega) _).mono ?_
              rintro e w' ⟨rfl, rfl⟩
              go_wp2_with fail
              exact ⟨⟨pos + 1, N * 10 - 3, by omega, rfl, (by first | rfl | (congr 1; omega)), g2, g3, HG.out⟩, by simp; omega⟩
          · by_cases hL : N < -922337203685477580
            · have d2 : decide (N < -922337203685477580) = true := decide_eq_true hL
              have HG := hide (hno.out (natG_no HN.out (by rw [HCC.out]; unfold P63; omega)) (by omega))
              clear hno
              go_wp2_with fail
              refine (dval_yes _ 4 rfl (by omega) (by omega) _).mono ?_
              rintro e w' ⟨rfl, rfl⟩
              go_wp2_with fail
              go_ret2
              exact ⟨0, false, rfl, HG.out, iter_below _ _ _⟩
            · have d2 : decide (N < -922337203685477580) = false := decide_eq_false hL
              have HG : Hid (natG (bt body) P63 (pos + 1) = some (-(N * 10 - 4))) := by
                have := natG_yes HN.out (by rw [HCC.out]; omega) (by rw [HCC.out]; omega) (by rw [HCC.out]; unfold P63; omega)
                rw [HCC.out] at this
                unfold Hid
                rw [this]
                congr 1
                omega
              have g0 : -9223372036854775808 ≤ N * 10 := by omega
              have g1 : N * 10 ≤ 0 := by omega
              have g2 : -9223372036854775808 ≤ N * 10 - 4 := by omega
              have g3 : N * 10 - 4 ≤ 0 := by omega
              clear hno
              go_wp2_with fail
              refine (dval_yes _ 4 rfl (by omega) (by omega) _).mono ?_
              rintro e w' ⟨rfl, rfl⟩
              go_wp2_with fail
              exact ⟨⟨pos + 1, N * 10 - 4, by omega, rfl, (by first | rfl | (congr 1; omega)), g2, g3, HG.out⟩, by simp; omega⟩
          · by_cases hL : N < -922337203685477580
            · have d2 : decide (N < -922337203685477580) = true := decide_eq_true hL
              have HG := hide (hno.out (natG_no HN.out (by rw [HCC.out]; unfold P63; omega)) (by omega))
              clear hno
              go_wp2_with fail
              refine (dval_yes _ 5 rfl (by omega) (by omega) _).mono ?_
              rintro e w' ⟨rfl, rfl⟩
              go_wp2_with fail
              go_ret2
              exact ⟨0, false, rfl, HG.out, iter_below _ _ _⟩
            · have d2 : decide (N < -922337203685477580) = false := decide_eq_false hL
              have HG : Hid (natG (bt body) P63 (pos + 1) = some (-(N * 10 - 5))) := by
                have := natG_yes HN.out (by rw [HCC.out]; omega) (by rw [HCC.out]; omega) (by rw [HCC.out]; unfold P63; omega)
                rw [HCC.out] at this
                unfold Hid
                rw [this]
                congr 1
                omega
              have g0 : -9223372036854775808 ≤ N * 10 := by omega
              have g1 : N * 10 ≤ 0 := by omega
              have g2 : -9223372036854775808 ≤ N * 10 - 5 := by omega
              have g3 : N * 10 - 5 ≤ 0 := by omega
              clear hno
              go_wp2_with fail
              refine (dval_yes _ 5 rfl (by omega) (by omega) _).mono ?_
              rintro e w' ⟨rfl, rfl⟩
              go_wp2_with fail
              exact ⟨⟨pos + 1, N * 10 - 5, by omega, rfl, (by first | rfl | (congr 1; omega)), g2, g3, HG.out⟩, by simp; omega⟩
          · by_cases hL : N < -922337203685477580
            · have d2 : decide (N < -922337203685477580) = true := decide_eq_true hL
              have HG := hide (hno.out (natG_no HN.out (by rw [HCC.out]; unfold P63; omega)) (by omega))
              clear hno
              go_wp2_with fail
              refine (dval_yes _ 6 rfl (by omega) (by omega) _).mono ?_
              rintro e w' ⟨rfl, rfl⟩
              go_wp2_with fail
              go_ret2
              exact ⟨0, false, rfl, HG.out, iter_below _ _ _⟩
            · have d2 : decide (N < -922337203685477580) = false := decide_eq_false hL
              have HG : Hid (natG (bt body) P63 (pos + 1) = some (-(N * 10 - 6))) := by
                have := natG_yes HN.out (by rw [HCC.out]; omega) (by rw [HCC.out]; omega) (by rw [HCC.out]; unfold P63; omega)
                rw [HCC.out] at this
                unfold Hid
                rw [this]
                congr 1
                omega
              have g0 : -9223372036854775808 ≤ N * 10 := by omega
              have g1 : N * 10 ≤ 0 := by omega
              have g2 : -9223372036854775808 ≤ N * 10 - 6 := by omega
              have g3 : N * 10 - 6 ≤ 0 := by omega
              clear hno
              go_wp2_with fail
              refine (dval_yes _ 6 rfl (by omega) (by omega) _).mono ?_
              rintro e w' ⟨rfl, rfl⟩
              go_wp2_with fail
              exact ⟨⟨pos + 1, N * 10 - 6, by omega, rfl, (by first | rfl | (congr 1; omega)), g2, g3, HG.out⟩, by simp; omega⟩
          · by_cases hL : N < -922337203685477580
            · have d2 : decide (N < -922337203685477580) = true := decide_eq_true hL
              have HG := hide (hno.out (natG_no HN.out (by rw [HCC.out]; unfold P63; omega)) (by omega))
              clear hno
              go_wp2_with fail
              refine (dval_yes _ 7 rfl (by omega) (by omega) _).mono ?_
              rintro e w' ⟨rfl, rfl⟩
              go_wp2_with fail
              go_ret2
              exact ⟨0, false, rfl, HG.out, iter_below _ _ _⟩
            · have d2 : decide (N < -922337203685477580) = false := decide_eq_false hL
              have HG : Hid (natG (bt body) P63 (pos + 1) = some (-(N * 10 - 7))) := by
                have := natG_yes HN.out (by rw [HCC.out]; omega) (by rw [HCC.out]; omega) (by rw [HCC.out]; unfold P63; omega)
                rw [HCC.out] at this
                unfold Hid
                rw [this]
                congr 1
                omega
              have g0 : -9223372036854775808 ≤ N * 10 := by omega
              have g1 : N * 10 ≤ 0 := by omega
              have g2 : -9223372036854775808 ≤ N * 10 - 7 := by omega
              have g3 : N * 10 - 7 ≤ 0 := by omega
              clear hno
              go_wp2_with fail
              refine (dval_yes _ 7 rfl (by omega) (by omega) _).mono ?_
              rintro e w' ⟨rfl, rfl⟩
              go_wp2_with fail
              exact ⟨⟨pos + 1, N * 10 - 7, by omega, rfl, (by first | rfl | (congr 1; omega)), g2, g3, HG.out⟩, by simp; omega⟩
          · by_cases hL : N < -922337203685477580
            · have d2 : decide (N < -922337203685477580) = true := decide_eq_true hL
              have HG := hide (hno.out (natG_no HN.out (by rw [HCC.out]; unfold P63; omega)) (by omega))
              clear hno
              go_wp2_with fail
              refine (dval_yes _ 8 rfl (by omega) (by omega) _).mono ?_
              rintro e w' ⟨rfl, rfl⟩
              go_wp2_with fail
              go_ret2
              exact ⟨0, false, rfl, HG.out, iter_below _ _ _⟩
            · have d2 : decide (N < -922337203685477580) = false := decide_eq_false hL
              have HG : Hid (natG (bt body) P63 (pos + 1) = some (-(N * 10 - 8))) := by
                have := natG_yes HN.out (by rw [HCC.out]; omega) (by rw [HCC.out]; omega) (by rw [HCC.out]; unfold P63; omega)
                rw [HCC.out] at this
                unfold Hid
                rw [this]
                congr 1
                omega
              have g0 : -9223372036854775808 ≤ N * 10 := by omega
              have g1 : N * 10 ≤ 0 := by omega
              have g2 : -9223372036854775808 ≤ N * 10 - 8 := by omega
              have g3 : N * 10 - 8 ≤ 0 := by omega
              clear hno
              go_wp2_with fail
              refine (dval_yes _ 8 rfl (by omega) (by omega) _).mono ?_
              rintro e w' ⟨rfl, rfl⟩
              go_wp2_with fail
              exact ⟨⟨pos + 1, N * 10 - 8, by omega, rfl, (by first | rfl | (congr 1; omega)), g2, g3, HG.out⟩, by simp; omega⟩
          · by_cases hL : N < -922337203685477579
            · have d2 : decide (N < -922337203685477579) = true := decide_eq_true hL
              have HG := hide (hno.out (natG_no HN.out (by rw [HCC.out]; unfold P63; omega)) (by omega))
              clear hno
              go_wp2_with fail
              refine (dval_yes _ 9 rfl (by omega) (by omega) _).mono ?_
              rintro e w' ⟨rfl, rfl⟩
              go_wp2_with fail
              go_ret2
              exact ⟨0, false, rfl, HG.out, iter_below _ _ _⟩
            · have d2 : decide (N < -922337203685477579) = false := decide_eq_false hL
              have HG : Hid (natG (bt body) P63 (pos + 1) = some (-(N * 10 - 9))) := by
                have := natG_yes HN.out (by rw [HCC.out]; omega) (by rw [HCC.out]; omega) (by rw [HCC.out]; unfold P63; omega)
                rw [HCC.out] at this
                unfold Hid
                rw [this]
                congr 1
                omega
              have g0 : -9223372036854775808 ≤ N * 10 := by omega
              have g1 : N * 10 ≤ 0 := by omega
              have g2 : -9223372036854775808 ≤ N * 10 - 9 := by omega
              have g3 : N * 10 - 9 ≤ 0 := by omega
              clear hno
              go_wp2_with fail
              refine (dval_yes _ 9 rfl (by omega) (by omega) _).mono ?_
              rintro e w' ⟨rfl, rfl⟩
              go_wp2_with fail
              exact ⟨⟨pos + 1, N * 10 - 9, by omega, rfl, (by first | rfl | (congr 1; omega)), g2, g3, HG.out⟩, by simp; omega⟩
        · have HG := hide (hno.out (natG_no HN.out (by rw [HCC.out]; omega)) (by omega))
          clear hno
          go_wp2_with fail
          refine (dval_no _ (by omega) _).mono ?_
          rintro e w' ⟨rfl, rfl⟩
          go_wp2_with fail
          go_ret2
          exact ⟨0, false, rfl, HG.out, iter_below _ _ _⟩
      · obtain ⟨r0, r1⟩ := decode_high body pos hp (by omega)
        have hnx : ∀ ty, (Instr.next (.pointer (some ⟨w1.heap.size, 0, none⟩)) true ty).run Tryd.prog (w1.iter body pos) = _ := fun ty => run_next_any w1 body pos ty hp
        have hb : ((body[pos]'hp).toNat : Int) = bt body pos := get_bt body pos hp
        have HG := hide (hno.out (natG_no HN.out (by omega)) (by omega))
        clear ha hb hno
        generalize Utf8.decode body pos = rd at *
        obtain ⟨r, wd⟩ := rd
        simp only at r0 r1 hnx
        go_wp2_with fail
        refine (dval_no _ (by omega) _).mono ?_
        rintro e w' ⟨rfl, rfl⟩
        go_wp2_with fail
        go_ret2
        exact ⟨0, false, rfl, HG.out, iter_below _ _ _⟩
    · have hnx : ∀ ty, (Instr.next (.pointer (some ⟨w1.heap.size, 0, none⟩)) true ty).run Tryd.prog (w1.iter body pos) = _ := fun ty => run_next_end w1 body pos ty hp
      obtain rfl : pos = body.size := by omega
      obtain ⟨e1, e2⟩ := nat_yes hb0 HN.out
      have HG : Hid (ReadR s N true) := by
        have := HY.out e2
        rw [e1, Int.neg_neg] at this
        exact this
      clear hno e1 e2
      go_wp2_with fail
      go_ret2
      exact ⟨N, true, rfl, HG.out, iter_below _ _ _⟩
end Go.Proofs.YtminoofghdpomaaDoor
