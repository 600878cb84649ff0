/- Layer 32: how many are possible. -/
import Derived.Test.YteikpdolickkaaaPe6
namespace Go.Proofs.Yteikpdolickkaaa
open Go.RowKit Go.Deep Go.ChangeShapes Go.WideShapes

set_option maxRecDepth 20000 in
set_option maxHeartbeats 1600000 in
theorem bounds_walk32 (A : Option Addr) (n c : Nat) (F : Nat → Pd) (w : World) (ha : RdP w A n c F) :
    Calls Try.prog 10 #[.slice A n c] w (Yes w) := by
  have Ha := hide ha
  have hn63 : (n : Int) ≤ 9223372036854775807 := by have h1 := ha.1; have h2 := ha.2.1; simp only [maxLen] at h2; omega
  clear ha
  go_enter Try.func10, Try.ntmps10
  go_wp2_with fail
  refine (large32 Ha.out).mono ?_
  rintro e w0 ⟨h1, rfl⟩
  rcases h1 with rfl | ⟨rfl, h30, hsm⟩
  · go_wp2_with fail
    refine (alive32 _).mono ?_
    rintro e w2 ⟨rfl, hb2⟩
    go_wp2_with fail
    go_ret
    exact ⟨rfl, hb2⟩
  have Hn := hide h30
  have Hsm := hide hsm
  have Q0 := hide (QOk.new (B := w.heap.size) w (Nat.le_refl _))
  have E0 := hide ((Below.refl w.heap.size w).alloc (Nat.le_refl _) (.cells #[.int .i64 0, .int .i64 0, .slice none 0 0] 111))
  clear h30 hsm
  go_wp2_with fail
  refine (new32 _).mono ?_
  rintro e z ⟨rfl, rfl⟩
  have hsz : (w.alloc (.cells #[.int .i64 0, .int .i64 0, .slice none 0 0] 111)).heap.size = w.heap.size + 1 := by simp
  generalize w.alloc (.cells #[.int .i64 0, .int .i64 0, .slice none 0 0] 111) = z at *
  have S0 : Hid (w.heap.size + 1 ≤ z.heap.size) := by show _ ≤ _; omega
  clear hsz
  go_wp2_with fail
  go_loopw [15] (fun i wr => ∃ k : Nat, k ≤ n ∧ i = .int .i64 k ∧ ∃ (g : Option Nat) (a l m : Nat) (V : Nat → Nat → Int), QOk w.heap.size wr w.heap.size g a l m V ∧ a ≤ l ∧ l + m ≤ k + 1 ∧ Below w.heap.size w wr) (fun i _ => n - (intOf i).toNat)
  case atStart => exact ⟨0, Nat.zero_le _, rfl, _, _, _, _, _, Q0.out, Nat.le_refl _, by omega, E0.out⟩
  case round =>
    obtain ⟨k, hk, rfl, g, a, l, m, V, hq, hal, hlm, hbl⟩ := hrel
    clear Q0 E0 S0
    by_cases hlt : k < n
    · have hkn' : (k : Int) < (n : Int) := by omega
      obtain ⟨b, off, rfl, ⟨hc0, hc1, hc2⟩, _⟩ := (Ha.out.below hbl).at_ hlt
      obtain ⟨hr, hrb⟩ := Ha.out.2.2.2.2 k hlt
      obtain ⟨hs1, hs2⟩ := Hsm.out k hlt
      have hn30 := Hn.out
      generalize F k = D at *
      obtain ⟨dk, dA, dn, dc, df, dg, dA2, dn2, dc2, db⟩ := D
      simp only at hc0 hc1 hc2 hr hrb hs1 hs2
      have Hr := hide hr
      have Hrb := hide hrb
      have al := (Below.refl wr.heap.size wr).alloc (Nat.le_refl _) (.cells #[.int .i64 dk, .slice dA dn dc, .slice dA2 dn2 dc2] 99)
      have Q1 := hide (hq.below al)
      have E1 := hide (hbl.of al)
      obtain ⟨t0, t1, t2⟩ := rowQ (heap_alloc_new wr (.cells #[.int .i64 dk, .slice dA dn dc, .slice dA2 dn2 dc2] 99))
      have hpos := hq.pos
      clear hq hbl al hr hrb
      by_cases h0 : dk = 0
      · subst h0
        go_wp2_with fail
        refine (push32 Q1.out E1.out.size (by omega) (Hr.out.below E1.out) (by omega)).mono ?_
        rintro e w2 ⟨g', rfl, hq, hf, _⟩
        have Q2 := hide hq
        have E2 := hide (E1.out.trans hf.below)
        clear hq hf Q1 E1 t0 t1 t2
        obtain ⟨x, hx⟩ : ∃ x, x = m + 1 := ⟨_, rfl⟩
        rw [← hx] at Q2
        have hx1 : decide ((x : Int) < 1) = false := decide_eq_false (by omega)
        have hx1' : decide (x < 1) = false := decide_eq_false (by omega)
        obtain ⟨s, hs⟩ : ∃ s, s = l + x - 1 := ⟨_, rfl⟩
        have hw1 : IntKind.i64.wrap ((s : Int) - (a : Int)) = (s : Int) - (a : Int) := IntWalk.i64_in _ (by omega)
        have hw2 : IntKind.i64.wrap ((s : Int) - (a : Int) + 1) = (s : Int) - (a : Int) + 1 := IntWalk.i64_in _ (by omega)
        have hx2 : decide ((s : Int) - (a : Int) + 1 < (x : Int)) = false := decide_eq_false (by omega)
        have hx3 : decide ((l : Int) < (a : Int)) = false := decide_eq_false (by omega)
        have hx3' : decide (l < a) = false := decide_eq_false (by omega)
        have hw3 : IntKind.i64.wrap ((l : Int) + (x : Int)) = (l : Int) + (x : Int) := IntWalk.i64_in _ (by omega)
        have hw4 : IntKind.i64.wrap ((s : Int) + 1) = (s : Int) + 1 := IntWalk.i64_in _ (by omega)
        have hx4 : ((l : Int) + (x : Int) == (s : Int) + 1) = true := by
          simp only [beq_iff_eq]
          omega
        have Hs := hide hs
        have Hx := hide hx
        have Hlm := hide hlm
        clear hs hx
        go_wp2_with fail
        refine (all32 Q2.out E2.out.size (by have := Hx.out; omega)).mono ?_
        rintro e w3 ⟨v3, rfl, ho3, hb3⟩
        obtain ⟨A3, c3, rfl, _, _⟩ := ho3.rd
        have Q3 := hide (Q2.out.below hb3)
        have E3 := hide (E2.out.of hb3)
        clear ho3 hb3 Q2 E2
        go_wp2_with fail
        refine (sent32 Q3.out E3.out.size (by have := Hx.out; omega)).mono ?_
        rintro e w4 ⟨rfl, hb4⟩
        rw [← Hs.out]
        have Q4 := hide (Q3.out.below hb4)
        have E4 := hide (E3.out.of hb4)
        clear hb4 Q3 E3
        go_wp2_with fail
        refine (acked32 Q4.out).mono ?_
        rintro e wl ⟨rfl, rfl⟩
        go_wp2_with fail
        refine (least32 Q4.out).mono ?_
        rintro e wl ⟨rfl, rfl⟩
        go_wp2_with fail
        refine (acked32 Q4.out).mono ?_
        rintro e wl ⟨rfl, rfl⟩
        go_wp2_with fail
        refine (least32 Q4.out).mono ?_
        rintro e wl ⟨rfl, rfl⟩
        go_wp2_with fail
        refine (sent32 Q4.out E4.out.size (by have := Hx.out; omega)).mono ?_
        rintro e w5 ⟨rfl, hb5⟩
        rw [← Hs.out]
        have Q5 := hide (Q4.out.below hb5)
        have E5 := hide (E4.out.of hb5)
        clear hb5 Q4 E4
        go_wp2_with fail
        go_roundw
        case rel => exact ⟨k + 1, by omega, by go_num, _, _, _, _, _, Q5.out, by omega, by have h1 := Hx.out; have h2 := Hlm.out; omega, E5.out⟩
        case measure => simp [intOf]; omega
      · have e0 : (dk == 0) = false := by simpa using h0
        by_cases h1 : dk = 1
        · subst h1
          clear h0
          go_wp2_with fail
          refine (ack32 Q1.out E1.out.size (by omega) (by omega)).mono ?_
          rintro e w2 ⟨hf, hcase⟩
          have E2 := hide (E1.out.trans hf.below)
          obtain ⟨r, a', l', m', V', rfl, hq, ha', hl'⟩ : ∃ (r : Bool) (a' l' m' : Nat) (V' : Nat → Nat → Int), e = .returned (.bool r) ∧ QOk w.heap.size w2 w.heap.size g a' l' m' V' ∧ a' ≤ l' ∧ l' + m' = l + m := by
            rcases hcase with ⟨_, rfl, hq⟩ | ⟨hlt, rfl, hq⟩
            · exact ⟨_, _, _, _, _, rfl, hq, hal, rfl⟩
            · exact ⟨_, _, _, _, _, rfl, hq, by omega, by omega⟩
          have Q2 := hide hq
          have hpos' := hq.pos
          clear hcase hq hf Q1 E1 t0 t1 t2
          obtain ⟨x, hx⟩ : ∃ x, x = m' := ⟨_, rfl⟩
          rw [← hx] at Q2
          have hx1 : decide ((x : Int) < 1) = false := decide_eq_false (by omega)
          have hx1' : decide (x < 1) = false := decide_eq_false (by omega)
          obtain ⟨s, hs⟩ : ∃ s, s = l' + x - 1 := ⟨_, rfl⟩
          have hw1 : IntKind.i64.wrap ((s : Int) - (a' : Int)) = (s : Int) - (a' : Int) := IntWalk.i64_in _ (by omega)
          have hw2 : IntKind.i64.wrap ((s : Int) - (a' : Int) + 1) = (s : Int) - (a' : Int) + 1 := IntWalk.i64_in _ (by omega)
          have hx2 : decide ((s : Int) - (a' : Int) + 1 < (x : Int)) = false := decide_eq_false (by omega)
          have hx3 : decide ((l' : Int) < (a' : Int)) = false := decide_eq_false (by omega)
          have hx3' : decide (l' < a') = false := decide_eq_false (by omega)
          have hw3 : IntKind.i64.wrap ((l' : Int) + (x : Int)) = (l' : Int) + (x : Int) := IntWalk.i64_in _ (by omega)
          have hw4 : IntKind.i64.wrap ((s : Int) + 1) = (s : Int) + 1 := IntWalk.i64_in _ (by omega)
          have hx4 : ((l' : Int) + (x : Int) == (s : Int) + 1) = true := by
            simp only [beq_iff_eq]
            omega
          have Hs := hide hs
          have Hx := hide hx
          have Hlm := hide hlm
          clear hs hx
          go_wp2_with fail
          refine (all32 Q2.out E2.out.size (by have := Hx.out; omega)).mono ?_
          rintro e w3 ⟨v3, rfl, ho3, hb3⟩
          obtain ⟨A3, c3, rfl, _, _⟩ := ho3.rd
          have Q3 := hide (Q2.out.below hb3)
          have E3 := hide (E2.out.of hb3)
          clear ho3 hb3 Q2 E2
          go_wp2_with fail
          refine (sent32 Q3.out E3.out.size (by have := Hx.out; omega)).mono ?_
          rintro e w4 ⟨rfl, hb4⟩
          rw [← Hs.out]
          have Q4 := hide (Q3.out.below hb4)
          have E4 := hide (E3.out.of hb4)
          clear hb4 Q3 E3
          go_wp2_with fail
          refine (acked32 Q4.out).mono ?_
          rintro e wl ⟨rfl, rfl⟩
          go_wp2_with fail
          refine (least32 Q4.out).mono ?_
          rintro e wl ⟨rfl, rfl⟩
          go_wp2_with fail
          refine (acked32 Q4.out).mono ?_
          rintro e wl ⟨rfl, rfl⟩
          go_wp2_with fail
          refine (least32 Q4.out).mono ?_
          rintro e wl ⟨rfl, rfl⟩
          go_wp2_with fail
          refine (sent32 Q4.out E4.out.size (by have := Hx.out; omega)).mono ?_
          rintro e w5 ⟨rfl, hb5⟩
          rw [← Hs.out]
          have Q5 := hide (Q4.out.below hb5)
          have E5 := hide (E4.out.of hb5)
          clear hb5 Q4 E4
          go_wp2_with fail
          go_roundw
          case rel => exact ⟨k + 1, by omega, by go_num, _, _, _, _, _, Q5.out, by omega, by have h1 := Hx.out; have h2 := Hlm.out; omega, E5.out⟩
          case measure => simp [intOf]; omega
        · have e1 : (dk == 1) = false := by simpa using h1
          clear h0 h1
          go_wp2_with fail
          refine (narrow32 Q1.out E1.out.size (by omega) (Hrb.out.below E1.out) (by omega)).mono ?_
          rintro e w2 ⟨hf, hcase⟩
          have E2 := hide (E1.out.trans hf.below)
          obtain ⟨r, a', l', m', V', rfl, hq, ha', hl'⟩ : ∃ (r : Bool) (a' l' m' : Nat) (V' : Nat → Nat → Int), e = .returned (.bool r) ∧ QOk w.heap.size w2 w.heap.size g a' l' m' V' ∧ a' ≤ l' ∧ l' + m' = l + m := by
            rcases hcase with ⟨_, rfl, hq⟩ | ⟨i, _, hin, _, _, rfl, hq⟩
            · exact ⟨_, _, _, _, _, rfl, hq, hal, rfl⟩
            · exact ⟨_, _, _, _, _, rfl, hq, by omega, by omega⟩
          have Q2 := hide hq
          have hpos' := hq.pos
          clear hcase hq hf Q1 E1 t0 t1 t2
          obtain ⟨x, hx⟩ : ∃ x, x = m' := ⟨_, rfl⟩
          rw [← hx] at Q2
          have hx1 : decide ((x : Int) < 1) = false := decide_eq_false (by omega)
          have hx1' : decide (x < 1) = false := decide_eq_false (by omega)
          obtain ⟨s, hs⟩ : ∃ s, s = l' + x - 1 := ⟨_, rfl⟩
          have hw1 : IntKind.i64.wrap ((s : Int) - (a' : Int)) = (s : Int) - (a' : Int) := IntWalk.i64_in _ (by omega)
          have hw2 : IntKind.i64.wrap ((s : Int) - (a' : Int) + 1) = (s : Int) - (a' : Int) + 1 := IntWalk.i64_in _ (by omega)
          have hx2 : decide ((s : Int) - (a' : Int) + 1 < (x : Int)) = false := decide_eq_false (by omega)
          have hx3 : decide ((l' : Int) < (a' : Int)) = false := decide_eq_false (by omega)
          have hx3' : decide (l' < a') = false := decide_eq_false (by omega)
          have hw3 : IntKind.i64.wrap ((l' : Int) + (x : Int)) = (l' : Int) + (x : Int) := IntWalk.i64_in _ (by omega)
          have hw4 : IntKind.i64.wrap ((s : Int) + 1) = (s : Int) + 1 := IntWalk.i64_in _ (by omega)
          have hx4 : ((l' : Int) + (x : Int) == (s : Int) + 1) = true := by
            simp only [beq_iff_eq]
            omega
          have Hs := hide hs
          have Hx := hide hx
          have Hlm := hide hlm
          clear hs hx
          go_wp2_with fail
          refine (all32 Q2.out E2.out.size (by have := Hx.out; omega)).mono ?_
          rintro e w3 ⟨v3, rfl, ho3, hb3⟩
          obtain ⟨A3, c3, rfl, _, _⟩ := ho3.rd
          have Q3 := hide (Q2.out.below hb3)
          have E3 := hide (E2.out.of hb3)
          clear ho3 hb3 Q2 E2
          go_wp2_with fail
          refine (sent32 Q3.out E3.out.size (by have := Hx.out; omega)).mono ?_
          rintro e w4 ⟨rfl, hb4⟩
          rw [← Hs.out]
          have Q4 := hide (Q3.out.below hb4)
          have E4 := hide (E3.out.of hb4)
          clear hb4 Q3 E3
          go_wp2_with fail
          refine (acked32 Q4.out).mono ?_
          rintro e wl ⟨rfl, rfl⟩
          go_wp2_with fail
          refine (least32 Q4.out).mono ?_
          rintro e wl ⟨rfl, rfl⟩
          go_wp2_with fail
          refine (acked32 Q4.out).mono ?_
          rintro e wl ⟨rfl, rfl⟩
          go_wp2_with fail
          refine (least32 Q4.out).mono ?_
          rintro e wl ⟨rfl, rfl⟩
          go_wp2_with fail
          refine (sent32 Q4.out E4.out.size (by have := Hx.out; omega)).mono ?_
          rintro e w5 ⟨rfl, hb5⟩
          rw [← Hs.out]
          have Q5 := hide (Q4.out.below hb5)
          have E5 := hide (E4.out.of hb5)
          clear hb5 Q4 E4
          go_wp2_with fail
          go_roundw
          case rel => exact ⟨k + 1, by omega, by go_num, _, _, _, _, _, Q5.out, by omega, by have h1 := Hx.out; have h2 := Hlm.out; omega, E5.out⟩
          case measure => simp [intOf]; omega
    · obtain rfl : n = k := by omega
      go_wp2_with fail
      refine (alive32 _).mono ?_
      rintro e w2 ⟨rfl, hb2⟩
      go_wp2_with fail
      go_ret
      exact ⟨rfl, hbl.of hb2⟩
end Go.Proofs.Yteikpdolickkaaa
