/- Layer 9: a fault's text. -/
import Derived.Test.YtbkdegjkjjdcdaaDoorFa4
import Derived.Test.YtbkdegjkjjdcdaaDoorDx2
namespace Go.Proofs.YtbkdegjkjjdcdaaDoor
set_option linter.unusedVariables false
set_option linter.unusedSimpArgs false
open Go.RowKit Go.PlainAid

/-- A fault's text. -/
def fltT (p : Int × Int) : ByteArray := if rP p = true then (if p.1 = 1 then ⟨#[115, 116, 114, 101, 97, 109, 58]⟩ else ⟨#[99, 111, 110, 110, 101, 99, 116, 105, 111, 110, 58]⟩) ++ codeT p.2 else ⟨#[]⟩
theorem codeT_size (t : Int) : (codeT t).size ≤ 20 := by
  by_cases h : t < 0 ∨ 4294967295 < t
  · rw [codeT_other h]
    decide
  · by_cases h2 : t < 14
    · rw [codeT_known (by omega) h2]
      have : ∀ i, i < 14 → (cdL.getD i ⟨#[]⟩).size ≤ 20 := by decide
      exact this _ (by omega)
    · rw [codeT_int (by omega) (by omega)]
      exact (intS_size (by omega) (by omega)).2
set_option maxRecDepth 20000 in
set_option maxHeartbeats 3200000 in
theorem text09 (s d : Int) (w : World) (hN : CdW w) (hP : PowW w) : Calls Tryd.prog 27 #[.agg #[.int .i64 s, .int .i64 d]] w fun e w' => e = .returned (.string (fltT (s, d))) ∧ Below w.heap.size w w' := by
  have R0 := heap_alloc_new w (.cells #[.int .i64 s, .int .i64 d] 31)
  have b0 : Below w.heap.size w (w.alloc (.cells #[.int .i64 s, .int .i64 d] 31)) := (Below.refl _ _).alloc (Nat.le_refl _) _
  have B0 := hide b0
  have Hn := hide (hN.below b0)
  have Hp := hide (hP.below b0)
  clear hN hP b0
  have R0' := R0
  obtain ⟨r0, r1⟩ := row2 R0'
  clear R0'
  go_enter Tryd.func27, Tryd.ntmps27
  go_wp2_with fail
  generalize w.alloc (.cells #[.int .i64 s, .int .i64 d] 31) = W0 at *
  refine (right09 s d _).mono ?_
  rintro e w1 ⟨rfl, hb1⟩
  have R1 := keepRow R0 hb1
  have HB1 := hide (B0.out.of hb1)
  have HN := hide (Hn.out.below hb1)
  have HP := hide (Hp.out.below hb1)
  clear r0 r1
  obtain ⟨r0, r1⟩ := row2 R1
  clear hb1 R0 R1 B0 Hn Hp
  cases hr : rightB s d with
  | false =>
    have hz : Hid (fltT (s, d) = ⟨#[]⟩) := by
      show _ = _
      unfold fltT rP
      rw [hr]
      rfl
    clear hr
    go_wp2_with fail
    go_ret
    exact ⟨by rw [hz.out]; rfl, HB1.out⟩
  | true =>
    by_cases h1 : s = 1
    · have e1 : (s == 1) = true := by simpa using h1
      obtain ⟨y, hy⟩ : ∃ y, (⟨#[115, 116, 114, 101, 97, 109, 58]⟩ : ByteArray) ++ codeT d = y := ⟨_, rfl⟩
      have hz : Hid (fltT (s, d) = y) := by
        show _ = _
        rw [← hy]
        unfold fltT rP
        rw [hr, if_pos rfl, if_pos h1]
      have u0 := catR (a := ⟨#[115, 116, 114, 101, 97, 109]⟩) (b := ⟨#[58]⟩) (y := ⟨#[115, 116, 114, 101, 97, 109, 58]⟩) rfl (by decide)
      have u1 := catR hy (by have h2 : (⟨#[115, 116, 114, 101, 97, 109, 58]⟩ : ByteArray).size = 7 := rfl; have := codeT_size d; omega)
      have u2 : ¬ ((⟨#[115, 116, 114, 101, 97, 109, 58]⟩ : ByteArray).size + (codeT d).size > 9223372036854775807) := by have h2 : (⟨#[115, 116, 114, 101, 97, 109, 58]⟩ : ByteArray).size = 7 := rfl; have := codeT_size d; omega
      obtain ⟨z, hzz⟩ : ∃ z, codeT d = z := ⟨_, rfl⟩
      have hk : ∀ W, Below w1.heap.size w1 W → Calls Tryd.prog 50 #[.int .i64 d] W fun e w' => e = .returned (.string z) ∧ Below W.heap.size W w' := fun W hb => by
        rw [← hzz]
        exact kcname09 d W (HN.out.below hb) (HP.out.below hb)
      have HK := hide hk
      rw [hzz] at u1 u2
      clear h1 hr hy hzz hk
      go_wp2_with fail
      refine (HK.out _ (Below.refl _ _)).mono ?_
      rintro e w2 ⟨rfl, hb2⟩
      have HB2 := hide (HB1.out.of hb2)
      clear hb2
      go_wp2_with fail
      go_ret
      exact ⟨by rw [hz.out]; rfl, HB2.out⟩
    · have e1 : (s == 1) = false := by simpa using h1
      obtain ⟨y, hy⟩ : ∃ y, (⟨#[99, 111, 110, 110, 101, 99, 116, 105, 111, 110, 58]⟩ : ByteArray) ++ codeT d = y := ⟨_, rfl⟩
      have hz : Hid (fltT (s, d) = y) := by
        show _ = _
        rw [← hy]
        unfold fltT rP
        rw [hr, if_pos rfl, if_neg h1]
      have u0 := catR (a := ⟨#[99, 111, 110, 110, 101, 99, 116, 105, 111, 110]⟩) (b := ⟨#[58]⟩) (y := ⟨#[99, 111, 110, 110, 101, 99, 116, 105, 111, 110, 58]⟩) rfl (by decide)
      have u1 := catR hy (by have h2 : (⟨#[99, 111, 110, 110, 101, 99, 116, 105, 111, 110, 58]⟩ : ByteArray).size = 11 := rfl; have := codeT_size d; omega)
      have u2 : ¬ ((⟨#[99, 111, 110, 110, 101, 99, 116, 105, 111, 110, 58]⟩ : ByteArray).size + (codeT d).size > 9223372036854775807) := by have h2 : (⟨#[99, 111, 110, 110, 101, 99, 116, 105, 111, 110, 58]⟩ : ByteArray).size = 11 := rfl; have := codeT_size d; omega
      obtain ⟨z, hzz⟩ : ∃ z, codeT d = z := ⟨_, rfl⟩
      have hk : ∀ W, Below w1.heap.size w1 W → Calls Tryd.prog 50 #[.int .i64 d] W fun e w' => e = .returned (.string z) ∧ Below W.heap.size W w' := fun W hb => by
        rw [← hzz]
        exact kcname09 d W (HN.out.below hb) (HP.out.below hb)
      have HK := hide hk
      rw [hzz] at u1 u2
      clear h1 hr hy hzz hk
      go_wp2_with fail
      refine (HK.out _ (Below.refl _ _)).mono ?_
      rintro e w2 ⟨rfl, hb2⟩
      have HB2 := hide (HB1.out.of hb2)
      clear hb2
      go_wp2_with fail
      go_ret
      exact ⟨by rw [hz.out]; rfl, HB2.out⟩
end Go.Proofs.YtbkdegjkjjdcdaaDoor
