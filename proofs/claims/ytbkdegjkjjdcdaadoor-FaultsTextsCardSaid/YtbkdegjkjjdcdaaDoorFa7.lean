/- Layer 9: the chapter's example; the law of codes. -/
import Derived.Test.YtbkdegjkjjdcdaaDoorFa6
import Derived.Test.YtbkdegjkjjdcdaaDoorFc3
namespace Go.Proofs.YtbkdegjkjjdcdaaDoor
set_option linter.unusedVariables false
set_option linter.unusedSimpArgs false
open Go.RowKit Go.PlainAid

def exF (i : Nat) : Int := if i = 0 then 2 else 1
def exG (i : Nat) : Int := if i = 0 then 1 else 5
theorem ex_row (w : World) : Rd2 (w.alloc (.cells #[.int .i64 2, .int .i64 1, .int .i64 1, .int .i64 5] 31)) (some ⟨w.heap.size, 0, none⟩) 2 2 exF exG :=
  rd2_of_rdV (OwnV.lit 2 31 0 w (pr exF exG) #[.int .i64 2, .int .i64 1, .int .i64 1, .int .i64 5] 2 (Nat.zero_le _) (by simp [maxLen]) rfl).rdS2
theorem ex_list : (lsF 2 exF exG).filter rP = [(2, 1), (1, 5)] := by decide
theorem ex_two {m : Nat} {f g : Nat → Int} (hm : m = 2) (h : ∀ p ∈ lsF m f g, p = (2, 1) ∨ p = (1, 5)) (hs : ∀ i j, i < j → j < m → LtP (f i, g i) (f j, g j)) : lsF m f g = [(1, 5), (2, 1)] := by
  subst hm
  have e : lsF 2 f g = [(f 0, g 0), (f 1, g 1)] := rfl
  rw [e] at h ⊢
  have h0 := h (f 0, g 0) (by simp)
  have h1 := h (f 1, g 1) (by simp)
  have h2 := hs 0 1 (by omega) (by omega)
  rcases h0 with a | a <;> rcases h1 with b | b <;> rw [a, b] at h2 ⊢
  · exact absurd h2 (by decide)
  · exact absurd h2 (by decide)
  · exact absurd h2 (by decide)
theorem ex_text : shT [(1, 5), (2, 1)] = ⟨#[115, 116, 114, 101, 97, 109, 58, 83, 84, 82, 69, 65, 77, 95, 67, 76, 79, 83, 69, 68, 44, 99, 111, 110, 110, 101, 99, 116, 105, 111, 110, 58, 80, 82, 79, 84, 79, 67, 79, 76, 95, 69, 82, 82, 79, 82]⟩ := by decide
set_option maxRecDepth 20000 in
set_option maxHeartbeats 1600000 in
theorem alive09 (w : World) (hN : CdW w) (hP : PowW w) : Calls Tryd.prog 15 #[] w fun e w' => e = .returned (.bool true) ∧ Below w.heap.size w w' := by
  have b0 : Below w.heap.size w (w.alloc (.cells #[.int .i64 2, .int .i64 1, .int .i64 1, .int .i64 5] 31)) := (Below.refl _ _).alloc (Nat.le_refl _) _
  have HR := hide (ex_row w)
  have HB := hide b0
  have HN := hide (hN.below b0)
  have HP := hide (hP.below b0)
  clear b0 hN hP
  go_enter Tryd.func15, Tryd.ntmps15
  go_wp2_with fail
  generalize w.alloc (.cells #[.int .i64 2, .int .i64 1, .int .i64 1, .int .i64 5] 31) = W0 at *
  refine (of09 _ 2 2 exF exG _ HR.out (by omega) (by rw [ex_list]; decide)).mono ?_
  rintro e w1 ⟨A', m, c', f', g', rfl, hr1, hp1, hs1, _, hb1⟩
  rw [ex_list] at hp1
  have hm : m = 2 := by have := hp1.length_eq; rw [lsF_len] at this; exact this
  have hl : lsF m f' g' = [(1, 5), (2, 1)] := ex_two hm (fun p hp => by simpa using hp1.mem_iff.1 hp) hs1
  have HR1 := hide hr1
  have HL := hide hl
  have HB1 := hide (HB.out.of hb1)
  have HN1 := hide (HN.out.below hb1)
  have HP1 := hide (HP.out.below hb1)
  have HM := hide hm
  clear hr1 hp1 hs1 hb1 hl hm
  go_wp2_with fail
  have hfl : (lsF m f' g').filter rP = [(1, 5), (2, 1)] := by rw [HL.out]; decide
  refine (show09 A' m c' f' g' _ HR1.out (by have := HM.out; omega) (by rw [hfl]; decide) HN1.out HP1.out).mono ?_
  rintro e w2 ⟨m2, f2, g2, rfl, hp2, hs2, hb2⟩
  rw [hfl] at hp2
  have hm2 : m2 = 2 := by have := hp2.length_eq; rw [lsF_len] at this; exact this
  have hl2 : lsF m2 f2 g2 = [(1, 5), (2, 1)] := ex_two hm2 (fun p hp => by have := hp2.mem_iff.1 hp; simp at this; rcases this with a | a; exact .inr a; exact .inl a) hs2
  have HB2 := hide (HB1.out.of hb2)
  obtain ⟨y, hy⟩ : ∃ y, shT (lsF m2 f2 g2) = y := ⟨_, rfl⟩
  rw [hy]
  rw [hl2, ex_text] at hy
  obtain ⟨q1, q2⟩ := lit_yes (l := [115, 116, 114, 101, 97, 109, 58, 83, 84, 82, 69, 65, 77, 95, 67, 76, 79, 83, 69, 68, 44, 99, 111, 110, 110, 101, 99, 116, 105, 111, 110, 58, 80, 82, 79, 84, 79, 67, 79, 76, 95, 69, 82, 82, 79, 82]) hy.symm
  clear hp2 hs2 hb2 hl2 hfl hy HR1 HL HM hm2
  go_wp2_with fail
  go_ret
  exact ⟨rfl, HB2.out⟩
end Go.Proofs.YtbkdegjkjjdcdaaDoor
