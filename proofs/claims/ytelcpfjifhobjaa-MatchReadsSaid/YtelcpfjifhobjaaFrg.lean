/- Layer 14: the examples. -/
import Derived.Test.YtelcpfjifhobjaaFrc
import Derived.Test.YtelcpfjifhobjaaFr6
import Derived.Test.YtelcpfjifhobjaaFre
import Derived.Test.YtelcpfjifhobjaaFrf
import Derived.Deep.Cut
namespace Go.Proofs.Ytelcpfjifhobjaa
set_option linter.unusedVariables false
set_option linter.unusedSimpArgs false
open Go.RowKit

def x14 (y : Int) : Nat → Int := fun i => if i = 0 then y else if i = 1 then 7 else 0
theorem x14_byt {y : Int} (h0 : 0 ≤ y) (h1 : y ≤ 255) (n : Nat) : Byt n (x14 y) := fun i _ => by
  unfold x14
  (repeat' split) <;> omega
theorem ex14a (A : Option Addr) (c : Nat) (w : World) (ha : Rd .u8 w A 4 c (x14 2)) : Calls Try.prog 13 #[.agg #[.int .i64 0, .int .i64 0, .int .i64 8, .int .i64 1, .bool false, .slice A 4 c]] w fun e w' => ∃ A2 c2 A3 c3, e = .returned (.tuple #[.agg #[.int .i64 0, .int .i64 8, .int .i64 1, .int .i64 2, .slice A2 1 c2, .slice A3 0 c3, .int .i64 0, .int .i64 0, .bool false, .int .i64 0, .int .i64 0, .int .i64 0, .int .i64 0], .agg #[.int .i64 0, .int .i64 0], .int .i64 0]) ∧ Rd .u8 w' A2 1 c2 (oneF 7) ∧ Rd2 w' A3 0 c3 (oneF 0) (oneF 0) ∧ Below w.heap.size w w' :=
  (parse_ok 0 0 8 1 false A 4 c (x14 2) { pad := nbV (x14 2) 4 0 1, off := nbT 4 0 1, ms := (false || nbM 4 0 1) } w (by unfold HdR; omega) (by decide) (by decide) ha (x14_byt (by decide) (by decide) 4) (by decide)
    (fun q p c' A' B W hB hBp hA h => frame_d1 0 8 1 false (.slice A 4 c) q p c' 4 A' (x14 2) (x14_byt (by decide) (by decide) 4) (by decide) (by decide) (by decide) B hB hBp W hA h) (by decide) (by decide)).mono fun _ _ ⟨A2, c2, A3, c3, h1, h2, h3, h4⟩ => by
    have e1 : nbV (x14 2) 4 0 1 = 2 := by decide
    have e2 : nbT 4 0 1 = 1 := by decide
    have e3 : upN 4 1 (m0 2) = 1 := by decide
    simp only [e1, e2, e3] at h1 h2 h3
    exact ⟨A2, c2, A3, c3, h1, h2.congr (fun i hi => by obtain rfl : i = 0 := by omega
                                                        decide), Rd2.congr h3 (fun i hi => by omega) (fun i hi => by omega), h4⟩
theorem ex14b (A : Option Addr) (c : Nat) (w : World) (ha : Rd .u8 w A 4 c (x14 4)) : Calls Try.prog 13 #[.agg #[.int .i64 0, .int .i64 0, .int .i64 8, .int .i64 1, .bool false, .slice A 4 c]] w fun e w' => e = .returned (.tuple #[.agg #[.int .i64 0, .int .i64 0, .int .i64 0, .int .i64 0, .slice none 0 0, .slice none 0 0, .int .i64 0, .int .i64 0, .bool false, .int .i64 0, .int .i64 0, .int .i64 0, .int .i64 0], .agg #[.int .i64 2, .int .i64 1], .int .i64 0]) ∧ Below w.heap.size w w' :=
  parse_ov 0 0 8 1 false A 4 c (x14 4) { pad := nbV (x14 4) 4 0 1, off := nbT 4 0 1, ms := (false || nbM 4 0 1) } w (by unfold HdR; omega) (by decide) (by decide) ha (x14_byt (by decide) (by decide) 4) (by decide)
    (fun q p c' A' B W hB hBp hA h => frame_d1 0 8 1 false (.slice A 4 c) q p c' 4 A' (x14 4) (x14_byt (by decide) (by decide) 4) (by decide) (by decide) (by decide) B hB hBp W hA h) (by decide) (by decide)
set_option maxRecDepth 100000 in
set_option maxHeartbeats 6400000 in
theorem alive14 (w : World) : Calls Try.prog 12 #[] w (Yes w) := by
  have L0 := hide ((Own.lit .u8 5 0 w (x14 2) #[.int .u8 2, .int .u8 7, .int .u8 0, .int .u8 0] 4 (Nat.zero_le _) (by simp [maxLen]) rfl).rdS)
  have al1 := (Below.refl w.heap.size w).alloc (Nat.le_refl _) (.cells #[.int .u8 2, .int .u8 7, .int .u8 0, .int .u8 0] 5)
  have al2 := (Below.refl (w.alloc (.cells #[.int .u8 2, .int .u8 7, .int .u8 0, .int .u8 0] 5)).heap.size (w.alloc (.cells #[.int .u8 2, .int .u8 7, .int .u8 0, .int .u8 0] 5))).alloc (Nat.le_refl _) (.cells #[.int .i64 0, .int .i64 0, .int .i64 8, .int .i64 1, .bool false, .slice (some ⟨w.heap.size, 0, none⟩) 4 4] 24)
  have L1 := hide (L0.out.below al2)
  have E1 := hide (al1.of al2)
  have R1 : Hid (((w.alloc (.cells #[.int .u8 2, .int .u8 7, .int .u8 0, .int .u8 0] 5)).alloc (.cells #[.int .i64 0, .int .i64 0, .int .i64 8, .int .i64 1, .bool false, .slice (some ⟨w.heap.size, 0, none⟩) 4 4] 24)).heap[w.heap.size + 1]? = some (.cells #[.int .i64 0, .int .i64 0, .int .i64 8, .int .i64 1, .bool false, .slice (some ⟨w.heap.size, 0, none⟩) 4 4] 24 (0, 0))) := by
    have h := heap_alloc_new (w.alloc (.cells #[.int .u8 2, .int .u8 7, .int .u8 0, .int .u8 0] 5)) (.cells #[.int .i64 0, .int .i64 0, .int .i64 8, .int .i64 1, .bool false, .slice (some ⟨w.heap.size, 0, none⟩) 4 4] 24)
    have e : (w.alloc (.cells #[.int .u8 2, .int .u8 7, .int .u8 0, .int .u8 0] 5)).heap.size = w.heap.size + 1 := by simp
    rw [e] at h
    exact h
  clear L0 al1 al2
  go_enter Try.func12, Try.ntmps12
  go_upto_region 2 with (fail)
  generalize (w.alloc (.cells #[.int .u8 2, .int .u8 7, .int .u8 0, .int .u8 0] 5)).alloc (.cells #[.int .i64 0, .int .i64 0, .int .i64 8, .int .i64 1, .bool false, .slice (some ⟨w.heap.size, 0, none⟩) 4 4] 24) = W1 at *
  obtain ⟨s0, s1, s2, s3, s4, s5⟩ := row6 R1.out
  go_wp2_with fail
  refine (ex14a _ _ _ L1.out).mono ?_
  rintro e w2 ⟨A2, c2, A3, c3, rfl, hd, hs, hb⟩
  have al1 := (Below.refl w2.heap.size w2).alloc (Nat.le_refl _) (.cells #[.int .i64 0, .int .i64 8, .int .i64 1, .int .i64 2, .slice A2 1 c2, .slice A3 0 c3, .int .i64 0, .int .i64 0, .bool false, .int .i64 0, .int .i64 0, .int .i64 0, .int .i64 0] 28)
  have al2 := (Below.refl (w2.alloc (.cells #[.int .i64 0, .int .i64 8, .int .i64 1, .int .i64 2, .slice A2 1 c2, .slice A3 0 c3, .int .i64 0, .int .i64 0, .bool false, .int .i64 0, .int .i64 0, .int .i64 0, .int .i64 0] 28)).heap.size (w2.alloc (.cells #[.int .i64 0, .int .i64 8, .int .i64 1, .int .i64 2, .slice A2 1 c2, .slice A3 0 c3, .int .i64 0, .int .i64 0, .bool false, .int .i64 0, .int .i64 0, .int .i64 0, .int .i64 0] 28))).alloc (Nat.le_refl _) (.cells #[.int .i64 0, .int .i64 0] 30)
  have E2 := hide (E1.out.of (hb.of (al1.of al2)))
  have R2 := hide (keepRow R1.out (hb.of (al1.of al2)))
  have D2 := hide (hd.below (al1.of al2))
  have S2 := hide (hs.below (al1.of al2))
  have FF := hide (keepRow (heap_alloc_new w2 (.cells #[.int .i64 0, .int .i64 8, .int .i64 1, .int .i64 2, .slice A2 1 c2, .slice A3 0 c3, .int .i64 0, .int .i64 0, .bool false, .int .i64 0, .int .i64 0, .int .i64 0, .int .i64 0] 28)) al2)
  have UU : Hid (((w2.alloc (.cells #[.int .i64 0, .int .i64 8, .int .i64 1, .int .i64 2, .slice A2 1 c2, .slice A3 0 c3, .int .i64 0, .int .i64 0, .bool false, .int .i64 0, .int .i64 0, .int .i64 0, .int .i64 0] 28)).alloc (.cells #[.int .i64 0, .int .i64 0] 30)).heap[w2.heap.size + 1]? = some (.cells #[.int .i64 0, .int .i64 0] 30 (0, 0))) := by
    have h := heap_alloc_new (w2.alloc (.cells #[.int .i64 0, .int .i64 8, .int .i64 1, .int .i64 2, .slice A2 1 c2, .slice A3 0 c3, .int .i64 0, .int .i64 0, .bool false, .int .i64 0, .int .i64 0, .int .i64 0, .int .i64 0] 28)) (.cells #[.int .i64 0, .int .i64 0] 30)
    have e : (w2.alloc (.cells #[.int .i64 0, .int .i64 8, .int .i64 1, .int .i64 2, .slice A2 1 c2, .slice A3 0 c3, .int .i64 0, .int .i64 0, .bool false, .int .i64 0, .int .i64 0, .int .i64 0, .int .i64 0] 28)).heap.size = w2.heap.size + 1 := by simp
    rw [e] at h
    exact h
  clear hd hs hb al1 al2 E1 R1 L1 s0 s1 s2 s3 s4 s5
  go_upto_region 3 with (fail)
  generalize (w2.alloc (.cells #[.int .i64 0, .int .i64 8, .int .i64 1, .int .i64 2, .slice A2 1 c2, .slice A3 0 c3, .int .i64 0, .int .i64 0, .bool false, .int .i64 0, .int .i64 0, .int .i64 0, .int .i64 0] 28)).alloc (.cells #[.int .i64 0, .int .i64 0] 30) = W3 at *
  generalize hp : w2.heap.size = p at *
  clear hp
  obtain ⟨s0, s1, s2, s3, s4, s5⟩ := row6 R2.out
  have al1 := (Below.refl W3.heap.size W3).alloc (Nat.le_refl _) (.cells #[.int .i64 0, .int .i64 0, .int .i64 8, .int .i64 1, .bool false, .slice (some ⟨w.heap.size, 0, none⟩) 4 4] 24)
  have RR := hide (heap_alloc_new W3 (.cells #[.int .i64 0, .int .i64 0, .int .i64 8, .int .i64 1, .bool false, .slice (some ⟨w.heap.size, 0, none⟩) 4 4] 24))
  have E3 := hide (E2.out.of al1)
  have D3 := hide (D2.out.below al1)
  have S3 := hide (S2.out.below al1)
  have FF3 := hide (keepRow FF.out al1)
  have UU3 := hide (keepRow UU.out al1)
  have hl3 := rowLt UU.out
  have HD : Hid (∀ a, A2 = some a → a.block < W3.heap.size) := fun a e => by
    obtain ⟨b, off, hA, hlt, _⟩ := D2.out.block (by omega)
    rw [hA] at e
    cases e
    exact hlt
  have hwr := E2.out.size
  have hsz : (W3.alloc (.cells #[.int .i64 0, .int .i64 0, .int .i64 8, .int .i64 1, .bool false, .slice (some ⟨w.heap.size, 0, none⟩) 4 4] 24)).heap.size = W3.heap.size + 1 := by simp
  clear al1
  go_upto_region 4 with (fail)
  clear E2 D2 S2 FF UU R2 s0 s1 s2 s3 s4 s5
  generalize W3.alloc (.cells #[.int .i64 0, .int .i64 0, .int .i64 8, .int .i64 1, .bool false, .slice (some ⟨w.heap.size, 0, none⟩) 4 4] 24) = W4 at *
  generalize W3.heap.size = r at *
  obtain ⟨s0, s1, s2, s3, s4, s5⟩ := row6 RR.out
  have al1 := (Below.refl W4.heap.size W4).alloc (Nat.le_refl _) (.cells #[.int .u8 4, .int .u8 7, .int .u8 0, .int .u8 0] 5)
  have RR4 := hide (keepRow RR.out al1)
  clear al1
  have z5 := frozenRow RR4.out 5
  obtain ⟨q0, q1, q2, q3, q4, q5⟩ := row6 RR4.out
  have t5 := setRow W4 r 5 (.slice (some ⟨r + 1, 0, none⟩) 4 4) RR.out
  simp only [List.setIfInBounds_toArray, List.set_cons_zero, List.set_cons_succ] at t5
  have gS : FrS 0 (Q1 r) W4 (W4.setCell ⟨r, 5, none⟩ (.slice (some ⟨r + 1, 0, none⟩) 4 4)) := FrS.set (Nat.zero_le _) (rowLt RR.out) rfl
  have hs5 : (W4.setCell ⟨r, 5, none⟩ (.slice (some ⟨r + 1, 0, none⟩) 4 4)).heap.size = r + 1 := by simpa using hsz
  have al := (Below.refl (W4.setCell ⟨r, 5, none⟩ (.slice (some ⟨r + 1, 0, none⟩) 4 4)).heap.size (W4.setCell ⟨r, 5, none⟩ (.slice (some ⟨r + 1, 0, none⟩) 4 4))).alloc (Nat.le_refl _) (.cells #[.int .u8 4, .int .u8 7, .int .u8 0, .int .u8 0] 5)
  have LB := (Own.lit .u8 5 0 (W4.setCell ⟨r, 5, none⟩ (.slice (some ⟨r + 1, 0, none⟩) 4 4)) (x14 4) #[.int .u8 4, .int .u8 7, .int .u8 0, .int .u8 0] 4 (Nat.zero_le _) (by simp [maxLen]) rfl).rdS
  rw [hs5] at LB
  have LB5 := hide LB
  have RR5 := hide (keepRow t5 al)
  have npr : p + 1 ≠ r ∧ p ≠ r := by omega
  have FF5 := hide (keepRow (gS.row FF3.out (fun e => npr.2 e)) al)
  have UU5 := hide (keepRow (gS.row UU3.out (fun e => npr.1 e)) al)
  have D5 := hide ((D3.out.frs gS (fun b off _ e s => by have := HD.out _ e; have e2 : b = r := s; simp at this; omega)).below al)
  have S5 := hide ((S3.out.frs gS (fun b off h0 _ _ => absurd h0 (by omega))).below al)
  have E5 := hide ((E3.out.setCell (p := ⟨r, 5, none⟩) hwr (.slice (some ⟨r + 1, 0, none⟩) 4 4)).of al)
  clear t5 gS LB al
  go_upto_region 5 with (fail)
  clear s0 s1 s2 s3 s4 s5 q0 q1 q2 q3 q4 q5 z5 RR4 RR FF3 UU3 D3 S3 E3 hs5 hsz
  generalize (W4.setCell ⟨r, 5, none⟩ (.slice (some ⟨r + 1, 0, none⟩) 4 4)).alloc (.cells #[.int .u8 4, .int .u8 7, .int .u8 0, .int .u8 0] 5) = W5 at *
  obtain ⟨s0, s1, s2, s3, s4, s5⟩ := row6 RR5.out
  go_wp2_with fail
  refine (ex14b _ _ _ LB5.out).mono ?_
  rintro e w6 ⟨rfl, hb⟩
  have al1 := (Below.refl w6.heap.size w6).alloc (Nat.le_refl _) (.cells #[.int .i64 0, .int .i64 0, .int .i64 0, .int .i64 0, .slice none 0 0, .slice none 0 0, .int .i64 0, .int .i64 0, .bool false, .int .i64 0, .int .i64 0, .int .i64 0, .int .i64 0] 28)
  have al2 := (Below.refl (w6.alloc (.cells #[.int .i64 0, .int .i64 0, .int .i64 0, .int .i64 0, .slice none 0 0, .slice none 0 0, .int .i64 0, .int .i64 0, .bool false, .int .i64 0, .int .i64 0, .int .i64 0, .int .i64 0] 28)).heap.size (w6.alloc (.cells #[.int .i64 0, .int .i64 0, .int .i64 0, .int .i64 0, .slice none 0 0, .slice none 0 0, .int .i64 0, .int .i64 0, .bool false, .int .i64 0, .int .i64 0, .int .i64 0, .int .i64 0] 28))).alloc (Nat.le_refl _) (.cells #[.int .i64 2, .int .i64 1] 30)
  have E7 := hide (E5.out.of (hb.of (al1.of al2)))
  have FF7 := hide (keepRow FF5.out (hb.of (al1.of al2)))
  have UU7 := hide (keepRow UU5.out (hb.of (al1.of al2)))
  have D7 := hide (D5.out.below (hb.of (al1.of al2)))
  have S7 := hide (S5.out.below (hb.of (al1.of al2)))
  have VV : Hid (((w6.alloc (.cells #[.int .i64 0, .int .i64 0, .int .i64 0, .int .i64 0, .slice none 0 0, .slice none 0 0, .int .i64 0, .int .i64 0, .bool false, .int .i64 0, .int .i64 0, .int .i64 0, .int .i64 0] 28)).alloc (.cells #[.int .i64 2, .int .i64 1] 30)).heap[w6.heap.size + 1]? = some (.cells #[.int .i64 2, .int .i64 1] 30 (0, 0))) := by
    have h := heap_alloc_new (w6.alloc (.cells #[.int .i64 0, .int .i64 0, .int .i64 0, .int .i64 0, .slice none 0 0, .slice none 0 0, .int .i64 0, .int .i64 0, .bool false, .int .i64 0, .int .i64 0, .int .i64 0, .int .i64 0] 28)) (.cells #[.int .i64 2, .int .i64 1] 30)
    have e : (w6.alloc (.cells #[.int .i64 0, .int .i64 0, .int .i64 0, .int .i64 0, .slice none 0 0, .slice none 0 0, .int .i64 0, .int .i64 0, .bool false, .int .i64 0, .int .i64 0, .int .i64 0, .int .i64 0] 28)).heap.size = w6.heap.size + 1 := by simp
    rw [e] at h
    exact h
  clear hb al1 al2 E5 RR5 LB5 FF5 UU5 D5 S5 s0 s1 s2 s3 s4 s5
  go_upto_region 6 with (fail)
  generalize (w6.alloc (.cells #[.int .i64 0, .int .i64 0, .int .i64 0, .int .i64 0, .slice none 0 0, .slice none 0 0, .int .i64 0, .int .i64 0, .bool false, .int .i64 0, .int .i64 0, .int .i64 0, .int .i64 0] 28)).alloc (.cells #[.int .i64 2, .int .i64 1] 30) = W7 at *
  generalize w6.heap.size = p2 at *
  have alL := (Below.refl W7.heap.size W7).alloc (Nat.le_refl _) (.cells #[.int .u8 7] 5)
  have L7 := hide (Rd.one .u8 5 W7 7)
  have E8 := hide (E7.out.of alL)
  have UU8 := hide (keepRow UU7.out alL)
  have VV8 := hide (keepRow VV.out alL)
  have D8 := hide (D7.out.below alL)
  have S8 := hide (S7.out.below alL)
  obtain ⟨f0, f1, f2, f3, f4, f5, f6, f7, f8, f9, f10, f11, f12⟩ := row13 FF7.out
  go_wp2_with fail
  refine (rfsame14 0 8 1 2 0 8 1 2 A2 (some ⟨W7.heap.size, 0, none⟩) 1 c2 1 1 (oneF 7) (oneF 7) A3 none 0 c3 0 0 (oneF 0) (oneF 0) (oneF 0) (oneF 0) 0 0 0 0 0 0 0 0 0 0 0 0 false false _ D8.out L7.out (fun i _ => by simp [oneF]) (fun i _ => by simp [oneF]) S8.out (Rd2.nil _ _ _)).mono ?_
  rw [show smB 0 8 1 2 0 8 1 2 1 1 (oneF 7) (oneF 7) 0 0 (oneF 0) (oneF 0) (oneF 0) (oneF 0) 0 0 0 0 0 0 0 0 0 0 0 0 false false = true by decide]
  rintro e w9 ⟨rfl, hb⟩
  have E9 := hide (E8.out.of hb)
  have UU9 := hide (keepRow UU8.out hb)
  have VV9 := hide (keepRow VV8.out hb)
  clear hb alL L7 E7 E8 UU7 UU8 VV VV8 D7 D8 S7 S8 f0 f1 f2 f3 f4 f5 f6 f7 f8 f9 f10 f11 f12
  obtain ⟨u0, u1⟩ := row2 UU9.out
  obtain ⟨v0, v1⟩ := row2 VV9.out
  go_wp2_with fail
  go_ret
  exact ⟨by first | rfl | kernel_rfl, E9.out⟩
end Go.Proofs.Ytelcpfjifhobjaa
