/- Layer 49: the example, whole; the walk of the law on judging. -/
import Derived.Test.YtelcpfjifhobjaaMj2
namespace Go.Proofs.Ytelcpfjifhobjaa
set_option linter.unusedVariables false
set_option linter.unusedSimpArgs false
open Go.RowKit

theorem below_of_none {w w' : World} (hg : w.grownBy w' none) : Below w.heap.size w w' := ⟨hg.os, hg.tape, hg.output, hg.size, fun i hi => hg.block i hi (by simp)⟩

set_option maxRecDepth 100000 in
set_option maxHeartbeats 3200000 in
theorem alive49 (w : World) : Calls Try.prog 17 #[] w (Yes w) := by
  obtain ⟨i0, hi, hz0, hz1, hz2⟩ := info_parts u8_info
  go_enter Try.func17, Try.ntmps17
  go_wp2_with (at_make; refine wp_mk rfl _ _ _ rfl i0 0 1 Try.underlying22 hi hz0 hz1 hz2 w.heap.size _ _ _ _ 8 rfl rfl rfl rfl (by decide) (by simp [maxLen]) (Nat.le_refl _) ?_; intro w1 hown hg hs1)
  have hr1 := hown.rdS
  have B1 : Hid (Below w.heap.size w w1) := below_of_none hg
  have Z1 : Hid (Rd .u8 w1 (some ⟨w.heap.size, 0, none⟩) 8 8 z49) := hr1.congr (fun i _ => rfl)
  have G2 := hide ((Own.lit .u8 5 0 w1 g49 #[.int .u8 0, .int .u8 0, .int .u8 0, .int .u8 0, .int .u8 0, .int .u8 0, .int .u8 0, .int .u8 1] 8 (Nat.zero_le _) (by simp [maxLen]) rfl).rdS)
  have al1 := (Below.refl w1.heap.size w1).alloc (Nat.le_refl _) (.cells #[.int .u8 0, .int .u8 0, .int .u8 0, .int .u8 0, .int .u8 0, .int .u8 0, .int .u8 0, .int .u8 1] 5)
  have al2 := (Below.refl (w1.alloc (.cells #[.int .u8 0, .int .u8 0, .int .u8 0, .int .u8 0, .int .u8 0, .int .u8 0, .int .u8 0, .int .u8 1] 5)).heap.size (w1.alloc (.cells #[.int .u8 0, .int .u8 0, .int .u8 0, .int .u8 0, .int .u8 0, .int .u8 0, .int .u8 0, .int .u8 1] 5))).alloc (Nat.le_refl _) (.cells #[.int .i64 1, .int .i64 6, .int .i64 0, .int .i64 0, .bool false, .slice (some ⟨w.heap.size, 0, none⟩) 8 8, .int .i64 1, .int .i64 7, .int .i64 0, .int .i64 0, .bool false, .slice (some ⟨w1.heap.size, 0, none⟩) 8 8] 24)
  have Z3 := hide (Z1.out.below (al1.of al2))
  have G3 := hide (G2.out.below al2)
  have B3 := hide (B1.out.of (al1.of al2))
  have R3 : Hid (((w1.alloc (.cells #[.int .u8 0, .int .u8 0, .int .u8 0, .int .u8 0, .int .u8 0, .int .u8 0, .int .u8 0, .int .u8 1] 5)).alloc (.cells #[.int .i64 1, .int .i64 6, .int .i64 0, .int .i64 0, .bool false, .slice (some ⟨w.heap.size, 0, none⟩) 8 8, .int .i64 1, .int .i64 7, .int .i64 0, .int .i64 0, .bool false, .slice (some ⟨w1.heap.size, 0, none⟩) 8 8] 24)).heap[w1.heap.size + 1]? = some (.cells #[.int .i64 1, .int .i64 6, .int .i64 0, .int .i64 0, .bool false, .slice (some ⟨w.heap.size, 0, none⟩) 8 8, .int .i64 1, .int .i64 7, .int .i64 0, .int .i64 0, .bool false, .slice (some ⟨w1.heap.size, 0, none⟩) 8 8] 24 (0, 0))) := by
    have h := heap_alloc_new (w1.alloc (.cells #[.int .u8 0, .int .u8 0, .int .u8 0, .int .u8 0, .int .u8 0, .int .u8 0, .int .u8 0, .int .u8 1] 5)) (.cells #[.int .i64 1, .int .i64 6, .int .i64 0, .int .i64 0, .bool false, .slice (some ⟨w.heap.size, 0, none⟩) 8 8, .int .i64 1, .int .i64 7, .int .i64 0, .int .i64 0, .bool false, .slice (some ⟨w1.heap.size, 0, none⟩) 8 8] 24)
    have e : (w1.alloc (.cells #[.int .u8 0, .int .u8 0, .int .u8 0, .int .u8 0, .int .u8 0, .int .u8 0, .int .u8 0, .int .u8 1] 5)).heap.size = w1.heap.size + 1 := by simp
    rw [e] at h
    exact h
  rw [hs1] at R3 Z3 G3 B3
  clear hown hg hr1 al1 al2 Z1 G2 B1
  refine (react49 (w.heap.size + 1 + 1) (some ⟨w.heap.size, 0, none⟩) (some ⟨w.heap.size + 1, 0, none⟩) 8 8 _ R3.out Z3.out G3.out).mono ?_
  rintro e w4 ⟨rfl, hb4⟩
  have al4 := (Below.refl w4.heap.size w4).alloc (Nat.le_refl _) (.cells #[.int .i64 2, .int .i64 1] 30)
  have B4 := hide (B3.out.of (hb4.of al4))
  have R4 := hide (heap_alloc_new w4 (.cells #[.int .i64 2, .int .i64 1] 30))
  clear hb4 al4 R3 Z3 G3 B3
  obtain ⟨r0, r1⟩ := row2 R4.out
  go_wp2_with fail
  refine (vname49 3 _).mono ?_
  rintro e w5 ⟨rfl, rfl⟩
  rw [show vdName 3 = ⟨#[118, 111, 105, 100]⟩ from rfl]
  go_wp2_with fail
  refine (vname49 5 _).mono ?_
  rintro e w5 ⟨rfl, rfl⟩
  rw [show vdName 5 = ⟨#[]⟩ from rfl]
  go_wp2_with fail
  go_ret
  exact ⟨by first | rfl | decide | kernel_rfl, B4.out⟩
end Go.Proofs.Ytelcpfjifhobjaa
