/- Layer 13: the walk of the law on applying. -/
import Derived.Test.YtlpbonfapglocaaSetD
import Derived.RegionTactic
import Derived.ChangeAlike
import Derived.Deep.RegionHeld3
namespace Go.Proofs.Ytlpbonfapglocaa
open Go.RowKit
theorem cellKeepS {w w' : World} (hb : Below w.heap.size w w') {a : Addr} {v : Value} (h : w.cell? a = some v) : w'.cell? a = some v := (hb.cell (World.block_lt_of_cell? w _ h)).trans h

theorem S12keep {w1 w2 : World} (hb : Below w1.heap.size w1 w2) {a0 a1 a2 a3 a4 a5 a6 a7 a8 a9 a10 a11 : Addr} {u0 u1 u2 u3 u4 u5 u6 u7 u8 u9 u10 u11 : Value} (h : w1.cell? a0 = some u0 ∧ w1.cell? a1 = some u1 ∧ w1.cell? a2 = some u2 ∧ w1.cell? a3 = some u3 ∧ w1.cell? a4 = some u4 ∧ w1.cell? a5 = some u5 ∧ w1.cell? a6 = some u6 ∧ w1.cell? a7 = some u7 ∧ w1.cell? a8 = some u8 ∧ w1.cell? a9 = some u9 ∧ w1.cell? a10 = some u10 ∧ w1.cell? a11 = some u11) : w2.cell? a0 = some u0 ∧ w2.cell? a1 = some u1 ∧ w2.cell? a2 = some u2 ∧ w2.cell? a3 = some u3 ∧ w2.cell? a4 = some u4 ∧ w2.cell? a5 = some u5 ∧ w2.cell? a6 = some u6 ∧ w2.cell? a7 = some u7 ∧ w2.cell? a8 = some u8 ∧ w2.cell? a9 = some u9 ∧ w2.cell? a10 = some u10 ∧ w2.cell? a11 = some u11 :=
  ⟨cellKeepS hb h.1, cellKeepS hb h.2.1, cellKeepS hb h.2.2.1, cellKeepS hb h.2.2.2.1, cellKeepS hb h.2.2.2.2.1, cellKeepS hb h.2.2.2.2.2.1, cellKeepS hb h.2.2.2.2.2.2.1, cellKeepS hb h.2.2.2.2.2.2.2.1, cellKeepS hb h.2.2.2.2.2.2.2.2.1, cellKeepS hb h.2.2.2.2.2.2.2.2.2.1, cellKeepS hb h.2.2.2.2.2.2.2.2.2.2.1, cellKeepS hb h.2.2.2.2.2.2.2.2.2.2.2⟩

theorem applies_long (v0 v1 v2 v3 v4 v5 : Int) (A C : Option Addr) (n c m d : Nat) (w : World) (h : 100 < n ∨ 100 < m) :
    Calls Try.prog 3 #[.agg #[.int .i64 v0, .int .i64 v1, .int .i64 v2, .int .i64 v3, .int .i64 v4, .int .i64 v5], .slice A n c, .slice C m d] w (Yes w) := by
  by_cases hl : 100 < n
  · have hd : decide ((100 : Int) < (n : Int)) = true := by simp; omega
    go_enter Try.func3, Try.ntmps3
    go_wp2_with fail
    refine (alive13 _).mono ?_
    rintro e w4 ⟨rfl, hb4⟩
    go_wp2_with fail
    go_ret
    exact ⟨rfl, ((Below.refl _ _).alloc (Nat.le_refl _) _).of hb4⟩
  · have hd : decide ((100 : Int) < (n : Int)) = false := by simp; omega
    have hd2 : decide ((100 : Int) < (m : Int)) = true := by simp; omega
    go_enter Try.func3, Try.ntmps3
    go_wp2_with fail
    refine (alive13 _).mono ?_
    rintro e w4 ⟨rfl, hb4⟩
    go_wp2_with fail
    go_ret
    exact ⟨rfl, ((Below.refl _ _).alloc (Nat.le_refl _) _).of hb4⟩

set_option maxRecDepth 100000 in
set_option maxHeartbeats 6400000 in
theorem applies_walk (v0 v1 v2 v3 v4 v5 : Int) (A : Option Addr) (n c : Nat) (F G : Nat → Int) (C : Option Addr) (m d : Nat) (F2 G2 : Nat → Int) (w : World) (ha : Rd2 w A n c F G) (hc : Rd2 w C m d F2 G2) :
    Calls Try.prog 3 #[.agg #[.int .i64 v0, .int .i64 v1, .int .i64 v2, .int .i64 v3, .int .i64 v4, .int .i64 v5], .slice A n c, .slice C m d] w (Yes w) := by
  by_cases hl : 100 < n ∨ 100 < m
  · exact applies_long _ _ _ _ _ _ _ _ _ _ _ _ _ hl
  have hn : n ≤ 100 := by omega
  have hm : m ≤ 100 := by omega
  clear hl
  have hd1 : decide ((100 : Int) < (n : Int)) = false := by simp; omega
  have hd2 : decide ((100 : Int) < (m : Int)) = false := by simp; omega
  obtain ⟨i0, hi, hz0, hz1, hz2⟩ := info_parts set_info
  have Ha := hide ha
  have Hc := hide hc
  clear ha hc
  have B00 : Below w.heap.size w (w.alloc (.cells #[.int .i64 v0, .int .i64 v1, .int .i64 v2, .int .i64 v3, .int .i64 v4, .int .i64 v5] 23)) := (Below.refl _ _).alloc (Nat.le_refl _) _
  have B0 : Hid (Below w.heap.size w ((w.alloc (.cells #[.int .i64 v0, .int .i64 v1, .int .i64 v2, .int .i64 v3, .int .i64 v4, .int .i64 v5] 23)).alloc (.cells #[] 78))) := B00.alloc (by simp) _
  have R0 := hide (keepRow (heap_alloc_new w (.cells #[.int .i64 v0, .int .i64 v1, .int .i64 v2, .int .i64 v3, .int .i64 v4, .int .i64 v5] 23)) ((Below.refl (w.alloc (.cells #[.int .i64 v0, .int .i64 v1, .int .i64 v2, .int .i64 v3, .int .i64 v4, .int .i64 v5] 23)).heap.size _).alloc (Nat.le_refl _) (.cells #[] 78)))
  have O0 : Hid (OwnV 2 78 (w.heap.size + 1) ((w.alloc (.cells #[.int .i64 v0, .int .i64 v1, .int .i64 v2, .int .i64 v3, .int .i64 v4, .int .i64 v5] 23)).alloc (.cells #[] 78)) (.slice (some ⟨w.heap.size + 1, 0, none⟩) 0 0) 0 (pr (oneF 0) (oneF 0))) := by
    have h := OwnV.lit 2 78 (w.heap.size + 1) (w.alloc (.cells #[.int .i64 v0, .int .i64 v1, .int .i64 v2, .int .i64 v3, .int .i64 v4, .int .i64 v5] 23)) (pr (oneF 0) (oneF 0)) #[] 0 (by simp) (by simp [maxLen]) rfl
    rw [show (w.alloc (.cells #[.int .i64 v0, .int .i64 v1, .int .i64 v2, .int .i64 v3, .int .i64 v4, .int .i64 v5] 23)).heap.size = w.heap.size + 1 by simp] at h
    exact h
  clear B00
  obtain ⟨x0, hx0⟩ : ∃ x, lsv F G 1 v0 n = x := ⟨_, rfl⟩
  obtain ⟨x1, hx1⟩ : ∃ x, lsv F G 2 v1 n = x := ⟨_, rfl⟩
  obtain ⟨x2, hx2⟩ : ∃ x, lsv F G 3 v2 n = x := ⟨_, rfl⟩
  obtain ⟨x3, hx3⟩ : ∃ x, lsv F G 4 v3 n = x := ⟨_, rfl⟩
  obtain ⟨x4, hx4⟩ : ∃ x, lsv F G 5 v4 n = x := ⟨_, rfl⟩
  obtain ⟨x5, hx5⟩ : ∃ x, lsv F G 6 v5 n = x := ⟨_, rfl⟩
  have Hap1 : Hid (∀ W, Rd2 W A n c F G → Calls Try.prog 16 #[.agg #[.int .i64 v0, .int .i64 v1, .int .i64 v2, .int .i64 v3, .int .i64 v4, .int .i64 v5], .slice A n c] W fun e w' => e = .returned (.agg #[.int .i64 x0, .int .i64 x1, .int .i64 x2, .int .i64 x3, .int .i64 x4, .int .i64 x5]) ∧ Below W.heap.size W w') := fun W h => by
    have k := apply_any A n c F G v0 v1 v2 v3 v4 v5 W h (by omega)
    rw [hx0, hx1, hx2, hx3, hx4, hx5] at k
    exact k
  have Hrap1 : Hid (∀ W, Rd2 W A n c F G → Calls Try.prog 17 #[.agg #[.int .i64 v0, .int .i64 v1, .int .i64 v2, .int .i64 v3, .int .i64 v4, .int .i64 v5], .slice A n c] W fun e w' => e = .returned (.agg #[.int .i64 x0, .int .i64 x1, .int .i64 x2, .int .i64 x3, .int .i64 x4, .int .i64 x5]) ∧ Below W.heap.size W w') := fun W h => by
    have k := rapply_any A n c F G v0 v1 v2 v3 v4 v5 W h (by omega)
    rw [hx0, hx1, hx2, hx3, hx4, hx5] at k
    exact k
  obtain ⟨y0, hy0⟩ : ∃ y, lsv F2 G2 1 x0 m = y := ⟨_, rfl⟩
  obtain ⟨y1, hy1⟩ : ∃ y, lsv F2 G2 2 x1 m = y := ⟨_, rfl⟩
  obtain ⟨y2, hy2⟩ : ∃ y, lsv F2 G2 3 x2 m = y := ⟨_, rfl⟩
  obtain ⟨y3, hy3⟩ : ∃ y, lsv F2 G2 4 x3 m = y := ⟨_, rfl⟩
  obtain ⟨y4, hy4⟩ : ∃ y, lsv F2 G2 5 x4 m = y := ⟨_, rfl⟩
  obtain ⟨y5, hy5⟩ : ∃ y, lsv F2 G2 6 x5 m = y := ⟨_, rfl⟩
  have Hap2 : Hid (∀ W, Rd2 W C m d F2 G2 → Calls Try.prog 16 #[.agg #[.int .i64 x0, .int .i64 x1, .int .i64 x2, .int .i64 x3, .int .i64 x4, .int .i64 x5], .slice C m d] W fun e w' => e = .returned (.agg #[.int .i64 y0, .int .i64 y1, .int .i64 y2, .int .i64 y3, .int .i64 y4, .int .i64 y5]) ∧ Below W.heap.size W w') := fun W h => by
    have k := apply_any C m d F2 G2 x0 x1 x2 x3 x4 x5 W h (by omega)
    rw [hy0, hy1, hy2, hy3, hy4, hy5] at k
    exact k
  have Hrap2 : Hid (∀ W A3 c3, Rd2 W A3 (n + m) c3 (joinI n F F2) (joinI n G G2) → Calls Try.prog 17 #[.agg #[.int .i64 v0, .int .i64 v1, .int .i64 v2, .int .i64 v3, .int .i64 v4, .int .i64 v5], .slice A3 (n + m) c3] W fun e w' => e = .returned (.agg #[.int .i64 y0, .int .i64 y1, .int .i64 y2, .int .i64 y3, .int .i64 y4, .int .i64 y5]) ∧ Below W.heap.size W w') := fun W A3 c3 h => by
    have k := rapply_any A3 (n + m) c3 (joinI n F F2) (joinI n G G2) v0 v1 v2 v3 v4 v5 W h (by omega)
    rw [lsv_join, lsv_join, lsv_join, lsv_join, lsv_join, lsv_join, hx0, hx1, hx2, hx3, hx4, hx5, hy0, hy1, hy2, hy3, hy4, hy5] at k
    exact k
  have Hap0 : Hid (∀ W, Calls Try.prog 16 #[.agg #[.int .i64 v0, .int .i64 v1, .int .i64 v2, .int .i64 v3, .int .i64 v4, .int .i64 v5], .slice none 0 0] W fun e w' => e = .returned (.agg #[.int .i64 v0, .int .i64 v1, .int .i64 v2, .int .i64 v3, .int .i64 v4, .int .i64 v5]) ∧ Below W.heap.size W w') := fun W => apply_any none 0 0 F G v0 v1 v2 v3 v4 v5 W (Rd2.nil _ _ _) (by omega)
  have Hjoin : Hid (∀ i, i < (n + m) * 2 → catV ((0 + n) * 2) (catV (0 * 2) (pr (oneF 0) (oneF 0)) (pr F G)) (pr F2 G2) i = pr (joinI n F F2) (joinI n G G2) i) := by
    intro i _
    rw [← pr_join n F G F2 G2 i, Nat.zero_add]
    rfl
  clear hx0 hx1 hx2 hx3 hx4 hx5 hy0 hy1 hy2 hy3 hy4 hy5
  go_enter Try.func3, Try.ntmps3
  go_wp2_with (first
    | (at_builtin; refine wp_appV rfl (.tmp 18) (.tmp 19) _ rfl 2 i0 _ 16 Try.underlying24 hi hz0 hz1 hz2 rfl (by omega) (w.heap.size + 1) _ 0 (pr (oneF 0) (oneF 0)) rfl O0.out A n c _ rfl (rdV_of_rd2 (Ha.out.below B0.out)) (pr_one _ _ _) (by simp only [maxLen]; omega) (by omega) (by simp) ?_; intro z1 w1 hown1 hg1 _; have Hown1 := hide hown1; have HB1 := hide (B0.out.grown hg1 (by simp; omega) (fun j e => by have := OwnV.ltB O0.out j e; omega)); have R1 := hide (keepGrown R0.out hg1 (fun e => by have := OwnV.ltB O0.out _ e; omega)); have hs1 := hg1.size; clear hown1 hg1)
    | (at_builtin; refine wp_appV rfl (.tmp 20) (.tmp 21) _ rfl 2 i0 _ 16 Try.underlying24 hi hz0 hz1 hz2 rfl (by omega) (w.heap.size + 1) _ (0 + n) _ rfl Hown1.out C m d _ rfl (rdV_of_rd2 (Hc.out.below HB1.out)) (pr_one _ _ _) (by simp only [maxLen]; omega) (by omega) (by simp at hs1; omega) ?_; intro z2 w2 hown2 hg2 _; have Hown2 := hide hown2; have HB2 := hide (HB1.out.grown hg2 (by simp at hs1; omega) (fun j e => by have := OwnV.ltB Hown1.out j e; omega)); have R2 := hide (keepGrown R1.out hg2 (fun e => by have := OwnV.ltB Hown1.out _ e; omega)); have hs2 := hg2.size; clear hown2 hg2; obtain ⟨q0, q1, q2, q3, q4, q5⟩ := row6 R2.out))
  have Hown3 := hide (Hown2.out)
  rw [show 0 + n + m = n + m by omega] at Hown3
  obtain ⟨A3, c3, rfl, hr3, hA3⟩ := (Hown3.out.congr Hjoin.out).rd
  have Hr3 := hide (rd2_of_rdV hr3)
  clear hr3 Hown3 Hown2 Hown1 O0 Hjoin
  refine (Hap1.out _ (Ha.out.below HB2.out)).mono ?_
  rintro e w3 ⟨rfl, hb3⟩
  have HB3 := hide (HB2.out.of hb3)
  have hs3 := hb3.size
  have R3 := hide (keepRow R2.out hb3)
  have Hr4 := hide (Hr3.out.below hb3)
  clear hb3
  have HB5 := hide (HB3.out.alloc (by have := HB3.out.size; omega) (.cells #[.int .i64 x0, .int .i64 x1, .int .i64 x2, .int .i64 x3, .int .i64 x4, .int .i64 x5] 23))
  have R5 := hide (keepRow R3.out ((Below.refl _ _).alloc (Nat.le_refl _) (.cells #[.int .i64 x0, .int .i64 x1, .int .i64 x2, .int .i64 x3, .int .i64 x4, .int .i64 x5] 23)))
  have R6 := hide (heap_alloc_new w3 (.cells #[.int .i64 x0, .int .i64 x1, .int .i64 x2, .int .i64 x3, .int .i64 x4, .int .i64 x5] 23))
  have Hr5 := hide (Hr4.out.below ((Below.refl _ _).alloc (Nat.le_refl _) (.cells #[.int .i64 x0, .int .i64 x1, .int .i64 x2, .int .i64 x3, .int .i64 x4, .int .i64 x5] 23)))
  have hlt := rowLt R3.out
  go_wp2_with fail
  generalize w3.alloc (.cells #[.int .i64 x0, .int .i64 x1, .int .i64 x2, .int .i64 x3, .int .i64 x4, .int .i64 x5] 23) = W at *
  clear q0 q1 q2 q3 q4 q5
  obtain ⟨q0, q1, q2, q3, q4, q5⟩ := row6 R5.out
  obtain ⟨p0, p1, p2, p3, p4, p5⟩ := row6 R6.out
  have hne : w.heap.size ≠ w3.heap.size := by omega
  have hl5 := rowLt R5.out
  have hl6 := rowLt R6.out
  go_region_held3 (fun w' : World => w'.cell? ⟨w.heap.size, 0, none⟩ = some (.int .i64 v0) ∧ w'.cell? ⟨w.heap.size, 1, none⟩ = some (.int .i64 v1) ∧ w'.cell? ⟨w.heap.size, 2, none⟩ = some (.int .i64 v2) ∧ w'.cell? ⟨w.heap.size, 3, none⟩ = some (.int .i64 v3) ∧ w'.cell? ⟨w.heap.size, 4, none⟩ = some (.int .i64 v4) ∧ w'.cell? ⟨w.heap.size, 5, none⟩ = some (.int .i64 v5) ∧ w'.cell? ⟨w3.heap.size, 0, none⟩ = some (.int .i64 x0) ∧ w'.cell? ⟨w3.heap.size, 1, none⟩ = some (.int .i64 x1) ∧ w'.cell? ⟨w3.heap.size, 2, none⟩ = some (.int .i64 x2) ∧ w'.cell? ⟨w3.heap.size, 3, none⟩ = some (.int .i64 x3) ∧ w'.cell? ⟨w3.heap.size, 4, none⟩ = some (.int .i64 x4) ∧ w'.cell? ⟨w3.heap.size, 5, none⟩ = some (.int .i64 x5))
    ((first | exact S12keep hb10 (by assumption) | exact S12keep hb9 (by assumption) | exact S12keep hb8 (by assumption) | exact S12keep hb7 (by assumption) | exact S12keep hb6 (by assumption) | (go_keep; done)))
    ((first
      | (go_at_call 17; (with_reducible refine (Hrap1.out _ (Ha.out.below HB5.out.drew)).mono ?_); rintro e w6 ⟨rfl, hb6⟩; have HB6 := hide (HB5.out.drew.of hb6); have Hr6 := hide ((Hr5.out.drew).below hb6))
      | (go_at_call 16; (with_reducible refine (Hap2.out _ (Hc.out.below HB6.out)).mono ?_); rintro e w7 ⟨rfl, hb7⟩; have HB7 := hide (HB6.out.of hb7); have Hr7 := hide (Hr6.out.below hb7))
      | (go_at_call 17; (with_reducible refine (Hrap2.out _ _ _ Hr7.out).mono ?_); rintro e w8 ⟨rfl, hb8⟩; have HB8 := hide (HB7.out.of hb8))
      | (go_at_call 16; (with_reducible refine (Hap0.out _).mono ?_); rintro e w9 ⟨rfl, hb9⟩; have HB9 := hide (HB8.out.of hb9))
      | (go_at_call 15; (with_reducible refine (alive13 _).mono ?_); rintro e w10 ⟨rfl, hb10⟩; have HB10 := hide (HB9.out.of hb10))))
  all_goals
    go_wp2_with fail
    go_ret
    exact ⟨rfl, HB10.out⟩
end Go.Proofs.Ytlpbonfapglocaa
