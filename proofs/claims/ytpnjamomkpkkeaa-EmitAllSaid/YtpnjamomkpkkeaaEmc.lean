/- Layer 15: which frames are right, and the raw form that says them. -/
import Derived.Test.YtpnjamomkpkkeaaEmb
namespace Go.Proofs.Ytpnjamomkpkkeaa
set_option linter.unusedVariables false
set_option linter.unusedSimpArgs false
open Go.RowKit

set_option maxHeartbeats 800000 in
theorem large15 (v0 v1 v2 v3 : Value) (A : Option Addr) (n c : Nat) (A2 : Option Addr) (n2 c2 : Nat) (v6 v7 v8 v9 v10 v11 v12 : Value) (w : World) : Calls Try.prog 13 #[.agg #[v0, v1, v2, v3, .slice A n c, .slice A2 n2 c2, v6, v7, v8, v9, v10, v11, v12]] w fun e w' => e = .returned (.bool (decide ((2000 : Int) < (n : Int)) || decide ((100 : Int) < (n2 : Int)))) ∧ Below w.heap.size w w' := by
  have R0 := hide (heap_alloc_new w (.cells #[v0, v1, v2, v3, .slice A n c, .slice A2 n2 c2, v6, v7, v8, v9, v10, v11, v12] 25))
  have E0 := hide ((Below.refl w.heap.size w).alloc (Nat.le_refl _) (.cells #[v0, v1, v2, v3, .slice A n c, .slice A2 n2 c2, v6, v7, v8, v9, v10, v11, v12] 25))
  obtain ⟨b1, h1⟩ : ∃ b, decide ((2000 : Int) < (n : Int)) = b := ⟨_, rfl⟩
  obtain ⟨b2, h2⟩ : ∃ b, decide ((100 : Int) < (n2 : Int)) = b := ⟨_, rfl⟩
  rw [h1, h2]
  obtain ⟨c0, c1, c2', c3, c4, c5, c6, c7, c8, c9, c10, c11, c12⟩ := row13 R0.out
  cases b1 with
  | true =>
    go_enter Try.func13, Try.ntmps13
    go_wp2_with fail
    go_ret
    exact ⟨rfl, E0.out⟩
  | false =>
    go_enter Try.func13, Try.ntmps13
    go_wp2_with fail
    go_ret
    exact ⟨rfl, E0.out⟩
def RAWV (fm T fl st : Int) (rs : Bool) (A : Option Addr) (n c : Nat) : Array Value := #[.int .i64 fm, .int .i64 T, .int .i64 fl, .int .i64 st, .bool rs, .slice A n c]
set_option maxRecDepth 20000 in
set_option maxHeartbeats 1600000 in
theorem rsame7 (fm T fl st : Int) (rs : Bool) (A A2 : Option Addr) (n c c2 : Nat) (f : Nat → Int) (w : World) (h : Rd .u8 w A n c f) (h2 : Rd .u8 w A2 n c2 f) :
    Calls Try.prog 18 #[.agg #[.int .i64 fm, .int .i64 T, .int .i64 fl, .int .i64 st, .bool rs, .slice A n c], .agg #[.int .i64 fm, .int .i64 T, .int .i64 fl, .int .i64 st, .bool rs, .slice A2 n c2]] w fun e w' => e = .returned (.bool true) ∧ Below w.heap.size w w' := by
  have a1 := (Below.refl w.heap.size w).alloc (Nat.le_refl _) (.cells #[.int .i64 fm, .int .i64 T, .int .i64 fl, .int .i64 st, .bool rs, .slice A n c] 29)
  have a2 := a1.alloc (by simp) (.cells #[.int .i64 fm, .int .i64 T, .int .i64 fl, .int .i64 st, .bool rs, .slice A2 n c2] 29)
  have hs1 : (w.alloc (.cells #[.int .i64 fm, .int .i64 T, .int .i64 fl, .int .i64 st, .bool rs, .slice A n c] 29)).heap.size = w.heap.size + 1 := by simp
  have R1 := hide (keepRow (heap_alloc_new w (.cells #[.int .i64 fm, .int .i64 T, .int .i64 fl, .int .i64 st, .bool rs, .slice A n c] 29)) ((Below.refl (w.alloc (.cells #[.int .i64 fm, .int .i64 T, .int .i64 fl, .int .i64 st, .bool rs, .slice A n c] 29)).heap.size _).alloc (Nat.le_refl _) (.cells #[.int .i64 fm, .int .i64 T, .int .i64 fl, .int .i64 st, .bool rs, .slice A2 n c2] 29)))
  have r2 := heap_alloc_new (w.alloc (.cells #[.int .i64 fm, .int .i64 T, .int .i64 fl, .int .i64 st, .bool rs, .slice A n c] 29)) (.cells #[.int .i64 fm, .int .i64 T, .int .i64 fl, .int .i64 st, .bool rs, .slice A2 n c2] 29)
  rw [hs1] at r2
  have R2 := hide r2
  have E := hide a2
  have H := hide (h.below a2)
  have H2 := hide (h2.below a2)
  have c0 : (fm == fm) = true := by simp
  have c1 : (T == T) = true := by simp
  have c2_ : (fl == fl) = true := by simp
  have c3 : (st == st) = true := by simp
  have c4 : (rs == rs) = true := by simp
  obtain ⟨x0, x1, x2, x3, x4, x5⟩ := row6 R1.out
  obtain ⟨y0, y1, y2, y3, y4, y5⟩ := row6 R2.out
  clear a1 a2 hs1 r2 h h2
  go_enter Try.func18, Try.ntmps18
  go_upto_region 1 with (fail)
  generalize hW : (w.alloc (.cells #[.int .i64 fm, .int .i64 T, .int .i64 fl, .int .i64 st, .bool rs, .slice A n c] 29)).alloc (.cells #[.int .i64 fm, .int .i64 T, .int .i64 fl, .int .i64 st, .bool rs, .slice A2 n c2] 29) = U at *
  clear hW
  go_wp2_with fail
  refine (rsame_yes A A2 n c c2 _ _ U H.out H2.out fun _ _ => rfl).mono ?_
  rintro e U1 ⟨rfl, hd⟩
  have hb := drawn_below hd U.heap.size
  have E1 := hide (E.out.of hb)
  clear hd hb
  go_wp2_with fail
  go_ret
  exact ⟨rfl, E1.out⟩
def f15 : Nat → Int := fun _ => 0
theorem ok15 : (⟨6, 0, 0, -1, 8, f15, 0, sF f15, sG f15, 0, 0, false, 0, 0, 0, 0⟩ : Fm5).Ok := by
  have h := (bk_ok (T := 6) (fl := 0) (st := 0) (n := 8) (f := f15) (fun i _ => by unfold f15; decide) (by decide +kernel) (by decide +kernel)).1
  have e : bk5 6 0 0 8 f15 (fdOf 6 0 8 f15) = (⟨6, 0, 0, -1, 8, f15, 0, sF f15, sG f15, 0, 0, false, 0, 0, 0, 0⟩ : Fm5) := rfl
  rw [e] at h
  exact h
def lit17 : Nat → Int := fun i => if i = 2 then 8 else if i = 3 then 6 else 0
theorem byt15 : ∀ i, i < 17 → catF 9 (hdF ((⟨6, 0, 0, -1, 8, f15, 0, sF f15, sG f15, 0, 0, false, 0, 0, 0, 0⟩ : Fm5).emL.length : Int) 6 0 (hdX 0 false)) (lF (⟨6, 0, 0, -1, 8, f15, 0, sF f15, sG f15, 0, 0, false, 0, 0, 0, 0⟩ : Fm5).emL) i = lit17 i := by decide +kernel
theorem len15 : (⟨6, 0, 0, -1, 8, f15, 0, sF f15, sG f15, 0, 0, false, 0, 0, 0, 0⟩ : Fm5).emL.length = 8 := by decide +kernel
set_option maxRecDepth 20000 in
set_option maxHeartbeats 1600000 in
theorem alive15 (w : World) : Calls Try.prog 14 #[] w (Yes w) := by
  obtain ⟨i0, hi, hz0, hz1, hz2⟩ := info_parts u8_info
  have C := hide (fun W A (h : Rd .u8 W A 8 8 f15) => ebytes15 6 0 0 (-1) A 8 8 f15 none 0 0 (sF f15) (sG f15) 0 0 false 0 0 0 0 (by decide) (by decide) (by decide) W h (fun i _ => by unfold f15; decide) (Rd2.nil _ _ _))
  go_enter Try.func14, Try.ntmps14
  go_wp2_with (at_make; refine wp_mk rfl _ _ _ rfl i0 0 1 Try.underlying22 hi hz0 hz1 hz2 w.heap.size _ _ _ _ 8 rfl rfl rfl rfl (by decide) (by simp [maxLen]) (Nat.le_refl _) ?_; intro w1 hown1 hg1 hs1; have HO1 := hide hown1; have E1 : Hid (Below w.heap.size w w1) := (Below.refl _ _).grown hg1 (Nat.le_refl _) (fun k e => by cases e); clear hown1 hg1 hs1)
  have hr1 : Rd .u8 w1 (some ⟨w.heap.size, 0, none⟩) 8 8 f15 := rd_congr5 HO1.out.rdS rfl fun i hi => by unfold oneF f15; first | rfl | (split <;> rfl)
  refine (C.out _ _ hr1).mono ?_
  rintro e w2 ⟨hb2, ⟨hok, A2, c2, rfl, hr2⟩ | ⟨hno, _⟩⟩
  rotate_left
  · exact absurd ok15 hno
  have hl := len15
  rw [hl] at hr2
  rw [hl]
  have E2 := hide (E1.out.of hb2)
  have R2 := hide (hr2.below ((Below.refl w2.heap.size w2).alloc (Nat.le_refl _) (.cells #[.int .u8 0, .int .u8 0, .int .u8 8, .int .u8 6, .int .u8 0, .int .u8 0, .int .u8 0, .int .u8 0, .int .u8 0, .int .u8 0, .int .u8 0, .int .u8 0, .int .u8 0, .int .u8 0, .int .u8 0, .int .u8 0, .int .u8 0] 5)))
  have L2 := hide (Rd.litB w2 #[.int .u8 0, .int .u8 0, .int .u8 8, .int .u8 6, .int .u8 0, .int .u8 0, .int .u8 0, .int .u8 0, .int .u8 0, .int .u8 0, .int .u8 0, .int .u8 0, .int .u8 0, .int .u8 0, .int .u8 0, .int .u8 0, .int .u8 0] 17 lit17 (by simp [maxLen]) rfl rfl)
  have hby := byt15
  rw [hl] at hby
  clear hr2 hb2 hok hl hr1 C
  go_wp2_with fail
  refine (rsame_yes _ _ _ _ _ _ _ _ R2.out L2.out hby).mono ?_
  rintro e w3 ⟨rfl, hd3⟩
  have E3 := hide (E2.out.of (((Below.refl w2.heap.size w2).alloc (Nat.le_refl _) (.cells #[.int .u8 0, .int .u8 0, .int .u8 8, .int .u8 6, .int .u8 0, .int .u8 0, .int .u8 0, .int .u8 0, .int .u8 0, .int .u8 0, .int .u8 0, .int .u8 0, .int .u8 0, .int .u8 0, .int .u8 0, .int .u8 0, .int .u8 0] 5)).trans (drawn_below hd3 _)))
  clear hd3 hby
  go_wp2_with fail
  go_ret
  exact ⟨rfl, E3.out⟩
end Go.Proofs.Ytpnjamomkpkkeaa
