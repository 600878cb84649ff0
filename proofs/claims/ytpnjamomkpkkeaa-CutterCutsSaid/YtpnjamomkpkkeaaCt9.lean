/- Layer 7: two rows of raw frames that are the same. -/
import Derived.Test.YtpnjamomkpkkeaaCt2
import Derived.StillTailTactics
namespace Go.Proofs.Ytpnjamomkpkkeaa
set_option linter.unusedVariables false
set_option linter.unusedSimpArgs false
open Go.RowKit

/-- A slice reads as these frames. -/
def RwsR (w : World) (A : Option Addr) (n c : Nat) (fs : List Rl) : Prop :=
  ∃ F : Nat → Rw, RdV 6 w A n c (rwV F) ∧ n = fs.length ∧ ∀ i x, fs[i]? = some x → RwIs w (F i) x
theorem RdV.bel12 {s : Nat} {w w' : World} {A : Option Addr} {n c : Nat} {F : Nat → Value} (h : RdV s w A n c F) (hb : Below w.heap.size w w') : RdV s w' A n c F :=
  ⟨h.1, h.2.1, h.2.2.1, fun hn => by
    obtain ⟨b, off, hA, hc⟩ := h.2.2.2 hn
    exact ⟨b, off, hA, fun i hi => (hb.cell (p := ⟨b, off + i, none⟩) (World.block_lt_of_cell? w _ (hc i hi))).trans (hc i hi)⟩⟩
theorem RwsR.below {w w' : World} {A : Option Addr} {n c : Nat} {fs : List Rl} (h : RwsR w A n c fs) (hb : Below w.heap.size w w') : RwsR w' A n c fs := by
  obtain ⟨F, h1, h2, h3⟩ := h
  exact ⟨F, h1.bel12 hb, h2, fun i x hx => (h3 i x hx).below hb⟩
theorem rsame07 (X Y : Rw) (x : Rl) (w : World) (hX : RwIs w X x) (hY : RwIs w Y x) : Calls Try.prog 18 #[.agg #[.int .i64 X.fm, .int .i64 X.T, .int .i64 X.fl, .int .i64 X.st, .bool X.rs, .slice X.A X.n X.c], .agg #[.int .i64 Y.fm, .int .i64 Y.T, .int .i64 Y.fl, .int .i64 Y.st, .bool Y.rs, .slice Y.A Y.n Y.c]] w fun e w' => e = .returned (.bool true) ∧ Below w.heap.size w w' := by
  obtain ⟨X0, X1, X2, X3, X4, XA, Xn, Xc, Xb⟩ := X
  obtain ⟨Y0, Y1, Y2, Y3, Y4, YA, Yn, Yc, Yb⟩ := Y
  obtain ⟨x0, x1, x2, x3, x4, xb⟩ := x
  have hX' : X0 = x0 ∧ X1 = x1 ∧ X2 = x2 ∧ X3 = x3 ∧ X4 = x4 ∧ Xn = xb.length ∧ Rd .u8 w XA Xn Xc (lyF xb) := hX
  have hY' : Y0 = x0 ∧ Y1 = x1 ∧ Y2 = x2 ∧ Y3 = x3 ∧ Y4 = x4 ∧ Yn = xb.length ∧ Rd .u8 w YA Yn Yc (lyF xb) := hY
  clear hX hY
  obtain ⟨rfl, rfl, rfl, rfl, rfl, rfl, hx⟩ := hX'
  obtain ⟨rfl, rfl, rfl, rfl, rfl, rfl, hy⟩ := hY'
  simp only
  have a1 := ((Below.refl w.heap.size w).alloc (Nat.le_refl _) (.cells #[.int .i64 Y0, .int .i64 Y1, .int .i64 Y2, .int .i64 Y3, .bool Y4, .slice XA xb.length Xc] 29)).alloc (by simp) (.cells #[.int .i64 Y0, .int .i64 Y1, .int .i64 Y2, .int .i64 Y3, .bool Y4, .slice YA xb.length Yc] 29)
  have HX := hide (hx.below a1)
  have HY := hide (hy.below a1)
  have A1 := hide a1
  clear a1 hx hy
  go_enter Try.func18, Try.ntmps18
  go_wp2_with fail
  refine (rsame_any XA YA xb.length xb.length Xc Yc (lyF xb) (lyF xb) _ HX.out HY.out).mono ?_
  rintro e w' ⟨rfl, hd⟩
  rw [sameB_yes rfl fun _ _ => rfl]
  have hb := A1.out.trans ((drawn_below hd _).mono A1.out.size)
  have HB := hide hb
  clear hb hd
  go_wp2_with fail
  go_ret
  exact ⟨rfl, HB.out⟩
set_option maxRecDepth 20000 in
set_option maxHeartbeats 1600000 in
theorem rall07 (A C : Option Addr) (n m c d : Nat) (fs : List Rl) (w : World) (ha : RwsR w A n c fs) (hc : RwsR w C m d fs) : Calls Try.prog 29 #[.slice A n c, .slice C m d] w fun e w' => e = .returned (.bool true) ∧ Below w.heap.size w w' := by
  obtain ⟨F, hF, hn, hFI⟩ := ha
  obtain ⟨G, hG, hm, hGI⟩ := hc
  obtain rfl : n = m := by omega
  have hn63 : n ≤ 9223372036854775807 := by have h1 := hF.1; have h2 := hF.2.1; simp only [maxLen] at h2; omega
  have HF := hide hF
  have HG := hide hG
  have HFI := hide hFI
  have HGI := hide hGI
  have HN := hide hn
  clear hF hG hFI hGI hn hm
  go_enter Try.func29, Try.ntmps29
  go_wp2
  go_loopw [5] (fun i wr => ∃ k : Nat, k ≤ n ∧ i = .int .i64 k ∧ Below w.heap.size w wr) (fun i _ => n - (intOf i).toNat)
  case atStart => exact ⟨0, Nat.zero_le _, rfl, Below.refl _ _⟩
  case round =>
    obtain ⟨k, hk, rfl, hb⟩ := hrel
    have HB := hide hb
    clear hb
    by_cases hlt : k < n
    · obtain ⟨x, hx⟩ : ∃ x, fs[k]? = some x := ⟨fs[k]'(by have := HN.out; omega), List.getElem?_eq_getElem _⟩
      have h1 := HFI.out k x hx
      have h2 := HGI.out k x hx
      obtain ⟨b1, o1, rfl, c1⟩ := HF.out.2.2.2 (by omega)
      obtain ⟨b2, o2, rfl, c2⟩ := HG.out.2.2.2 (by omega)
      have d1 := rwC_of c1 hlt
      have d2 := rwC_of c2 hlt
      obtain ⟨p0, p1, p2, p3, p4, p5⟩ := d1.below HB.out
      obtain ⟨q0, q1, q2, q3, q4, q5⟩ := d2.below HB.out
      have H1 := hide (h1.below HB.out)
      have H2 := hide (h2.below HB.out)
      have hi0 : (0 : Int) ≤ (k : Int) := by omega
      have hi1 : (k : Int) < (n : Int) := by omega
      clear h1 h2 c1 c2 d1 d2 hx
      generalize F k = X at *
      generalize G k = Y at *
      go_wp2_with fail
      go_still_tail 8, (by kernel_rfl)
      change wpList _ _ _ _ _ wr.drew
      go_wp2_with fail
      refine (rsame07 X Y x wr.drew (H1.out.below (w' := wr.drew) ⟨rfl, rfl, rfl, Nat.le_refl _, fun _ _ => rfl⟩) (H2.out.below (w' := wr.drew) ⟨rfl, rfl, rfl, Nat.le_refl _, fun _ _ => rfl⟩)).mono ?_
      rintro e w' ⟨rfl, hb2⟩
      have hb3 : Below w.heap.size w w' := HB.out.trans ((show Below wr.heap.size wr w' from ⟨hb2.os, hb2.tape, hb2.output, hb2.size, hb2.block⟩).mono HB.out.size)
      have HB3 := hide hb3
      clear hb2 hb3
      go_wp2_with fail
      go_roundw
      case rel => exact ⟨k + 1, by omega, by go_num, HB3.out⟩
      case measure => simp [intOf]; omega
    · go_wp2_with fail
      go_ret
      exact ⟨rfl, HB.out⟩
end Go.Proofs.Ytpnjamomkpkkeaa
