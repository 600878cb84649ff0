/- Layer 12: however bytes are cut into pieces, the frames are the same. -/
import Derived.Test.YtpnjamomkpkkeaaCtd
import Derived.Test.YtpnjamomkpkkeaaCtz
import Derived.Test.YtpnjamomkpkkeaaCu4
namespace Go.Proofs.Ytpnjamomkpkkeaa
set_option linter.unusedVariables false
set_option linter.unusedSimpArgs false
open Go.RowKit

theorem flC_catN (x : Int) (N j : Nat) (f b : Nat → Int) : flC x (catF N f b) (N + j) = flC x f N ++ flC x b j := by
  induction j with
  | zero =>
    show flC x _ N = flC x f N ++ []
    rw [List.append_nil]
    exact flC_congr fun i hi => by simp [catF, hi]
  | succ j ih =>
    rw [show N + (j + 1) = N + j + 1 from rfl, flC_succ, ih, flC_succ, List.append_assoc]
    have e2 : catF N f b (N + j) = b j := by unfold catF; rw [if_neg (by omega), Nat.add_sub_cancel_left]
    rw [e2]
theorem fl_extN (s : JS) (x : Int) (n : Nat) (b : Nat → Int) (hm : 0 < s.m) (hx : s.X (s.m - 1) = x) : flF (extJ s n b).X (extJ s n b).N (extJ s n b).G s.m = flF s.X s.N s.G s.m ++ flC x b n := by
  obtain ⟨m, X, N, G⟩ := s
  obtain ⟨p, rfl⟩ : ∃ p, m = p + 1 := ⟨m - 1, by simp only at hm; omega⟩
  simp only [Nat.add_sub_cancel] at hx
  show flF _ _ _ p ++ flC _ _ _ = (flF _ _ _ p ++ flC _ _ _) ++ _
  rw [flF_congr (X' := X) (N' := N) (G' := G) p (fun i hi => by simp [extJ, upd, show i ≠ p by omega])]
  rw [List.append_assoc]
  congr 1
  simp only [extJ, Nat.add_sub_cancel, upd, if_true]
  rw [flC_catN, hx]
theorem fl_jn (F : Nat → Ck) (k : Nat) : flF (jn F k).X (jn F k).N (jn F k).G (jn F k).m = flK F k := by
  induction k with
  | zero => rfl
  | succ k ih =>
    have e : flK F (k + 1) = flK F k ++ flC (F k).from_ (F k).b (F k).n := rfl
    rw [e, ← ih]
    show flF ((jn F k).step _ _ _).X ((jn F k).step _ _ _).N ((jn F k).step _ _ _).G ((jn F k).step _ _ _).m = _
    generalize jn F k = s
    generalize (F k).from_ = x
    generalize (F k).n = j
    generalize (F k).b = b
    by_cases hj : j = 0
    · subst hj
      rw [JS.step_none]
      simp [flC]
    · by_cases hc : 0 < s.m ∧ s.X (s.m - 1) = x
      · rw [JS.step_more hj hc]
        exact fl_extN s x j b hc.1 hc.2
      · rw [JS.step_new hj hc]
        exact fl_push s x j b
theorem jn_from {P : Int → Prop} (F : Nat → Ck) (k : Nat) (h : ∀ i, i < k → P (F i).from_) : ∀ i, i < (jn F k).m → P ((jn F k).X i) := by
  induction k with
  | zero => exact fun i hi => absurd hi (by simp [jn])
  | succ k ih =>
    have h2 := ih fun i hi => h i (by omega)
    have h3 := h k (by omega)
    show ∀ i, i < ((jn F k).step _ _ _).m → P (((jn F k).step _ _ _).X i)
    generalize jn F k = s at *
    generalize (F k).from_ = x at *
    generalize (F k).n = j
    generalize (F k).b = b
    by_cases hj : j = 0
    · subst hj
      rw [JS.step_none]
      exact h2
    · by_cases hc : 0 < s.m ∧ s.X (s.m - 1) = x
      · rw [JS.step_more hj hc]
        exact h2
      · rw [JS.step_new hj hc]
        intro i hi
        simp only at hi ⊢
        unfold upd
        split
        · exact h3
        · exact h2 i (by omega)
theorem bytes_from {P : Int → Prop} {g : Nat → Int} {d : Nat} {s : CtS} {x : Int} (b : Nat → Int) (j : Nat) (hx : P x) (h : ∀ i, i < s.p.m → P (s.p.X i)) : ∀ i, i < (s.bytes g d x b j).p.m → P ((s.bytes g d x b j).p.X i) := by
  induction j with
  | zero => exact h
  | succ j ih =>
    show ∀ i, i < ((s.bytes g d x b j).byte g d x (b j)).p.m → P (((s.bytes g d x b j).byte g d x (b j)).p.X i)
    generalize s.bytes g d x b j = t at *
    unfold CtS.byte
    split
    · intro i hi
      simp only [pushJ] at hi ⊢
      unfold upd
      split
      · exact hx
      · exact ih i (by omega)
    · intro i hi
      simp only [extJ] at hi ⊢
      exact ih i hi
theorem cts_from {P : Int → Prop} {g : Nat → Int} {d : Nat} (F : Nat → Ck) (k : Nat) (h : ∀ i, i < k → P (F i).from_) : ∀ i, i < (cts g d F k).p.m → P ((cts g d F k).p.X i) := by
  induction k with
  | zero => exact fun i hi => absurd hi (by simp [cts])
  | succ k ih => exact bytes_from (F k).b (F k).n (h k (by omega)) (ih fun i hi => h i (by omega))
/-- The pieces of a cut say the same bytes of the same sides. -/
def Rct (w : World) (F : Nat → Ck) (n : Nat) (e : Ending) (w' : World) : Prop :=
  ∃ (A2 : Option Addr) (c2 m : Nat) (F2 : Nat → Ck), e = .returned (.slice A2 m c2) ∧ RdC w' A2 m c2 F2 ∧ flK F2 m = flK F n ∧ (∀ i, i < m → (F2 i).from_ = 0 ∨ (F2 i).from_ = 1) ∧ m ≤ 100000 ∧ Below w.heap.size w w'
theorem rct12 (A S : Option Addr) (n c d dc : Nat) (F : Nat → Ck) (g : Nat → Int) (w : World) (ha : RdC w A n c F) (hS : Rd .i64 w S d dc g) (hn : n ≤ 1000) (hs : sumC F n ≤ 20000) (hd' : d ≤ 100) (hg : ∀ i, i < d → -9223372036854775808 ≤ g i ∧ g i ≤ 9223372036854775807) (hfr : ∀ i, i < n → (F i).from_ = 0 ∨ (F i).from_ = 1) :
    Calls Try.prog 32 #[.slice A n c, .slice S d dc] w (Rct w F n) := by
  have hby : ∀ i, i < n → Byt (F i).n (F i).b := fun i hi => (ha.2.2.2.2 i hi).2
  by_cases h0 : d = 0
  · subst h0
    refine (rcut_none A S n c dc F w ha (by omega) (by omega)).mono ?_
    rintro e w2 ⟨v, V, rfl, hP, hb⟩
    obtain ⟨A2, c2, F2, rfl, hr, hf⟩ := hP.pcs.rd (jn_byt F n hby n (Nat.le_refl _))
    refine ⟨A2, c2, _, F2, rfl, hr, ?_, ?_, ?_, hb⟩
    · rw [← fl_jn F n]
      exact flF_congr _ fun i hi => ⟨(hf i hi).1, (hf i hi).2.1, fun j _ => by rw [(hf i hi).2.2]⟩
    · intro i hi
      rw [(hf i hi).1]
      exact jn_from (P := fun x => x = 0 ∨ x = 1) F n hfr i hi
    · have := (jn_le F n).1; omega
  · have hd : 0 < d := by omega
    have hgu : ∀ i, i < d → g i ≤ 9223372036854775807 := fun i hi => (hg i hi).2
    refine (rcut_any A S n c d dc F g w ha hS hn hs hd hd' hg).mono ?_
    rintro e w2 ⟨v, V, rfl, hP, hb⟩
    obtain ⟨A2, c2, F2, rfl, hr, hf⟩ := hP.pcs.rd (cut_byt F n hgu hd hby n (Nat.le_refl _))
    refine ⟨A2, c2, _, F2, rfl, hr, ?_, ?_, ?_, hb⟩
    · refine Eq.trans ?_ (fl_cts (g := g) (d := d) F hgu hd n)
      exact flF_congr _ fun i hi => ⟨(hf i hi).1, (hf i hi).2.1, fun j _ => by rw [(hf i hi).2.2]⟩
    · intro i hi
      rw [(hf i hi).1]
      exact cts_from (P := fun x => x = 0 ∨ x = 1) F n hfr i hi
    · have := (cts_b F hgu hd n 0).m; omega
theorem AllP.sum {F F2 : Nat → Ck} {n m : Nat} (h : flK F2 m = flK F n) : sumC F2 m = sumC F n := by rw [← flK_len, ← flK_len, h]
set_option maxRecDepth 100000 in
set_option maxHeartbeats 3200000 in
theorem recut_walk12 (A S S2 : Option Addr) (n c d dc d2 dc2 : Nat) (F : Nat → Ck) (g g2 : Nat → Int) (w : World) (ha : RdC w A n c F) (hS : Rd .i64 w S d dc g) (hg : ∀ i, i < d → -9223372036854775808 ≤ g i ∧ g i ≤ 9223372036854775807) (hS2 : Rd .i64 w S2 d2 dc2 g2) (hg2 : ∀ i, i < d2 → -9223372036854775808 ≤ g2 i ∧ g2 i ≤ 9223372036854775807) :
    Calls Try.prog 9 #[.slice A n c, .slice S d dc, .slice S2 d2 dc2] w (Yes w) := by
  have Ha := hide ha
  have HS := hide hS
  have HS2 := hide hS2
  have Hg := hide hg
  have Hg2 := hide hg2
  have hd63 : (d : Int) ≤ 9223372036854775807 := by have h1 := hS.1; have h2 := hS.2.1; simp only [maxLen] at h2; omega
  have hd632 : (d2 : Int) ≤ 9223372036854775807 := by have h1 := hS2.1; have h2 := hS2.2.1; simp only [maxLen] at h2; omega
  clear ha hS hg hS2 hg2
  have HALIVE : Hid (∀ w1, Below w.heap.size w w1 → Calls Try.prog 25 #[] w1 fun e w' => e = .returned (.bool true) ∧ Below w.heap.size w w') := hide fun w1 hb => (alive12 w1).mono fun e w' h => ⟨h.1, hb.trans (h.2.mono hb.size)⟩
  by_cases h40 : 40 < d
  · have d1 : decide ((40 : Int) < (d : Int)) = true := by simp; omega
    clear h40
    go_enter Try.func9, Try.ntmps9
    go_wp2_with fail
    refine (rlarge_any A n c F 2000 _ Ha.out (by omega)).mono ?_
    rintro e w1 ⟨b, rfl, hd, hb⟩
    have HB1 := hide (drawn_below hd w.heap.size)
    clear hd hb
    cases b
    all_goals
      go_wp2_with fail
      refine (HALIVE.out _ HB1.out).mono ?_
      rintro e w2 ⟨rfl, hb2⟩
      have HB2 := hide hb2
      clear hb2
      go_wp2_with fail
      go_ret
      exact ⟨rfl, HB2.out⟩
  have d1 : decide ((40 : Int) < (d : Int)) = false := by simp; omega
  have H40 : Hid (d ≤ 40) := by show _ ≤ _; omega
  clear h40
  by_cases h40 : 40 < d2
  · have d2' : decide ((40 : Int) < (d2 : Int)) = true := by simp; omega
    clear h40
    go_enter Try.func9, Try.ntmps9
    go_wp2_with fail
    refine (rlarge_any A n c F 2000 _ Ha.out (by omega)).mono ?_
    rintro e w1 ⟨b, rfl, hd, hb⟩
    have HB1 := hide (drawn_below hd w.heap.size)
    clear hd hb
    cases b
    all_goals
      go_wp2_with fail
      refine (HALIVE.out _ HB1.out).mono ?_
      rintro e w2 ⟨rfl, hb2⟩
      have HB2 := hide hb2
      clear hb2
      go_wp2_with fail
      go_ret
      exact ⟨rfl, HB2.out⟩
  have d2' : decide ((40 : Int) < (d2 : Int)) = false := by simp; omega
  have H402 : Hid (d2 ≤ 40) := by show _ ≤ _; omega
  clear h40
  go_enter Try.func9, Try.ntmps9
  go_wp2_with fail
  refine (rlarge_any A n c F 2000 _ Ha.out (by omega)).mono ?_
  rintro e w1 ⟨b, rfl, hd, hb⟩
  have HB1 := hide (drawn_below hd w.heap.size)
  have Ha1 := hide (Ha.out.below (drawn_below hd _))
  have HS1 := hide (HS.out.below (drawn_below hd _))
  have HS21 := hide (HS2.out.below (drawn_below hd _))
  cases b with
  | true =>
    clear hd hb
    go_wp2_with fail
    refine (HALIVE.out _ HB1.out).mono ?_
    rintro e w2 ⟨rfl, hb2⟩
    have HB2 := hide hb2
    clear hb2
    go_wp2_with fail
    go_ret
    exact ⟨rfl, HB2.out⟩
  | false =>
    obtain ⟨h200, hs⟩ := hb rfl
    have H200 := hide h200
    have Hs := hide hs
    clear hd hb h200 hs Ha HS HS2
    go_wp2_with fail
    refine (rright_any A n c F _ Ha1.out).mono ?_
    rintro e w2 ⟨rfl, hd⟩
    have HB2 := hide (HB1.out.trans (drawn_below hd _))
    have Ha2 := hide (Ha1.out.below (drawn_below hd _))
    have HS12 := hide (HS1.out.below (drawn_below hd _))
    have HS22 := hide (HS21.out.below (drawn_below hd _))
    clear hd HB1 Ha1 HS1 HS21
    by_cases hrt : ∀ i, i < n → (F i).from_ = 0 ∨ (F i).from_ = 1
    rotate_left
    · have e : rightB n F = false := decide_eq_false hrt
      rw [e]
      clear e hrt
      go_wp2_with fail
      refine (HALIVE.out _ HB2.out).mono ?_
      rintro e w2 ⟨rfl, hb2⟩
      have HB2 := hide hb2
      clear hb2
      go_wp2_with fail
      go_ret
      exact ⟨rfl, HB2.out⟩
    have e : rightB n F = true := decide_eq_true hrt
    rw [e]
    have HRT := hide hrt
    clear e hrt
    go_wp2_with fail
    refine (all12 A n c F _ Ha2.out HRT.out (by have := H200.out; omega) (by have := Hs.out; omega)).mono ?_
    rintro e w3 ⟨A3, c3, gs, x, y, rfl, hgs, hx, hy, hr3, hb3⟩
    have HGS := hide hgs
    have HX := hide hx
    have HY := hide hy
    have HB3 := hide (HB2.out.trans (hb3.mono HB2.out.size))
    have Ha3 := hide (Ha2.out.below hb3)
    have HS13 := hide (HS12.out.below hb3)
    have HS23 := hide (HS22.out.below hb3)
    have HR3 := hide hr3
    have b3 := (Below.refl w3.heap.size w3).alloc (Nat.le_refl _) (.cells #[.int .i64 x, .int .i64 y] 71)
    have HQ3 := hide (heap_alloc_new w3 (.cells #[.int .i64 x, .int .i64 y] 71))
    have HB4 := hide (HB3.out.trans (b3.mono HB3.out.size))
    have Ha4 := hide (Ha3.out.below b3)
    have HS14 := hide (HS13.out.below b3)
    have HS24 := hide (HS23.out.below b3)
    have HR4 := hide (HR3.out.below b3)
    clear hgs hx hy hr3 hb3 b3 HB2 Ha2 HS12 HS22 HB3 Ha3 HS13 HS23 HR3
    go_wp2_with fail
    generalize hq : w3.heap.size = q at *
    generalize w3.alloc (.cells #[.int .i64 x, .int .i64 y] 71) = w4 at *
    clear hq
    refine (rct12 A S n c d dc F g _ Ha4.out HS14.out (by have := H200.out; omega) (by have := Hs.out; omega) (by have := H40.out; omega) Hg.out HRT.out).mono ?_
    rintro e w5 ⟨A5, c5, m5, F5, rfl, hr5, hfl5, hft5, hm5, hb5⟩
    have HB5 := hide (HB4.out.trans (hb5.mono HB4.out.size))
    have Ha5 := hide (Ha4.out.below hb5)
    have HS25 := hide (HS24.out.below hb5)
    have HR5 := hide (HR4.out.below hb5)
    have HQ5 := hide (keepRow HQ3.out hb5)
    have HC5 := hide hr5
    have HF5 := hide hfl5
    have HT5 := hide hft5
    have HM5 := hide hm5
    clear hr5 hfl5 hft5 hm5 hb5 HB4 Ha4 HS14 HS24 HR4 HQ3
    go_wp2_with fail
    refine (all12 A5 m5 c5 F5 _ HC5.out HT5.out HM5.out (by rw [AllP.sum HF5.out]; have := Hs.out; omega)).mono ?_
    rintro e w6 ⟨A6, c6, gs6, x6, y6, rfl, hgs6, hx6, hy6, hr6, hb6⟩
    rw [HF5.out] at hgs6 hx6 hy6
    obtain rfl : gs = gs6 := HGS.out.trans hgs6.symm
    obtain rfl : x = x6 := HX.out.trans hx6.symm
    obtain rfl : y = y6 := HY.out.trans hy6.symm
    have HB6 := hide (HB5.out.trans (hb6.mono HB5.out.size))
    have Ha6 := hide (Ha5.out.below hb6)
    have HS26 := hide (HS25.out.below hb6)
    have HR6 := hide (HR5.out.below hb6)
    have HQ6 := hide (keepRow HQ5.out hb6)
    have b7 := (Below.refl w6.heap.size w6).alloc (Nat.le_refl _) (.cells #[.int .i64 x, .int .i64 y] 71)
    have HP7 := hide (heap_alloc_new w6 (.cells #[.int .i64 x, .int .i64 y] 71))
    have HB7 := hide (HB6.out.trans (b7.mono HB6.out.size))
    have Ha7 := hide (Ha6.out.below b7)
    have HS27 := hide (HS26.out.below b7)
    have HR7 := hide (HR6.out.below b7)
    have HQ7 := hide (keepRow HQ6.out b7)
    have HRB7 := hide (hr6.below b7)
    clear hgs6 hx6 hy6 hr6 hb6 b7 HB5 Ha5 HS25 HR5 HQ5 HC5 HF5 HT5 HM5 HB6 Ha6 HS26 HR6 HQ6
    go_wp2_with fail
    generalize hq7 : w6.heap.size = q7 at *
    generalize w6.alloc (.cells #[.int .i64 x, .int .i64 y] 71) = w7 at *
    clear hq7
    refine (rct12 A S2 n c d2 dc2 F g2 _ Ha7.out HS27.out (by have := H200.out; omega) (by have := Hs.out; omega) (by have := H402.out; omega) Hg2.out HRT.out).mono ?_
    rintro e w8 ⟨A8, c8, m8, F8, rfl, hr8, hfl8, hft8, hm8, hb8⟩
    have HB8 := hide (HB7.out.trans (hb8.mono HB7.out.size))
    have HR8 := hide (HR7.out.below hb8)
    have HQ8 := hide (keepRow HQ7.out hb8)
    have HP8 := hide (keepRow HP7.out hb8)
    have HRB8 := hide (HRB7.out.below hb8)
    have HC8 := hide hr8
    have HF8 := hide hfl8
    have HT8 := hide hft8
    have HM8 := hide hm8
    clear hr8 hfl8 hft8 hm8 hb8 HB7 Ha7 HS27 HR7 HQ7 HP7 HRB7
    go_wp2_with fail
    refine (all12 A8 m8 c8 F8 _ HC8.out HT8.out HM8.out (by rw [AllP.sum HF8.out]; have := Hs.out; omega)).mono ?_
    rintro e w9 ⟨A9, c9, gs9, x9, y9, rfl, hgs9, hx9, hy9, hr9, hb9⟩
    rw [HF8.out] at hgs9 hx9 hy9
    obtain rfl : gs = gs9 := HGS.out.trans hgs9.symm
    obtain rfl : x = x9 := HX.out.trans hx9.symm
    obtain rfl : y = y9 := HY.out.trans hy9.symm
    have HB9 := hide (HB8.out.trans (hb9.mono HB8.out.size))
    have HR9 := hide (HR8.out.below hb9)
    have HQ9 := hide (keepRow HQ8.out hb9)
    have HP9 := hide (keepRow HP8.out hb9)
    have HRB9 := hide (HRB8.out.below hb9)
    have b10 := (Below.refl w9.heap.size w9).alloc (Nat.le_refl _) (.cells #[.int .i64 x, .int .i64 y] 71)
    have HO10 := hide (heap_alloc_new w9 (.cells #[.int .i64 x, .int .i64 y] 71))
    have HB10 := hide (HB9.out.trans (b10.mono HB9.out.size))
    have HR10 := hide (HR9.out.below b10)
    have HQ10 := hide (keepRow HQ9.out b10)
    have HP10 := hide (keepRow HP9.out b10)
    have HRB10 := hide (HRB9.out.below b10)
    have HRC10 := hide (hr9.below b10)
    clear hgs9 hx9 hy9 hr9 hb9 b10 HB8 HR8 HQ8 HP8 HRB8 HC8 HF8 HT8 HM8 HB9 HR9 HQ9 HP9 HRB9
    go_wp2_with fail
    generalize hq9 : w9.heap.size = q9 at *
    generalize w9.alloc (.cells #[.int .i64 x, .int .i64 y] 71) = w10 at *
    clear hq9
    refine (rall07 _ _ _ _ _ _ gs _ HR10.out HRB10.out).mono ?_
    rintro e w11 ⟨rfl, hb11⟩
    have HB11 := hide (HB10.out.trans (hb11.mono HB10.out.size))
    have HR11 := hide (HR10.out.below hb11)
    have HQ11 := hide (keepRow HQ10.out hb11)
    have HP11 := hide (keepRow HP10.out hb11)
    have HO11 := hide (keepRow HO10.out hb11)
    have HRC11 := hide (HRC10.out.below hb11)
    clear hb11 HB10 HR10 HQ10 HP10 HO10 HRB10 HRC10
    go_wp2_with fail
    refine (rall07 _ _ _ _ _ _ gs _ HR11.out HRC11.out).mono ?_
    rintro e w12 ⟨rfl, hb12⟩
    have HB12 := hide (HB11.out.trans (hb12.mono HB11.out.size))
    obtain ⟨i0, i1⟩ := row2 (keepRow HQ11.out hb12)
    obtain ⟨j0, j1⟩ := row2 (keepRow HP11.out hb12)
    obtain ⟨k0, k1⟩ := row2 (keepRow HO11.out hb12)
    have eq2 := eqTwo12 x y
    clear hb12 HB11 HR11 HQ11 HP11 HO11 HRC11
    go_wp2_with fail
    refine (HALIVE.out _ HB12.out).mono ?_
    rintro e w13 ⟨rfl, hb13⟩
    have HB13 := hide hb13
    clear hb13
    go_wp2_with fail
    go_ret
    exact ⟨rfl, HB13.out⟩
end Go.Proofs.Ytpnjamomkpkkeaa
