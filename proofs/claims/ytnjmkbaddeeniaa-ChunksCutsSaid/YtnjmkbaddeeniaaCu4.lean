/- Layer 10: the walk of ChunksCuts. -/
import Derived.Test.YtnjmkbaddeeniaaCu3
import Derived.Test.YtnjmkbaddeeniaaJn6
namespace Go.Proofs.Ytnjmkbaddeeniaa
open Go.RowKit

theorem cut_none (A S : Option Addr) (n c dc : Nat) (F : Nat → Ck) (w : World) (ha : RdC w A n c F) (hn : n ≤ 1000000) (hs : sumC F n ≤ 1000000) :
    Calls Try.prog 20 #[.slice A n c, .slice S 0 dc] w fun e w' => ∃ v V, e = .returned v ∧ PcD w.heap.size w' v (jn F n).m (jn F n).X V (jn F n).N (jn F n).G ∧ Below w.heap.size w w' := by
  go_enter Try.func20, Try.ntmps20
  go_wp2_with fail
  refine (join_any A n c F _ ha hn hs).mono ?_
  rintro e w2 ⟨v2, V2, rfl, hP2, hb2⟩
  go_wp2_with fail
  go_ret
  exact ⟨_, V2, rfl, hP2, hb2⟩
theorem rcut_none (A S : Option Addr) (n c dc : Nat) (F : Nat → Ck) (w : World) (ha : RdC w A n c F) (hn : n ≤ 1000000) (hs : sumC F n ≤ 1000000) :
    Calls Try.prog 21 #[.slice A n c, .slice S 0 dc] w fun e w' => ∃ v V, e = .returned v ∧ PcD w.heap.size w' v (jn F n).m (jn F n).X V (jn F n).N (jn F n).G ∧ Below w.heap.size w w' := by
  go_enter Try.func21, Try.ntmps21
  go_wp2_with fail
  refine (rjoin_any A n c F _ ha hn hs).mono ?_
  rintro e w2 ⟨v2, V2, rfl, hP2, hb2⟩
  go_wp2_with fail
  go_ret
  exact ⟨_, V2, rfl, hP2, hb2⟩
theorem flF_len (X : Nat → Int) (N : Nat → Nat) (G : Nat → Nat → Int) (H : Nat → Ck) (k : Nat) (h : ∀ i, i < k → (H i).n = N i) : (flF X N G k).length = sumC H k := by
  induction k with
  | zero => rfl
  | succ k ih =>
    show (flF X N G k ++ flC (X k) (G k) (N k)).length = sumC H k + (H k).n
    rw [List.length_append, ih (fun i hi => h i (by omega)), h k (by omega)]
    simp [flC]
set_option maxRecDepth 100000 in
set_option maxHeartbeats 6400000 in
theorem cuts_walk (A S : Option Addr) (n c d dc : Nat) (F : Nat → Ck) (g : Nat → Int) (w : World) (ha : RdC w A n c F) (hS : Rd .i64 w S d dc g) (hg : ∀ i, i < d → -9223372036854775808 ≤ g i ∧ g i ≤ 9223372036854775807) :
    Calls Try.prog 4 #[.slice A n c, .slice S d dc] w (Yes w) := by
  have Ha := hide ha
  have HS := hide hS
  have Hg := hide hg
  have hd63 : (d : Int) ≤ 9223372036854775807 := by have h1 := hS.1; have h2 := hS.2.1; simp only [maxLen] at h2; omega
  clear ha hS hg
  by_cases h100 : 100 < d
  · have d1 : decide ((100 : Int) < (d : Int)) = true := by simp; omega
    go_enter Try.func4, Try.ntmps4
    go_wp2_with fail
    refine (rlarge_any A n c F 3000 _ Ha.out (by omega)).mono ?_
    rintro e w1 ⟨b, rfl, hd, hb⟩
    have HB1 := hide (drawn_below hd w.heap.size)
    clear hd hb
    cases b
    all_goals
      go_wp2_with fail
      refine (alive10 _).mono ?_
      rintro e w2 ⟨rfl, hb2⟩
      have HB2 := hide (HB1.out.of hb2)
      clear hb2
      go_wp2_with fail
      go_ret
      exact ⟨rfl, HB2.out⟩
  have d1 : decide ((100 : Int) < (d : Int)) = false := by simp; omega
  have H100 : Hid (d ≤ 100) := by show _ ≤ _; omega
  clear h100
  go_enter Try.func4, Try.ntmps4
  go_wp2_with fail
  refine (rlarge_any A n c F 3000 _ Ha.out (by omega)).mono ?_
  rintro e w1 ⟨b, rfl, hd, hb⟩
  have HB1 := hide (drawn_below hd w.heap.size)
  have Ha1 := hide (Ha.out.below (drawn_below hd _))
  have HS1 := hide (HS.out.below (drawn_below hd _))
  cases b with
  | true =>
    clear hd hb
    go_wp2_with fail
    refine (alive10 _).mono ?_
    rintro e w2 ⟨rfl, hb2⟩
    have HB2 := hide (HB1.out.of hb2)
    clear hb2
    go_wp2_with fail
    go_ret
    exact ⟨rfl, HB2.out⟩
  | false =>
    obtain ⟨h200, hs⟩ := hb rfl
    have H200 := hide h200
    have Hs := hide hs
    clear hd hb h200 hs
    by_cases hd0 : d = 0
    · subst hd0
      have HBY := hide (jn_byt F n (fun i hi => (Ha1.out.2.2.2.2 i hi).2) n (Nat.le_refl _))
      have Hj := hide (jn_le F n)
      have HM : Hid ((jn F n).m ≤ 200) := by have := Hj.out.1; have := H200.out; show _ ≤ _; omega
      have HSU : Hid (∀ F2 : Nat → Ck, (∀ i, i < (jn F n).m → (F2 i).n = (jn F n).N i) → sumC F2 (jn F n).m ≤ 1000000) := fun F2 h => by
        have h1 := sumC_bound F2 (jn F n).m 3000 (fun i hi => by
          have h1 := Hj.out.2 i hi
          have h2 := Hs.out
          have h3 := h i hi
          omega)
        have h2 := Nat.mul_le_mul_right 3000 HM.out
        omega
      have HEQ : Hid (∀ F2 : Nat → Ck, (∀ i, i < (jn F n).m → (F2 i).from_ = (jn F n).X i ∧ (F2 i).n = (jn F n).N i ∧ (F2 i).b = (jn F n).G i) → JEq (jn F2 (jn F n).m) (jn F n)) := fun F2 h => by
        obtain ⟨h1, h2⟩ := jn_again (jn F n) (jn_ok F n) F2 (fun i hi => by
          obtain ⟨a1, a2, a3⟩ := h i hi
          exact ⟨a1, a2, fun j _ => by rw [a3]⟩) _ (Nat.le_refl _)
        exact ⟨h1, fun i hi => by
          obtain ⟨a1, a2, a3⟩ := h2 i (by omega)
          exact ⟨a1, a2, fun j hj => a3 j (by omega)⟩⟩
      go_wp2_with fail
      refine (cut_none A S n c dc F _ Ha1.out (by have := H200.out; omega) (by have := Hs.out; omega)).mono ?_
      rintro e w2 ⟨v2, V2, rfl, hP2, hb2⟩
      have HB2 := hide (HB1.out.of hb2)
      have Ha2 := hide (Ha1.out.below hb2)
      have HS2 := hide (HS1.out.below hb2)
      obtain ⟨A2, c2, F2, rfl, hr2, hf2⟩ := hP2.pcs.rd HBY.out
      have Hr2 := hide hr2
      have Hf2 := hide hf2
      clear hP2 hb2 hr2 hf2 Ha1 HB1 HS1
      go_wp2_with fail
      refine (rcut_none A S n c dc F _ Ha2.out (by have := H200.out; omega) (by have := Hs.out; omega)).mono ?_
      rintro e w3 ⟨v3, V3, rfl, hP3, hb3⟩
      have HB3 := hide (HB2.out.of hb3)
      have Hr23 := hide (Hr2.out.below hb3)
      have Ha3 := hide (Ha2.out.below hb3)
      obtain ⟨A3, c3, F3, rfl, hr3, hf3⟩ := hP3.pcs.rd HBY.out
      have Hr3 := hide hr3
      have Hf3 := hide hf3
      clear hP3 hb3 hr3 hf3 HB2 Hr2 Ha2
      go_wp2_with fail
      refine (rcsame_yes _ _ _ _ _ F2 F3 _ Hr23.out Hr3.out ?_).mono ?_
      · intro i hi
        obtain ⟨a1, a2, a3⟩ := Hf2.out i hi
        obtain ⟨b1, b2, b3⟩ := Hf3.out i hi
        exact ⟨a1.trans b1.symm, a2.trans b2.symm, fun j _ => by rw [a3, b3]⟩
      rintro e w4 ⟨rfl, hd4⟩
      have HB4 := hide (HB3.out.trans (drawn_below hd4 _))
      have Hr4 := hide (Hr23.out.below (drawn_below hd4 _))
      have Ha4 := hide (Ha3.out.below (drawn_below hd4 _))
      clear hd4 HB3 Hr23 Hr3 Hf3 Ha3
      have Hm := HM.out
      have HJ := hide (HEQ.out F2 Hf2.out)
      have HSM := hide (HSU.out F2 (fun i hi => (Hf2.out i hi).2.1))
      go_wp2_with fail
      refine (join_any A2 _ c2 F2 _ Hr4.out (by omega) HSM.out).mono ?_
      rintro e w5 ⟨v5, V5, rfl, hP5, hb5⟩
      have HB5 := hide (HB4.out.of hb5)
      have Ha5 := hide (Ha4.out.below hb5)
      obtain ⟨A5, c5, F5, rfl, hr5, hf5⟩ := hP5.pcs.rd (jn_byt F2 (jn F n).m (fun i hi => (Hr4.out.2.2.2.2 i hi).2) _ (Nat.le_refl _))
      rw [HJ.out.1] at hr5 hf5 ⊢
      have Hr5 := hide hr5
      have Hf5 := hide hf5
      clear hP5 hb5 hr5 hf5 HB4 Hr4 Ha4
      go_wp2_with fail
      refine (rjoin_any A n c F _ Ha5.out (by have := H200.out; omega) (by have := Hs.out; omega)).mono ?_
      rintro e w6 ⟨v6, V6, rfl, hP6, hb6⟩
      have HB6 := hide (HB5.out.of hb6)
      have Hr56 := hide (Hr5.out.below hb6)
      obtain ⟨A6, c6, F6, rfl, hr6, hf6⟩ := hP6.pcs.rd (jn_byt F n (fun i hi => (Ha5.out.2.2.2.2 i hi).2) n (Nat.le_refl _))
      have Hr6 := hide hr6
      have Hf6 := hide hf6
      clear hP6 hb6 hr6 hf6 HB5 Hr5 Ha5
      go_wp2_with fail
      refine (rcsame_yes _ _ _ _ _ F5 F6 _ Hr56.out Hr6.out ?_).mono ?_
      · intro i hi
        obtain ⟨a1, a2, a3⟩ := Hf5.out i hi
        obtain ⟨b1, b2, b3⟩ := Hf6.out i hi
        obtain ⟨g1, g2, g3⟩ := HJ.out.2 i (by have := HJ.out.1; omega)
        refine ⟨(a1.trans g1).trans b1.symm, (a2.trans g2).trans b2.symm, fun j hj => ?_⟩
        rw [a3, b3]
        exact g3 j (by omega)
      rintro e w7 ⟨rfl, hd7⟩
      have HB7 := hide (HB6.out.trans (drawn_below hd7 _))
      clear hd7
      go_wp2_with fail
      refine (alive10 _).mono ?_
      rintro e w8 ⟨rfl, hb8⟩
      have HB8 := hide (HB7.out.of hb8)
      clear hb8
      go_wp2_with fail
      go_ret
      exact ⟨rfl, HB8.out⟩
    · have hgu : ∀ i, i < d → g i ≤ 9223372036854775807 := fun i hi => (Hg.out i hi).2
      have HBY := hide (cut_byt F n hgu (by omega) (fun i hi => (Ha1.out.2.2.2.2 i hi).2) n (Nat.le_refl _))
      have HM : Hid ((cts g d F n).p.m ≤ 3000) := by have := (cts_b F hgu (by omega) n 0).m; have := Hs.out; show _ ≤ _; omega
      have HSU : Hid (∀ F2 : Nat → Ck, (∀ i, i < (cts g d F n).p.m → (F2 i).n = (cts g d F n).p.N i) → sumC F2 (cts g d F n).p.m ≤ 1000000) := fun F2 h => by
        rw [← flF_len (cts g d F n).p.X (cts g d F n).p.N (cts g d F n).p.G F2 _ h, fl_cts F hgu (by omega) n, flF_len _ _ _ F n (fun i _ => rfl)]
        have := Hs.out
        omega
      have HEQ : Hid (∀ F2 : Nat → Ck, (∀ i, i < (cts g d F n).p.m → (F2 i).from_ = (cts g d F n).p.X i ∧ (F2 i).n = (cts g d F n).p.N i ∧ (F2 i).b = (cts g d F n).p.G i) → JEq (jn F2 (cts g d F n).p.m) (jn F n)) := fun F2 h => jn_cut F F2 hgu (by omega) n h
      clear hgu
      go_wp2_with fail
      refine (cut_any A S n c d dc F g _ Ha1.out HS1.out (by have := H200.out; omega) (by have := Hs.out; omega) (by omega) H100.out (fun i hi => (Hg.out i hi).2)).mono ?_
      rintro e w2 ⟨v2, V2, rfl, hP2, hb2⟩
      have HB2 := hide (HB1.out.of hb2)
      have Ha2 := hide (Ha1.out.below hb2)
      have HS2 := hide (HS1.out.below hb2)
      obtain ⟨A2, c2, F2, rfl, hr2, hf2⟩ := hP2.pcs.rd HBY.out
      have Hr2 := hide hr2
      have Hf2 := hide hf2
      clear hP2 hb2 hr2 hf2 Ha1 HB1 HS1
      go_wp2_with fail
      refine (rcut_any A S n c d dc F g _ Ha2.out HS2.out (by have := H200.out; omega) (by have := Hs.out; omega) (by omega) H100.out Hg.out).mono ?_
      rintro e w3 ⟨v3, V3, rfl, hP3, hb3⟩
      have HB3 := hide (HB2.out.of hb3)
      have Hr23 := hide (Hr2.out.below hb3)
      have Ha3 := hide (Ha2.out.below hb3)
      obtain ⟨A3, c3, F3, rfl, hr3, hf3⟩ := hP3.pcs.rd HBY.out
      have Hr3 := hide hr3
      have Hf3 := hide hf3
      clear hP3 hb3 hr3 hf3 HB2 Hr2 Ha2
      go_wp2_with fail
      refine (rcsame_yes _ _ _ _ _ F2 F3 _ Hr23.out Hr3.out ?_).mono ?_
      · intro i hi
        obtain ⟨a1, a2, a3⟩ := Hf2.out i hi
        obtain ⟨b1, b2, b3⟩ := Hf3.out i hi
        exact ⟨a1.trans b1.symm, a2.trans b2.symm, fun j _ => by rw [a3, b3]⟩
      rintro e w4 ⟨rfl, hd4⟩
      have HB4 := hide (HB3.out.trans (drawn_below hd4 _))
      have Hr4 := hide (Hr23.out.below (drawn_below hd4 _))
      have Ha4 := hide (Ha3.out.below (drawn_below hd4 _))
      clear hd4 HB3 Hr23 Hr3 Hf3 Ha3
      have Hm := HM.out
      have HJ := hide (HEQ.out F2 Hf2.out)
      have HSM := hide (HSU.out F2 (fun i hi => (Hf2.out i hi).2.1))
      go_wp2_with fail
      refine (join_any A2 _ c2 F2 _ Hr4.out (by omega) HSM.out).mono ?_
      rintro e w5 ⟨v5, V5, rfl, hP5, hb5⟩
      have HB5 := hide (HB4.out.of hb5)
      have Ha5 := hide (Ha4.out.below hb5)
      obtain ⟨A5, c5, F5, rfl, hr5, hf5⟩ := hP5.pcs.rd (jn_byt F2 (cts g d F n).p.m (fun i hi => (Hr4.out.2.2.2.2 i hi).2) _ (Nat.le_refl _))
      rw [HJ.out.1] at hr5 hf5 ⊢
      have Hr5 := hide hr5
      have Hf5 := hide hf5
      clear hP5 hb5 hr5 hf5 HB4 Hr4 Ha4
      go_wp2_with fail
      refine (rjoin_any A n c F _ Ha5.out (by have := H200.out; omega) (by have := Hs.out; omega)).mono ?_
      rintro e w6 ⟨v6, V6, rfl, hP6, hb6⟩
      have HB6 := hide (HB5.out.of hb6)
      have Hr56 := hide (Hr5.out.below hb6)
      obtain ⟨A6, c6, F6, rfl, hr6, hf6⟩ := hP6.pcs.rd (jn_byt F n (fun i hi => (Ha5.out.2.2.2.2 i hi).2) n (Nat.le_refl _))
      have Hr6 := hide hr6
      have Hf6 := hide hf6
      clear hP6 hb6 hr6 hf6 HB5 Hr5 Ha5
      go_wp2_with fail
      refine (rcsame_yes _ _ _ _ _ F5 F6 _ Hr56.out Hr6.out ?_).mono ?_
      · intro i hi
        obtain ⟨a1, a2, a3⟩ := Hf5.out i hi
        obtain ⟨b1, b2, b3⟩ := Hf6.out i hi
        obtain ⟨g1, g2, g3⟩ := HJ.out.2 i (by have := HJ.out.1; omega)
        refine ⟨(a1.trans g1).trans b1.symm, (a2.trans g2).trans b2.symm, fun j hj => ?_⟩
        rw [a3, b3]
        exact g3 j (by omega)
      rintro e w7 ⟨rfl, hd7⟩
      have HB7 := hide (HB6.out.trans (drawn_below hd7 _))
      clear hd7
      go_wp2_with fail
      refine (alive10 _).mono ?_
      rintro e w8 ⟨rfl, hb8⟩
      have HB8 := hide (HB7.out.of hb8)
      clear hb8
      go_wp2_with fail
      go_ret
      exact ⟨rfl, HB8.out⟩
end Go.Proofs.Ytnjmkbaddeeniaa
