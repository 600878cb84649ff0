/- Layer 10: the walk of ChunksJoins. -/
import Derived.Test.YtnjmkbaddeeniaaJn5
import Derived.Test.YtnjmkbaddeeniaaCk3
namespace Go.Proofs.Ytnjmkbaddeeniaa
open Go.RowKit

theorem sumC_bound (F : Nat → Ck) (m B : Nat) (h : ∀ i, i < m → (F i).n ≤ B) : sumC F m ≤ m * B := by
  induction m with
  | zero => simp [sumC]
  | succ m ih =>
    have h1 := ih (fun i hi => h i (by omega))
    have h2 := h m (by omega)
    show sumC F m + (F m).n ≤ (m + 1) * B
    rw [Nat.add_mul]
    omega
set_option maxHeartbeats 3200000 in
theorem joins_walk (A : Option Addr) (n c : Nat) (F : Nat → Ck) (w : World) (ha : RdC w A n c F) :
    Calls Try.prog 3 #[.slice A n c] w (Yes w) := by
  have Ha := hide ha
  clear ha
  go_enter Try.func3, Try.ntmps3
  go_wp2_with fail
  refine (rlarge_any A n c F 3000 _ Ha.out (by omega)).mono ?_
  rintro e w1 ⟨b, rfl, hd, hb⟩
  have HB1 := hide (drawn_below hd w.heap.size)
  have Ha1 := hide (Ha.out.below (drawn_below hd _))
  cases b with
  | true =>
    clear hd hb
    go_wp2_with fail
    refine (alive10 _).mono ?_
    rintro e w2 ⟨rfl, hb2⟩
    have HB2 := hide (HB1.out.of hb2)
    clear hb2
    go_wp2_with fail
    go_ret
    exact ⟨rfl, HB2.out⟩
  | false =>
    obtain ⟨h200, hs⟩ := hb rfl
    have H200 := hide h200
    have Hs := hide hs
    clear hd hb h200 hs
    go_wp2_with fail
    refine (join_any A n c F _ Ha1.out (by have := H200.out; omega) (by have := Hs.out; omega)).mono ?_
    rintro e w2 ⟨v2, V2, rfl, hP2, hb2⟩
    have HB2 := hide (HB1.out.of hb2)
    have Ha2 := hide (Ha1.out.below hb2)
    obtain ⟨A2, c2, F2, rfl, hr2, hf2⟩ := hP2.pcs.rd (jn_byt F n (fun i hi => (Ha1.out.2.2.2.2 i hi).2) n (Nat.le_refl _))
    have Hr2 := hide hr2
    have Hf2 := hide hf2
    clear hP2 hb2 hr2 hf2 Ha1 HB1
    go_wp2_with fail
    refine (rjoin_any A n c F _ Ha2.out (by have := H200.out; omega) (by have := Hs.out; omega)).mono ?_
    rintro e w3 ⟨v3, V3, rfl, hP3, hb3⟩
    have HB3 := hide (HB2.out.of hb3)
    have Hr23 := hide (Hr2.out.below hb3)
    obtain ⟨A3, c3, F3, rfl, hr3, hf3⟩ := hP3.pcs.rd (jn_byt F n (fun i hi => (Ha2.out.2.2.2.2 i hi).2) n (Nat.le_refl _))
    have Hr3 := hide hr3
    have Hf3 := hide hf3
    clear hP3 hb3 hr3 hf3 HB2 Hr2
    go_wp2_with fail
    refine (rcsame_yes _ _ _ _ _ F2 F3 _ Hr23.out Hr3.out ?_).mono ?_
    · intro i hi
      obtain ⟨a1, a2, a3⟩ := Hf2.out i hi
      obtain ⟨b1, b2, b3⟩ := Hf3.out i hi
      exact ⟨a1.trans b1.symm, a2.trans b2.symm, fun j _ => by rw [a3, b3]⟩
    rintro e w4 ⟨rfl, hd4⟩
    have HB4 := hide (HB3.out.trans (drawn_below hd4 _))
    have Hr4 := hide (Hr23.out.below (drawn_below hd4 _))
    clear hd4 HB3 Hr23 Hr3 Hf3
    have Hj := hide (jn_le F n)
    have Hm : Hid ((jn F n).m ≤ 200) := by have := Hj.out.1; have := H200.out; show _ ≤ _; omega
    have Hsum : Hid (sumC F2 (jn F n).m ≤ 1000000) := by
      have h1 := sumC_bound F2 (jn F n).m 3000 (fun i hi => by
        have h1 := Hj.out.2 i hi
        have h2 := Hs.out
        have h3 := (Hf2.out i hi).2.1
        omega)
      have h2 := Nat.mul_le_mul_right 3000 Hm.out
      show _ ≤ _
      omega
    go_wp2_with fail
    refine (join_any A2 _ c2 F2 _ Hr4.out (by have := Hm.out; omega) Hsum.out).mono ?_
    rintro e w5 ⟨v5, V5, rfl, hP5, hb5⟩
    have HB5 := hide (HB4.out.of hb5)
    have Hr5 := hide (Hr4.out.below hb5)
    have Hag := hide (jn_again (jn F n) (jn_ok F n) F2 (fun i hi => by
      obtain ⟨a1, a2, a3⟩ := Hf2.out i hi
      exact ⟨a1, a2, fun j _ => by rw [a3]⟩) _ (Nat.le_refl _))
    obtain ⟨A5, c5, F5, rfl, hr5, hf5⟩ := hP5.pcs.rd (jn_byt F2 (jn F n).m (fun i hi => (Hr4.out.2.2.2.2 i hi).2) _ (Nat.le_refl _))
    rw [Hag.out.1] at hr5 hf5 ⊢
    have Hr55 := hide hr5
    have Hf5 := hide hf5
    clear hP5 hb5 hr5 hf5 HB4 Hr4
    go_wp2_with fail
    refine (rcsame_yes _ _ _ _ _ F5 F2 _ Hr55.out Hr5.out ?_).mono ?_
    · intro i hi
      obtain ⟨a1, a2, a3⟩ := Hf5.out i hi
      obtain ⟨b1, b2, b3⟩ := Hf2.out i hi
      obtain ⟨g1, g2, g3⟩ := Hag.out.2 i hi
      refine ⟨(a1.trans g1).trans b1.symm, (a2.trans g2).trans b2.symm, fun j hj => ?_⟩
      rw [a3, b3]
      exact g3 j (by omega)
    rintro e w6 ⟨rfl, hd6⟩
    have HB6 := hide (HB5.out.trans (drawn_below hd6 _))
    clear hd6
    go_wp2_with fail
    refine (alive10 _).mono ?_
    rintro e w8 ⟨rfl, hb8⟩
    have HB8 := hide (HB6.out.of hb8)
    clear hb8
    go_wp2_with fail
    go_ret
    exact ⟨rfl, HB8.out⟩
end Go.Proofs.Ytnjmkbaddeeniaa
