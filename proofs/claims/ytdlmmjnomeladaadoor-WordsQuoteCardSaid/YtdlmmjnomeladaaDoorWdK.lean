/- Layer 4: the laws on digits and quoted words. -/
import Derived.Test.YtdlmmjnomeladaaDoorN7
namespace Go.Proofs.YtdlmmjnomeladaaDoor
set_option linter.unusedVariables false
set_option linter.unusedSimpArgs false
open Go Go.RowKit Go.PlainAid

theorem bsame_yes (A C : Option Addr) (n c d : Nat) (f : Nat → Int) (w : World) (ha : Rd .u8 w A n c f) (hb : Rd .u8 w C n d f) :
    Calls Tryd.prog 22 #[.slice A n c, .slice C n d] w fun e w' => e = .returned (.bool true) ∧ Drawn w w' := by
  have h := rsame_any A C n n c d f f w ha hb
  rw [sameB_yes rfl (fun _ _ => rfl)] at h
  exact h
/-- the bytes of a row, as a list -/
def lstB (n : Nat) (f : Nat → Int) : List UInt8 := (List.range n).map fun i => UInt8.ofNat (f i).toNat
theorem lstB_len (n : Nat) (f : Nat → Int) : n = (lstB n f).length := by simp [lstB]
theorem lstB_at {n : Nat} {f : Nat → Int} (hb : Byt n f) (i : Nat) (h : i < (lstB n f).length) : f i = ((lstB n f)[i].toNat : Int) := by
  have hi : i < n := by rw [← lstB_len] at h; exact h
  have := hb i hi
  simp [lstB]
  omega
theorem lst_cong {r : List UInt8} {f g : Nat → Int} (hf : ∀ i (h : i < r.length), f i = (r[i].toNat : Int)) (hg : ∀ i (h : i < r.length), g i = (r[i].toNat : Int)) : ∀ i, i < r.length → f i = g i := fun i hi => (hf i hi).trans (hg i hi).symm
set_option maxRecDepth 20000 in
set_option maxHeartbeats 3200000 in
theorem hex_walk04 (A : Option Addr) (n c : Nat) (f : Nat → Int) (s : ByteArray) (w : World) (h : Rd .u8 w A n c f) (hb : Byt n f) (hs : s.size ≤ 9223372036854775807) : Calls Tryd.prog 3 #[.slice A n c, .string s] w (Yes4 w) := by
  have hn : n ≤ 9223372036854775807 := by have h1 := h.1; have h2 := h.2.1; simp only [maxLen] at h2; omega
  have HR := hide h
  have HBy := hide hb
  clear h hb
  by_cases hbig : 300 < n
  · have t1 : decide (300 < n) = true := decide_eq_true hbig
    have t2 : decide ((300 : Int) < (n : Int)) = true := decide_eq_true (by omega)
    clear hbig
    go_enter Tryd.func3, Tryd.ntmps3
    go_wp2_with fail
    refine (alive04 _).mono ?_
    rintro e w1 ⟨rfl, hb1⟩
    have HB := hide hb1
    clear hb1
    go_wp2_with fail
    go_ret
    exact ⟨rfl, HB.out⟩
  have t1 : decide (300 < n) = false := decide_eq_false hbig
  have t2 : decide ((300 : Int) < (n : Int)) = false := decide_eq_false (by omega)
  by_cases hbig2 : 300 < s.size
  · have t3 : decide (300 < s.size) = true := decide_eq_true hbig2
    have t4 : decide ((300 : Int) < (s.size : Int)) = true := decide_eq_true (by omega)
    clear hbig hbig2
    go_enter Tryd.func3, Tryd.ntmps3
    go_wp2_with fail
    refine (alive04 _).mono ?_
    rintro e w1 ⟨rfl, hb1⟩
    have HB := hide hb1
    clear hb1
    go_wp2_with fail
    go_ret
    exact ⟨rfl, HB.out⟩
  have t3 : decide (300 < s.size) = false := decide_eq_false hbig2
  have t4 : decide ((300 : Int) < (s.size : Int)) = false := decide_eq_false (by omega)
  have h1 := hide (hex04 A n c f (lstB n f) w HR.out (lstB_len n f) (lstB_at HBy.out) (by omega))
  have HL := hide (fun (W : World) (hr : Rd .u8 W A n c f) => rhex04 A n c f (lstB n f) W hr (lstB_len n f) (lstB_at HBy.out) (by omega))
  have HU := hide (fun W => unhex04 ⟨(hxL (lstB n f)).toArray⟩ W (by rw [sz_arr, hxL_len, ← lstB_len]; omega))
  have HJ : Hid (∀ r ok, UnhR (hxL (lstB n f)) r ok → r = lstB n f ∧ ok = true) := fun r ok h => h.own
  have HF : Hid (∀ i (h : i < (lstB n f).length), f i = ((lstB n f)[i].toNat : Int)) := lstB_at HBy.out
  have HN := hide (lstB_len n f)
  have e0 : ((⟨(hxL (lstB n f)).toArray⟩ : ByteArray)).data.toList = hxL (lstB n f) := by simp
  rw [e0] at HU
  obtain ⟨t, ht⟩ : ∃ t : ByteArray, ⟨(hxL (lstB n f)).toArray⟩ = t := ⟨_, rfl⟩
  rw [ht] at h1 HL HU
  have Hs : Hid (s.size ≤ 300) := by unfold Hid; omega
  clear ht e0 hbig hbig2
  go_enter Tryd.func3, Tryd.ntmps3
  go_wp2_with fail
  refine h1.out.mono ?_
  rintro e w1 ⟨rfl, hb1⟩
  have HB1 := hide hb1
  clear hb1
  go_wp2_with fail
  refine (HU.out _).mono ?_
  rintro e w2 ⟨A2, k2, c2, g2, r2, ok2, rfl, hk2, hg2, hr2, hq2, hb2⟩
  obtain ⟨rfl, rfl⟩ := HJ.out _ _ hq2
  rw [← HN.out] at hk2
  obtain rfl := hk2
  have HR2 := hide (hr2.congr (g := f) (fun i hi => lst_cong hg2 HF.out i (by rw [← HN.out]; exact hi)))
  have HB2 := hide (HB1.out.of hb2)
  clear hb2 hr2 hg2 hq2
  go_wp2_with fail
  refine (unhex04 s _ (by have := Hs.out; omega)).mono ?_
  rintro e w3 ⟨A3, k3, c3, g3, r3, ok3, rfl, hk3, hg3, hr3, hq3, hb3⟩
  have HQ3 := hide hq3
  have HG3 := hide hg3
  have HK3 := hide hk3
  have HR3 := hide hr3
  have HR32 := hide (HR2.out.below hb3)
  have HB3 := hide (HB2.out.of hb3)
  clear hb3 hr3 hq3 hg3 hk3
  go_wp2_with fail
  refine (runhex04 s _ (by have := Hs.out; omega)).mono ?_
  rintro e w4 ⟨A4, k4, c4, g4, r4, ok4, rfl, hk4, hg4, hr4, hq4, hb4⟩
  obtain ⟨rfl, rfl⟩ := HQ3.out.same hq4
  obtain rfl : k3 = k4 := by rw [hk4, HK3.out]
  have HR4 := hide (hr4.congr (g := g3) (fun i hi => lst_cong hg4 HG3.out i (by rw [← HK3.out]; exact hi)))
  have HR43 := hide (HR3.out.below hb4)
  have HR42 := hide (HR32.out.below hb4)
  have HB4 := hide (HB3.out.of hb4)
  have HW4 := hide (HR.out.below HB4.out)
  clear hb4 hr4 hq4 hg4 hk4 HR3 HR32
  have q1 : (t.toList == t.toList) = true := beq_self_eq_true _
  have q2 : (ok3 == ok3) = true := beq_self_eq_true _
  go_wp2_with fail
  refine (HL.out _ HW4.out).mono ?_
  rintro e w5 ⟨rfl, hb5⟩
  have HR5 := hide (HR4.out.below hb5)
  have HR53 := hide (HR43.out.below hb5)
  have HR52 := hide (HR42.out.below hb5)
  have HW5 := hide (HW4.out.below hb5)
  have HB5 := hide (HB4.out.of hb5)
  clear hb5
  go_wp2_with fail
  refine (bsame_yes _ _ _ _ _ f _ HR52.out HW5.out).mono ?_
  rintro e w6 ⟨rfl, hd6⟩
  have HR6 := hide (HR5.out.drawn hd6)
  have HR63 := hide (HR53.out.drawn hd6)
  have HB6 := hide (HB5.out.trans (drawn_below hd6 _))
  clear hd6
  go_wp2_with fail
  refine (bsame_yes _ _ _ _ _ g3 _ HR63.out HR6.out).mono ?_
  rintro e w7 ⟨rfl, hd7⟩
  have HB7 := hide (HB6.out.trans (drawn_below hd7 _))
  clear hd7
  go_wp2_with fail
  refine (alive04 _).mono ?_
  rintro e w9 ⟨rfl, hb9⟩
  have HB9 := hide (HB7.out.of hb9)
  clear hb9
  go_wp2_with fail
  go_ret
  exact ⟨rfl, HB9.out⟩
set_option maxRecDepth 20000 in
set_option maxHeartbeats 3200000 in
theorem quote_walk04 (s v : ByteArray) (w : World) (hs : s.size ≤ 9223372036854775807) (hv : v.size ≤ 9223372036854775807) : Calls Tryd.prog 4 #[.string s, .string v] w (Yes4 w) := by
  by_cases hbig : 300 < s.size
  · have t1 : decide (300 < s.size) = true := decide_eq_true hbig
    have t2 : decide ((300 : Int) < (s.size : Int)) = true := decide_eq_true (by omega)
    clear hbig
    go_enter Tryd.func4, Tryd.ntmps4
    go_wp2_with fail
    refine (alive04 _).mono ?_
    rintro e w1 ⟨rfl, hb1⟩
    have HB := hide hb1
    clear hb1
    go_wp2_with fail
    go_ret
    exact ⟨rfl, HB.out⟩
  have t1 : decide (300 < s.size) = false := decide_eq_false hbig
  have t2 : decide ((300 : Int) < (s.size : Int)) = false := decide_eq_false (by omega)
  by_cases hbig2 : 300 < v.size
  · have t3 : decide (300 < v.size) = true := decide_eq_true hbig2
    have t4 : decide ((300 : Int) < (v.size : Int)) = true := decide_eq_true (by omega)
    clear hbig hbig2
    go_enter Tryd.func4, Tryd.ntmps4
    go_wp2_with fail
    refine (alive04 _).mono ?_
    rintro e w1 ⟨rfl, hb1⟩
    have HB := hide hb1
    clear hb1
    go_wp2_with fail
    go_ret
    exact ⟨rfl, HB.out⟩
  have t3 : decide (300 < v.size) = false := decide_eq_false hbig2
  have t4 : decide ((300 : Int) < (v.size : Int)) = false := decide_eq_false (by omega)
  have h1 := hide (fun W => quote04 s W (by omega))
  have h2 := hide (fun W => rquote04 s W (by omega))
  have HZ : Hid ((qS s).size ≤ 1000) := by
    unfold Hid qS qW
    rw [sz_arr]
    have := (qL_len s.data.toList).1
    rw [← Lib.size_eq] at this
    split
    · simp
    · omega
  have HJ : Hid (∀ t ok, UnqR (qS s) t ok → t = s ∧ ok = true) := fun t ok h => h.own
  obtain ⟨q, hq⟩ : ∃ q, qS s = q := ⟨_, rfl⟩
  rw [hq] at h1 h2 HZ HJ
  have Hv : Hid (v.size ≤ 300) := by unfold Hid; omega
  clear hq hbig hbig2
  go_enter Tryd.func4, Tryd.ntmps4
  go_wp2_with fail
  refine (h1.out _).mono ?_
  rintro e w1 ⟨rfl, hb1⟩
  have HB1 := hide hb1
  clear hb1
  go_wp2_with fail
  refine (unquote04 q _ (by have := HZ.out; omega)).mono ?_
  rintro e w2 ⟨t, ok, rfl, hq2, hb2⟩
  obtain ⟨rfl, rfl⟩ := HJ.out _ _ hq2
  have HB2 := hide (HB1.out.of hb2)
  clear hb2 hq2
  go_wp2_with fail
  refine (unquote04 v _ (by have := Hv.out; omega)).mono ?_
  rintro e w3 ⟨u, ok3, rfl, hq3, hb3⟩
  have HQ3 := hide hq3
  have HB3 := hide (HB2.out.of hb3)
  clear hb3 hq3
  go_wp2_with fail
  refine (runquote04 v _ (by have := Hv.out; omega)).mono ?_
  rintro e w4 ⟨u2, ok4, rfl, hq4, hb4⟩
  obtain ⟨rfl, rfl⟩ := HQ3.out.same hq4
  have HB4 := hide (HB3.out.of hb4)
  clear hb4 hq4
  have q1 : (q.toList == q.toList) = true := beq_self_eq_true _
  have q2 : (ok3 == ok3) = true := beq_self_eq_true _
  have q3 : (t.toList == t.toList) = true := beq_self_eq_true _
  have q4 : (u.toList == u.toList) = true := beq_self_eq_true _
  go_wp2_with fail
  refine (h2.out _).mono ?_
  rintro e w5 ⟨rfl, hb5⟩
  have HB5 := hide (HB4.out.of hb5)
  clear hb5
  go_wp2_with fail
  refine (alive04 _).mono ?_
  rintro e w9 ⟨rfl, hb9⟩
  have HB9 := hide (HB5.out.of hb9)
  clear hb9
  go_wp2_with fail
  go_ret
  exact ⟨rfl, HB9.out⟩
end Go.Proofs.YtdlmmjnomeladaaDoor
