/- Layer 4: the law of lines. -/
import Derived.Test.YtdlmmjnomeladaaDoorWdL
namespace Go.Proofs.YtdlmmjnomeladaaDoor
set_option linter.unusedVariables false
set_option linter.unusedSimpArgs false
open Go.RowKit Go.PlainAid

set_option maxRecDepth 20000 in
set_option maxHeartbeats 3200000 in
theorem line_walk04 (A : Option Addr) (n c : Nat) (ps : List ByteArray) (w : World) (h : RdV 1 w A n c (stL ps)) (hn : n = ps.length) : Calls Tryd.prog 5 #[.slice A n c] w (Yes4 w) := by
  have hn63 : n ≤ 9223372036854775807 := by have h1 := h.1; have h2 := h.2.1; simp only [maxLen] at h2; omega
  have HR := hide h
  have HN := hide hn
  clear h hn
  by_cases hbig : 40 < n
  · have t1 : decide (40 < n) = true := decide_eq_true hbig
    have t2 : decide ((40 : Int) < (n : Int)) = true := decide_eq_true (by omega)
    clear hbig
    go_enter Tryd.func5, Tryd.ntmps5
    go_wp2_with fail
    refine (alive04 _).mono ?_
    rintro e w1 ⟨rfl, hb1⟩
    have HB := hide hb1
    clear hb1
    go_wp2_with fail
    go_ret
    exact ⟨rfl, HB.out⟩
  have t1 : decide (40 < n) = false := decide_eq_false hbig
  have t2 : decide ((40 : Int) < (n : Int)) = false := decide_eq_false (by omega)
  clear hbig
  have hn40 : n ≤ 40 := by simpa using t1
  go_enter Tryd.func5, Tryd.ntmps5
  go_wp2_with fail
  go_loopw [3] (fun i wr => ∃ k : Nat, k ≤ n ∧ i = .int .i64 k ∧ wr = w ∧ ∀ j (hj : j < k) (hl : j < ps.length), (ps[j]'hl).size ≤ 100) (fun i _ => n - (intOf i).toNat)
  case atStart => exact ⟨0, Nat.zero_le _, rfl, rfl, fun j hj => absurd hj (by omega)⟩
  case round =>
    obtain ⟨k, hk, rfl, rfl, hsz⟩ := hrel
    have HS := hide hsz
    clear hsz
    by_cases hlt : k < n
    · obtain ⟨b, off, rfl, hc⟩ := HR.out.2.2.2 (by omega)
      have hl := hc k (by omega)
      have hkl : Hid (k < ps.length) := by unfold Hid; have := HN.out; omega
      obtain ⟨x, hx⟩ : ∃ x, ps[k]'hkl.out = x := ⟨_, rfl⟩
      have hsx : stL ps k = .string x := by
        have := hkl.out
        simp [stL, List.getD, List.getElem?_eq_getElem this, hx]
      rw [hsx] at hl
      have HX := hide hx
      clear hc hx hsx
      by_cases hb : 100 < x.size
      · have d1 : decide (100 < x.size) = true := decide_eq_true hb
        have d2 : decide ((100 : Int) < (x.size : Int)) = true := decide_eq_true (by omega)
        clear hb
        go_wp2_with fail
        refine (alive04 _).mono ?_
        rintro e w1 ⟨rfl, hb1⟩
        have HB := hide hb1
        clear hb1
        go_wp2_with fail
        go_ret
        exact ⟨rfl, HB.out⟩
      · have d1 : decide (100 < x.size) = false := decide_eq_false hb
        have d2 : decide ((100 : Int) < (x.size : Int)) = false := decide_eq_false (by omega)
        have HS2 : Hid (∀ j (hj : j < k + 1) (hl : j < ps.length), (ps[j]'hl).size ≤ 100) := fun j hj hl => by
          by_cases e : j = k
          · subst e
            rw [HX.out]
            omega
          · exact HS.out j (by omega) hl
        clear hb
        go_wp2_with fail
        exact ⟨⟨k + 1, by omega, by simp, trivial, HS2.out⟩, by simp [intOf]; omega⟩
    · obtain rfl : k = n := by omega
      have hb : Hid (∀ x ∈ ps, x.size ≤ 1000) := fun x hx => by
        obtain ⟨j, hj, rfl⟩ := List.getElem_of_mem hx
        have := HS.out j (by have := HN.out; omega) hj
        omega
      have hb2 : Hid (∀ x ∈ ps, x.size ≤ 100) := fun x hx => by
        obtain ⟨j, hj, rfl⟩ := List.getElem_of_mem hx
        exact HS.out j (by have := HN.out; omega) hj
      go_wp2_with fail
      refine (line04 A k c ps _ HR.out HN.out hb.out (by omega)).mono ?_
      rintro e w1 ⟨t, ok, rfl, hq, hb1⟩
      have HQ := hide hq
      have HB1 := hide hb1
      have HR1 := hide (rdV_below HR.out hb1)
      clear hq hb1
      go_wp2_with fail
      refine (rline04 A k c ps _ HR1.out HN.out hb.out (by omega)).mono ?_
      rintro e w2 ⟨t2, ok2, rfl, hq2, hb2'⟩
      obtain ⟨rfl, rfl⟩ := HQ.out.same hq2
      have HB2 := hide (HB1.out.of hb2')
      have HR2 := hide (rdV_below HR1.out hb2')
      have q1 : (t.toList != t.toList) = false := by simp
      have q1' : (t.toList == t.toList) = true := beq_self_eq_true _
      have q2 : (ok != ok) = false := by simp
      have q2' : (ok == ok) = true := beq_self_eq_true _
      have hts : t.size ≤ 1000000 := by
        rcases HQ.out with ⟨_, _, h⟩ | ⟨_, h, _⟩
        · rw [h]
          have h1 := jn_bd hb.out ps.length
          rw [List.take_length] at h1
          refine Nat.le_trans h1 ?_
          have := HN.out
          omega
        · rw [h]; show 0 ≤ _; omega
      clear hq2 hb2'
      go_wp2_with fail
      refine (split04 t _ hts).mono ?_
      rintro e w3 ⟨A3, k3, c3, ps3, ok3, rfl, hk3, hr3, hq3, hb3⟩
      have HR3 := hide hr3
      have HB3 := hide (HB2.out.of hb3)
      have HR23 := hide (rdV_below HR2.out hb3)
      have hcase : ok = false ∨ (ok = true ∧ ok3 = true ∧ ps3 = ps) := by
        rcases HQ.out with ⟨h1, h2, h3⟩ | ⟨h, _, _⟩
        · refine .inr ⟨h1, ?_⟩
          by_cases h0 : ps = []
          · subst h0
            have ht : t.size = 0 := by rw [h3]; rfl
            rcases hq3 with ⟨h4, ⟨_, h5⟩ | ⟨h5, _⟩⟩ | ⟨_, _, h5, _⟩
            · exact ⟨h4, h5⟩
            · omega
            · omega
          · have hno : ∀ x ∈ ps, (32 : UInt8) ∉ x.data.toList := fun x hx hm => by
              have := h2 x hx
              unfold wdB spL at this
              simp only [Bool.and_eq_true, Bool.not_eq_true'] at this
              have h7 : (x.data.toList.any spC) = true := List.any_eq_true.2 ⟨32, hm, rfl⟩
              rw [h7] at this
              exact absurd this.2 (by decide)
            have hpc : pcB 32 t = ps := by rw [h3, pcB_join h0 hno]
            have hpos : t.size ≠ 0 := fun e => by
              have : t = ⟨#[]⟩ := ByteArray.ext (Array.eq_empty_of_size_eq_zero e)
              rw [this] at hpc
              have h8 : pcB 32 ⟨#[]⟩ = [⟨#[]⟩] := rfl
              rw [h8] at hpc
              have := h2 ⟨#[]⟩ (by rw [← hpc]; simp)
              exact absurd this (by decide)
            rcases hq3 with ⟨h4, ⟨h5, _⟩ | ⟨_, h5, _⟩⟩ | ⟨_, _, _, x, hx, h6⟩
            · exact absurd h5 hpos
            · exact ⟨h4, by rw [h5, hpc]⟩
            · rw [hpc] at hx
              rw [h2 x hx] at h6
              cases h6
        · exact .inl h
      clear hr3 hb3 hq3 HQ
      rcases hcase with rfl | ⟨rfl, rfl, rfl⟩
      · go_wp2_with fail
        refine (alive04 _).mono ?_
        rintro e w9 ⟨rfl, hb9⟩
        have HB9 := hide (HB3.out.of hb9)
        clear hb9
        go_wp2_with fail
        go_ret
        exact ⟨rfl, HB9.out⟩
      · obtain rfl : k = k3 := by rw [hk3, HN.out]
        clear hk3
        go_wp2_with fail
        refine (strs_same04 A3 A _ c3 c ps3 _ HR3.out HR23.out).mono ?_
        rintro e w4 ⟨rfl, hd4⟩
        have HB4 := hide (HB3.out.trans (drawn_below hd4 _))
        clear hd4
        go_wp2_with fail
        refine (alive04 _).mono ?_
        rintro e w9 ⟨rfl, hb9⟩
        have HB9 := hide (HB4.out.of hb9)
        clear hb9
        go_wp2_with fail
        go_ret
        exact ⟨rfl, HB9.out⟩
end Go.Proofs.YtdlmmjnomeladaaDoor
