/- Layer 28: the walk of MessageMore. -/
import Derived.Test.YtpfhiimlloeciaaDoorMg6
namespace Go.Proofs.YtpfhiimlloeciaaDoor
open Go.RowKit Go.PlainAid

set_option maxRecDepth 100000 in
set_option maxHeartbeats 6400000 in
theorem more_walk28 (kind : Int) (A : Option Addr) (n c : Nat) (F : Nat → Fd) (nm vl : ByteArray) (nv : Bool) (w : World) (ha : RdFd w A n c F) (hnm : nm.size ≤ 9223372036854775807) (hvl : vl.size ≤ 9223372036854775807) (T : TypeId) (fr : Nat × Nat) (hg : w.heap[2]? = some (.cells barV T fr)) : Calls Tryd.prog 8 #[.int .i64 kind, .slice A n c, .agg #[.string nm, .string vl, .bool nv]] w (Yes w) := by
  have R0 := hide (heap_alloc_new w (.cells #[.string nm, .string vl, .bool nv] 64))
  have al := (Below.refl w.heap.size w).alloc (Nat.le_refl _) (.cells #[.string nm, .string vl, .bool nv] 64)
  have Ha := hide (ha.below al)
  have Hg := hide ((al.block _ (rowLt hg)).trans hg)
  have HB0 := hide al
  clear ha hg al
  go_enter Tryd.func8, Tryd.ntmps8
  go_upto_region 1 with (fail)
  generalize w.alloc (.cells #[.string nm, .string vl, .bool nv] 64) = W0 at *
  go_wp2_with fail
  refine (flarge_any A n c 60 200 F W0 Ha.out).mono ?_
  rintro e w1 ⟨b, rfl, hd, hb⟩
  have B1 := hide (HB0.out.of (drawn_below hd _))
  have A1 := hide (Ha.out.below (drawn_below hd _))
  have G1 := hide (((drawn_below hd W0.heap.size).block _ (rowLt Hg.out)).trans Hg.out)
  have R1 := hide (keepRow R0.out (drawn_below hd _))
  obtain ⟨d0, d1, d2⟩ := row3m R1.out
  by_cases hguard : b = true ∨ ¬ goB nm vl
  · clear hd hb
    cases b with
    | true =>
      clear hguard
      go_wp2_with fail
      refine (alive28 _ T fr G1.out).mono ?_
      rintro e w2 ⟨rfl, hb2⟩
      have HB2 := hide (B1.out.of hb2)
      clear hb2
      go_wp2_with fail
      go_ret
      exact ⟨rfl, HB2.out⟩
    | false =>
      have hno : ¬ goB nm vl := by
        rcases hguard with h | h
        · cases h
        · exact h
      clear hguard
      by_cases g1 : 200 < nm.size
      · have q1 : decide ((200 : Int) < (nm.size : Int)) = true := decide_eq_true (by omega)
        clear hno
        go_wp2_with fail
        refine (alive28 _ T fr G1.out).mono ?_
        rintro e w2 ⟨rfl, hb2⟩
        have HB2 := hide (B1.out.of hb2)
        clear hb2
        go_wp2_with fail
        go_ret
        exact ⟨rfl, HB2.out⟩
      have q1 : decide ((200 : Int) < (nm.size : Int)) = false := decide_eq_false (by omega)
      by_cases g2 : 200 < vl.size
      · have q2 : decide ((200 : Int) < (vl.size : Int)) = true := decide_eq_true (by omega)
        clear hno
        go_wp2_with fail
        refine (alive28 _ T fr G1.out).mono ?_
        rintro e w2 ⟨rfl, hb2⟩
        have HB2 := hide (B1.out.of hb2)
        clear hb2
        go_wp2_with fail
        go_ret
        exact ⟨rfl, HB2.out⟩
      have q2 : decide ((200 : Int) < (vl.size : Int)) = false := decide_eq_false (by omega)
      by_cases g3 : nm.size = 0
      · have q3 : ((nm.size : Int) == 0) = true := beq_iff_eq.2 (by omega)
        have q3' : (nm.size == 0) = true := beq_iff_eq.2 g3
        clear hno
        go_wp2_with fail
        refine (alive28 _ T fr G1.out).mono ?_
        rintro e w2 ⟨rfl, hb2⟩
        have HB2 := hide (B1.out.of hb2)
        clear hb2
        go_wp2_with fail
        go_ret
        exact ⟨rfl, HB2.out⟩
      have q3 : ((nm.size : Int) == 0) = false := beq_eq_false_iff_ne.2 (by omega)
      have q3' : (nm.size == 0) = false := beq_eq_false_iff_ne.2 g3
      have hpos : 0 < nm.size := by omega
      have hpos' : (0 : Int) < (nm.size : Int) := by omega
      have hb0 := get_bt nm 0 hpos
      obtain ⟨ch, hch⟩ : ∃ c, bt nm 0 = c := ⟨_, rfl⟩
      rw [hch] at hb0
      by_cases g4 : ch = 58
      · have q4 : (ch == 58) = true := by simpa using g4
        clear hno
        go_wp2_with fail
        refine (alive28 _ T fr G1.out).mono ?_
        rintro e w2 ⟨rfl, hb2⟩
        have HB2 := hide (B1.out.of hb2)
        clear hb2
        go_wp2_with fail
        go_ret
        exact ⟨rfl, HB2.out⟩
      have q4 : (ch == 58) = false := by simpa using g4
      have g5 : nm = CL := by
        refine Classical.byContradiction fun h => hno ⟨by omega, by omega, hpos, by rw [hch]; exact g4, h⟩
      have q5 := cl_yes g5
      clear hno g5
      go_wp2_with fail
      refine (alive28 _ T fr G1.out).mono ?_
      rintro e w2 ⟨rfl, hb2⟩
      have HB2 := hide (B1.out.of hb2)
      clear hb2
      go_wp2_with fail
      go_ret
      exact ⟨rfl, HB2.out⟩
  · obtain rfl : b = false := by cases b with
      | false => rfl
      | true => exact absurd (.inl rfl) hguard
    have hgo : goB nm vl := Classical.byContradiction fun h => hguard (.inr h)
    obtain ⟨h1, h2, h3, h4, h5⟩ := hgo
    have hn := (hb rfl).1
    have Hs : Hid (Sm28 F n) := fun i hi => by have := (hb rfl).2 i hi; omega
    have q1 : decide ((200 : Int) < (nm.size : Int)) = false := decide_eq_false (by omega)
    have q2 : decide ((200 : Int) < (vl.size : Int)) = false := decide_eq_false (by omega)
    have q3 : ((nm.size : Int) == 0) = false := beq_eq_false_iff_ne.2 (by omega)
    have q3' : (nm.size == 0) = false := beq_eq_false_iff_ne.2 (by omega)
    have hpos : 0 < nm.size := h3
    have hpos' : (0 : Int) < (nm.size : Int) := by omega
    have hb0 := get_bt nm 0 hpos
    have HC : Hid (colB nm = false) := decide_eq_false fun h => h4 h.2
    obtain ⟨ch, hch⟩ : ∃ c, bt nm 0 = c := ⟨_, rfl⟩
    rw [hch] at hb0 h4
    clear hch
    have q4 : (ch == 58) = false := by simpa using h4
    have q5 := cl_no h5
    have H5 := hide h5
    have hnm2 : nm.size ≤ 1000 := by omega
    have hvl2 : vl.size ≤ 1000 := by omega
    clear hd hb hguard h1 h2 h4 h5
    go_wp2_with fail
    clear q1 q2 q3 q3' q4 q5 hpos' hb0
    refine (check28 kind A n c F _ A1.out Hs.out T fr G1.out).mono ?_
    rintro e w2 ⟨m, st, N, T', rule, rfl, hr, hb2⟩
    have HR := hide hr
    have al2 := (Below.refl w2.heap.size w2).alloc (Nat.le_refl _) (.cells #[.string m, .int .i64 st, .int .i64 N, .bool T'] 55)
    have B2 := hide ((B1.out.of hb2).of al2)
    have A2 := hide ((A1.out.below hb2).below al2)
    have G2 := hide (((hb2.of al2).block _ (rowLt G1.out)).trans G1.out)
    have R2 := hide (heap_alloc_new w2 (.cells #[.string m, .int .i64 st, .int .i64 N, .bool T'] 55))
    have F2 := hide (keepRow R1.out (hb2.of al2))
    clear hr hb2 al2 A1 G1 B1 d0 d1 d2 R1
    go_upto_region 4 with (fail)
    generalize w2.alloc (.cells #[.string m, .int .i64 st, .int .i64 N, .bool T'] 55) = W at *
    generalize w2.heap.size = p1 at *
    obtain ⟨d0, d1, d2⟩ := row3m F2.out
    obtain ⟨i0, hi, hz0, hz1, hz2⟩ := info_parts field_info28
    have X0 : Hid (OwnV 3 64 W.heap.size (W.alloc (.cells #[] 64)) (.slice (some ⟨W.heap.size, 0, none⟩) 0 0) 0 (fdV F)) := OwnV.lit 3 64 W.heap.size W (fdV F) #[] 0 (Nat.le_refl _) (by simp [maxLen]) rfl
    have X0b : Hid (OwnV 3 64 W.heap.size ((W.alloc (.cells #[] 64)).alloc (.cells #[.string nm, .string vl, .bool nv] 64)) (.slice (some ⟨W.heap.size, 0, none⟩) 0 0) 0 (fdV F)) := X0.out.alloc _
    have X0c : Hid (OwnV 3 64 W.heap.size ((W.alloc (.cells #[.string nm, .string vl, .bool nv] 64)).alloc (.cells #[] 64)) (.slice (some ⟨W.heap.size + 1, 0, none⟩) 0 0) 0 (fdV F)) := by
      have h := OwnV.lit 3 64 W.heap.size (W.alloc (.cells #[.string nm, .string vl, .bool nv] 64)) (fdV F) #[] 0 (by simp) (by simp [maxLen]) rfl
      have e : (W.alloc (.cells #[.string nm, .string vl, .bool nv] 64)).heap.size = W.heap.size + 1 := by simp
      rw [e] at h
      exact h
    have Y1b : Hid (RdV 3 ((W.alloc (.cells #[] 64)).alloc (.cells #[.string nm, .string vl, .bool nv] 64)) (some ⟨W.heap.size + 1, 0, none⟩) 1 1 (fdV fun _ => ⟨nm, vl, nv⟩)) := by
      have h := rdV_oneFd (W.alloc (.cells #[] 64)) ⟨nm, vl, nv⟩ 64
      have e : (W.alloc (.cells #[] 64)).heap.size = W.heap.size + 1 := by simp
      rw [e] at h
      exact h
    have Y1c : Hid (RdV 3 ((W.alloc (.cells #[.string nm, .string vl, .bool nv] 64)).alloc (.cells #[] 64)) (some ⟨W.heap.size, 0, none⟩) 1 1 (fdV fun _ => ⟨nm, vl, nv⟩)) := (rdV_oneFd W ⟨nm, vl, nv⟩ 64).belowT ((Below.refl _ _).alloc (Nat.le_refl _) _)
    have HrV := hide (rdV_of_rdFd A2.out)
    go_region_held3 (fun V => V.cell? ⟨w.heap.size, 0, none⟩ = some (.string nm) ∧ V.cell? ⟨w.heap.size, 1, none⟩ = some (.string vl) ∧ V.cell? ⟨w.heap.size, 2, none⟩ = some (.bool nv))
      ((first | exact ⟨d0, d1, d2⟩ | exact S8.out | exact S9.out | (go_keep; done)))
      ((first
        | (refine step_appM rfl (.tmp 52) (.tmp 53) _ rfl 3 i0 _ 40 Tryd.underlying50 hi hz0 hz1 hz2 rfl (by omega) W.heap.size _ 0 (fdV F) rfl (by first | exact X0.out | exact X0b.out | exact X0c.out) _ n c (fdV F) rfl (HrV.out.belowT (by go_grown)) (fdV_one _ _) (by simp only [maxLen]; omega) (by omega) (by first | exact Nat.le_refl _ | (simp; done) | (simp; omega)) ?_; intro v8 w8 hown8 hg8 hob8; rw [Nat.zero_add] at hown8; obtain ⟨A8, c8, rfl, _, _⟩ := hown8.rd; have E8 : Below W.heap.size W w8 := Below.grown (by go_grown) hg8 (by first | exact Nat.le_refl _ | (simp; done) | (simp; omega)) (fun j e => by cases e; first | exact Nat.le_refl _ | exact Nat.le_succ _); have Hob8 : ∀ j, (Value.slice A8 n c8).ownBlock = some j → W.heap.size ≤ j := (fun j e => by rcases hob8 with h | h <;> (rw [h] at e; cases e) <;> first | exact Nat.le_refl _ | exact Nat.le_succ _ | (simp; done) | (simp; omega)); have S8 := hide (And.intro ((E8.cell (World.block_lt_of_cell? W _ d0)).trans d0) (And.intro ((E8.cell (World.block_lt_of_cell? W _ d1)).trans d1) ((E8.cell (World.block_lt_of_cell? W _ d2)).trans d2))))
        | (refine step_appM rfl (.tmp 54) (.tmp 56) _ rfl 3 i0 _ 40 Tryd.underlying50 hi hz0 hz1 hz2 rfl (by omega) W.heap.size (.slice A8 n c8) n (catV (0 * 3) (fdV F) (fdV F)) rfl (by first | exact hown8 | exact hown8.alloc _) _ 1 1 (fdV fun _ => ⟨nm, vl, nv⟩) rfl (by first | exact rdV_oneFd w8 ⟨nm, vl, nv⟩ _ | exact Y1b.out.at28 (fun a ha => by cases ha; exact hg8.block _ (by simp) (fun e => by first | (have e2 : W.heap.size + 1 = W.heap.size := Option.some.inj e; omega) | (have e2 : W.heap.size = W.heap.size + 1 := Option.some.inj e; omega))) | exact Y1c.out.at28 (fun a ha => by cases ha; exact hg8.block _ (by first | (simp; done) | (simp; omega)) (fun e => by first | (have e2 : W.heap.size + 1 = W.heap.size := Option.some.inj e; omega) | (have e2 : W.heap.size = W.heap.size + 1 := Option.some.inj e; omega)))) (fdV_one _ _) (by simp only [maxLen]; omega) (by omega) (by have := E8.size; first | exact this | (simp; omega)) ?_; intro v9 w9 hown9 hg9 hob9; obtain ⟨A9, c9, rfl, _, _⟩ := hown9.rd; have E9 : Below W.heap.size W w9 := Below.grown (by first | exact E8 | exact E8.alloc E8.size _) hg9 (by have := E8.size; first | exact this | (simp; omega)) (fun j e => Hob8 j e); have S9 := hide (And.intro ((E9.cell (World.block_lt_of_cell? W _ d0)).trans d0) (And.intro ((E9.cell (World.block_lt_of_cell? W _ d1)).trans d1) ((E9.cell (World.block_lt_of_cell? W _ d2)).trans d2))))))
    all_goals
      have A9r : Hid (RdFd w9 A9 (n + 1) c9 (addF F n ⟨nm, vl, nv⟩)) := by
        have h := hown9.rdS2
        have e : ∀ i, i < (n + 1) * 3 → catV (n * 3) (catV (0 * 3) (fdV F) (fdV F)) (fdV fun _ => ⟨nm, vl, nv⟩) i = fdV (addF F n ⟨nm, vl, nv⟩) i := fun i _ => by
          rw [show catV (0 * 3) (fdV F) (fdV F) = fdV F by funext i; unfold catV; simp, fdV_cat]
          rfl
        refine rdFd_of_rdV ⟨h.1, h.2.1, h.2.2.1, fun hn => ?_⟩ fun i hi => ?_
        · obtain ⟨b, off, hA, hc⟩ := h.2.2.2 hn
          exact ⟨b, off, hA, fun i hi => by rw [hc i hi, e i hi]⟩
        · by_cases hin : i < n
          · rw [addF_old hin]; exact A2.out.2.2.2.2 i hin
          · rw [addF_new hin]; simp only [maxLen]; omega
      have Hs9 : Hid (Sm28 (addF F n ⟨nm, vl, nv⟩) (n + 1)) := fun i hi => by
        by_cases hin : i < n
        · rw [addF_old hin]; exact Hs.out i hin
        · rw [addF_new hin]; exact ⟨hnm2, hvl2⟩
      have B9 := hide (B2.out.trans ⟨E9.os, E9.tape, E9.output, E9.size, fun i hi => E9.block i (Nat.lt_of_lt_of_le hi B2.out.size)⟩)
      have G9 := hide ((E9.block _ (rowLt G2.out)).trans G2.out)
      have R9 := hide (keepRow R2.out E9)
      have F9 := hide (keepRow F2.out E9)
      clear E9 E8 hown9 hown8 hg8 hg9 hob8 hob9 S9 S8 Hob8 X0 X0b X0c Y1b Y1c HrV d0 d1 d2 A2 B2 G2 R2 F2
      go_wp2_with fail
      refine (check28 kind A9 (n + 1) c9 (addF F n ⟨nm, vl, nv⟩) _ A9r.out Hs9.out T fr G9.out).mono ?_
      rintro e w3 ⟨m2, st2, N2, T2, rule2, rfl, hr, hb3⟩
      have HK := hide hr
      have al3 := (Below.refl w3.heap.size w3).alloc (Nat.le_refl _) (.cells #[.string m2, .int .i64 st2, .int .i64 N2, .bool T2] 55)
      have B3 := hide ((B9.out.of hb3).of al3)
      have G3 := hide (((hb3.of al3).block _ (rowLt G9.out)).trans G9.out)
      have R3 := hide (keepRow R9.out (hb3.of al3))
      have F3 := hide (keepRow F9.out (hb3.of al3))
      have Q3 := hide (heap_alloc_new w3 (.cells #[.string m2, .int .i64 st2, .int .i64 N2, .bool T2] 55))
      clear hr hb3 al3 A9r Hs9 G9 R9 F9 B9
      obtain ⟨d0, d1, d2⟩ := row3m F3.out
      go_upto_region 6 with (fail)
      generalize w3.alloc (.cells #[.string m2, .int .i64 st2, .int .i64 N2, .bool T2] 55) = W3 at *
      generalize w3.heap.size = p3 at *
      have A4 := hide (rdFd_of_rdV (rdV_oneFd W3 ⟨nm, vl, nv⟩ 64) (fun i _ => by show nm.size ≤ maxLen ∧ vl.size ≤ maxLen; simp only [maxLen]; omega))
      have Hs4 : Hid (Sm28 (fun _ => (⟨nm, vl, nv⟩ : Fd)) 1) := fun i _ => ⟨hnm2, hvl2⟩
      have al4 := (Below.refl W3.heap.size W3).alloc (Nat.le_refl _) (.cells #[.string nm, .string vl, .bool nv] 64)
      go_wp2_with fail
      refine (rcheck28 2 _ 1 1 (fun _ => ⟨nm, vl, nv⟩) _ A4.out Hs4.out (by omega)).mono ?_
      rintro e w4 ⟨m3, st3, N3, T3, own, rfl, hr, hb4⟩
      have HM := hide (more_r HC.out H5.out HR.out HK.out hr)
      have al5 := (Below.refl w4.heap.size w4).alloc (Nat.le_refl _) (.cells #[.string m3, .int .i64 st3, .int .i64 N3, .bool T3] 59)
      have B4 := hide (B3.out.of (al4.of (hb4.of al5)))
      have G4 := hide (((al4.of (hb4.of al5)).block _ (rowLt G3.out)).trans G3.out)
      have R4 := hide (keepRow R3.out (al4.of (hb4.of al5)))
      have Q4 := hide (keepRow Q3.out (al4.of (hb4.of al5)))
      clear hr hb4 al4 al5 A4 Hs4 HR HK B3 G3 R3 Q3 F3 d0 d1 d2
      obtain ⟨c0, c1, c2, c3⟩ := row4m R4.out
      obtain ⟨d0, d1, d2, d3⟩ := row4m Q4.out
      have e0 := chk_str m
      have e3 : (T' == T') = true := by simp
      have ez : ((⟨#[]⟩ : ByteArray).toList == (⟨#[]⟩ : ByteArray).toList) = true := chk_str _
      rcases HM.out with ⟨rfl, rfl, rfl, rfl, rfl, rfl⟩ | ⟨o1, o2, o3⟩
      · by_cases hr0 : rule2 = 0
        · have hr1 : (rule2 != 0) = false := by simpa using hr0
          have hr2 : (rule2 == 0) = true := by simpa using hr0
          clear HM hr0
          go_wp2_with fail
          refine (alive28 _ T fr G4.out).mono ?_
          rintro e w5 ⟨rfl, hb5⟩
          have B5 := hide (B4.out.of hb5)
          clear hb5
          go_wp2_with fail
          go_ret
          exact ⟨rfl, B5.out⟩
        · have hr1 : (rule2 != 0) = true := by simpa using hr0
          clear HM hr0
          go_wp2_with fail
          refine (alive28 _ T fr G4.out).mono ?_
          rintro e w5 ⟨rfl, hb5⟩
          have B5 := hide (B4.out.of hb5)
          clear hb5
          go_wp2_with fail
          go_ret
          exact ⟨rfl, B5.out⟩
      · have t1 : (own != 0) = true := by simpa using o1
        have t2 : (rule2 != 0) = true := by simpa using o2
        by_cases hr0 : rule = 0
        · obtain ⟨rfl, rfl, rfl, rfl, rfl⟩ := o3 hr0
          have hr1 : (rule != 0) = false := by simpa using hr0
          clear HM hr0 o1 o2 o3
          go_wp2_with fail
          refine (alive28 _ T fr G4.out).mono ?_
          rintro e w5 ⟨rfl, hb5⟩
          have B5 := hide (B4.out.of hb5)
          clear hb5
          go_wp2_with fail
          go_ret
          exact ⟨rfl, B5.out⟩
        · have hr1 : (rule != 0) = true := by simpa using hr0
          clear HM hr0 o1 o2 o3
          go_wp2_with fail
          refine (alive28 _ T fr G4.out).mono ?_
          rintro e w5 ⟨rfl, hb5⟩
          have B5 := hide (B4.out.of hb5)
          clear hb5
          go_wp2_with fail
          go_ret
          exact ⟨rfl, B5.out⟩
end Go.Proofs.YtpfhiimlloeciaaDoor
