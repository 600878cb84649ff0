/- Layer 28: the document's Check. -/
import Derived.Test.YtpfhiimlloeciaaDoorMg3
namespace Go.Proofs.YtpfhiimlloeciaaDoor
open Go.RowKit Go.PlainAid

set_option maxRecDepth 100000 in
set_option maxHeartbeats 6400000 in
theorem rcheck28 (kind : Int) (A : Option Addr) (n c : Nat) (F : Nat → Fd) (w : World) (ha : RdFd w A n c F) (hs : Sm28 F n) (hn : n ≤ 1000) : Calls Tryd.prog 33 #[.int .i64 kind, .slice A n c] w (ChkE kind F n w) := by
  have R0 := hide (heap_alloc_new w (.cells #[.string ⟨#[]⟩, .int .i64 0, .int .i64 0, .bool false] 59))
  have E0 := (Below.refl w.heap.size w).alloc (Nat.le_refl _) (.cells #[.string ⟨#[]⟩, .int .i64 0, .int .i64 0, .bool false] 59)
  have A0 := hide (ha.below E0)
  have HE0 := hide E0
  have Hs := hide hs
  have Hlow : Hid (0 < n → ∀ a, A = some a → a.block < w.heap.size) := fun h0 a hA => by
    obtain ⟨b, off, hA', hc⟩ := ha.2.2.2.1 h0
    rw [hA] at hA'
    cases hA'
    exact World.block_lt_of_cell? w _ (hc 0 h0).1
  clear ha E0 hs
  go_enter Tryd.func33, Tryd.ntmps33
  go_upto_region 1 with (fail)
  have hsz : w.heap.size < (w.alloc (.cells #[.string ⟨#[]⟩, .int .i64 0, .int .i64 0, .bool false] 59)).heap.size := by simp
  generalize w.alloc (.cells #[.string ⟨#[]⟩, .int .i64 0, .int .i64 0, .bool false] 59) = W0 at *
  go_wp2_with fail
  refine (rfields28 A n c F _ A0.out Hs.out).mono ?_
  obtain ⟨b1, hb1⟩ : ∃ b, b = anyB wrgB F n := ⟨_, rfl⟩
  rw [← hb1]
  have B1 := hide hb1
  clear hb1
  rintro e w1 ⟨rfl, hw1⟩
  have A1 := hide (A0.out.below hw1)
  have R1 := hide (keepRow R0.out hw1)
  have E1 := hide (HE0.out.of hw1)
  have hsz1 : w.heap.size < w1.heap.size := Nat.lt_of_lt_of_le hsz hw1.size
  clear hw1 A0 R0 HE0 hsz
  cases b1 with
  | true =>
    have HR : Hid (ChkR kind F n ⟨#[]⟩ 0 0 false 28) := .inl ⟨B1.out.symm, rfl, rfl, rfl, rfl, rfl⟩
    obtain ⟨⟨c0, f0⟩, ⟨c1, f1⟩, ⟨c2, f2⟩, ⟨c3, f3⟩, r5⟩ := store4m R1.out (.string ⟨#[]⟩) (.int .i64 0) (.int .i64 0) (.bool false)
    have RR := hide r5
    have EE := hide (below4m E1.out (p := w.heap.size) (Nat.le_refl _) (.string ⟨#[]⟩) (.int .i64 0) (.int .i64 0) (.bool false))
    clear r5
    go_wp2_with fail
    obtain ⟨d0, d1, d2, d3⟩ := row4m RR.out
    refine bodyPost_ret (v := .tuple #[.agg #[.string ⟨#[]⟩, .int .i64 0, .int .i64 0, .bool false], .int .i64 28]) ?_ rfl ⟨_, _, _, _, _, rfl, HR.out, EE.out⟩
    rw [results_cell_tmp rfl]
    go_simp
  | false =>
    go_wp2_with fail
    refine (rbarred28 A n c F _ A1.out Hs.out).mono ?_
    obtain ⟨b2, hb2⟩ : ∃ b, b = anyB brdB F n := ⟨_, rfl⟩
    rw [← hb2]
    have B2 := hide hb2
    clear hb2
    rintro e w2 ⟨rfl, hw2⟩
    cases b2 with
    | true =>
      have R2 := hide (keepRow R1.out hw2)
      have E2 := hide (E1.out.of hw2)
      clear hw2 A1 R1 E1
      have HR : Hid (ChkR kind F n ⟨#[]⟩ 0 0 false 29) := .inr (.inl ⟨B1.out.symm, B2.out.symm, rfl, rfl, rfl, rfl, rfl⟩)
      obtain ⟨⟨c0, f0⟩, ⟨c1, f1⟩, ⟨c2, f2⟩, ⟨c3, f3⟩, r5⟩ := store4m R2.out (.string ⟨#[]⟩) (.int .i64 0) (.int .i64 0) (.bool false)
      have RR := hide r5
      have EE := hide (below4m E2.out (p := w.heap.size) (Nat.le_refl _) (.string ⟨#[]⟩) (.int .i64 0) (.int .i64 0) (.bool false))
      clear r5
      go_wp2_with fail
      obtain ⟨d0, d1, d2, d3⟩ := row4m RR.out
      refine bodyPost_ret (v := .tuple #[.agg #[.string ⟨#[]⟩, .int .i64 0, .int .i64 0, .bool false], .int .i64 29]) ?_ rfl ⟨_, _, _, _, _, rfl, HR.out, EE.out⟩
      rw [results_cell_tmp rfl]
      go_simp
    | false =>
      have al := (Below.refl w2.heap.size w2).alloc (Nat.le_refl _) (.cells #[.string ⟨#[]⟩, .string ⟨#[]⟩, .string ⟨#[]⟩, .string ⟨#[]⟩, .int .i64 0] 118)
      have A2' := hide ((A1.out.below hw2).below al)
      have R2' := hide (keepRow (keepRow R1.out hw2) al)
      have E2' := hide ((E1.out.of hw2).of al)
      have H2' := hide (heap_alloc_new w2 (.cells #[.string ⟨#[]⟩, .string ⟨#[]⟩, .string ⟨#[]⟩, .string ⟨#[]⟩, .int .i64 0] 118))
      have Hne' : Hid (w.heap.size ≠ w2.heap.size) := by show _ ≠ _; have := hw2.size; omega
      have Hp2' : Hid (w.heap.size ≤ w2.heap.size) := by show _ ≤ _; have := hw2.size; omega
      have Hap' : Hid (0 < n → ∀ a, A = some a → a.block ≠ w2.heap.size) := fun h0 a hA => by
        have h1 := Hlow.out h0 a hA
        have h2 := Hp2'.out
        omega
      clear hw2 al A1 R1 E1
      go_wp2_with fail
      refine (rtrailer_any A n c F _ A2'.out).mono ?_
      obtain ⟨tr, htr⟩ : ∃ x, x = okF [] F n := ⟨_, rfl⟩
      rw [← htr]
      have HTR := hide htr
      clear htr
      rintro e w2b ⟨rfl, hw2b⟩
      have A2 := hide (A2'.out.below hw2b)
      have R2 := hide (keepRow R2'.out hw2b)
      have E2 := hide (E2'.out.of hw2b)
      have H2 := hide (keepRow H2'.out hw2b)
      generalize w2.heap.size = p2 at *
      have Hne := Hne'
      have Hp2 := Hp2'
      have Hap := Hap'
      clear hw2b A2' R2' E2' H2' Hne' Hp2' Hap'
      by_cases h0 : kind = 0 ∨ kind = 3
      · have HK' : Hid (hdM kind F n = reqS F n nMethod ∧ hdN kind F n = 0 ∧ hdB kind F n = reqB F n) := by
          unfold hdM hdN hdB
          rw [if_pos h0, if_pos h0, if_neg (by omega)]
          exact ⟨rfl, rfl, rfl⟩
        obtain ⟨x0, hx0⟩ : ∃ x, x = reqS F n nMethod := ⟨_, rfl⟩
        obtain ⟨x1, hx1⟩ : ∃ x, x = reqS F n nScheme := ⟨_, rfl⟩
        obtain ⟨x2, hx2⟩ : ∃ x, x = reqS F n nAuth := ⟨_, rfl⟩
        obtain ⟨x3, hx3⟩ : ∃ x, x = reqS F n nPath := ⟨_, rfl⟩
        obtain ⟨ok, hbb⟩ : ∃ x, x = reqB F n := ⟨_, rfl⟩
        have HV : Hid (reqV F n = .tuple #[.agg #[.string x0, .string x1, .string x2, .string x3, .int .i64 0], .bool ok]) := by show _ = _; unfold reqV; rw [hx0, hx1, hx2, hx3, hbb]
        rw [← hx0, ← hbb] at HK'
        have HK := HK'
        clear hx0 hx1 hx2 hx3 hbb HK'
        rcases h0 with rfl | rfl
        · have HK3 : Hid (¬ (0 : Int) = 3) := by show ¬ _; decide
          go_wp2_with fail
          refine (rrequest_any A n c F _ A2.out (by omega)).mono ?_
          rw [HV.out]
          rintro e w3 ⟨rfl, hw3⟩
          have A3 := hide (A2.out.below hw3)
          have R2' := keepRow R2.out hw3
          have H2' := keepRow H2.out hw3
          have E2' := E2.out.of hw3
          have hne : w.heap.size ≠ p2 := Hne.out
          obtain ⟨⟨c0, f0⟩, ⟨c1, f1⟩, ⟨c2, f2⟩, ⟨c3, f3⟩, ⟨c4, f4⟩, r5⟩ := store5p H2' (.string x0) (.string x1) (.string x2) (.string x3) (.int .i64 0)
          have H3 := hide r5
          have E3 := hide (below5p E2' (p := p2) Hp2.out (.string x0) (.string x1) (.string x2) (.string x3) (.int .i64 0))
          have R3 := hide ((heap5o hne (.string x0) (.string x1) (.string x2) (.string x3) (.int .i64 0)).trans R2')
          have A3' := hide (rdfd5o A3.out Hap.out (.string x0) (.string x1) (.string x2) (.string x3) (.int .i64 0))
          clear r5 R2' H2' E2' hw3 A2 R2 H2 E2 A3
          have A3 := A3'
          clear A3'
          go_upto_region 9 with (fail)
          refine absM _ (fun W => RdFd W A n c F ∧ W.heap[w.heap.size]? = _ ∧ W.heap[p2]? = _ ∧ Below w.heap.size w W) ⟨A3.out, R3.out, H3.out, E3.out⟩ ?_
          clear A3 R3 H3 E3 c0 f0 c1 f1 c2 f2 c3 f3 c4 f4
          intro W3 ⟨a3, r3, h3, e3⟩
          have A3 := hide a3
          have R3 := hide r3
          have H3 := hide h3
          have E3 := hide e3
          clear a3 r3 h3 e3
          cases ok with
          | false =>
            have HR : Hid (ChkR 0 F n ⟨#[]⟩ 0 0 false 30) := .inr (.inr (.inl ⟨B1.out.symm, B2.out.symm, HK.out.2.2, rfl, rfl, rfl, rfl, rfl⟩))
            obtain ⟨⟨c0, f0⟩, ⟨c1, f1⟩, ⟨c2, f2⟩, ⟨c3, f3⟩, r5⟩ := store4m R3.out (.string ⟨#[]⟩) (.int .i64 0) (.int .i64 0) (.bool false)
            have RR := hide r5
            have EE := hide (below4m E3.out (p := w.heap.size) (Nat.le_refl _) (.string ⟨#[]⟩) (.int .i64 0) (.int .i64 0) (.bool false))
            clear r5
            go_wp2_with fail
            obtain ⟨d0, d1, d2, d3⟩ := row4m RR.out
            refine bodyPost_ret (v := .tuple #[.agg #[.string ⟨#[]⟩, .int .i64 0, .int .i64 0, .bool false], .int .i64 30]) ?_ rfl ⟨_, _, _, _, _, rfl, HR.out, EE.out⟩
            rw [results_cell_tmp rfl]
            go_simp
          | true =>
            go_wp2_with fail
            refine (rlenof_any A n c F _ A3.out (by omega)).mono ?_
            rintro e w4 ⟨N, T', ok, rfl, hl, hw4⟩
            have HL := hide hl
            have R4 := hide (keepRow R3.out hw4)
            have E4 := hide (E3.out.of hw4)
            have H4 := hide (keepRow H3.out hw4)
            clear hl hw4 A3 R3 E3 H3
            cases ok with
            | false =>
              have HR : Hid (ChkR 0 F n ⟨#[]⟩ 0 0 false 31) := .inr (.inr (.inr (.inl ⟨B1.out.symm, B2.out.symm, HK.out.2.2, ⟨_, _, HL.out⟩, rfl, rfl, rfl, rfl, rfl⟩)))
              obtain ⟨⟨c0, f0⟩, ⟨c1, f1⟩, ⟨c2, f2⟩, ⟨c3, f3⟩, r5⟩ := store4m R4.out (.string ⟨#[]⟩) (.int .i64 0) (.int .i64 0) (.bool false)
              have RR := hide r5
              have EE := hide (below4m E4.out (p := w.heap.size) (Nat.le_refl _) (.string ⟨#[]⟩) (.int .i64 0) (.int .i64 0) (.bool false))
              clear r5
              go_wp2_with fail
              obtain ⟨d0, d1, d2, d3⟩ := row4m RR.out
              refine bodyPost_ret (v := .tuple #[.agg #[.string ⟨#[]⟩, .int .i64 0, .int .i64 0, .bool false], .int .i64 31]) ?_ rfl ⟨_, _, _, _, _, rfl, HR.out, EE.out⟩
              rw [results_cell_tmp rfl]
              go_simp
            | true =>
              obtain ⟨h0, h1, h2, h3, h4⟩ := row5 H4.out
              have HR : Hid (ChkR 0 F n x0 0 N T' 0) := .inr (.inr (.inr (.inr (.inr ⟨B1.out.symm, B2.out.symm, HK.out.2.2, HL.out, fun h => absurd h HK3.out, rfl, HK.out.1.symm, HK.out.2.1.symm⟩))))
              obtain ⟨⟨c0, f0⟩, ⟨c1, f1⟩, ⟨c2, f2⟩, ⟨c3, f3⟩, r5⟩ := store4m R4.out (.string x0) (.int .i64 0) (.int .i64 N) (.bool T')
              have RR := hide r5
              have EE := hide (below4m E4.out (p := w.heap.size) (Nat.le_refl _) (.string x0) (.int .i64 0) (.int .i64 N) (.bool T'))
              clear r5
              go_wp2_with fail
              obtain ⟨d0, d1, d2, d3⟩ := row4m RR.out
              refine bodyPost_ret (v := .tuple #[.agg #[.string x0, .int .i64 0, .int .i64 N, .bool T'], .int .i64 0]) ?_ rfl ⟨_, _, _, _, _, rfl, HR.out, EE.out⟩
              rw [results_cell_tmp rfl]
              go_simp
        · go_wp2_with fail
          refine (rrequest_any A n c F _ A2.out (by omega)).mono ?_
          rw [HV.out]
          rintro e w3 ⟨rfl, hw3⟩
          have A3 := hide (A2.out.below hw3)
          have R2' := keepRow R2.out hw3
          have H2' := keepRow H2.out hw3
          have E2' := E2.out.of hw3
          have hne : w.heap.size ≠ p2 := Hne.out
          obtain ⟨⟨c0, f0⟩, ⟨c1, f1⟩, ⟨c2, f2⟩, ⟨c3, f3⟩, ⟨c4, f4⟩, r5⟩ := store5p H2' (.string x0) (.string x1) (.string x2) (.string x3) (.int .i64 0)
          have H3 := hide r5
          have E3 := hide (below5p E2' (p := p2) Hp2.out (.string x0) (.string x1) (.string x2) (.string x3) (.int .i64 0))
          have R3 := hide ((heap5o hne (.string x0) (.string x1) (.string x2) (.string x3) (.int .i64 0)).trans R2')
          have A3' := hide (rdfd5o A3.out Hap.out (.string x0) (.string x1) (.string x2) (.string x3) (.int .i64 0))
          clear r5 R2' H2' E2' hw3 A2 R2 H2 E2 A3
          have A3 := A3'
          clear A3'
          go_upto_region 9 with (fail)
          refine absM _ (fun W => RdFd W A n c F ∧ W.heap[w.heap.size]? = _ ∧ W.heap[p2]? = _ ∧ Below w.heap.size w W) ⟨A3.out, R3.out, H3.out, E3.out⟩ ?_
          clear A3 R3 H3 E3 c0 f0 c1 f1 c2 f2 c3 f3 c4 f4
          intro W3 ⟨a3, r3, h3, e3⟩
          have A3 := hide a3
          have R3 := hide r3
          have H3 := hide h3
          have E3 := hide e3
          clear a3 r3 h3 e3
          cases ok with
          | false =>
            have HR : Hid (ChkR 3 F n ⟨#[]⟩ 0 0 false 30) := .inr (.inr (.inl ⟨B1.out.symm, B2.out.symm, HK.out.2.2, rfl, rfl, rfl, rfl, rfl⟩))
            obtain ⟨⟨c0, f0⟩, ⟨c1, f1⟩, ⟨c2, f2⟩, ⟨c3, f3⟩, r5⟩ := store4m R3.out (.string ⟨#[]⟩) (.int .i64 0) (.int .i64 0) (.bool false)
            have RR := hide r5
            have EE := hide (below4m E3.out (p := w.heap.size) (Nat.le_refl _) (.string ⟨#[]⟩) (.int .i64 0) (.int .i64 0) (.bool false))
            clear r5
            go_wp2_with fail
            obtain ⟨d0, d1, d2, d3⟩ := row4m RR.out
            refine bodyPost_ret (v := .tuple #[.agg #[.string ⟨#[]⟩, .int .i64 0, .int .i64 0, .bool false], .int .i64 30]) ?_ rfl ⟨_, _, _, _, _, rfl, HR.out, EE.out⟩
            rw [results_cell_tmp rfl]
            go_simp
          | true =>
            go_wp2_with fail
            refine (rlenof_any A n c F _ A3.out (by omega)).mono ?_
            rintro e w4 ⟨N, T', ok, rfl, hl, hw4⟩
            have HL := hide hl
            have R4 := hide (keepRow R3.out hw4)
            have E4 := hide (E3.out.of hw4)
            have H4 := hide (keepRow H3.out hw4)
            clear hl hw4 A3 R3 E3 H3
            cases ok with
            | false =>
              have HR : Hid (ChkR 3 F n ⟨#[]⟩ 0 0 false 31) := .inr (.inr (.inr (.inl ⟨B1.out.symm, B2.out.symm, HK.out.2.2, ⟨_, _, HL.out⟩, rfl, rfl, rfl, rfl, rfl⟩)))
              obtain ⟨⟨c0, f0⟩, ⟨c1, f1⟩, ⟨c2, f2⟩, ⟨c3, f3⟩, r5⟩ := store4m R4.out (.string ⟨#[]⟩) (.int .i64 0) (.int .i64 0) (.bool false)
              have RR := hide r5
              have EE := hide (below4m E4.out (p := w.heap.size) (Nat.le_refl _) (.string ⟨#[]⟩) (.int .i64 0) (.int .i64 0) (.bool false))
              clear r5
              go_wp2_with fail
              obtain ⟨d0, d1, d2, d3⟩ := row4m RR.out
              refine bodyPost_ret (v := .tuple #[.agg #[.string ⟨#[]⟩, .int .i64 0, .int .i64 0, .bool false], .int .i64 31]) ?_ rfl ⟨_, _, _, _, _, rfl, HR.out, EE.out⟩
              rw [results_cell_tmp rfl]
              go_simp
            | true =>
              obtain ⟨h0, h1, h2, h3, h4⟩ := row5 H4.out
              have HS : Hid (safeB x0 = ((x0.toList == [71, 69, 84]) || (x0.toList == [72, 69, 65, 68]))) := rfl
              obtain ⟨g1, hg1⟩ : ∃ b, b = (x0.toList == [71, 69, 84]) := ⟨_, rfl⟩
              obtain ⟨g2, hg2⟩ : ∃ b, b = (x0.toList == [72, 69, 65, 68]) := ⟨_, rfl⟩
              have hg1' := hg1.symm
              have hg2' := hg2.symm
              rw [← hg1, ← hg2] at HS
              clear hg1 hg2
              cases g1 with
              | true =>
                have HR : Hid (ChkR 3 F n x0 0 N T' 0) := .inr (.inr (.inr (.inr (.inr ⟨B1.out.symm, B2.out.symm, HK.out.2.2, HL.out, fun _ => by rw [HK.out.1, HS.out]; rfl, rfl, HK.out.1.symm, HK.out.2.1.symm⟩))))
                obtain ⟨⟨c0, f0⟩, ⟨c1, f1⟩, ⟨c2, f2⟩, ⟨c3, f3⟩, r5⟩ := store4m R4.out (.string x0) (.int .i64 0) (.int .i64 N) (.bool T')
                have RR := hide r5
                have EE := hide (below4m E4.out (p := w.heap.size) (Nat.le_refl _) (.string x0) (.int .i64 0) (.int .i64 N) (.bool T'))
                clear r5
                go_wp2_with fail
                obtain ⟨d0, d1, d2, d3⟩ := row4m RR.out
                refine bodyPost_ret (v := .tuple #[.agg #[.string x0, .int .i64 0, .int .i64 N, .bool T'], .int .i64 0]) ?_ rfl ⟨_, _, _, _, _, rfl, HR.out, EE.out⟩
                rw [results_cell_tmp rfl]
                go_simp
              | false =>
                cases g2 with
                | true =>
                  have HR : Hid (ChkR 3 F n x0 0 N T' 0) := .inr (.inr (.inr (.inr (.inr ⟨B1.out.symm, B2.out.symm, HK.out.2.2, HL.out, fun _ => by rw [HK.out.1, HS.out]; rfl, rfl, HK.out.1.symm, HK.out.2.1.symm⟩))))
                  obtain ⟨⟨c0, f0⟩, ⟨c1, f1⟩, ⟨c2, f2⟩, ⟨c3, f3⟩, r5⟩ := store4m R4.out (.string x0) (.int .i64 0) (.int .i64 N) (.bool T')
                  have RR := hide r5
                  have EE := hide (below4m E4.out (p := w.heap.size) (Nat.le_refl _) (.string x0) (.int .i64 0) (.int .i64 N) (.bool T'))
                  clear r5
                  go_wp2_with fail
                  obtain ⟨d0, d1, d2, d3⟩ := row4m RR.out
                  refine bodyPost_ret (v := .tuple #[.agg #[.string x0, .int .i64 0, .int .i64 N, .bool T'], .int .i64 0]) ?_ rfl ⟨_, _, _, _, _, rfl, HR.out, EE.out⟩
                  rw [results_cell_tmp rfl]
                  go_simp
                | false =>
                  have HR : Hid (ChkR 3 F n ⟨#[]⟩ 0 0 false 34) := .inr (.inr (.inr (.inr (.inl ⟨B1.out.symm, B2.out.symm, HK.out.2.2, ⟨_, _, HL.out⟩, ⟨rfl, by rw [HK.out.1, HS.out]; rfl⟩, rfl, rfl, rfl, rfl, rfl⟩))))
                  obtain ⟨⟨c0, f0⟩, ⟨c1, f1⟩, ⟨c2, f2⟩, ⟨c3, f3⟩, r5⟩ := store4m R4.out (.string ⟨#[]⟩) (.int .i64 0) (.int .i64 0) (.bool false)
                  have RR := hide r5
                  have EE := hide (below4m E4.out (p := w.heap.size) (Nat.le_refl _) (.string ⟨#[]⟩) (.int .i64 0) (.int .i64 0) (.bool false))
                  clear r5
                  go_wp2_with fail
                  obtain ⟨d0, d1, d2, d3⟩ := row4m RR.out
                  refine bodyPost_ret (v := .tuple #[.agg #[.string ⟨#[]⟩, .int .i64 0, .int .i64 0, .bool false], .int .i64 34]) ?_ rfl ⟨_, _, _, _, _, rfl, HR.out, EE.out⟩
                  rw [results_cell_tmp rfl]
                  go_simp
      · have k0 : (kind == 0) = false := by simpa using fun h => h0 (.inl h)
        have k3 : (kind == 3) = false := by simpa using fun h => h0 (.inr h)
        have HK3 : Hid (¬ kind = 3) := fun h => h0 (.inr h)
        by_cases h1 : kind = 1
        · have HK' : Hid (hdM kind F n = ⟨#[]⟩ ∧ hdN kind F n = resN F n ∧ hdB kind F n = resB F n) := by
            unfold hdM hdN hdB
            rw [if_neg h0, if_neg h0, if_pos h1, if_pos h1]
            exact ⟨rfl, rfl, rfl⟩
          obtain ⟨st, hst⟩ : ∃ x, x = resN F n := ⟨_, rfl⟩
          obtain ⟨ok, hbb⟩ : ∃ x, x = resB F n := ⟨_, rfl⟩
          have HV : Hid (resV F n = .tuple #[.agg #[.string ⟨#[]⟩, .string ⟨#[]⟩, .string ⟨#[]⟩, .string ⟨#[]⟩, .int .i64 st], .bool ok]) := by show _ = _; unfold resV; rw [hst, hbb]
          rw [← hst, ← hbb] at HK'
          have HK := HK'
          clear hst hbb h0 k0 k3 HK'
          subst h1
          go_wp2_with fail
          refine (rresponse_any A n c F _ A2.out (by omega)).mono ?_
          rw [HV.out]
          rintro e w3 ⟨rfl, hw3⟩
          have A3 := hide (A2.out.below hw3)
          have R2' := keepRow R2.out hw3
          have H2' := keepRow H2.out hw3
          have E2' := E2.out.of hw3
          have hne : w.heap.size ≠ p2 := Hne.out
          obtain ⟨⟨c0, f0⟩, ⟨c1, f1⟩, ⟨c2, f2⟩, ⟨c3, f3⟩, ⟨c4, f4⟩, r5⟩ := store5p H2' (.string ⟨#[]⟩) (.string ⟨#[]⟩) (.string ⟨#[]⟩) (.string ⟨#[]⟩) (.int .i64 st)
          have H3 := hide r5
          have E3 := hide (below5p E2' (p := p2) Hp2.out (.string ⟨#[]⟩) (.string ⟨#[]⟩) (.string ⟨#[]⟩) (.string ⟨#[]⟩) (.int .i64 st))
          have R3 := hide ((heap5o hne (.string ⟨#[]⟩) (.string ⟨#[]⟩) (.string ⟨#[]⟩) (.string ⟨#[]⟩) (.int .i64 st)).trans R2')
          have A3' := hide (rdfd5o A3.out Hap.out (.string ⟨#[]⟩) (.string ⟨#[]⟩) (.string ⟨#[]⟩) (.string ⟨#[]⟩) (.int .i64 st))
          clear r5 R2' H2' E2' hw3 A2 R2 H2 E2 A3
          have A3 := A3'
          clear A3'
          go_upto_region 11 with (fail)
          refine absM _ (fun W => RdFd W A n c F ∧ W.heap[w.heap.size]? = _ ∧ W.heap[p2]? = _ ∧ Below w.heap.size w W) ⟨A3.out, R3.out, H3.out, E3.out⟩ ?_
          clear A3 R3 H3 E3 c0 f0 c1 f1 c2 f2 c3 f3 c4 f4
          intro W3 ⟨a3, r3, h3, e3⟩
          have A3 := hide a3
          have R3 := hide r3
          have H3 := hide h3
          have E3 := hide e3
          clear a3 r3 h3 e3
          cases ok with
          | false =>
            have HR : Hid (ChkR 1 F n ⟨#[]⟩ 0 0 false 30) := .inr (.inr (.inl ⟨B1.out.symm, B2.out.symm, HK.out.2.2, rfl, rfl, rfl, rfl, rfl⟩))
            obtain ⟨⟨c0, f0⟩, ⟨c1, f1⟩, ⟨c2, f2⟩, ⟨c3, f3⟩, r5⟩ := store4m R3.out (.string ⟨#[]⟩) (.int .i64 0) (.int .i64 0) (.bool false)
            have RR := hide r5
            have EE := hide (below4m E3.out (p := w.heap.size) (Nat.le_refl _) (.string ⟨#[]⟩) (.int .i64 0) (.int .i64 0) (.bool false))
            clear r5
            go_wp2_with fail
            obtain ⟨d0, d1, d2, d3⟩ := row4m RR.out
            refine bodyPost_ret (v := .tuple #[.agg #[.string ⟨#[]⟩, .int .i64 0, .int .i64 0, .bool false], .int .i64 30]) ?_ rfl ⟨_, _, _, _, _, rfl, HR.out, EE.out⟩
            rw [results_cell_tmp rfl]
            go_simp
          | true =>
            go_wp2_with fail
            refine (rlenof_any A n c F _ A3.out (by omega)).mono ?_
            rintro e w4 ⟨N, T', ok, rfl, hl, hw4⟩
            have HL := hide hl
            have R4 := hide (keepRow R3.out hw4)
            have E4 := hide (E3.out.of hw4)
            have H4 := hide (keepRow H3.out hw4)
            clear hl hw4 A3 R3 E3 H3
            cases ok with
            | false =>
              have HR : Hid (ChkR 1 F n ⟨#[]⟩ 0 0 false 31) := .inr (.inr (.inr (.inl ⟨B1.out.symm, B2.out.symm, HK.out.2.2, ⟨_, _, HL.out⟩, rfl, rfl, rfl, rfl, rfl⟩)))
              obtain ⟨⟨c0, f0⟩, ⟨c1, f1⟩, ⟨c2, f2⟩, ⟨c3, f3⟩, r5⟩ := store4m R4.out (.string ⟨#[]⟩) (.int .i64 0) (.int .i64 0) (.bool false)
              have RR := hide r5
              have EE := hide (below4m E4.out (p := w.heap.size) (Nat.le_refl _) (.string ⟨#[]⟩) (.int .i64 0) (.int .i64 0) (.bool false))
              clear r5
              go_wp2_with fail
              obtain ⟨d0, d1, d2, d3⟩ := row4m RR.out
              refine bodyPost_ret (v := .tuple #[.agg #[.string ⟨#[]⟩, .int .i64 0, .int .i64 0, .bool false], .int .i64 31]) ?_ rfl ⟨_, _, _, _, _, rfl, HR.out, EE.out⟩
              rw [results_cell_tmp rfl]
              go_simp
            | true =>
              obtain ⟨h0, h1, h2, h3, h4⟩ := row5 H4.out
              have HR : Hid (ChkR 1 F n ⟨#[]⟩ st N T' 0) := .inr (.inr (.inr (.inr (.inr ⟨B1.out.symm, B2.out.symm, HK.out.2.2, HL.out, fun h => absurd h HK3.out, rfl, HK.out.1.symm, HK.out.2.1.symm⟩))))
              obtain ⟨⟨c0, f0⟩, ⟨c1, f1⟩, ⟨c2, f2⟩, ⟨c3, f3⟩, r5⟩ := store4m R4.out (.string ⟨#[]⟩) (.int .i64 st) (.int .i64 N) (.bool T')
              have RR := hide r5
              have EE := hide (below4m E4.out (p := w.heap.size) (Nat.le_refl _) (.string ⟨#[]⟩) (.int .i64 st) (.int .i64 N) (.bool T'))
              clear r5
              go_wp2_with fail
              obtain ⟨d0, d1, d2, d3⟩ := row4m RR.out
              refine bodyPost_ret (v := .tuple #[.agg #[.string ⟨#[]⟩, .int .i64 st, .int .i64 N, .bool T'], .int .i64 0]) ?_ rfl ⟨_, _, _, _, _, rfl, HR.out, EE.out⟩
              rw [results_cell_tmp rfl]
              go_simp
        · have k1 : (kind == 1) = false := by simpa using h1
          have HK : Hid (hdM kind F n = ⟨#[]⟩ ∧ hdN kind F n = 0 ∧ hdB kind F n = tr) := by
            rw [HTR.out]
            unfold hdM hdN hdB
            rw [if_neg h0, if_neg h0, if_neg h1, if_neg h1]
            exact ⟨rfl, rfl, rfl⟩
          have A3 := A2
          have R3 := R2
          have E3 := E2
          have H3 := H2
          clear h0 h1 A2 R2 E2 H2 HTR
          obtain ⟨ok, hok⟩ : ∃ x, x = tr := ⟨_, rfl⟩
          subst hok
          cases ok with
          | false =>
            have HR : Hid (ChkR kind F n ⟨#[]⟩ 0 0 false 30) := .inr (.inr (.inl ⟨B1.out.symm, B2.out.symm, HK.out.2.2, rfl, rfl, rfl, rfl, rfl⟩))
            obtain ⟨⟨c0, f0⟩, ⟨c1, f1⟩, ⟨c2, f2⟩, ⟨c3, f3⟩, r5⟩ := store4m R3.out (.string ⟨#[]⟩) (.int .i64 0) (.int .i64 0) (.bool false)
            have RR := hide r5
            have EE := hide (below4m E3.out (p := w.heap.size) (Nat.le_refl _) (.string ⟨#[]⟩) (.int .i64 0) (.int .i64 0) (.bool false))
            clear r5
            go_wp2_with fail
            obtain ⟨d0, d1, d2, d3⟩ := row4m RR.out
            refine bodyPost_ret (v := .tuple #[.agg #[.string ⟨#[]⟩, .int .i64 0, .int .i64 0, .bool false], .int .i64 30]) ?_ rfl ⟨_, _, _, _, _, rfl, HR.out, EE.out⟩
            rw [results_cell_tmp rfl]
            go_simp
          | true =>
            go_wp2_with fail
            refine (rlenof_any A n c F _ A3.out (by omega)).mono ?_
            rintro e w4 ⟨N, T', ok, rfl, hl, hw4⟩
            have HL := hide hl
            have R4 := hide (keepRow R3.out hw4)
            have E4 := hide (E3.out.of hw4)
            have H4 := hide (keepRow H3.out hw4)
            clear hl hw4 A3 R3 E3 H3
            cases ok with
            | false =>
              have HR : Hid (ChkR kind F n ⟨#[]⟩ 0 0 false 31) := .inr (.inr (.inr (.inl ⟨B1.out.symm, B2.out.symm, HK.out.2.2, ⟨_, _, HL.out⟩, rfl, rfl, rfl, rfl, rfl⟩)))
              obtain ⟨⟨c0, f0⟩, ⟨c1, f1⟩, ⟨c2, f2⟩, ⟨c3, f3⟩, r5⟩ := store4m R4.out (.string ⟨#[]⟩) (.int .i64 0) (.int .i64 0) (.bool false)
              have RR := hide r5
              have EE := hide (below4m E4.out (p := w.heap.size) (Nat.le_refl _) (.string ⟨#[]⟩) (.int .i64 0) (.int .i64 0) (.bool false))
              clear r5
              go_wp2_with fail
              obtain ⟨d0, d1, d2, d3⟩ := row4m RR.out
              refine bodyPost_ret (v := .tuple #[.agg #[.string ⟨#[]⟩, .int .i64 0, .int .i64 0, .bool false], .int .i64 31]) ?_ rfl ⟨_, _, _, _, _, rfl, HR.out, EE.out⟩
              rw [results_cell_tmp rfl]
              go_simp
            | true =>
              obtain ⟨h0, h1, h2, h3, h4⟩ := row5 H4.out
              have HR : Hid (ChkR kind F n ⟨#[]⟩ 0 N T' 0) := .inr (.inr (.inr (.inr (.inr ⟨B1.out.symm, B2.out.symm, HK.out.2.2, HL.out, fun h => absurd h HK3.out, rfl, HK.out.1.symm, HK.out.2.1.symm⟩))))
              obtain ⟨⟨c0, f0⟩, ⟨c1, f1⟩, ⟨c2, f2⟩, ⟨c3, f3⟩, r5⟩ := store4m R4.out (.string ⟨#[]⟩) (.int .i64 0) (.int .i64 N) (.bool T')
              have RR := hide r5
              have EE := hide (below4m E4.out (p := w.heap.size) (Nat.le_refl _) (.string ⟨#[]⟩) (.int .i64 0) (.int .i64 N) (.bool T'))
              clear r5
              go_wp2_with fail
              obtain ⟨d0, d1, d2, d3⟩ := row4m RR.out
              refine bodyPost_ret (v := .tuple #[.agg #[.string ⟨#[]⟩, .int .i64 0, .int .i64 N, .bool T'], .int .i64 0]) ?_ rfl ⟨_, _, _, _, _, rfl, HR.out, EE.out⟩
              rw [results_cell_tmp rfl]
              go_simp
end Go.Proofs.YtpfhiimlloeciaaDoor
