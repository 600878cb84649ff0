/- Layer 49: how a side tells an error, from any frames, by the reference. -/
import Derived.Test.YtelcpfjifhobjaaRk1
namespace Go.Proofs.Ytelcpfjifhobjaa
set_option linter.unusedVariables false
set_option linter.unusedSimpArgs false
open Go.RowKit

set_option maxRecDepth 100000 in
set_option maxHeartbeats 6400000 in
theorem rreact49g (A : Option Addr) (n c : Nat) (F : Nat → Rw) (side stream : Int) (w : World) (ha : RdRw w A n c F) (hsm : ∀ i, i < n → (F i).n ≤ 100000) : Calls Try.prog 19 #[.slice A n c, .int .i64 side, .int .i64 stream] w (RcE F n side stream w) := by
  have Hm : Hid (n ≤ 9223372036854775807) := by have h1 := ha.1; have h2 := ha.2.1; simp only [maxLen] at h2; show _ ≤ _; omega
  have R0 := hide (heap_alloc_new w (.cells #[.int .i64 0, .int .i64 0] 30))
  have e0 := (Below.refl w.heap.size w).alloc (Nat.le_refl _) (.cells #[.int .i64 0, .int .i64 0] 30)
  have E0 := hide e0
  have Ha := hide (ha.below e0)
  have Hs := hide hsm
  have hw0 := rowLt R0.out
  clear ha e0 hsm
  go_enter Try.func19, Try.ntmps19
  go_wp2_with fail
  generalize w.alloc (.cells #[.int .i64 0, .int .i64 0] 30) = W0 at *
  go_loopw [8] (fun i wr => ∃ k : Nat, k ≤ n ∧ i = .int .i64 k ∧ (∀ j, j < k → elR (F j) side stream = none) ∧ Below W0.heap.size W0 wr) (fun i _ => n - (intOf i).toNat)
  case atStart => exact ⟨0, Nat.zero_le _, rfl, fun j h => absurd h (by omega), Below.refl _ _⟩
  case round =>
    obtain ⟨k, hk, rfl, hall, hB⟩ := hrel
    have Hall := hide hall
    have HB := hide hB
    have hsz := hB.size
    clear hall
    by_cases hlt : k < n
    · have hn := Hm.out
      have Hr := hide (Ha.out.below hB)
      obtain ⟨b, off, rfl, hc⟩ := Hr.out.at_ hlt
      have hO := Hr.out.2.2.2.2 k hlt
      have hns := Hs.out k hlt
      have hkn : (k : Int) < (n : Int) := by omega
      have w1 : IntKind.i64.wrap ((k : Int) + 1) = (k : Int) + 1 := IntWalk.i64_in _ (by omega)
      have NXT : Hid (elR (F k) side stream = none → ∀ j, j < k + 1 → elR (F j) side stream = none) := fun h j hj => by
        by_cases e : j = k
        · subst e; exact h
        · exact Hall.out j (by omega)
      have HIT : Hid (∀ S C, elR (F k) side stream = some (S, C) → RctR F n side stream S C true) := fun S C h => .inl ⟨k, hlt, Hall.out, h, rfl⟩
      obtain ⟨X, hX⟩ : ∃ X, F k = X := ⟨_, rfl⟩
      rw [hX] at hc hO hns NXT HIT
      clear hX
      obtain ⟨fm, T, fl, st, rs, XA, xn, xc, xb⟩ := X
      obtain ⟨hc0, hc1, hc2, hc3, hc4, hc5⟩ := hc
      obtain ⟨hrd, hby, _, hT64, hfl64, hst64⟩ := hO
      simp only at hc0 hc1 hc2 hc3 hc4 hc5 hrd hby hns NXT HIT
      obtain ⟨G, hG⟩ : ∃ G, frR T fl st xn xb = G := ⟨_, rfl⟩
      have HEL : Hid (elR ⟨fm, T, fl, st, rs, XA, xn, xc, xb⟩ side stream = if fm = side ∧ G.en = 0 ∧ G.fs = 0 then (if T = 3 ∧ st = stream then some (1, G.co) else if T = 7 then some (2, G.co) else none) else none) := by show _ = _; unfold elR; simp only [hG]
      have Hby := hide hby
      have eR := (Below.refl wr.heap.size wr).alloc (Nat.le_refl _) (.cells #[.int .i64 fm, .int .i64 T, .int .i64 fl, .int .i64 st, .bool rs, .slice XA xn xc] 24)
      have RR := hide (heap_alloc_new wr (.cells #[.int .i64 fm, .int .i64 T, .int .i64 fl, .int .i64 st, .bool rs, .slice XA xn xc] 24))
      have HBr := hide (HB.out.of eR)
      have RD := hide (hrd.below eR)
      have hsr : W0.heap.size ≤ (wr.alloc (.cells #[.int .i64 fm, .int .i64 T, .int .i64 fl, .int .i64 st, .bool rs, .slice XA xn xc] 24)).heap.size := by have := eR.size; omega
      have HG := hide hG
      have hww : w.heap.size < wr.heap.size := by omega
      clear hB eR hrd hby hG
      go_upto_region 5 with (fail)
      clear hc0 hc1 hc2 hc3 hc4 hc5
      generalize wr.alloc (.cells #[.int .i64 fm, .int .i64 T, .int .i64 fl, .int .i64 st, .bool rs, .slice XA xn xc] 24) = W1 at *
      generalize wr.heap.size = p1 at *
      have CON : Hid (elR ⟨fm, T, fl, st, rs, XA, xn, xc, xb⟩ side stream = none → ∀ W2 : World, Below W0.heap.size W0 W2 → ∃ k' : Nat, k' ≤ n ∧ Value.int .i64 ((k : Int) + 1) = .int .i64 k' ∧ (∀ j, j < k' → elR (F j) side stream = none) ∧ Below W0.heap.size W0 W2) := fun h W2 hb => ⟨k + 1, by omega, rfl, NXT.out h, hb⟩
      obtain ⟨s0, s1, s2, s3, s4, s5⟩ := row6 RR.out
      by_cases hfm : fm = side
      · have d1 : (fm != side) = false := by simp [hfm]
        by_cases hr : HdR xn T fl st
        · have HR : Hid (∀ W : World, Calls Try.prog 14 #[.agg #[.int .i64 fm, .int .i64 T, .int .i64 fl, .int .i64 st, .bool rs, .slice XA xn xc]] W fun e w' => e = .returned (.bool true) ∧ Below W.heap.size W w') := fun W => rright14 fm T fl st rs XA xn xc true (decide_eq_true hr) W
          have HQ : Hid (∀ W : World, Rd .u8 W XA xn xc xb → Calls Try.prog 16 #[.agg #[.int .i64 fm, .int .i64 T, .int .i64 fl, .int .i64 st, .bool rs, .slice XA xn xc]] W (RsR G xb W)) := fun W h => by rw [← HG.out]; exact rparse14 fm T fl st rs XA xn xc xb hr hns W h Hby.out
          have hen : G.en = 0 := by rw [← HG.out, frR_en, if_pos hr]
          have HEL1 : Hid (elR ⟨fm, T, fl, st, rs, XA, xn, xc, xb⟩ side stream = if G.fs = 0 then (if T = 3 ∧ st = stream then some (1, G.co) else if T = 7 then some (2, G.co) else none) else none) := by
            show _ = _
            rw [HEL.out]
            by_cases h : G.fs = 0
            · rw [if_pos ⟨hfm, hen, h⟩, if_pos h]
            · rw [if_neg (fun k => h k.2.2), if_neg h]
          clear hr hfm hen
          go_wp2_with fail
          refine (HR.out _).mono ?_
          rintro e w2 ⟨rfl, hb⟩
          have R2 := hide (keepRow RR.out hb)
          have E2 := hide (HBr.out.of hb)
          have RD2 := hide (RD.out.below hb)
          have hs2 := hb.size
          clear hb RR HBr RD s0 s1 s2 s3 s4 s5
          obtain ⟨s0, s1, s2, s3, s4, s5⟩ := row6 R2.out
          by_cases h7 : T = 7
          · have t7 : (T == 7) = true := by simp [h7]
            have t7n : (T != 7) = false := by simp [h7]
            have HEL2 : Hid (elR ⟨fm, T, fl, st, rs, XA, xn, xc, xb⟩ side stream = if G.fs = 0 then some (2, G.co) else none) := by show _ = _; rw [HEL1.out, if_neg (show ¬ (T = 3 ∧ st = stream) by omega), if_pos h7]
            clear h7
            go_wp2_with fail
            refine (HQ.out _ RD2.out).mono ?_
            rintro e w3 ⟨A2, c2, A3, c3, rfl, hr2, hr3, hb1⟩
            obtain ⟨x0, x1, e1⟩ := alloc2r w3 #[.int .i64 G.T, .int .i64 G.fl, .int .i64 G.st, .int .i64 G.pad, .slice A2 G.N c2, .slice A3 G.sn c3, .int .i64 G.wt, .int .i64 G.pa, .bool G.al, .int .i64 G.pm, .int .i64 G.la, .int .i64 G.co, .int .i64 G.sp] #[.int .i64 G.fs, .int .i64 G.fc] 28 30
            have ht := hb1.of e1
            have FF := hide x0
            have UU := hide x1
            have R3 := hide (keepRow R2.out ht)
            have E3 := hide (E2.out.of ht)
            have hs3 := ht.size
            clear x0 x1 e1 ht hb1 hr2 hr3 R2 E2 RD2 s0 s1 s2 s3 s4 s5 HQ HR
            go_upto_region 7 with (fail)
            generalize (w3.alloc (.cells #[.int .i64 G.T, .int .i64 G.fl, .int .i64 G.st, .int .i64 G.pad, .slice A2 G.N c2, .slice A3 G.sn c3, .int .i64 G.wt, .int .i64 G.pa, .bool G.al, .int .i64 G.pm, .int .i64 G.la, .int .i64 G.co, .int .i64 G.sp] 28)).alloc (.cells #[.int .i64 G.fs, .int .i64 G.fc] 30) = W3 at *
            generalize w3.heap.size = p3 at *
            obtain ⟨s0, s1, s2, s3, s4, s5⟩ := row6 R3.out
            obtain ⟨u0, u1⟩ := row2 UU.out
            obtain ⟨y0_, y1_, y2_, y3_, y4_, y5_, y6_, y7_, y8_, y9_, y10_, y11_, y12_⟩ := row13 FF.out
            by_cases hfs : G.fs = 0
            · have d3 : (G.fs != 0) = false := by simp [hfs]
              have HH := hide (HIT.out 2 G.co (by rw [HEL2.out, if_pos hfs]))
              obtain ⟨⟨l0, m0_⟩, ⟨l1, m1_⟩, ru1⟩ := store2f ((E3.out.block _ hw0).trans R0.out) (.int .i64 2) (.int .i64 G.co)
              have RU1 := hide ru1
              have EF := hide (E0.out.of E3.out)
              have EF1 := hide ((EF.out.setCell (p := ⟨w.heap.size, 0, none⟩) (Nat.le_refl _) (.int .i64 2)).setCell (p := ⟨w.heap.size, 1, none⟩) (Nat.le_refl _) (.int .i64 G.co))
              clear ru1 hfs
              go_wp2_with fail
              obtain ⟨o0, o1⟩ := row2 RU1.out
              refine bodyPost_ret (v := .tuple #[.agg #[.int .i64 2, .int .i64 G.co], .bool true]) ?_ rfl ⟨2, G.co, true, rfl, HH.out, EF1.out⟩
              rw [results_cell_tmp14 rfl]
              go_simp
            · have d3 : (G.fs != 0) = true := by simp [hfs]
              have C1 := hide (CON.out (by rw [HEL2.out, if_neg hfs]) _ E3.out)
              clear hfs
              go_wp2_with fail
              exact ⟨C1.out, by simp [intOf]; omega⟩
          · have t7 : (T == 7) = false := by simp [h7]
            have t7n : (T != 7) = true := by simp [h7]
            by_cases h3 : T = 3 ∧ st = stream
            · have t3 : (T != 3) = false := by simp [h3.1]
              have q1 : (st != stream) = false := by simp [h3.2]
              have HEL2 : Hid (elR ⟨fm, T, fl, st, rs, XA, xn, xc, xb⟩ side stream = if G.fs = 0 then some (1, G.co) else none) := by show _ = _; rw [HEL1.out, if_pos h3]
              clear h7 h3
              go_wp2_with fail
              refine (HQ.out _ RD2.out).mono ?_
              rintro e w3 ⟨A2, c2, A3, c3, rfl, hr2, hr3, hb1⟩
              obtain ⟨x0, x1, e1⟩ := alloc2r w3 #[.int .i64 G.T, .int .i64 G.fl, .int .i64 G.st, .int .i64 G.pad, .slice A2 G.N c2, .slice A3 G.sn c3, .int .i64 G.wt, .int .i64 G.pa, .bool G.al, .int .i64 G.pm, .int .i64 G.la, .int .i64 G.co, .int .i64 G.sp] #[.int .i64 G.fs, .int .i64 G.fc] 28 30
              have ht := hb1.of e1
              have FF := hide x0
              have UU := hide x1
              have R3 := hide (keepRow R2.out ht)
              have E3 := hide (E2.out.of ht)
              have hs3 := ht.size
              clear x0 x1 e1 ht hb1 hr2 hr3 R2 E2 RD2 s0 s1 s2 s3 s4 s5 HQ HR
              go_upto_region 7 with (fail)
              generalize (w3.alloc (.cells #[.int .i64 G.T, .int .i64 G.fl, .int .i64 G.st, .int .i64 G.pad, .slice A2 G.N c2, .slice A3 G.sn c3, .int .i64 G.wt, .int .i64 G.pa, .bool G.al, .int .i64 G.pm, .int .i64 G.la, .int .i64 G.co, .int .i64 G.sp] 28)).alloc (.cells #[.int .i64 G.fs, .int .i64 G.fc] 30) = W3 at *
              generalize w3.heap.size = p3 at *
              obtain ⟨s0, s1, s2, s3, s4, s5⟩ := row6 R3.out
              obtain ⟨u0, u1⟩ := row2 UU.out
              obtain ⟨y0_, y1_, y2_, y3_, y4_, y5_, y6_, y7_, y8_, y9_, y10_, y11_, y12_⟩ := row13 FF.out
              by_cases hfs : G.fs = 0
              · have d3 : (G.fs != 0) = false := by simp [hfs]
                have HH := hide (HIT.out 1 G.co (by rw [HEL2.out, if_pos hfs]))
                obtain ⟨⟨l0, m0_⟩, ⟨l1, m1_⟩, ru1⟩ := store2f ((E3.out.block _ hw0).trans R0.out) (.int .i64 1) (.int .i64 G.co)
                have RU1 := hide ru1
                have EF := hide (E0.out.of E3.out)
                have EF1 := hide ((EF.out.setCell (p := ⟨w.heap.size, 0, none⟩) (Nat.le_refl _) (.int .i64 1)).setCell (p := ⟨w.heap.size, 1, none⟩) (Nat.le_refl _) (.int .i64 G.co))
                clear ru1 hfs
                go_wp2_with fail
                obtain ⟨o0, o1⟩ := row2 RU1.out
                refine bodyPost_ret (v := .tuple #[.agg #[.int .i64 1, .int .i64 G.co], .bool true]) ?_ rfl ⟨1, G.co, true, rfl, HH.out, EF1.out⟩
                rw [results_cell_tmp14 rfl]
                go_simp
              · have d3 : (G.fs != 0) = true := by simp [hfs]
                have C1 := hide (CON.out (by rw [HEL2.out, if_neg hfs]) _ E3.out)
                clear hfs
                go_wp2_with fail
                exact ⟨C1.out, by simp [intOf]; omega⟩
            · have C1 := hide (CON.out (by rw [HEL1.out, if_neg h3, if_neg h7]; split <;> rfl) _ E2.out)
              by_cases k3 : T = 3
              · have t3 : (T != 3) = false := by simp [k3]
                have q1 : (st != stream) = true := by simp; intro h; exact h3 ⟨k3, h⟩
                clear h7 h3 k3
                go_wp2_with fail
                exact ⟨C1.out, by simp [intOf]; omega⟩
              · have t3 : (T != 3) = true := by simp [k3]
                clear h7 h3 k3
                go_wp2_with fail
                exact ⟨C1.out, by simp [intOf]; omega⟩
        · have HR : Hid (∀ W : World, Calls Try.prog 14 #[.agg #[.int .i64 fm, .int .i64 T, .int .i64 fl, .int .i64 st, .bool rs, .slice XA xn xc]] W fun e w' => e = .returned (.bool false) ∧ Below W.heap.size W w') := fun W => rright14 fm T fl st rs XA xn xc false (decide_eq_false hr) W
          have hen : ¬ G.en = 0 := by rw [← HG.out, frR_en, if_neg hr]; decide
          have NEL := hide (show elR ⟨fm, T, fl, st, rs, XA, xn, xc, xb⟩ side stream = none by rw [HEL.out, if_neg (fun h => hen h.2.1)])
          clear hr hfm hen
          go_wp2_with fail
          refine (HR.out _).mono ?_
          rintro e w2 ⟨rfl, hb⟩
          have C1 := hide (CON.out NEL.out _ (HBr.out.of hb))
          clear hb
          go_wp2_with fail
          exact ⟨C1.out, by simp [intOf]; omega⟩
      · have d1 : (fm != side) = true := by simp [hfm]
        have C1 := hide (CON.out (by rw [HEL.out, if_neg (fun h => hfm h.1)]) _ HBr.out)
        clear hfm
        go_wp2_with fail
        exact ⟨C1.out, by simp [intOf]; omega⟩
    · obtain rfl : k = n := by omega
      obtain ⟨⟨l0, m0_⟩, ⟨l1, m1_⟩, ru1⟩ := store2f ((HB.out.block _ hw0).trans R0.out) (.int .i64 0) (.int .i64 0)
      have RU1 := hide ru1
      have EF := hide (E0.out.of HB.out)
      have EF1 := hide ((EF.out.setCell (p := ⟨w.heap.size, 0, none⟩) (Nat.le_refl _) (.int .i64 0)).setCell (p := ⟨w.heap.size, 1, none⟩) (Nat.le_refl _) (.int .i64 0))
      clear hB ru1
      go_wp2_with fail
      obtain ⟨o0, o1⟩ := row2 RU1.out
      refine bodyPost_ret (v := .tuple #[.agg #[.int .i64 0, .int .i64 0], .bool false]) ?_ rfl ⟨0, 0, false, rfl, .inr ⟨Hall.out, rfl, rfl, rfl⟩, EF1.out⟩
      rw [results_cell_tmp14 rfl]
      go_simp
end Go.Proofs.Ytelcpfjifhobjaa
