/- Layer 49: how a side tells an error, from any frames. -/
import Derived.Test.YtelcpfjifhobjaaFsd
import Derived.Test.YtelcpfjifhobjaaRw1
import Derived.Test.YtelcpfjifhobjaaMj3
namespace Go.Proofs.Ytelcpfjifhobjaa
set_option linter.unusedVariables false
set_option linter.unusedSimpArgs false
open Go.RowKit

theorem frR_good {T fl st : Int} {n : Nat} {f : Nat → Int} {G : FR} (hG : frR T fl st n f = G) (he : G.en = 0) (hs : G.fs = 0) : G.T = T ∧ G.st = st ∧ G.fc = 0 ∧ HdR n T fl st := by
  have hsz : szS T ≠ 0 := by unfold szS; split <;> decide
  subst hG
  have hr : HdR n T fl st := by
    rw [frR_en] at he
    by_cases h : HdR n T fl st
    · exact h
    · rw [if_neg h] at he; exact absurd he (by decide)
  unfold frR at hs ⊢
  rw [if_pos hr] at hs ⊢
  (repeat' split at hs) <;> simp_all <;> first | exact absurd hs hsz | exact ⟨rfl, rfl, rfl⟩
/-- What one frame tells. -/
def elR (X : Rw) (side stream : Int) : Option (Int × Int) :=
  if X.fm = side ∧ (frR X.T X.fl X.st X.n X.b).en = 0 ∧ (frR X.T X.fl X.st X.n X.b).fs = 0 then
    (if X.T = 3 ∧ X.st = stream then some (1, (frR X.T X.fl X.st X.n X.b).co) else if X.T = 7 then some (2, (frR X.T X.fl X.st X.n X.b).co) else none)
  else none
def RctR (F : Nat → Rw) (n : Nat) (side stream : Int) (S C : Int) (B : Bool) : Prop :=
  (∃ k, k < n ∧ (∀ i, i < k → elR (F i) side stream = none) ∧ elR (F k) side stream = some (S, C) ∧ B = true) ∨ ((∀ i, i < n → elR (F i) side stream = none) ∧ S = 0 ∧ C = 0 ∧ B = false)
theorem RctR.same {F : Nat → Rw} {n : Nat} {side stream S C S' C' : Int} {B B' : Bool} (h : RctR F n side stream S C B) (k : RctR F n side stream S' C' B') : S = S' ∧ C = C' ∧ B = B' := by
  rcases h with ⟨a, ha, ha1, ha2, rfl⟩ | ⟨h0, rfl, rfl, rfl⟩ <;> rcases k with ⟨b, hb, hb1, hb2, rfl⟩ | ⟨k0, rfl, rfl, rfl⟩
  · have e : a = b := by
      rcases Nat.lt_trichotomy a b with h | h | h
      · rw [hb1 a h] at ha2; cases ha2
      · exact h
      · rw [ha1 b h] at hb2; cases hb2
    subst e
    rw [ha2] at hb2
    cases hb2
    exact ⟨rfl, rfl, rfl⟩
  · rw [k0 a ha] at ha2; cases ha2
  · rw [h0 b hb] at hb2; cases hb2
  · exact ⟨rfl, rfl, rfl⟩
def RcE (F : Nat → Rw) (n : Nat) (side stream : Int) (w : World) (e : Ending) (w' : World) : Prop :=
  ∃ (S C : Int) (B : Bool), e = .returned (.tuple #[.agg #[.int .i64 S, .int .i64 C], .bool B]) ∧ RctR F n side stream S C B ∧ Below w.heap.size w w'
set_option maxRecDepth 100000 in
set_option maxHeartbeats 6400000 in
theorem react49g (A : Option Addr) (n c : Nat) (F : Nat → Rw) (side stream : Int) (w : World) (ha : RdRw w A n c F) (hsm : ∀ i, i < n → (F i).n ≤ 100000) : Calls Try.prog 18 #[.slice A n c, .int .i64 side, .int .i64 stream] w (RcE F n side stream w) := by
  have Hm : Hid (n ≤ 9223372036854775807) := by have h1 := ha.1; have h2 := ha.2.1; simp only [maxLen] at h2; show _ ≤ _; omega
  have R0 := hide (heap_alloc_new w (.cells #[.int .i64 0, .int .i64 0] 30))
  have e0 := (Below.refl w.heap.size w).alloc (Nat.le_refl _) (.cells #[.int .i64 0, .int .i64 0] 30)
  have E0 := hide e0
  have Ha := hide (ha.below e0)
  have Hs := hide hsm
  have hw0 := rowLt R0.out
  clear ha e0 hsm
  go_enter Try.func18, Try.ntmps18
  go_wp2_with fail
  generalize w.alloc (.cells #[.int .i64 0, .int .i64 0] 30) = W0 at *
  go_loopw [15] (fun i wr => ∃ k : Nat, k ≤ n ∧ i = .int .i64 k ∧ (∀ j, j < k → elR (F j) side stream = none) ∧ Below W0.heap.size W0 wr) (fun i _ => n - (intOf i).toNat)
  case atStart => exact ⟨0, Nat.zero_le _, rfl, fun j h => absurd h (by omega), Below.refl _ _⟩
  case round =>
    obtain ⟨k, hk, rfl, hall, hB⟩ := hrel
    have Hall := hide hall
    have HB := hide hB
    have hsz := hB.size
    clear hall
    by_cases hlt : k < n
    · have hn := Hm.out
      have Hr := hide (Ha.out.below hB)
      obtain ⟨b, off, rfl, hc⟩ := Hr.out.at_ hlt
      have hO := Hr.out.2.2.2.2 k hlt
      have hns := Hs.out k hlt
      have hkn : (k : Int) < (n : Int) := by omega
      have w1 : IntKind.i64.wrap ((k : Int) + 1) = (k : Int) + 1 := IntWalk.i64_in _ (by omega)
      have NXT : Hid (elR (F k) side stream = none → ∀ j, j < k + 1 → elR (F j) side stream = none) := fun h j hj => by
        by_cases e : j = k
        · subst e; exact h
        · exact Hall.out j (by omega)
      have HIT : Hid (∀ S C, elR (F k) side stream = some (S, C) → RctR F n side stream S C true) := fun S C h => .inl ⟨k, hlt, Hall.out, h, rfl⟩
      obtain ⟨X, hX⟩ : ∃ X, F k = X := ⟨_, rfl⟩
      rw [hX] at hc hO hns NXT HIT
      clear hX
      obtain ⟨fm, T, fl, st, rs, XA, xn, xc, xb⟩ := X
      obtain ⟨hc0, hc1, hc2, hc3, hc4, hc5⟩ := hc
      obtain ⟨hrd, hby, _, hT64, hfl64, hst64⟩ := hO
      simp only at hc0 hc1 hc2 hc3 hc4 hc5 hrd hby hns NXT HIT
      obtain ⟨G, hG⟩ : ∃ G, frR T fl st xn xb = G := ⟨_, rfl⟩
      have HEL : Hid (elR ⟨fm, T, fl, st, rs, XA, xn, xc, xb⟩ side stream = if fm = side ∧ G.en = 0 ∧ G.fs = 0 then (if T = 3 ∧ st = stream then some (1, G.co) else if T = 7 then some (2, G.co) else none) else none) := by show _ = _; unfold elR; simp only [hG]
      have Hby := hide hby
      have eR := (Below.refl wr.heap.size wr).alloc (Nat.le_refl _) (.cells #[.int .i64 fm, .int .i64 T, .int .i64 fl, .int .i64 st, .bool rs, .slice XA xn xc] 24)
      have RR := hide (heap_alloc_new wr (.cells #[.int .i64 fm, .int .i64 T, .int .i64 fl, .int .i64 st, .bool rs, .slice XA xn xc] 24))
      have HBr := hide (HB.out.of eR)
      have RD := hide (hrd.below eR)
      have hsr : W0.heap.size ≤ (wr.alloc (.cells #[.int .i64 fm, .int .i64 T, .int .i64 fl, .int .i64 st, .bool rs, .slice XA xn xc] 24)).heap.size := by have := eR.size; omega
      have HG := hide hG
      have hww : w.heap.size < wr.heap.size := by omega
      clear hB eR hrd hby hG
      have HQ : Hid (∀ W : World, Rd .u8 W XA xn xc xb → Calls Try.prog 13 #[.agg #[.int .i64 fm, .int .i64 T, .int .i64 fl, .int .i64 st, .bool rs, .slice XA xn xc]] W (PsR G xb W)) := fun W h => by rw [← HG.out]; exact parse14 fm T fl st rs XA xn xc xb W h Hby.out hns
      go_upto_region 4 with (fail)
      clear hc0 hc1 hc2 hc3 hc4 hc5
      generalize wr.alloc (.cells #[.int .i64 fm, .int .i64 T, .int .i64 fl, .int .i64 st, .bool rs, .slice XA xn xc] 24) = W1 at *
      generalize wr.heap.size = p1 at *
      obtain ⟨s0, s1, s2, s3, s4, s5⟩ := row6 RR.out
      go_wp2_with fail
      refine (HQ.out _ RD.out).mono ?_
      rintro e w2 ⟨A2, c2, A3, c3, rfl, hr2, hr3, hb1⟩
      obtain ⟨x0, x1, e1⟩ := alloc2r w2 #[.int .i64 G.T, .int .i64 G.fl, .int .i64 G.st, .int .i64 G.pad, .slice A2 G.N c2, .slice A3 G.sn c3, .int .i64 G.wt, .int .i64 G.pa, .bool G.al, .int .i64 G.pm, .int .i64 G.la, .int .i64 G.co, .int .i64 G.sp] #[.int .i64 G.fs, .int .i64 G.fc] 28 30
      have ht := hb1.of e1
      have FF := hide x0
      have UU := hide x1
      have R2 := hide (keepRow RR.out ht)
      have E2 := hide (HBr.out.of ht)
      have hs2 := ht.size
      clear x0 x1 e1 ht hb1 hr2 hr3 RR HBr RD s0 s1 s2 s3 s4 s5 HQ
      go_upto_region 5 with (fail)
      generalize (w2.alloc (.cells #[.int .i64 G.T, .int .i64 G.fl, .int .i64 G.st, .int .i64 G.pad, .slice A2 G.N c2, .slice A3 G.sn c3, .int .i64 G.wt, .int .i64 G.pa, .bool G.al, .int .i64 G.pm, .int .i64 G.la, .int .i64 G.co, .int .i64 G.sp] 28)).alloc (.cells #[.int .i64 G.fs, .int .i64 G.fc] 30) = W2 at *
      generalize w2.heap.size = p2 at *
      obtain ⟨s0, s1, s2, s3, s4, s5⟩ := row6 R2.out
      obtain ⟨u0, u1⟩ := row2 UU.out
      obtain ⟨y0_, y1_, y2_, y3_, y4_, y5_, y6_, y7_, y8_, y9_, y10_, y11_, y12_⟩ := row13 FF.out
      have CON : Hid (elR ⟨fm, T, fl, st, rs, XA, xn, xc, xb⟩ side stream = none → ∃ k' : Nat, k' ≤ n ∧ Value.int .i64 ((k : Int) + 1) = .int .i64 k' ∧ (∀ j, j < k' → elR (F j) side stream = none) ∧ Below W0.heap.size W0 W2) := fun h => ⟨k + 1, by omega, rfl, NXT.out h, E2.out⟩
      by_cases hfm : fm = side
      · have d1 : (fm != side) = false := by simp [hfm]
        by_cases hen : G.en = 0
        · have d2 : (G.en != 0) = false := by simp [hen]
          by_cases hfs : G.fs = 0
          · obtain ⟨gT, gst, gfc, _⟩ := frR_good HG.out hen hfs
            have d3 : (G.fs == 0) = true := by simp [hfs]
            have d4 : (G.fc == 0) = true := by simp [gfc]
            have HEL2 : Hid (elR ⟨fm, T, fl, st, rs, XA, xn, xc, xb⟩ side stream = if T = 3 ∧ st = stream then some (1, G.co) else if T = 7 then some (2, G.co) else none) := by show _ = _; rw [HEL.out, if_pos ⟨hfm, hen, hfs⟩]
            rw [gT] at y0_
            rw [gst] at y2_
            obtain ⟨⟨l0, m0_⟩, ⟨l1, m1_⟩, ru1⟩ := store2f ((E2.out.block _ hw0).trans R0.out) (.int .i64 1) (.int .i64 G.co)
            obtain ⟨⟨l0', m0_'⟩, ⟨l1', m1_'⟩, ru2⟩ := store2f ((E2.out.block _ hw0).trans R0.out) (.int .i64 2) (.int .i64 G.co)
            have RU1 := hide ru1
            have RU2 := hide ru2
            have EF := hide (E0.out.of E2.out)
            have EF1 := hide ((EF.out.setCell (p := ⟨w.heap.size, 0, none⟩) (Nat.le_refl _) (.int .i64 1)).setCell (p := ⟨w.heap.size, 1, none⟩) (Nat.le_refl _) (.int .i64 G.co))
            have EF2 := hide ((EF.out.setCell (p := ⟨w.heap.size, 0, none⟩) (Nat.le_refl _) (.int .i64 2)).setCell (p := ⟨w.heap.size, 1, none⟩) (Nat.le_refl _) (.int .i64 G.co))
            clear ru1 ru2 hen hfs gT gst gfc hfm
            by_cases h3 : T = 3
            · have t3 : (T == 3) = true := by simp [h3]
              have t7 : (T == 7) = false := by simp [h3]
              by_cases hst : st = stream
              · have q1 : (st == stream) = true := by simp [hst]
                have HH := hide (HIT.out 1 G.co (by rw [HEL2.out, if_pos ⟨h3, hst⟩]))
                clear h3 hst
                go_wp2_with fail
                obtain ⟨o0, o1⟩ := row2 RU1.out
                refine bodyPost_ret (v := .tuple #[.agg #[.int .i64 1, .int .i64 G.co], .bool true]) ?_ rfl ⟨1, G.co, true, rfl, HH.out, EF1.out⟩
                rw [results_cell_tmp14 rfl]
                go_simp
              · have q1 : (st == stream) = false := by simp [hst]
                have C1 := hide (CON.out (by rw [HEL2.out, if_neg (by omega), if_neg (by omega)]))
                clear h3 hst
                go_wp2_with fail
                exact ⟨C1.out, by simp [intOf]; omega⟩
            · have t3 : (T == 3) = false := by simp [h3]
              by_cases h7 : T = 7
              · have t7 : (T == 7) = true := by simp [h7]
                have HH := hide (HIT.out 2 G.co (by rw [HEL2.out, if_neg (by omega), if_pos h7]))
                clear h3 h7
                go_wp2_with fail
                obtain ⟨o0, o1⟩ := row2 RU2.out
                refine bodyPost_ret (v := .tuple #[.agg #[.int .i64 2, .int .i64 G.co], .bool true]) ?_ rfl ⟨2, G.co, true, rfl, HH.out, EF2.out⟩
                rw [results_cell_tmp14 rfl]
                go_simp
              · have t7 : (T == 7) = false := by simp [h7]
                have C1 := hide (CON.out (by rw [HEL2.out, if_neg (by omega), if_neg (by omega)]))
                clear h3 h7
                go_wp2_with fail
                exact ⟨C1.out, by simp [intOf]; omega⟩
          · have d3 : (G.fs == 0) = false := by simp [hfs]
            have C1 := hide (CON.out (by rw [HEL.out, if_neg (fun h => hfs h.2.2)]))
            clear hfs hen hfm
            go_wp2_with fail
            exact ⟨C1.out, by simp [intOf]; omega⟩
        · have d2 : (G.en != 0) = true := by simp [hen]
          have C1 := hide (CON.out (by rw [HEL.out, if_neg (fun h => hen h.2.1)]))
          clear hen hfm
          go_wp2_with fail
          exact ⟨C1.out, by simp [intOf]; omega⟩
      · have d1 : (fm != side) = true := by simp [hfm]
        have C1 := hide (CON.out (by rw [HEL.out, if_neg (fun h => hfm h.1)]))
        clear hfm
        go_wp2_with fail
        exact ⟨C1.out, by simp [intOf]; omega⟩
    · obtain rfl : k = n := by omega
      obtain ⟨⟨l0, m0_⟩, ⟨l1, m1_⟩, ru1⟩ := store2f ((HB.out.block _ hw0).trans R0.out) (.int .i64 0) (.int .i64 0)
      have RU1 := hide ru1
      have EF := hide (E0.out.of HB.out)
      have EF1 := hide ((EF.out.setCell (p := ⟨w.heap.size, 0, none⟩) (Nat.le_refl _) (.int .i64 0)).setCell (p := ⟨w.heap.size, 1, none⟩) (Nat.le_refl _) (.int .i64 0))
      clear hB ru1
      go_wp2_with fail
      obtain ⟨o0, o1⟩ := row2 RU1.out
      refine bodyPost_ret (v := .tuple #[.agg #[.int .i64 0, .int .i64 0], .bool false]) ?_ rfl ⟨0, 0, false, rfl, .inr ⟨Hall.out, rfl, rfl, rfl⟩, EF1.out⟩
      rw [results_cell_tmp14 rfl]
      go_simp
end Go.Proofs.Ytelcpfjifhobjaa
