/- Layer 12: whatever pieces come: which frames end with each of them, and how many bytes are left. -/
import Derived.Test.YtpnjamomkpkkeaaCti
import Derived.Test.YtpnjamomkpkkeaaCta
import Derived.Deep.RegionHeld3
namespace Go.Proofs.Ytpnjamomkpkkeaa
set_option linter.unusedVariables false
set_option linter.unusedSimpArgs false
open Go.RowKit

theorem CtOk.congrL {p B : Nat} {w : World} {L L' : Int → List Int} {s : Int → Pt} {v : Int → Value} (h : CtOk p B w L s v) (h0 : L' 0 = L 0) (h1 : L' 1 = L 1) : CtOk p B w L' s v :=
  ⟨h.row, h.o0, h.o1, h.ap, by rw [h0]; exact h.h0, h.l0, by rw [h1]; exact h.h1, h.l1, h.hB, h.hp⟩
theorem end_step12 (F : Nat → Ck) (k : Nat) : endF nilL (flK F (k + 1)) = upS (endF nilL (flK F k)) (F k).from_ (endF nilL (flK F k) (F k).from_ ++ bM (F k)) := by
  rw [flK_succ, endF_app, end_chunk12]
/-- The cutter in the walk; what the document says lies as it was. -/
structure CuJ (F : Nat → Ck) (p : Nat) (W4 wr : World) (k : Nat) (s : Int → Pt) (v : Int → Value) : Prop where
  ct : CtOk p p wr (endF nilL (flK F k)) s v
  fr : FrQ (fun i => i = p) W4 wr
  n0 : ∀ i, (v 0).ownBlock = some i → W4.heap.size ≤ i
  n1 : ∀ i, (v 1).ownBlock = some i → W4.heap.size ≤ i
set_option maxRecDepth 100000 in
set_option maxHeartbeats 3200000 in
theorem cuts_walk12 (A : Option Addr) (n c : Nat) (F : Nat → Ck) (w : World) (ha : RdC w A n c F) : Calls Try.prog 8 #[.slice A n c] w (Yes w) := by
  have Ha := hide ha
  have hn63 : (n : Int) ≤ 9223372036854775807 := by have h1 := ha.1; have h2 := ha.2.1; simp only [maxLen] at h2; omega
  clear ha
  have HALIVE : Hid (∀ w1, Below w.heap.size w w1 → Calls Try.prog 25 #[] w1 fun e w' => e = .returned (.bool true) ∧ Below w.heap.size w w') := hide fun w1 hb => (alive12 w1).mono fun e w' h => ⟨h.1, hb.trans (h.2.mono hb.size)⟩
  go_enter Try.func8, Try.ntmps8
  go_wp2_with fail
  refine (rlarge_any A n c F 3000 _ Ha.out (by omega)).mono ?_
  rintro e w1 ⟨b, rfl, hd, hb⟩
  have HB1 := hide (drawn_below hd w.heap.size)
  have Ha1 := hide (Ha.out.below (drawn_below hd _))
  cases b with
  | true =>
    clear hd hb
    go_wp2_with fail
    refine (HALIVE.out _ HB1.out).mono ?_
    rintro e w2 ⟨rfl, hb2⟩
    have HB2 := hide hb2
    clear hb2
    go_wp2_with fail
    go_ret
    exact ⟨rfl, HB2.out⟩
  | false =>
    obtain ⟨h200, hs⟩ := hb rfl
    have Hs := hide hs
    clear hd hb h200 hs
    by_cases h60 : 60 < n
    · have d1 : decide ((60 : Int) < (n : Int)) = true := by simp; omega
      clear h60
      go_wp2_with fail
      refine (HALIVE.out _ HB1.out).mono ?_
      rintro e w2 ⟨rfl, hb2⟩
      have HB2 := hide hb2
      clear hb2
      go_wp2_with fail
      go_ret
      exact ⟨rfl, HB2.out⟩
    have d1 : decide ((60 : Int) < (n : Int)) = false := by simp; omega
    have hn60 : n ≤ 60 := by omega
    clear h60
    go_wp2_with fail
    refine (new12 w1).mono ?_
    rintro e w2 ⟨rfl, rfl⟩
    have b2 := (Below.refl w1.heap.size w1).alloc (Nat.le_refl _) zeroCt
    have HZ2 := hide (heap_alloc_new w1 zeroCt)
    have HB2 := hide (HB1.out.trans (b2.mono HB1.out.size))
    have Ha2 := hide (Ha1.out.below b2)
    have HS2 : Hid ((w1.alloc zeroCt).heap.size = w1.heap.size + 1) := hide (by simp)
    have HP1 := hide HB1.out.size
    clear b2 Ha1 HB1
    go_wp2_with fail
    generalize hp : w1.heap.size = p at *
    generalize w1.alloc zeroCt = w2 at *
    clear hp
    refine (rfeed12 A n c F w2 Ha2.out (by omega) (by have := Hs.out; omega)).mono ?_
    rintro e w3 ⟨Aw, cw, Vs, x, y, rfl, hx, hy, hVs, hAw, hel, hb3⟩
    have b4 := (Below.refl w3.heap.size w3).alloc (Nat.le_refl _) (.cells #[.int .i64 x, .int .i64 y] 71)
    have HQ4 := hide (heap_alloc_new w3 (.cells #[.int .i64 x, .int .i64 y] 71))
    have HB4 := hide ((HB2.out.trans (hb3.mono HB2.out.size)).trans (b4.mono (Nat.le_trans HB2.out.size hb3.size)))
    have HZ4 := hide (keepRow (keepRow HZ2.out hb3) b4)
    have HV4 := hide (hVs.bel12 b4)
    have HEL4 : Hid (∀ i, i < n → ∃ A c, Vs i = .slice A (gsK F i).length c ∧ RwsB (fun j => w2.heap.size ≤ j) (w3.alloc (.cells #[.int .i64 x, .int .i64 y] 71)) A (gsK F i).length c (gsK F i)) := hide fun i hi => by
      obtain ⟨A', c', e, hB⟩ := hel i hi
      exact ⟨A', c', e, hB.below b4⟩
    have Ha4 := hide ((Ha2.out.below hb3).below b4)
    have HPQ : Hid (p < w3.heap.size) := hide (by have := hb3.size; have := HS2.out; omega)
    have HAW := hide hAw
    have HX := hide hx
    have HY := hide hy
    have hqs : (w3.alloc (.cells #[.int .i64 x, .int .i64 y] 71)).heap.size = w3.heap.size + 1 := by simp
    have HQS := hide hqs
    clear hb3 b4 hVs hel hAw hx hy hqs HB2 Ha2
    go_wp2_with fail
    generalize hq : w3.heap.size = q at *
    generalize w3.alloc (.cells #[.int .i64 x, .int .i64 y] 71) = W4 at *
    clear hq
    have HJ0 : Hid (CuJ F p W4 W4 0 (fun _ => ⟨0, [], []⟩) (fun _ => .slice none 0 0)) := hide ⟨ctOk_zero HZ4.out (Nat.le_refl _), FrQ.refl _ _, fun i e => (by cases e), fun i e => (by cases e)⟩
    go_loopw [28] (fun i wr => ∃ (k : Nat) (s : Int → Pt) (v : Int → Value), k ≤ n ∧ i = .int .i64 k ∧ CuJ F p W4 wr k s v) (fun i _ => n - (intOf i).toNat)
    case atStart => exact ⟨0, _, _, Nat.zero_le _, rfl, HJ0.out⟩
    case round =>
      obtain ⟨k, s, v, hk, rfl, hJ⟩ := hrel
      clear HJ0
      have HJ := hide hJ
      clear hJ
      have hpw : p < W4.heap.size := by have := HPQ.out; have := HQS.out; omega
      have hbW : Below p W4 wr := HJ.out.fr.bel (Nat.le_of_lt hpw) fun i _ e => Nat.le_of_eq e.symm
      have hwp : w.heap.size ≤ p := HP1.out
      have HBR := hide (HB4.out.trans (hbW.mono hwp))
      have hpW := HPQ.out
      by_cases hlt : k < n
      · have hi0 : (0 : Int) ≤ (k : Int) := by omega
        have hi1 : (k : Int) < (n : Int) := by omega
        have har := Ha.out.below HBR.out
        obtain ⟨b, off, rfl, c0, c1⟩ := har.at_ hlt
        obtain ⟨hrd, hbyt⟩ := har.2.2.2.2 k hlt
        have hrw := (Ha.out.2.2.2.2 k hlt).1
        have hst := end_step12 F k
        obtain ⟨Ae4, ce4, hVk, hBk⟩ := HEL4.out k hlt
        have hgd : (F k).from_ = 0 ∨ (F k).from_ = 1 → (frs (F k).from_ (endF nilL (flK F k) (F k).from_ ++ bM (F k))).drop (frs (F k).from_ (endF nilL (flK F k) (F k).from_)).length = gsK F k := fun h => by unfold gsK; rw [if_pos h]
        obtain ⟨bw, ow, hAeq, hcw⟩ := HV4.out.2.2.2 (by omega)
        have hcwk := hcw k (by omega)
        rw [hVk] at hcwk
        have hbwl : bw < W4.heap.size := World.block_lt_of_cell? W4 _ hcwk
        have hbwp : p < bw := by have h1 := HAW.out (by omega) _ hAeq; have h2 := HS2.out; have h3 : w2.heap.size ≤ bw := h1; omega
        subst hAeq
        have hl1 := endF_len (flK F k) nilL (F k).from_
        rw [flK_len] at hl1
        have hl2 := sumC_mono F (show k + 1 ≤ n from hlt)
        have hl3 : sumC F (k + 1) = sumC F k + (F k).n := rfl
        have hl4 := Hs.out
        have hl5 : (nilL (F k).from_).length = 0 := rfl
        have hl6 : (endF nilL (flK F k) (F k).from_).length + (F k).n ≤ 10000000 := by omega
        have hml := bM_len (F k)
        have hMb := bM_byt hbyt
        have HRD := hide (bM_rd hrd)
        have HRW := hide hrw
        have HST := hide hst
        have HGD := hide hgd
        have HL6 := hide hl6
        have HML := hide hml
        have HMB := hide hMb
        have HBK := hide hBk
        have HCW := hide hcwk
        have hkw0 : (0 : Int) ≤ (k : Int) := hi0
        clear har hrd hbyt hrw hst hgd hl1 hl2 hl3 hl4 hl5 hl6 hml hMb hBk hVk hcw hcwk
        generalize hgk : gsK F k = hs at *
        clear hgk
        generalize hMM : bM (F k) = M at *
        clear hMM
        generalize F k = X at *
        obtain ⟨x, XA, xn, xc, xb⟩ := X
        simp only at *
        have aa := (Below.refl wr.heap.size wr).alloc (Nat.le_refl _) (.cells #[.int .i64 x, .slice XA xn xc] 52)
        have RB := hide (heap_alloc_new wr (.cells #[.int .i64 x, .slice XA xn xc] 52))
        have hsa : (wr.alloc (.cells #[.int .i64 x, .slice XA xn xc] 52)).heap.size = wr.heap.size + 1 := by simp
        have HCT := hide (HJ.out.ct.below aa)
        have HRDa := hide (HRD.out.below aa)
        obtain ⟨r0, r1⟩ := row2 RB.out
        have HAA := hide aa
        have HSA := hide hsa
        clear aa hsa
        by_cases hx : x = 0 ∨ x = 1
        rotate_left
        · have dF0 : (x != 0) = true := by simp; omega
          have dF1 : (x != 1) = true := by simp; omega
          have HXX := hide hx
          clear hx
          go_wp2_with fail
          refine (feedNo12 x XA xn xc p _ HXX.out).mono ?_
          rintro e w5 ⟨rfl, hb5⟩
          have RB5 := keepRow RB.out hb5
          have HB5 := hide hb5
          clear hb5 r0 r1
          obtain ⟨r0, r1⟩ := row2 RB5
          go_wp2_with fail
          go_roundw
          case rel =>
            have hx := HXX.out
            exact ⟨k + 1, s, v, by omega, by go_num, ⟨(HCT.out.below HB5.out).congrL (by rw [HST.out, upS_ne _ _ (by omega)]) (by rw [HST.out, upS_ne _ _ (by omega)]), HJ.out.fr.trans ((FrQ.ofBelow (fun _ => False) HAA.out).tr (FrQ.ofBelow (fun _ => False) HB5.out)) (fun _ _ e => e) fun _ _ e => e.elim, HJ.out.n0, HJ.out.n1⟩⟩
          case measure => simp [intOf]; omega
        have HXX := hide hx
        have hx2 : ((x != 0) = false ∧ True) ∨ ((x != 0) = true ∧ (x != 1) = false) := by
          rcases hx with h | h
          · exact .inl ⟨by simp [h], trivial⟩
          · exact .inr ⟨by simp [h], by simp [h]⟩
        clear hx
        have HFD := hide (feedX x HXX.out HCT.out M XA xn xc HML.out HMB.out HRDa.out (fun hn2 a e => by
          have h1 : a.block < w.heap.size := HRW.out.blk12 hn2 e
          refine ⟨fun e2 => ?_, by omega⟩
          have h3 := (HCT.out.at0 (ctS_of HXX.out (.inr e2))).1
          omega) HL6.out)
        rcases hx2 with ⟨dF0, -⟩ | ⟨dF0, dF1⟩
        all_goals
          go_wp2_with fail
          refine HFD.out.mono ?_
          rintro e w5 ⟨t, u, ve, Fe, rfl, hC, hq, hu, hO⟩
          rw [HGD.out HXX.out] at hO
          obtain ⟨Ae, ce, rfl, hRR⟩ := hO.rws
          have hvx : ∀ i, (v x).ownBlock = some i → W4.heap.size ≤ i := fun i e => by
            rcases HXX.out with h | h
            · rw [h] at e; exact HJ.out.n0 i e
            · rw [h] at e; exact HJ.out.n1 i e
          have hvl : ∀ i, (v x).ownBlock = some i → i < wr.heap.size := fun i e => (HJ.out.ct.at0 (ctS_of HXX.out (.inr e))).2
          have hsz4 := HJ.out.fr.size
          have hF5 : FrQ (fun i => i = p) W4 w5 := (HJ.out.fr.trans (FrQ.ofBelow (fun _ => False) HAA.out) (fun _ _ e => e) fun _ _ e => e.elim).trans hq (fun _ _ e => e) fun i hi e => by
            rcases e with e | e
            · exact e
            · have := hvx i e; omega
          have RB5 := hq.row RB.out (by rintro (e | e); omega; have := hvl _ e; omega)
          have hcw5 : w5.cell? ⟨bw, ow + k, none⟩ = some (.slice Ae4 hs.length ce4) := by
            have h1 := hF5.keep bw hbwl (by omega)
            rw [World.cell?_of_block (a := ⟨bw, ow + k, none⟩) h1]
            exact HCW.out
          have HW5 := hide (HBK.out.frQ hF5 (S' := fun _ => True) (fun j _ hj e => by have h1 := HS2.out; omega) fun _ _ _ => trivial).rwsR
          have HR5 := hide hRR
          have HC5 := hide hC
          have HF5 := hide hF5
          have HU5 := hide hu
          have HVX := hide hvx
          have hkn1 : (k : Int) < (n : Int) := hi1
          clear hC hq hu hO hRR hF5 hvx hvl r0 r1 c0 c1
          obtain ⟨r0, r1⟩ := row2 RB5
          go_wp2_with fail
          refine (rall07 _ _ _ _ _ _ hs _ HR5.out HW5.out).mono ?_
          rintro e w6 ⟨rfl, hb6⟩
          have HB6 := hide hb6
          clear hb6 r0 r1 RB5 hcw5
          go_wp2_with fail
          go_roundw
          case rel =>
            have hu2 : ∀ i, u.ownBlock = some i → W4.heap.size ≤ i := fun i e => by
              rcases HU5.out i e with h | h
              · exact HVX.out i h
              · have := HSA.out; omega
            refine ⟨k + 1, upS s x t, upS v x u, by omega, by go_num, ⟨by rw [HST.out]; exact HC5.out.below HB6.out, HF5.out.trans (FrQ.ofBelow (fun _ => False) HB6.out) (fun _ _ e => e) fun _ _ e => e.elim, fun i e => ?_, fun i e => ?_⟩⟩
            · rcases HXX.out with h | h
              · rw [h, upS_at] at e; exact hu2 i e
              · rw [h, upS_ne _ _ (by decide)] at e; exact HJ.out.n0 i e
            · rcases HXX.out with h | h
              · rw [h, upS_ne _ _ (by decide)] at e; exact HJ.out.n1 i e
              · rw [h, upS_at] at e; exact hu2 i e
          case measure => simp [intOf]; omega
      · obtain rfl : k = n := by omega
        have HQw := hide (HJ.out.fr.row HQ4.out (by have := HPQ.out; omega))
        obtain ⟨k0, k1⟩ := row2 HQw.out
        have hdr : Below wr.heap.size wr wr.drew := ⟨rfl, rfl, rfl, Nat.le_refl _, fun _ _ => rfl⟩
        have hl0 := leftF0 (HJ.out.ct.below hdr)
        have hl1 := leftF1 (HJ.out.ct.below hdr)
        have hl2 := leftNo12 2 p wr.drew (by decide)
        rw [← HX.out] at hl0
        rw [← HY.out] at hl1
        have HL0 := hide hl0
        have HL1 := hide hl1
        have HL2 := hide hl2
        have HBD := hide (HBR.out.trans (hdr.mono HBR.out.size))
        clear hl0 hl1 hl2 hdr
        go_wp2_with fail
        go_region_held3 (fun V : World => V.cell? ⟨q, 0, none⟩ = some (.int .i64 x) ∧ V.cell? ⟨q, 1, none⟩ = some (.int .i64 y)) ((first | exact row2 HQ9.out | (go_keep; done)))
          (first
            | ((with_reducible refine HL0.out.mono ?_); (rintro e w' ⟨rfl, rfl⟩))
            | ((with_reducible refine HL1.out.mono ?_); (rintro e w' ⟨rfl, rfl⟩))
            | ((with_reducible refine HL2.out.mono ?_); (rintro e w' ⟨rfl, rfl⟩))
            | ((with_reducible refine (alive12 _).mono ?_); (rintro e w9 ⟨rfl, hb9⟩); (have HQ9 := hide (keepRow HQw.out (show Below wr.heap.size wr w9 from ⟨hb9.os, hb9.tape, hb9.output, hb9.size, hb9.block⟩))); (have HB9 := hide (HBD.out.trans (hb9.mono HBD.out.size)))))
        all_goals
          go_wp2_with fail
          go_ret
          exact ⟨rfl, HB9.out⟩
end Go.Proofs.Ytpnjamomkpkkeaa
