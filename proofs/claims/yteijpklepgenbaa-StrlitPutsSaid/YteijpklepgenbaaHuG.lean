/- Layer 17: Decode, the program's. -/
import Derived.Test.YteijpklepgenbaaHuF
namespace Go.Proofs.Yteijpklepgenbaa
open Go.RowKit

def JDec (w : World) (A : Option Addr) (n c : Nat) (f : Nat → Int) (a' : Act) (w' : World) : Prop :=
  ∃ (B p L : Nat) (v : Value) (x z : Int) (u1 u2 u3 u9 u10 u11 u12 u13 u14 u15 u16 u17 u18 u19 u20 u21 u22 u23 u24 u25 u26 u27 u28 u29 u30 u31 u32 u33 u34 u35 u36 u37 u38 u39 u40 u41 u42 u43 u44 u45 u46 u47 u48 u49 u50 u51 u52 u53 u54 u55 : Value), a' = { tmps := #[.slice A n c, u1, u2, u3, .pointer (some ⟨B, 0, none⟩), .pointer (some ⟨p, 0, none⟩), v, .int .i64 x, .int .i64 z, u9, u10, u11, u12, u13, u14, u15, u16, u17, u18, u19, u20, u21, u22, u23, u24, u25, u26, u27, u28, u29, u30, u31, u32, u33, u34, u35, u36, u37, u38, u39, u40, u41, u42, u43, u44, u45, u46, u47, u48, u49, u50, u51, u52, u53, u54, u55], defers := [] } ∧ z = (L : Int) ∧ DSt w n f B p v x L w'
theorem jump_monoD {l : Nat} {J J' : Act → World → Prop} {Q : Exit → Act → World → Prop} (h : ∀ a w, J a w → J' a w) : ∀ (e : Exit) (a : Act) (w : World), Exit.jump l J Q e a w → Exit.jump l J' Q e a w := by
  intro e a w he
  cases e with
  | goto l' => exact ⟨he.1, h a w he.2⟩
  | _ => exact he
theorem DcdE.good {f : Nat → Int} {n k : Nat} {p s : Nat → Nat} {w w' : World} {v : Value} (hc : Chn (bitF f) (8 * n) k p s) (ho : Own .u8 5 w.heap.size w' v k (fun i => (s i : Int))) (h1 : ∀ S, ¬ Mt (bitF f) (8 * n) (p k) S) (h2 : 8 * n - p k ≤ 7) (h3 : ∀ i, p k ≤ i → i < 8 * n → bitF f i = 1) (hb : Below w.heap.size w w') :
    DcdE f n w (.returned (.tuple #[v, .int .i64 0])) w' :=
  ⟨_, k, _, 0, rfl, ho, ⟨k, p, s, hc, .inl ⟨rfl, rfl, fun _ _ => rfl, h1, h2, h3⟩⟩, hb⟩
theorem ones_num {h : Nat → Int} : ∀ L, (∀ i, i < L → h i = 1) → bnum h L = 2 ^ L - 1
  | 0, _ => by simp [bnum]
  | L + 1, hh => by
    have ih := ones_num L (fun i hi => hh i (by omega))
    simp only [bnum]
    rw [ih, hh L (by omega), Int.pow_succ]
    omega
theorem num_ones {h : Nat → Int} : ∀ L, (∀ i, i < L → 0 ≤ h i ∧ h i ≤ 1) → bnum h L = 2 ^ L - 1 → ∀ i, i < L → h i = 1
  | 0, _, _ => fun i hi => by omega
  | L + 1, hb, he => fun i hi => by
    have h1 := bnum_bd (g := h) (n := L + 1) hb L (by omega)
    have h2 := hb L (by omega)
    simp only [bnum] at he
    rw [Int.pow_succ] at he
    have h3 : h L = 1 ∧ bnum h L = 2 ^ L - 1 := by
      generalize (2 : Int) ^ L = z at *
      omega
    by_cases e : i = L
    · subst e; exact h3.1
    · exact num_ones L (fun i hi => hb i (by omega)) h3.2 i (by omega)
set_option maxRecDepth 100000 in
set_option maxHeartbeats 6400000 in
theorem decode_any (A : Option Addr) (n c : Nat) (f : Nat → Int) (w : World) (ha : Rd .u8 w A n c f) (hf : Byt n f) (hn : n ≤ 2000) :
    Calls Try.prog 17 #[.slice A n c] w (DcdE f n w) := by
  obtain ⟨i0, hi, hz0, hz1, hz2⟩ := info_parts c8_info
  have Ha := hide ha
  have Hf := hide hf
  clear ha hf
  go_enter Try.func17, Try.ntmps17
  go_wp2
  refine (fun (key : ∀ a w', JDec w A n c f a w' → Code.wp Try.prog _ (Exit.jump 0 (fun a2 w2 => JDec w A n c f a2 w2 ∧ 8 * n - rdPos a2 w2 < 8 * n - rdPos a w') _) a w') => wp_scope_jumps 0 (JDec w A n c f) (fun a' w' => 8 * n - rdPos a' w') rfl ?_ (fun a w' h => wp_seq (wp_skip (key a w' h)))) ?_
  · go_wp2_with fail
    refine (mk_any _).mono ?_
    rintro e w1 ⟨B, rfl, hbk, hb1⟩
    have HBk := hide hbk
    have HB1 := hide hb1
    have Ha1 := hide (Ha.out.below hb1)
    clear hbk hb1
    go_wp2_with fail
    refine (of_any A n c f _ Ha1.out (by omega)).mono ?_
    rintro e w2 ⟨p, rfl, hp, hrdr, hb2⟩
    obtain ⟨A', c', hh, hr, hAp, _, _⟩ := hrdr
    have hpl := (Array.getElem?_eq_some_iff.1 hh).1
    have HD : Hid (DSt w n f B p (.slice none 0 0) 0 0 w2) := ⟨w1, w2, A', c', 0, fun _ => 0, fun _ => 0, HBk.out, HB1.out, hp, hb2, hpl, hr, hAp, World.grownBy.refl _ _, hh, Own.nil _ _ _ _ _, ⟨rfl, fun i hi => by omega⟩, rfl, by omega, by omega, fun S hS hM => by have := len_bd S hM.1; omega⟩
    clear hp hh hr hAp hpl hb2
    go_wp2_with fail
    go_step3
    rename_i K hK
    refine hK _ _ ?_
    exact Code.wp_mono (jump_monoD fun _ _ h => h.1) (key _ _ ⟨B, p, 0, _, _, _, _, _, _, _, _, _, _, _, _, _, _, _, _, _, _, _, _, _, _, _, _, _, _, _, _, _, _, _, _, _, _, _, _, _, _, _, _, _, _, _, _, _, _, _, _, _, _, _, _, _, rfl, rfl, HD.out⟩)
  · rintro a' w' ⟨B, p, L, v, x, z, u1, u2, u3, u9, u10, u11, u12, u13, u14, u15, u16, u17, u18, u19, u20, u21, u22, u23, u24, u25, u26, u27, u28, u29, u30, u31, u32, u33, u34, u35, u36, u37, u38, u39, u40, u41, u42, u43, u44, u45, u46, u47, u48, u49, u50, u51, u52, u53, u54, u55, rfl, hzL, hst⟩
    obtain ⟨w1, w2, A', c', k, ps, ss, hbk, hb1, hp, hb2, hpl, hr, hAp, hg, hh, hown, hch, hx, hle, hL29, hno⟩ := hst
    have HBk := hide hbk
    have HB1 := hide hb1
    have HB2 := hide hb2
    have Hr := hide hr
    have HAp := hide hAp
    have Hg := hide hg
    have Hh := hide hh
    have Hown := hide hown
    have Hch := hide hch
    have Hx := hide hx
    have Hno := hide hno
    have Hz := hide hzL
    have hxb := bnum_lt (g := fun i => bitF f (ps k + i)) (n := L) (fun i _ => bitF_bd _) L (Nat.le_refl _) (by omega)
    rw [← hx] at hxb
    have hRd := hr.other hg (fun b' o' e => hAp _ e)
    have HRd := hide hRd
    have hrdr : Rdr w' p n f (ps k + L) := ⟨A', c', hh, hRd, hAp, hle, by omega⟩
    have Hrdr := hide hrdr
    have hg2 : Below w1.heap.size w1 w' := hb2.grown hg hb2.size (fun j e => by cases e; exact hp)
    have HG2 := hide hg2
    have HW := hide (hb1.of hg2)
    obtain ⟨M, hM⟩ : ∃ M, 8 * n - (ps k + L) = M := ⟨_, rfl⟩
    have HM := hide hM
    obtain ⟨hx0, hx1⟩ := hxb
    clear hbk hb1 hb2 hr hAp hg hh hown hch hx hno hRd hrdr hg2 hM hzL
    go_wp2_with fail
    refine (bleft_any p n (ps k + L) f _ Hrdr.out).mono ?_
    rintro e w3 ⟨rfl, q, rfl⟩
    rw [HM.out]
    by_cases hM0 : M = 0
    · have hMM := HM.out
      have htn : Hid (ps k + L = 8 * n) := by show _ = _; omega
      have dM : ((M : Int) == 0) = true := by simpa using hM0
      have dM' : (M == 0) = true := by simpa using hM0
      have HNo : Hid (∀ S, ¬ Mt (bitF f) (8 * n) (ps k) S) := fun S hS => Hno.out S (by have := hS.2.1; have := htn.out; omega) hS
      have HWq : Hid (Below w.heap.size w (w'.drewN q)) := HW.out.of (drawn_below ⟨q, rfl⟩ _)
      clear hM0 hMM
      by_cases h7 : 7 < L
      · have d7 : decide (7 < z) = true := decide_eq_true (by have := Hz.out; omega)
        have hbad : Hid (¬ (8 * n - ps k ≤ 7 ∧ ∀ i, ps k ≤ i → i < 8 * n → bitF f i = 1)) := fun h => by have := htn.out; omega
        clear h7
        go_wp2_with fail
        simp only [Exit.jump]
        go_ret2
        exact DcdE.bad Hch.out (.inl ⟨rfl, HNo.out, hbad.out⟩) HWq.out
      · have hzL := Hz.out
        have d7 : decide (7 < z) = false := decide_eq_false (by omega)
        obtain ⟨N0, hN0⟩ : ∃ N0, (2 : Int) ^ L - 1 = N0 := ⟨_, rfl⟩
        have HN0 := hide hN0
        have hcs : (z = 0 ∧ N0 = 0) ∨ (z = 1 ∧ N0 = 1) ∨ (z = 2 ∧ N0 = 3) ∨ (z = 3 ∧ N0 = 7) ∨ (z = 4 ∧ N0 = 15) ∨ (z = 5 ∧ N0 = 31) ∨ (z = 6 ∧ N0 = 63) ∨ (z = 7 ∧ N0 = 127) := by
          have hL : L = 0 ∨ L = 1 ∨ L = 2 ∨ L = 3 ∨ L = 4 ∨ L = 5 ∨ L = 6 ∨ L = 7 := by omega
          rcases hL with rfl | rfl | rfl | rfl | rfl | rfl | rfl | rfl <;> (rw [← hN0, hzL]; decide)
        have Hgood : Hid (x = N0 → (8 * n - ps k ≤ 7 ∧ ∀ i, ps k ≤ i → i < 8 * n → bitF f i = 1)) := fun e => by
          have ht := htn.out
          refine ⟨by omega, fun i h1 h2 => ?_⟩
          have := num_ones L (fun i _ => bitF_bd _) (by rw [← Hx.out, e, HN0.out]) (i - ps k) (by omega)
          rw [show ps k + (i - ps k) = i by omega] at this
          exact this
        have Hbad : Hid (x ≠ N0 → ¬ (8 * n - ps k ≤ 7 ∧ ∀ i, ps k ≤ i → i < 8 * n → bitF f i = 1)) := fun e h => by
          have ht := htn.out
          exact e (by rw [Hx.out, ← HN0.out]; exact ones_num L (fun i hi => h.2 (ps k + i) (by omega) (by omega)))
        clear h7 hzL hN0 HN0 Hz
        by_cases hxN : x = N0
        · have dx : (x != N0) = false := by simpa using hxN
          have HH := hide (Hgood.out hxN)
          have Ho : Hid (Own .u8 5 w.heap.size (w'.drewN q) v k (fun i => (ss i : Int))) := Own.baseB (Own.below Hown.out (drawn_below ⟨q, rfl⟩ _)) (Nat.le_trans HB1.out.size HB2.out.size)
          clear hxN
          rcases hcs with ⟨rfl, rfl⟩ | ⟨rfl, rfl⟩ | ⟨rfl, rfl⟩ | ⟨rfl, rfl⟩ | ⟨rfl, rfl⟩ | ⟨rfl, rfl⟩ | ⟨rfl, rfl⟩ | ⟨rfl, rfl⟩
          all_goals
            go_wp2_with fail
            simp only [Exit.jump]
            go_ret2
            exact DcdE.good Hch.out Ho.out HNo.out HH.out.1 HH.out.2 HWq.out
        · have dx : (x != N0) = true := by simpa using hxN
          have HH := hide (Hbad.out hxN)
          clear hxN
          rcases hcs with ⟨rfl, rfl⟩ | ⟨rfl, rfl⟩ | ⟨rfl, rfl⟩ | ⟨rfl, rfl⟩ | ⟨rfl, rfl⟩ | ⟨rfl, rfl⟩ | ⟨rfl, rfl⟩ | ⟨rfl, rfl⟩
          all_goals
            go_wp2_with fail
            simp only [Exit.jump]
            go_ret2
            exact DcdE.bad Hch.out (.inl ⟨rfl, HNo.out, HH.out⟩) HWq.out
    · have dM : ((M : Int) == 0) = false := by simpa using hM0
      have dM' : (M == 0) = false := by simpa using hM0
      have htn : Hid (ps k + L < 8 * n) := by have := HM.out; show _ < _; omega
      have hzb0 : 0 ≤ z := by have := Hz.out; omega
      have hzb1 : z ≤ 29 := by have := Hz.out; omega
      clear hM0
      go_wp2_with fail
      refine (bitA p n (ps k + L) c' A' f (w'.drewN q) Hh.out (HRd.out.drewN q) HAp.out Hf.out htn.out (by omega)).mono ?_
      rintro e w4 ⟨rfl, hh4, hg4⟩
      have Hg4 : Hid (w'.grownBy w4 (some p)) := ⟨hg4.os, hg4.tape, hg4.output, hg4.size, hg4.block⟩
      have Hh4 := hide hh4
      have hgr : w2.grownBy w4 (some p) := grown_trans Hg.out Hg4.out
      have HGr := hide hgr
      have Hb4 : Hid (Below w1.heap.size w1 w4) := HB2.out.grown hgr HB2.out.size (fun j e => by cases e; exact hp)
      have Hown4 : Hid (Own .u8 5 w2.heap.size w4 v k (fun i => (ss i : Int))) :=
        Own.keepT Hown.out (KeepT.grown Hg4.out (cs' := _) (T' := 76) Hh.out (by decide))
      obtain ⟨bb, hbb⟩ : ∃ bb, bitF f (ps k + L) = bb := ⟨_, rfl⟩
      have hbd := bitF_bd (f := f) (ps k + L)
      rw [hbb] at hbd ⊢
      obtain ⟨hb0, hb1⟩ := hbd
      obtain ⟨y, hy⟩ : ∃ y, 2 * x + bb = y := ⟨_, rfl⟩
      have hor := or_bit hx0 hx1 hb0 hb1
      rw [hy] at hor
      have HY : Hid (y = bnum (fun i => bitF f (ps k + i)) (L + 1)) := by
        show _ = 2 * bnum _ L + bitF f (ps k + L)
        rw [← Hx.out, hbb, hy]
      have hy0 : 0 ≤ y := by omega
      have hy1 : y ≤ 9000000000 := by omega
      have hx2 : x * 2 ≤ 8589934592 := by omega
      clear hh4 hg4 hgr hbb hy
      go_wp2_with fail
      refine (findI B y (z + 1) _ (HBk.out.below Hb4.out) (by omega) (by omega)).mono ?_
      rintro e w5 ⟨s, fnd, rfl, hF, q5, rfl⟩
      have HF := hide hF
      clear hF
      have hzz : Hid (z + 1 = ((L + 1 : Nat) : Int)) := by have := Hz.out; show _ = _; omega
      cases fnd with
      | false =>
        have HNo' : Hid (∀ S, len S ≤ L + 1 → ¬ Mt (bitF f) (8 * n) (ps k) S) := fun S hS hM => by
          by_cases e : len S ≤ L
          · exact Hno.out S e hM
          · rcases HF.out with ⟨h, _⟩ | ⟨_, _, h⟩
            · cases h
            · have e2 : len S = L + 1 := by omega
              refine h S hM.1 ⟨?_, by rw [hzz.out, e2]⟩
              have := hM.2.2
              rw [e2, ← HY.out] at this
              exact this.symm
        have hL29' : Hid (L + 1 ≤ 29) := by
          show _ ≤ _
          by_cases e : L + 1 ≤ 29
          · exact e
          · obtain ⟨S, hS⟩ := mt_some (g := bitF f) (N := 8 * n) (t := ps k) (bitF_bits f _) (by have := htn.out; omega)
            exact absurd hS (HNo'.out S (by have := len_bd S hS.1; omega))
        have HD : Hid (DSt w n f B p v y (L + 1) (w4.drewN q5)) :=
          ⟨w1, w2, A', c', k, ps, ss, HBk.out, HB1.out, hp, HB2.out, hpl, Hr.out, HAp.out, grown_below HGr.out (drawn_below ⟨q5, rfl⟩ _), Hh4.out, Own.below Hown4.out (drawn_below ⟨q5, rfl⟩ _), Hch.out, HY.out, htn.out, hL29'.out, HNo'.out⟩
        have HP : Hid (RdrA (w4.drewN q5) p A' c' n (ps k + L + 1)) := Hh4.out
        have HP0 : Hid (RdrA w' p A' c' n (ps k + L)) := Hh.out
        go_wp2_with fail
        go_step3
        refine ⟨rfl, ⟨B, p, L + 1, v, y, z + 1, _, _, _, _, _, _, _, _, _, _, _, _, _, _, _, _, _, _, _, _, _, _, _, _, _, _, _, _, _, _, _, _, _, _, _, _, _, _, _, _, _, _, _, _, _, _, _, _, _, _, rfl, hzz.out, HD.out⟩, ?_⟩
        rw [rdPos_of rfl HP.out, rdPos_of rfl HP0.out]
        have := htn.out
        omega
      | true =>
        obtain ⟨S, hS, rfl, hcd, hlS⟩ : ∃ S : Nat, S < 257 ∧ s = (S : Int) ∧ (cd (rnk S) : Int) = y ∧ (len S : Int) = z + 1 := by
          rcases HF.out with ⟨_, h⟩ | ⟨h, _⟩
          · exact h
          · cases h
        have hlS' : len S = L + 1 := by have := hzz.out; omega
        have HMt : Hid (Mt (bitF f) (8 * n) (ps k) S) := ⟨hS, by have := htn.out; omega, by rw [hlS', ← HY.out, hcd]⟩
        have Hls := hide hlS'
        clear hcd hlS hlS'
        have HWr : Hid (Below w.heap.size w (w4.drewN q5)) := HB1.out.of (Hb4.out.trans (drawn_below ⟨q5, rfl⟩ _))
        by_cases h256 : S = 256
        · subst h256
          go_wp2_with fail
          simp only [Exit.jump]
          go_ret2
          exact DcdE.bad Hch.out (.inr ⟨rfl, HMt.out⟩) HWr.out
        · have d1 : ((S : Int) == 256) = false := by simp; omega
          have s0 : (0 : Int) ≤ (S : Int) := by omega
          have s1 : (S : Int) ≤ 255 := by omega
          have Hch' : Hid (Chn (bitF f) (8 * n) (k + 1) (fun i => if i ≤ k then ps i else ps k + len S) (fun i => if i < k then ss i else S)) := Hch.out.more HMt.out (by omega)
          obtain ⟨hpk1, hpk2⟩ := Hch.out.pos k (Nat.le_refl _)
          have hk8 : k ≤ 16000 := by omega
          have hsz : w2.heap.size ≤ w4.heap.size := HGr.out.size
          have hsz5 : w2.heap.size ≤ (w4.drewN q5).heap.size := HGr.out.size
          have Hown5 : Hid (Own .u8 5 w2.heap.size (w4.drewN q5) v k (fun i => (ss i : Int))) := Own.below Hown4.out (drawn_below ⟨q5, rfl⟩ _)
          go_wp2_with (at_builtin; refine wp_app rfl (.tmp 51) (.tmp 54) _ rfl i0 0 1 Try.underlying24 hi hz0 hz1 hz2 w2.heap.size _ k _ rfl (Hown5.out.alloc _) _ 1 1 _ rfl (Rd.one .u8 5 _ _) (by simp only [maxLen]; omega) (by omega) (by simp; omega) ?_; intro v6 w6 hown6 hg6)
          have B6 : Hid (Below w2.heap.size w4 w6) := (((Below.refl w2.heap.size w4).trans (drawn_below ⟨q5, rfl⟩ _)).alloc hsz _).grown hg6 (by simp; omega) (fun j e => (World.ownsRow.lt Hown4.out j e).1)
          have HP6 : Hid (RdrA w6 p A' c' n (ps k + L + 1)) := (B6.out.block p hpl).trans Hh4.out
          have HP0 : Hid (RdrA w' p A' c' n (ps k + L)) := Hh.out
          have hpk : (if k + 1 ≤ k then ps (k + 1) else ps k + len S) = ps k + L + 1 := by rw [if_neg (by omega), Hls.out]; omega
          have HD : Hid (DSt w n f B p v6 0 0 w6) := by
            refine ⟨w1, w2, A', c', k + 1, _, _, HBk.out, HB1.out, hp, HB2.out, hpl, Hr.out, HAp.out, grown_below HGr.out B6.out, ?_, hown6.congr (fun i hi => ?_), Hch'.out, rfl, ?_, by omega, fun S hS hM => by have := len_bd S hM.1; omega⟩
            · show RdrA w6 p A' c' n ((if k + 1 ≤ k then ps (k + 1) else ps k + len S) + 0)
              rw [hpk]
              exact HP6.out
            · by_cases h : i < k
              · simp [catF, h]
              · simp [catF, oneF, h]
            · show (if k + 1 ≤ k then ps (k + 1) else ps k + len S) + 0 ≤ 8 * n
              rw [hpk]
              have := htn.out
              omega
          go_step3
          refine ⟨rfl, ⟨B, p, 0, v6, 0, 0, _, _, _, _, _, _, _, _, _, _, _, _, _, _, _, _, _, _, _, _, _, _, _, _, _, _, _, _, _, _, _, _, _, _, _, _, _, _, _, _, _, _, _, _, _, _, _, _, _, _, rfl, rfl, HD.out⟩, ?_⟩
          rw [rdPos_of rfl HP6.out, rdPos_of rfl HP0.out]
          have := htn.out
          omega
end Go.Proofs.Yteijpklepgenbaa
