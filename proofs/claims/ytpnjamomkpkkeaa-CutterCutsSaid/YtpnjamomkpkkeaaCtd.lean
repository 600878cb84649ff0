/- Layer 12: 'all' of the laws: pieces one behind the other. -/
import Derived.Test.YtpnjamomkpkkeaaCtc
namespace Go.Proofs.Ytpnjamomkpkkeaa
set_option linter.unusedVariables false
set_option linter.unusedSimpArgs false
open Go.RowKit

theorem results_tmp_cell12 {fn : Func} {p u : Tmp} {ty : TypeId} (h : fn.results = #[.tmp u, .cell p ty]) (tmps : Array Value) (P : Program) (w : World) :
    (results fn tmps).run P w = ((asAddr (tmps.getD p undef)).run P w).andThen fun a w₁ => ((loadVar ty a).run P w₁).andThen fun x w₂ => .ok (.tuple #[tmps.getD u undef, x]) w₂ := by
  simp only [results, h]
  simp [Sem.run_bind, Result.andThen]
def AllP (w : World) (q : List (Int × Int)) (e : Ending) (w' : World) : Prop :=
  ∃ (A : Option Addr) (c : Nat) (gs : List Rl) (x y : Int), e = .returned (.tuple #[.slice A gs.length c, .agg #[.int .i64 x, .int .i64 y]]) ∧ gs = outF nilL q ∧ x = (lftN 0 (endF nilL q 0) : Nat) ∧ y = (lftN 1 (endF nilL q 1) : Nat) ∧ RwsR w' A gs.length c gs ∧ Below w.heap.size w w'
theorem frs_len {sd : Int} {L : List Int} (h : ByL L) : (frs sd L).length ≤ L.length := by
  obtain ⟨s, h1, _⟩ := frs_hw (sd := sd) h
  have h2 := h1.ok.many
  have h3 := congrArg List.length h1.eq
  rw [List.length_append] at h3
  omega
theorem feedX {p B : Nat} {w : World} {L : Int → List Int} {s : Int → Pt} {v : Int → Value} (x : Int) (hx : x = 0 ∨ x = 1) (h : CtOk p B w L s v) (M : List Int) (A : Option Addr) (n c : Nat) (hn : M.length = n) (hM : ByL M) (hr : Rd .u8 w A n c (lyF M)) (hap : 0 < n → ∀ a, A = some a → (v x).ownBlock ≠ some a.block ∧ a.block ≠ p) (hsz : (L x).length + n ≤ 10000000) :
    Calls Try.prog 26 #[.pointer (some ⟨p, 0, none⟩), .agg #[.int .i64 x, .slice A n c]] w (FeedQ x p B L M s v w) := by
  subst hn
  rcases hx with rfl | rfl
  · exact feedF0 h M A c hM hr hap hsz
  · exact feedF1 h M A c hM hr hap hsz
theorem RwsO.setOther {S : Nat → Prop} {N q : Nat} {w w' : World} {ve : Value} {gs : List Rl} {F : Nat → Rw} {cs : Array Value} {T : TypeId} (h : RwsO S N w ve gs F) (hf : FrQ (fun i => i = q) w w') (hq : q < N) (hr : w.heap[q]? = some (.cells cs T (0, 0))) (hc : ∀ (j : Nat) (y : Int), cs[j]? ≠ some (Value.int .u8 y)) : RwsO S N w' ve gs F :=
  ⟨h.own.frQ hf fun i hi e => by have := (World.ownsRow.lt h.own i hi).1; have e' : i = q := e; omega, fun i x hx => by
    obtain ⟨k1, k2⟩ := h.bod i x hx
    exact ⟨k1.frQ hf fun hn a ha => u8_no k1.2.2.2.2.2.2 hr hc hn a ha, fun hn a ha => ⟨(k2 hn a ha).1, (k2 hn a ha).2.1, Nat.lt_of_lt_of_le (k2 hn a ha).2.2 hf.size⟩⟩⟩
theorem bM_len (X : Ck) : (bM X).length = X.n := by simp [bM]
theorem bM_byt {X : Ck} (h : Byt X.n X.b) : ByL (bM X) := byl_of h
theorem bM_rd {X : Ck} {w : World} (h : Rd .u8 w X.A X.n X.c X.b) : Rd .u8 w X.A X.n X.c (lyF (bM X)) := h.congr fun i hi => (lyF_map hi).symm
set_option maxRecDepth 100000 in
set_option maxHeartbeats 3200000 in
theorem all12 (A : Option Addr) (n c : Nat) (F : Nat → Ck) (w : World) (ha : RdC w A n c F) (hfr : ∀ i, i < n → (F i).from_ = 0 ∨ (F i).from_ = 1) (hn : n ≤ 100000) (hs : sumC F n ≤ 1000000) :
    Calls Try.prog 31 #[.slice A n c] w (AllP w (flK F n)) := by
  obtain ⟨iR, hiR, zR0, zR1, zR2⟩ := info_parts raw_info12
  have a0 := (Below.refl w.heap.size w).alloc (Nat.le_refl _) (.cells #[.int .i64 0, .int .i64 0] 71)
  have R0 := heap_alloc_new w (.cells #[.int .i64 0, .int .i64 0] 71)
  have s0 : (w.alloc (.cells #[.int .i64 0, .int .i64 0] 71)).heap.size = w.heap.size + 1 := by simp
  have HA := hide ha
  have HFR := hide hfr
  have HS := hide hs
  have HA0 := hide a0
  have HR0 := hide R0
  have HS0 := hide s0
  clear ha hfr hs a0 R0 s0
  go_enter Try.func31, Try.ntmps31
  go_wp2_with fail
  generalize w.alloc (.cells #[.int .i64 0, .int .i64 0] 71) = W0 at *
  refine (new12 W0).mono ?_
  rintro e w' ⟨rfl, rfl⟩
  have HR1 := hide (keepRow HR0.out ((Below.refl W0.heap.size W0).alloc (Nat.le_refl _) zeroCt))
  have hct := ctOk_zero (B := W0.heap.size) (heap_alloc_new W0 zeroCt) (Nat.le_refl _)
  have hb1 : Below w.heap.size w (W0.alloc zeroCt) := HA0.out.alloc HA0.out.size _
  generalize hp : W0.heap.size = p at *
  generalize hW1 : W0.alloc zeroCt = W1 at *
  have HB1 := hide hb1
  have HW : Hid (w.heap.size < p) := hide (by have := HS0.out; omega)
  have HCT : Hid (AllOk p p W1 W1 nilL [] (fun _ => ⟨0, [], []⟩) (fun _ => .slice none 0 0) (.slice none 0 0) default) := hide ⟨hct, ⟨OwnV.nil _ _ _ _ _, fun i x hx => by simp at hx⟩, fun i hi => (by cases hi), Below.refl _ _⟩
  clear hct hb1 hW1 hp HA0 HR0 HS0
  go_wp2_with fail
  go_loopw [5, 13] (fun o i wr => ∃ (k : Nat) (s : Int → Pt) (v : Int → Value) (G : Nat → Rw), k ≤ n ∧ i = .int .i64 k ∧ AllOk p p W1 wr (endF nilL (flK F k)) (outF nilL (flK F k)) s v o G ∧ (outF nilL (flK F k)).length ≤ k * 1000000) (fun _ i _ => n - (intOf i).toNat)
  case atStart => exact ⟨0, _, _, _, Nat.zero_le _, rfl, HCT.out, Nat.zero_le _⟩
  case round =>
    obtain ⟨k, s, v, G, hk, rfl, hJ, hlen⟩ := hrel
    obtain ⟨Ao, co, ho, _⟩ := hJ.ro.rws
    subst ho
    have hbw : Below w.heap.size w wr := HB1.out.trans (hJ.bel.mono (Nat.le_of_lt HW.out))
    have HBW := hide hbw
    clear HCT
    by_cases hlt : k < n
    · have har := HA.out.below hbw
      obtain ⟨b, off, rfl, c0, c1⟩ := har.at_ hlt
      obtain ⟨hrd, hbyt⟩ := har.2.2.2.2 k hlt
      have hx := HFR.out k hlt
      have hrw := (HA.out.2.2.2.2 k hlt).1
      have hL : ByL (endF nilL (flK F k) (F k).from_) := by
        rcases hx with h | h
        · rw [h]; exact hJ.ct.h0.byt
        · rw [h]; exact hJ.ct.h1.byt
      obtain ⟨q1, q2⟩ := out_step F k hL (bM_byt hbyt)
      have hl1 := endF_len (flK F k) nilL (F k).from_
      rw [flK_len] at hl1
      have hl2 := sumC_mono F (show k + 1 ≤ n from hlt)
      have hl3 : sumC F (k + 1) = sumC F k + (F k).n := rfl
      have hl4 := HS.out
      have hl5 : (nilL (F k).from_).length = 0 := rfl
      have hl6 : (endF nilL (flK F k) (F k).from_).length + (F k).n ≤ 1000000 := by omega
      have hl7 := frs_len (sd := (F k).from_) (hL.app (bM_byt hbyt))
      rw [List.length_append, bM_len] at hl7
      have hhl : ((frs (F k).from_ (endF nilL (flK F k) (F k).from_ ++ bM (F k))).drop (frs (F k).from_ (endF nilL (flK F k) (F k).from_)).length).length ≤ 1000000 := by rw [List.length_drop]; omega
      have hgl : (outF nilL (flK F k)).length ≤ 100000000000 := by omega
      have HJ := hide hJ
      have HX := hide hx
      have HQ1 := hide q1
      have HQ2 := hide q2
      have HL6 := hide hl6
      have HBY := hide (bM_byt hbyt)
      have HRD := hide (bM_rd hrd)
      have HRW := hide hrw
      have HLEN := hide hlen
      have hi0 : (0 : Int) ≤ (k : Int) := by omega
      have hi1 : (k : Int) < (n : Int) := by omega
      clear hJ hx q1 q2 hl1 hl2 hl3 hl4 hl5 hl6 hl7 hL hbyt hrd hrw har hbw hlen
      generalize hgs : outF nilL (flK F k) = gs at *
      generalize hLL : endF nilL (flK F k) = L at *
      generalize hhs : (frs (F k).from_ (L (F k).from_ ++ bM (F k))).drop (frs (F k).from_ (L (F k).from_)).length = hs at *
      have HHS := hide hhs
      clear hgs hLL hhs
      have hml := bM_len (F k)
      have HML := hide hml
      clear hml
      generalize bM (F k) = M at *
      generalize F k = X at *
      obtain ⟨x, XA, xn, xc, xb⟩ := X
      simp only at *
      have a2 := (Below.refl wr.heap.size wr).alloc (Nat.le_refl _) (.cells #[.int .i64 x, .slice XA xn xc] 52)
      have HJ2 := hide (HJ.out.below a2)
      have HRD2 := hide (HRD.out.below a2)
      have R2 := heap_alloc_new wr (.cells #[.int .i64 x, .slice XA xn xc] 52)
      obtain ⟨r0, r1⟩ := row2 R2
      clear a2 R2 HJ HRD
      go_wp2_with fail
      generalize wr.alloc (.cells #[.int .i64 x, .slice XA xn xc] 52) = wa at *
      refine (feedX x HX.out HJ2.out.ct M XA xn xc HML.out HBY.out HRD2.out (fun hn2 a e => by
        have h1 : a.block < w.heap.size := by
          obtain ⟨b2, o2, hA, h1, _⟩ := HRW.out.block hn2
          obtain rfl := Option.some.inj (e.symm.trans hA)
          exact h1
        have h2 := HW.out
        refine ⟨fun e2 => ?_, by omega⟩
        have h3 := (HJ2.out.ct.at0 (ctS_of HX.out (.inr e2))).1
        omega) (by have := HL6.out; omega)).mono ?_
      rintro e w2 ⟨t, u, ve, Fe, rfl, hC, hq, hu, hO⟩
      rw [HHS.out] at hO
      obtain ⟨Ae, ce, rfl, _⟩ := hO.rws
      have hS : ∀ i, (((v x).ownBlock = some i ∨ wa.heap.size ≤ i) ∧ ¬ ctS p (upS v x u) i) → ¬ ctS p (upS v x u) i ∧ (Value.slice Ao gs.length co).ownBlock ≠ some i := fun i hi => ⟨hi.2, fun e => by
        rcases hi.1 with h1 | h1
        · exact HJ2.out.nov i e (ctS_of HX.out (.inr h1))
        · have := (World.ownsRow.lt HJ2.out.ro.own i e).2; omega⟩
      have HJ3 := hide (HJ2.out.fed HX.out hC hq hu)
      have HO := hide hO
      have HSS := hide hS
      have hbase : p ≤ w2.heap.size := HJ3.out.ct.hB
      have hov : RdV 6 w2 Ae hs.length ce (rwV Fe) := by
        obtain ⟨A', c', e, h1, _⟩ := hO.own.rd
        injection e with e1 e2 e3
        subst e1 e3
        exact h1
      have HOV := hide hov
      clear hC hq hu hO hS hov HJ2 HRD2 r0 r1 c0 c1
      go_wp2_with (at_builtin; refine wp_appV rfl _ _ _ rfl 6 iR _ 64 Try.underlying61 hiR zR0 zR1 zR2 rfl (by omega) p (.slice Ao gs.length co) gs.length (rwV G) rfl HJ3.out.ro.own _ hs.length ce (rwV Fe) rfl HOV.out (rwV_one _ _) (by simp only [maxLen]; omega) (by omega) hbase ?_; intro vo7 w7 h7 hg7 hb7; have HJ8 := hide (HJ3.out.app HO.out HSS.out h7 hg7 hb7); obtain ⟨Ae7, ce7, rfl, _, _⟩ := h7.rd; clear h7 hg7 hb7)
      go_roundw
      case rel =>
        refine ⟨k + 1, upS s x t, upS v x u, catRw gs.length G Fe, by omega, by go_num, ?_, ?_⟩
        · rw [HQ1.out, HQ2.out]
          exact HJ8.out
        · rw [HQ1.out, List.length_append]
          have := HLEN.out
          omega
      case measure => simp [intOf]; omega
    · obtain rfl : k = n := by omega
      have R1 : wr.heap[w.heap.size]? = some (.cells #[.int .i64 0, .int .i64 0] 71 (0, 0)) := (hJ.bel.block _ HW.out).trans HR1.out
      obtain ⟨x, hx⟩ : ∃ x : Int, (lftN 0 (endF nilL (flK F k) 0) : Nat) = x := ⟨_, rfl⟩
      obtain ⟨y, hy⟩ : ∃ y : Int, (lftN 1 (endF nilL (flK F k) 1) : Nat) = y := ⟨_, rfl⟩
      have hl0 := leftF0 hJ.ct
      have hl1 := leftF1 hJ.ct
      rw [hx] at hl0
      rw [hy] at hl1
      have HX := hide hx
      have HY := hide hy
      have HJ := hide hJ
      have HL0 := hide hl0
      have HL1 := hide hl1
      generalize hgs : outF nilL (flK F k) = gs at *
      have HGS := hide hgs
      obtain ⟨d0, d1⟩ := row2 R1
      have f0 := frozenRow R1 0
      have S0 := setRow wr w.heap.size 0 (.int .i64 x) R1
      simp only [List.setIfInBounds_toArray, List.set_cons_zero, List.set_cons_succ] at S0
      obtain ⟨-, g1⟩ := row2 S0
      have f1 := frozenRow S0 1
      have S1 := setRow (wr.setCell ⟨w.heap.size, 0, none⟩ (.int .i64 x)) w.heap.size 1 (.int .i64 y) S0
      simp only [List.setIfInBounds_toArray, List.set_cons_zero, List.set_cons_succ] at S1
      obtain ⟨k0, k1⟩ := row2 S1
      have hq2 : FrQ (fun i => i = w.heap.size) wr ((wr.setCell ⟨w.heap.size, 0, none⟩ (.int .i64 x)).setCell ⟨w.heap.size, 1, none⟩ (.int .i64 y)) := (FrQ.set (S := fun i => i = w.heap.size) rfl 0 _).tr (FrQ.set (S := fun i => i = w.heap.size) rfl 1 _)
      have hro := HJ.out.ro.setOther hq2 HW.out R1 (by intro j y; match j with | 0 => simp | 1 => simp | j + 2 => simp)
      have HRR := hide hro.rwsR.1
      have HBF := hide (HBW.out.trans (hq2.bel HBW.out.size fun i _ e => Nat.le_of_eq e.symm))
      clear hJ R1 hx hy hl0 hl1 hgs S0 S1 hq2 hro hlen
      go_wp2_with fail
      refine HL0.out.mono ?_
      rintro e w3 ⟨rfl, rfl⟩
      go_wp2_with fail
      refine HL1.out.mono ?_
      rintro e w3 ⟨rfl, rfl⟩
      go_wp2_with fail
      refine bodyPost_ret (v := .tuple #[.slice Ao gs.length co, .agg #[.int .i64 x, .int .i64 y]]) ?_ rfl ⟨Ao, co, gs, x, y, rfl, HGS.out.symm, HX.out.symm, HY.out.symm, HRR.out, HBF.out⟩
      rw [results_tmp_cell12 rfl]
      go_simp
end Go.Proofs.Ytpnjamomkpkkeaa
