/- Layer 12: the document's cut of all bytes of a side. -/
import Derived.Test.YtpnjamomkpkkeaaCtd
import Derived.Test.YtpnjamomkpkkeaaCk2
import Derived.Deep.RegionHeld3
namespace Go.Proofs.Ytpnjamomkpkkeaa
set_option linter.unusedVariables false
set_option linter.unusedSimpArgs false
open Go.RowKit

theorem encL_snoc12 (gs : List Rl) (x : Rl) : encL (gs ++ [x]) = encL gs ++ x.enc := by
  rw [encL_app]
  show _ ++ (x.enc ++ []) = _
  rw [List.append_nil]
/-- The cutting under way: the frames so far, what is left. -/
structure RcJ (S : Nat → Prop) (sd : Int) (M : List Int) (w wr : World) (b o : Value) (fs : List Rl) (r : List Int) (Ab : Option Addr) (cb : Nat) (R : Nat → Rw) : Prop where
  hb : b = .slice Ab r.length cb
  rd : Rd .u8 wr Ab r.length cb (lyF r)
  lt : 0 < r.length → ∀ a, Ab = some a → a.block < w.heap.size ∧ S a.block
  eq : M = encL fs ++ r
  ok : FsOk sd fs
  ne : sd = 0 → fs ≠ []
  ow : OwnV 6 29 w.heap.size wr o fs.length (rwV R)
  bw : ∀ i x, fs[i]? = some x → RwIs wr (R i) x ∧ (0 < (R i).n → ∀ a, (R i).A = some a → a.block < w.heap.size ∧ S a.block)
  bel : Below w.heap.size w wr
section
variable {S : Nat → Prop} {sd : Int} {M : List Int} {w wr : World} {b o : Value} {fs : List Rl} {r : List Int} {Ab : Option Addr} {cb : Nat} {R : Nat → Rw}
theorem RcJ.below (h : RcJ S sd M w wr b o fs r Ab cb R) {w2 : World} (hb : Below wr.heap.size wr w2) : RcJ S sd M w w2 b o fs r Ab cb R :=
  ⟨h.hb, h.rd.below hb, h.lt, h.eq, h.ok, h.ne, h.ow.below hb, fun i x hx => ⟨(h.bw i x hx).1.below hb, (h.bw i x hx).2⟩, h.bel.trans (hb.mono h.bel.size)⟩
theorem RcJ.inc (h : RcJ S sd M w wr b o fs r Ab cb R) (hM : ByL M) (hr : IncH r) : frs sd M = fs ∧ lftN sd M = r.length := by
  have h1 : frs sd M = fs := frs_of hM h.ok (by unfold Inc; rw [if_neg (fun e => h.ne e.1 e.2)]; exact hr) h.eq
  refine ⟨h1, ?_⟩
  unfold lftN
  rw [h1]
  have := congrArg List.length h.eq
  rw [List.length_append] at this
  omega
theorem RcJ.rws (h : RcJ S sd M w wr b o fs r Ab cb R) : ∃ Ao co, o = .slice Ao fs.length co ∧ RwsR wr Ao fs.length co fs := by
  obtain ⟨A, c, hv, hr, _⟩ := h.ow.rd
  exact ⟨A, c, hv, R, hr, rfl, fun i x hx => (h.bw i x hx).1⟩
/-- One frame more. -/
theorem RcJ.more (h : RcJ S sd M w wr b o fs r Ab cb R) {x : Rl} {Rx : Rw} {r2 : List Int} (hok : FsOk sd (fs ++ [x])) (he : r = x.enc ++ r2) (hR : RwIs wr Rx x) (hRb : 0 < Rx.n → ∀ a, Rx.A = some a → a.block < w.heap.size ∧ S a.block) {o' : Value} {w2 : World} (h6 : OwnV 6 29 w.heap.size w2 o' (fs.length + 1) (catV (fs.length * 6) (rwV R) (rwV fun _ => Rx))) (g6 : wr.grownBy w2 o.ownBlock) (k : Nat) (hk : k = r.length - r2.length) :
    RcJ S sd M w w2 (.slice (cutA Ab cb k) r2.length (cb - k)) o' (fs ++ [x]) r2 (cutA Ab cb k) (cb - k) (catRw fs.length R fun _ => Rx) := by
  have hq : FrQ (fun i => o.ownBlock = some i) wr w2 := FrQ.grown g6 fun g e => e
  have hlo : ∀ i, o.ownBlock = some i → w.heap.size ≤ i := fun i e => (World.ownsRow.lt h.ow i e).1
  have hl : r.length = x.enc.length + r2.length := by rw [he, List.length_append]
  have hkk : k = x.enc.length := by omega
  have keepR : ∀ (Z : Rw) (z : Rl), RwIs wr Z z → (0 < Z.n → ∀ a, Z.A = some a → a.block < w.heap.size ∧ S a.block) → RwIs w2 Z z := fun Z z hz hZ => hz.frQ hq fun hn a ha e => by have := hlo _ e; have := (hZ hn a ha).1; omega
  refine ⟨rfl, ?_, fun hn a ha => ?_, ?_, hok, fun _ => by simp, ?_, fun i z hz => ?_, h.bel.grown g6 h.bel.size hlo⟩
  · have h1 := (h.rd.frQ hq fun hn a ha e => by have := hlo _ e; have := (h.lt hn a ha).1; omega).cutR (lo := k) (hi := r.length) (by omega) (Nat.le_refl _)
    have e1 : r.length - k = r2.length := by omega
    rw [e1] at h1
    refine h1.congr fun i hi => ?_
    rw [he, hkk]
    exact lyF_right
  · obtain ⟨b', hb1, hb2⟩ := cutA_block ha
    rw [← hb2]
    exact h.lt (by omega) b' hb1
  · rw [encL_snoc12, List.append_assoc, ← he]
    exact h.eq
  · rw [List.length_append, ← rwV_cat]
    exact h6
  · unfold catRw
    by_cases hi : i < fs.length
    · rw [if_pos hi]
      rw [List.getElem?_append_left hi] at hz
      exact ⟨keepR _ _ (h.bw i z hz).1 (h.bw i z hz).2, (h.bw i z hz).2⟩
    · rw [if_neg hi]
      rw [List.getElem?_append_right (by omega)] at hz
      obtain rfl : x = z := by
        match hm : i - fs.length, hz with
        | 0, hz => simpa using hz
        | j + 1, hz => simp at hz
      exact ⟨keepR _ _ hR hRb, hRb⟩
end
def RcP (S : Nat → Prop) (sd : Int) (M : List Int) (w : World) (e : Ending) (w' : World) : Prop :=
  ∃ (A : Option Addr) (c : Nat) (gs : List Rl) (x : Int) (R : Nat → Rw), e = .returned (.tuple #[.slice A gs.length c, .int .i64 x]) ∧ gs = frs sd M ∧ x = (lftN sd M : Nat) ∧ RdV 6 w' A gs.length c (rwV R) ∧ (∀ a, A = some a → w.heap.size ≤ a.block ∧ a.block < w'.heap.size) ∧ (∀ i y, gs[i]? = some y → RwIs w' (R i) y ∧ (0 < (R i).n → ∀ a, (R i).A = some a → a.block < w.heap.size ∧ S a.block)) ∧ Below w.heap.size w w'
theorem RcJ.out {S : Nat → Prop} {sd : Int} {M : List Int} {w wr : World} {b : Value} {fs : List Rl} {r : List Int} {Ab Ao : Option Addr} {cb co n : Nat} {R : Nat → Rw} (h : RcJ S sd M w wr b (.slice Ao n co) fs r Ab cb R) {x : Int} (h1 : frs sd M = fs) (h2 : x = (lftN sd M : Nat)) : RcP S sd M w (.returned (.tuple #[.slice Ao fs.length co, .int .i64 x])) wr := by
  obtain ⟨A', c', e, hr, hb⟩ := h.ow.rd
  injection e with e1 e2 e3
  subst e1 e3
  exact ⟨Ao, co, fs, x, R, rfl, h1.symm, h2, hr, fun a ha => ⟨(hb a ha).1, (hb a ha).2.1⟩, h.bw, h.bel⟩
set_option maxRecDepth 100000 in
set_option maxHeartbeats 1600000 in
theorem rcut12 (S : Nat → Prop) (sd : Int) (M : List Int) (A : Option Addr) (c : Nat) (w : World) (hsd : sd = 0 ∨ sd = 1) (hM : ByL M) (hr : Rd .u8 w A M.length c (lyF M)) (hn : M.length ≤ 1000000) (hS : 0 < M.length → ∀ a, A = some a → S a.block) :
    Calls Try.prog 78 #[.int .i64 sd, .slice A M.length c] w (RcP S sd M w) := by
  obtain ⟨iR, hiR, zR0, zR1, zR2⟩ := info_parts raw_info12
  have HSD := hide hsd
  have HM := hide hM
  have HR := hide hr
  have hcc := hr.1
  have hAlt : 0 < M.length → ∀ a, A = some a → a.block < w.heap.size ∧ S a.block := fun hn a ha => by
    obtain ⟨b, off, hA, h1, _⟩ := hr.block hn
    have h2 := hS hn a ha
    obtain rfl := Option.some.inj (ha.symm.trans hA)
    exact ⟨h1, h2⟩
  have HLT := hide hAlt
  clear hsd hM hr hAlt hS
  by_cases hs0 : sd = 0 ∧ M.length < 24
  · obtain ⟨rfl, hl⟩ := hs0
    have hf : frs 0 M = [] := frs_of HM.out (by unfold FsOk; rw [if_pos rfl]; exact .inl rfl) (by unfold Inc; rw [if_pos ⟨rfl, rfl⟩]; exact hl) rfl
    have hf2 : lftN 0 M = M.length := by unfold lftN; rw [hf]; rfl
    have HF := hide hf
    have HF2 := hide hf2
    clear hf hf2
    go_enter Try.func78, Try.ntmps78
    go_wp2_with fail
    go_ret2
    exact ⟨none, 0, [], _, default, rfl, HF.out.symm, by rw [HF2.out], ⟨Nat.le_refl _, by simp [maxLen], fun _ => rfl, fun h => absurd h (Nat.lt_irrefl _)⟩, fun a e => (by cases e), fun i x hx => (by simp at hx), Below.refl _ _⟩
  have hnsd : (sd = 0 ∧ (sd == 0) = true ∧ 24 ≤ M.length) ∨ (sd = 1 ∧ (sd == 0) = false) := by
    rcases HSD.out with h | h
    · exact .inl ⟨h, by simp [h], by rcases Nat.lt_or_ge M.length 24 with h2 | h2; exact absurd ⟨h, h2⟩ hs0; exact h2⟩
    · exact .inr ⟨h, by simp [h]⟩
  clear hs0
  go_enter Try.func78, Try.ntmps78
  rcases hnsd with ⟨rfl, ds, hl24⟩ | ⟨rfl, ds⟩
  · have dl : decide ((M.length : Int) < 24) = false := by simp; omega
    have hcut : ∀ W, (Instr.slice 22 (.slice A M.length c) none (some (.int .i64 24)) none).run Try.prog W = .ok (.slice (cutA A c 0) 24 c) W := fun W => bytes_cut_h A M.length c 24 (by omega) W
    have hcut2 : ∀ W, (Instr.slice 22 (.slice A M.length c) (some (.int .i64 24)) none none).run Try.prog W = .ok (.slice (cutA A c 24) (M.length - 24) (c - 24)) W := fun W => bytes_cut A M.length c 24 hl24 W
    have HX0 : Hid (RdV 6 (w.alloc (.cells #[.int .i64 0, .int .i64 (-1), .int .i64 0, .int .i64 0, .bool false, .slice (cutA A c 0) 24 c] 29)) (some ⟨w.heap.size, 0, none⟩) 1 1 (rwV fun _ => ⟨0, -1, 0, 0, false, cutA A c 0, 24, c, fun _ => 0⟩)) := hide (rdV_raw (X := ⟨0, -1, 0, 0, false, cutA A c 0, 24, c, fun _ => 0⟩) (heap_alloc_new w _))
    have hz0 : w.heap.size ≤ (w.alloc (.cells #[.int .i64 0, .int .i64 (-1), .int .i64 0, .int .i64 0, .bool false, .slice (cutA A c 0) 24 c] 29)).heap.size := by simp
    go_wp2_with (at_builtin; refine wp_appV rfl _ _ _ rfl 6 iR _ 64 Try.underlying61 hiR zR0 zR1 zR2 rfl (by omega) w.heap.size (.slice none 0 0) 0 (rwV default) rfl (OwnV.nil _ _ _ _ _) _ 1 1 (rwV fun _ => ⟨0, -1, 0, 0, false, cutA A c 0, 24, c, fun _ => 0⟩) rfl HX0.out (rwV_one _ _) (by simp [maxLen]) (by omega) hz0 ?_; intro v7 w7 h7 hg7 hb7; obtain ⟨A7, c7, rfl, _, _⟩ := h7.rd; have H7 := hide h7; have G7 := hide hg7; clear h7 hg7 hb7)
    have HJ0 : Hid (RcJ S 0 M w w7 (.slice (cutA A c 24) (M.length - 24) (c - 24)) (.slice A7 (0 + 1) c7) [preOf (M.take 24)] (M.drop 24) (cutA A c 24) (c - 24) (catRw 0 default fun _ => ⟨0, -1, 0, 0, false, cutA A c 0, 24, c, fun _ => 0⟩)) := by
      have hq : FrQ (fun _ => False) (w.alloc (.cells #[.int .i64 0, .int .i64 (-1), .int .i64 0, .int .i64 0, .bool false, .slice (cutA A c 0) 24 c] 29)) w7 := FrQ.grown G7.out fun g e => by cases e
      have hb : Below w.heap.size w w7 := ((Below.refl _ w).alloc (Nat.le_refl _) (.cells #[.int .i64 0, .int .i64 (-1), .int .i64 0, .int .i64 0, .bool false, .slice (cutA A c 0) 24 c] 29)).trans (hq.bel hz0 fun i _ e => e.elim)
      have hpl : (M.take 24).length = 24 := by rw [List.length_take]; omega
      have hpre : (preOf (M.take 24)).Pre := ⟨rfl, rfl, rfl, rfl, rfl, hpl⟩
      have hdl : (M.drop 24).length = M.length - 24 := List.length_drop
      have hrd := HR.out.below hb
      refine ⟨by rw [hdl], ?_, fun hn a ha => ?_, ?_, ?_, fun _ => by simp, ?_, fun i x hx => ?_, hb⟩
      · rw [hdl]
        exact (hrd.cutR (lo := 24) (hi := M.length) hl24 (Nat.le_refl _)).congr fun i _ => (lyF_drop M 24 i).symm
      · obtain ⟨b', hb1, hb2⟩ := cutA_block ha
        rw [← hb2]
        exact HLT.out (by omega) b' hb1
      · show M = ((preOf (M.take 24)).enc ++ []) ++ M.drop 24
        rw [hpre.enc, List.append_nil]
        exact (List.take_append_drop 24 M).symm
      · unfold FsOk
        rw [if_pos rfl]
        exact .inr ⟨_, [], rfl, hpre, fun y hy => absurd hy (by simp)⟩
      · rw [← rwV_cat]
        exact H7.out
      · obtain rfl : preOf (M.take 24) = x := by
          match i, hx with
          | 0, hx => simpa using hx
          | i + 1, hx => simp at hx
        refine ⟨⟨rfl, rfl, rfl, rfl, rfl, hpl.symm, (hrd.front (m := 24) hl24).congr fun i hi => (lyF_take M hi).symm⟩, fun _ a ha => ?_⟩
        obtain ⟨b', hb1, hb2⟩ := cutA_block ha
        rw [← hb2]
        exact HLT.out (by omega) b' hb1
    clear H7 G7 HX0 hz0 hcut hcut2 dl
    go_loopw [1, 6] (fun b o wr => ∃ (fs : List Rl) (r : List Int) (Ab : Option Addr) (cb : Nat) (R : Nat → Rw), RcJ S 0 M w wr b o fs r Ab cb R) (fun b _ _ => lenV b)
    case atStart => exact ⟨_, _, _, _, _, HJ0.out⟩
    case round =>
      obtain ⟨fs, r, Ab, cb, R, hJ⟩ := hrel
      clear HJ0
      obtain ⟨Ao, co, ho, _⟩ := hJ.rws
      have hb := hJ.hb
      subst hb ho
      have hrM : r.length ≤ 1000000 := by have := congrArg List.length hJ.eq; rw [List.length_append] at this; omega
      have hrc : r.length ≤ cb := hJ.rd.1
      have hcm : cb ≤ 9223372036854775807 := by have := hJ.rd.2.1; simp only [maxLen] at this; omega
      have hfs : fs.length ≤ 1000000 := by
        have h1 := hJ.ok.many
        have h2 := congrArg List.length hJ.eq
        rw [List.length_append] at h2
        omega
      have hrb : ByL r := by have := HM.out; rw [hJ.eq] at this; exact this.right
      have HJ := hide hJ
      have HRB := hide hrb
      clear hJ hrb
      by_cases h9 : r.length < 9
      · have hin := HJ.out.inc HM.out (.inl h9)
        have HIN := hide hin
        clear hin
        go_wp2_with fail
        refine (rhget_short Ab r.length cb _ h9).mono ?_
        rintro e w2 ⟨rfl, hb2⟩
        have a3 := (Below.refl w2.heap.size w2).alloc (Nat.le_refl _) (.cells #[.int .i64 0, .int .i64 0, .int .i64 0, .int .i64 0, .bool false] 154)
        have HJ3 := hide ((HJ.out.below hb2).below a3)
        clear hb2 a3
        go_wp2_with fail
        go_ret2
        exact HJ3.out.out HIN.out.1 (by rw [HIN.out.2])
      have hge : 9 ≤ r.length := by omega
      obtain ⟨y1, g1⟩ : ∃ y, lyF r 3 = y := ⟨_, rfl⟩
      obtain ⟨y2, g2⟩ : ∃ y, lyF r 4 = y := ⟨_, rfl⟩
      obtain ⟨y3, g3⟩ : ∃ y, lowN (gX (lyF r)) = y := ⟨_, rfl⟩
      obtain ⟨y4, g4⟩ : ∃ y, lowB (gX (lyF r)) = y := ⟨_, rfl⟩
      have hhd := hdR_get (n := r.length) HRB.out.byt hge
      obtain ⟨ln, g0⟩ : ∃ ln : Nat, gL (lyF r) = (ln : Int) := ⟨(gL (lyF r)).toNat, by have := hhd.1.1; omega⟩
      have hln : ln ≤ 16777215 := by have := hhd.1.2; omega
      have hget := rhget_ok Ab r.length cb (lyF r) wr HJ.out.rd HRB.out.byt hge
      rw [g0, g1, g2, g3, g4] at hget
      have HY := hide (And.intro g0 (And.intro g1 (And.intro g2 (And.intro g3 g4))))
      have HGET := hide hget
      clear g0 g1 g2 g3 g4 hhd hget h9
      by_cases hfull : 9 + ln ≤ r.length
      rotate_left
      · have hin := HJ.out.inc HM.out (.inr (by rw [HY.out.1]; omega))
        have HIN := hide hin
        have dl : decide ((r.length : Int) - 9 < (ln : Int)) = true := decide_eq_true (by omega)
        clear hin
        go_wp2_with fail
        refine HGET.out.mono ?_
        rintro e w2 ⟨rfl, hb2⟩
        have a3 := (Below.refl w2.heap.size w2).alloc (Nat.le_refl _) (.cells #[.int .i64 ln, .int .i64 y1, .int .i64 y2, .int .i64 y3, .bool y4] 154)
        have HJ3 := hide ((HJ.out.below hb2).below a3)
        have R3 := hide (heap_alloc_new w2 (.cells #[.int .i64 ln, .int .i64 y1, .int .i64 y2, .int .i64 y3, .bool y4] 154))
        obtain ⟨k0, k1, k2, k3, k4⟩ := row5 R3.out
        clear hb2 a3
        go_wp2_with fail
        go_ret2
        exact HJ3.out.out HIN.out.1 (by rw [HIN.out.2])
      have dl : decide ((r.length : Int) - 9 < (ln : Int)) = false := decide_eq_false (by omega)
      have hw9 : IntKind.i64.wrap (9 + (ln : Int)) = 9 + (ln : Int) := IntWalk.i64_in _ (by omega)
      have hcut : ∀ W, (Instr.slice 22 (.slice Ab r.length cb) (some (.int .i64 9)) (some (.int .i64 (9 + (ln : Int)))) none).run Try.prog W = .ok (.slice (cutA Ab cb 9) ln (cb - 9)) W := fun W => by
        have h1 := cut_lh (P := Try.prog) 22 5 Try.underlying22 bytes_elem c8_size Ab r.length cb 9 (9 + ln) (by omega) (by omega) .i64 .i64 W
        rw [show 9 + ln - 9 = ln by omega] at h1
        exact h1
      have hcut2 : ∀ W, (Instr.slice 22 (.slice Ab r.length cb) (some (.int .i64 (9 + (ln : Int)))) none none).run Try.prog W = .ok (.slice (cutA Ab cb (9 + ln)) (r.length - (9 + ln)) (cb - (9 + ln))) W := fun W => bytes_cut Ab r.length cb (9 + ln) hfull W
      have hlow : ∀ i, (Value.slice Ao fs.length co).ownBlock = some i → i < wr.heap.size := fun i e => (World.ownsRow.lt HJ.out.ow i e).2
      have HLOW := hide hlow
      clear hlow
      go_wp2_with fail
      refine HGET.out.mono ?_
      rintro e w2 ⟨rfl, hb2⟩
      have a3 := (Below.refl w2.heap.size w2).alloc (Nat.le_refl _) (.cells #[.int .i64 ln, .int .i64 y1, .int .i64 y2, .int .i64 y3, .bool y4] 154)
      have HJ3 := hide ((HJ.out.below hb2).below a3)
      have R3 := hide (heap_alloc_new w2 (.cells #[.int .i64 ln, .int .i64 y1, .int .i64 y2, .int .i64 y3, .bool y4] 154))
      have hsz2 : wr.heap.size ≤ w2.heap.size := hb2.size
      obtain ⟨k0, k1, k2, k3, k4⟩ := row5 R3.out
      clear hb2 a3 HJ
      go_wp2_with fail
      generalize hp : w2.heap.size = p at *
      generalize w2.alloc (.cells #[.int .i64 ln, .int .i64 y1, .int .i64 y2, .int .i64 y3, .bool y4] 154) = w3 at *
      have HJ4 := hide (HJ3.out.below ((Below.refl w3.heap.size w3).alloc (Nat.le_refl _) (.cells #[.int .i64 0, .int .i64 y1, .int .i64 y2, .int .i64 y3, .bool y4, .slice (cutA Ab cb 9) ln (cb - 9)] 29)))
      have HX4 : Hid (RdV 6 (w3.alloc (.cells #[.int .i64 0, .int .i64 y1, .int .i64 y2, .int .i64 y3, .bool y4, .slice (cutA Ab cb 9) ln (cb - 9)] 29)) (some ⟨w3.heap.size, 0, none⟩) 1 1 (rwV fun _ => ⟨0, y1, y2, y3, y4, cutA Ab cb 9, ln, cb - 9, fun _ => 0⟩)) := hide (rdV_raw (X := ⟨0, y1, y2, y3, y4, cutA Ab cb 9, ln, cb - 9, fun _ => 0⟩) (heap_alloc_new w3 _))
      have R4 := hide (keepRow R3.out ((Below.refl w3.heap.size w3).alloc (Nat.le_refl _) (.cells #[.int .i64 0, .int .i64 y1, .int .i64 y2, .int .i64 y3, .bool y4, .slice (cutA Ab cb 9) ln (cb - 9)] 29)))
      have hb4 : w.heap.size ≤ (w3.alloc (.cells #[.int .i64 0, .int .i64 y1, .int .i64 y2, .int .i64 y3, .bool y4, .slice (cutA Ab cb 9) ln (cb - 9)] 29)).heap.size := HJ4.out.bel.size
      have hne4 : (Value.slice Ao fs.length co).ownBlock ≠ some p := fun e => by have := HLOW.out p e; omega
      have HNE4 := hide hne4
      clear hne4 hp
      go_region_held3 (fun V : World => V.cell? ⟨p, 0, none⟩ = some (.int .i64 ln) ∧ V.cell? ⟨p, 1, none⟩ = some (.int .i64 y1) ∧ V.cell? ⟨p, 2, none⟩ = some (.int .i64 y2) ∧ V.cell? ⟨p, 3, none⟩ = some (.int .i64 y3) ∧ V.cell? ⟨p, 4, none⟩ = some (.bool y4))
        ((first | exact row5 R7.out | (go_keep; done)))
        ((refine step_appV rfl _ _ _ rfl 6 iR _ 64 Try.underlying61 hiR zR0 zR1 zR2 rfl (by omega) w.heap.size (.slice Ao fs.length co) fs.length (rwV R) rfl HJ4.out.ow _ 1 1 (rwV fun _ => ⟨0, y1, y2, y3, y4, cutA Ab cb 9, ln, cb - 9, fun _ => 0⟩) rfl HX4.out (rwV_one _ _) (by simp only [maxLen]; omega) (by omega) hb4 ?_; intro v7 w7 h7 hg7 hb7; have hg8 : (w3.alloc (.cells #[.int .i64 0, .int .i64 y1, .int .i64 y2, .int .i64 y3, .bool y4, .slice (cutA Ab cb 9) ln (cb - 9)] 29)).grownBy w7 (Value.slice Ao fs.length co).ownBlock := ⟨hg7.os, hg7.tape, hg7.output, hg7.size, hg7.block⟩; have R7 := hide (keepGrown R4.out hg8 HNE4.out); obtain ⟨A7, c7, rfl, _, _⟩ := h7.rd; have H7 := hide h7; have G7 := hide hg8; clear h7 hg7 hb7 hg8))
      all_goals
        have hx : (rlOf 0 (r.take 9) ((r.drop 9).take ln)).Ok 0 ∧ (rlOf 0 (r.take 9) ((r.drop 9).take ln)).enc = r.take 9 ++ (r.drop 9).take ln := by
          refine rlOf_ok (HRB.out.take 9) (by rw [List.length_take]; omega) ?_
          rw [gL_congr (g := lyF r) fun i hi => lyF_take r hi, HY.out.1, List.length_take, List.length_drop]
          omega
        have hbl : ((r.drop 9).take ln).length = ln := by rw [List.length_take, List.length_drop]; omega
        have hsp : r = (rlOf 0 (r.take 9) ((r.drop 9).take ln)).enc ++ (r.drop 9).drop ln := by
          rw [hx.2, List.append_assoc, List.take_append_drop, List.take_append_drop]
        have hr2 : ((r.drop 9).drop ln).length = r.length - (9 + ln) := by rw [List.length_drop, List.length_drop]; omega
        have hRI : RwIs (w3.alloc (.cells #[.int .i64 0, .int .i64 y1, .int .i64 y2, .int .i64 y3, .bool y4, .slice (cutA Ab cb 9) ln (cb - 9)] 29)) ⟨0, y1, y2, y3, y4, cutA Ab cb 9, ln, cb - 9, fun _ => 0⟩ (rlOf 0 (r.take 9) ((r.drop 9).take ln)) := by
          refine ⟨rfl, ?_, ?_, ?_, ?_, hbl.symm, ?_⟩
          · show y1 = lyF (r.take 9) 3
            rw [lyF_take r (by omega), HY.out.2.1]
          · show y2 = lyF (r.take 9) 4
            rw [lyF_take r (by omega), HY.out.2.2.1]
          · show y3 = lowN (gX (lyF (r.take 9)))
            rw [gX_congr (g := lyF r) fun i hi => lyF_take r hi, HY.out.2.2.2.1]
          · show y4 = lowB (gX (lyF (r.take 9)))
            rw [gX_congr (g := lyF r) fun i hi => lyF_take r hi, HY.out.2.2.2.2]
          · have h1 := HJ4.out.rd.cutR (lo := 9) (hi := 9 + ln) (by omega) hfull
            rw [show 9 + ln - 9 = ln by omega] at h1
            refine h1.congr fun i hi => ?_
            show lyF r (9 + i) = lyF ((r.drop 9).take ln) i
            rw [lyF_take _ hi, lyF_drop]
        have hJ8 := HJ4.out.more (HJ4.out.ok.snoc hx.1 HJ4.out.ne) hsp hRI (fun hn a ha => by
          obtain ⟨b', hb1, hb2⟩ := cutA_block ha
          rw [← hb2]
          exact HJ4.out.lt (by omega) b' hb1) H7.out G7.out (9 + ln) (by rw [hr2]; omega)
        rw [hr2] at hJ8
        have HJ8 := hide hJ8
        obtain ⟨k0, k1, k2, k3, k4⟩ := row5 R7.out
        clear hx hsp hRI hJ8 hbl hr2
        go_wp2_with fail
        go_roundw
        case rel => exact ⟨_, _, _, _, _, HJ8.out⟩
        case measure =>
          show r.length - (9 + ln) < r.length
          omega
  · have HJ0 : Hid (RcJ S 1 M w w (.slice A M.length c) (.slice none 0 0) [] M A c default) := hide ⟨rfl, HR.out, HLT.out, rfl, by unfold FsOk; rw [if_neg (by decide)]; exact fun y hy => absurd hy (by simp), fun e => absurd e (by decide), OwnV.nil _ _ _ _ _, fun i x hx => by simp at hx, Below.refl _ _⟩
    go_wp2_with fail
    go_loopw [1, 6] (fun b o wr => ∃ (fs : List Rl) (r : List Int) (Ab : Option Addr) (cb : Nat) (R : Nat → Rw), RcJ S 1 M w wr b o fs r Ab cb R) (fun b _ _ => lenV b)
    case atStart => exact ⟨_, _, _, _, _, HJ0.out⟩
    case round =>
      obtain ⟨fs, r, Ab, cb, R, hJ⟩ := hrel
      clear HJ0
      obtain ⟨Ao, co, ho, _⟩ := hJ.rws
      have hb := hJ.hb
      subst hb ho
      have hrM : r.length ≤ 1000000 := by have := congrArg List.length hJ.eq; rw [List.length_append] at this; omega
      have hrc : r.length ≤ cb := hJ.rd.1
      have hcm : cb ≤ 9223372036854775807 := by have := hJ.rd.2.1; simp only [maxLen] at this; omega
      have hfs : fs.length ≤ 1000000 := by
        have h1 := hJ.ok.many
        have h2 := congrArg List.length hJ.eq
        rw [List.length_append] at h2
        omega
      have hrb : ByL r := by have := HM.out; rw [hJ.eq] at this; exact this.right
      have HJ := hide hJ
      have HRB := hide hrb
      clear hJ hrb
      by_cases h9 : r.length < 9
      · have hin := HJ.out.inc HM.out (.inl h9)
        have HIN := hide hin
        clear hin
        go_wp2_with fail
        refine (rhget_short Ab r.length cb _ h9).mono ?_
        rintro e w2 ⟨rfl, hb2⟩
        have a3 := (Below.refl w2.heap.size w2).alloc (Nat.le_refl _) (.cells #[.int .i64 0, .int .i64 0, .int .i64 0, .int .i64 0, .bool false] 154)
        have HJ3 := hide ((HJ.out.below hb2).below a3)
        clear hb2 a3
        go_wp2_with fail
        go_ret2
        exact HJ3.out.out HIN.out.1 (by rw [HIN.out.2])
      have hge : 9 ≤ r.length := by omega
      obtain ⟨y1, g1⟩ : ∃ y, lyF r 3 = y := ⟨_, rfl⟩
      obtain ⟨y2, g2⟩ : ∃ y, lyF r 4 = y := ⟨_, rfl⟩
      obtain ⟨y3, g3⟩ : ∃ y, lowN (gX (lyF r)) = y := ⟨_, rfl⟩
      obtain ⟨y4, g4⟩ : ∃ y, lowB (gX (lyF r)) = y := ⟨_, rfl⟩
      have hhd := hdR_get (n := r.length) HRB.out.byt hge
      obtain ⟨ln, g0⟩ : ∃ ln : Nat, gL (lyF r) = (ln : Int) := ⟨(gL (lyF r)).toNat, by have := hhd.1.1; omega⟩
      have hln : ln ≤ 16777215 := by have := hhd.1.2; omega
      have hget := rhget_ok Ab r.length cb (lyF r) wr HJ.out.rd HRB.out.byt hge
      rw [g0, g1, g2, g3, g4] at hget
      have HY := hide (And.intro g0 (And.intro g1 (And.intro g2 (And.intro g3 g4))))
      have HGET := hide hget
      clear g0 g1 g2 g3 g4 hhd hget h9
      by_cases hfull : 9 + ln ≤ r.length
      rotate_left
      · have hin := HJ.out.inc HM.out (.inr (by rw [HY.out.1]; omega))
        have HIN := hide hin
        have dl : decide ((r.length : Int) - 9 < (ln : Int)) = true := decide_eq_true (by omega)
        clear hin
        go_wp2_with fail
        refine HGET.out.mono ?_
        rintro e w2 ⟨rfl, hb2⟩
        have a3 := (Below.refl w2.heap.size w2).alloc (Nat.le_refl _) (.cells #[.int .i64 ln, .int .i64 y1, .int .i64 y2, .int .i64 y3, .bool y4] 154)
        have HJ3 := hide ((HJ.out.below hb2).below a3)
        have R3 := hide (heap_alloc_new w2 (.cells #[.int .i64 ln, .int .i64 y1, .int .i64 y2, .int .i64 y3, .bool y4] 154))
        obtain ⟨k0, k1, k2, k3, k4⟩ := row5 R3.out
        clear hb2 a3
        go_wp2_with fail
        go_ret2
        exact HJ3.out.out HIN.out.1 (by rw [HIN.out.2])
      have dl : decide ((r.length : Int) - 9 < (ln : Int)) = false := decide_eq_false (by omega)
      have hw9 : IntKind.i64.wrap (9 + (ln : Int)) = 9 + (ln : Int) := IntWalk.i64_in _ (by omega)
      have hcut : ∀ W, (Instr.slice 22 (.slice Ab r.length cb) (some (.int .i64 9)) (some (.int .i64 (9 + (ln : Int)))) none).run Try.prog W = .ok (.slice (cutA Ab cb 9) ln (cb - 9)) W := fun W => by
        have h1 := cut_lh (P := Try.prog) 22 5 Try.underlying22 bytes_elem c8_size Ab r.length cb 9 (9 + ln) (by omega) (by omega) .i64 .i64 W
        rw [show 9 + ln - 9 = ln by omega] at h1
        exact h1
      have hcut2 : ∀ W, (Instr.slice 22 (.slice Ab r.length cb) (some (.int .i64 (9 + (ln : Int)))) none none).run Try.prog W = .ok (.slice (cutA Ab cb (9 + ln)) (r.length - (9 + ln)) (cb - (9 + ln))) W := fun W => bytes_cut Ab r.length cb (9 + ln) hfull W
      have hlow : ∀ i, (Value.slice Ao fs.length co).ownBlock = some i → i < wr.heap.size := fun i e => (World.ownsRow.lt HJ.out.ow i e).2
      have HLOW := hide hlow
      clear hlow
      go_wp2_with fail
      refine HGET.out.mono ?_
      rintro e w2 ⟨rfl, hb2⟩
      have a3 := (Below.refl w2.heap.size w2).alloc (Nat.le_refl _) (.cells #[.int .i64 ln, .int .i64 y1, .int .i64 y2, .int .i64 y3, .bool y4] 154)
      have HJ3 := hide ((HJ.out.below hb2).below a3)
      have R3 := hide (heap_alloc_new w2 (.cells #[.int .i64 ln, .int .i64 y1, .int .i64 y2, .int .i64 y3, .bool y4] 154))
      have hsz2 : wr.heap.size ≤ w2.heap.size := hb2.size
      obtain ⟨k0, k1, k2, k3, k4⟩ := row5 R3.out
      clear hb2 a3 HJ
      go_wp2_with fail
      generalize hp : w2.heap.size = p at *
      generalize w2.alloc (.cells #[.int .i64 ln, .int .i64 y1, .int .i64 y2, .int .i64 y3, .bool y4] 154) = w3 at *
      have HJ4 := hide (HJ3.out.below ((Below.refl w3.heap.size w3).alloc (Nat.le_refl _) (.cells #[.int .i64 1, .int .i64 y1, .int .i64 y2, .int .i64 y3, .bool y4, .slice (cutA Ab cb 9) ln (cb - 9)] 29)))
      have HX4 : Hid (RdV 6 (w3.alloc (.cells #[.int .i64 1, .int .i64 y1, .int .i64 y2, .int .i64 y3, .bool y4, .slice (cutA Ab cb 9) ln (cb - 9)] 29)) (some ⟨w3.heap.size, 0, none⟩) 1 1 (rwV fun _ => ⟨1, y1, y2, y3, y4, cutA Ab cb 9, ln, cb - 9, fun _ => 0⟩)) := hide (rdV_raw (X := ⟨1, y1, y2, y3, y4, cutA Ab cb 9, ln, cb - 9, fun _ => 0⟩) (heap_alloc_new w3 _))
      have R4 := hide (keepRow R3.out ((Below.refl w3.heap.size w3).alloc (Nat.le_refl _) (.cells #[.int .i64 1, .int .i64 y1, .int .i64 y2, .int .i64 y3, .bool y4, .slice (cutA Ab cb 9) ln (cb - 9)] 29)))
      have hb4 : w.heap.size ≤ (w3.alloc (.cells #[.int .i64 1, .int .i64 y1, .int .i64 y2, .int .i64 y3, .bool y4, .slice (cutA Ab cb 9) ln (cb - 9)] 29)).heap.size := HJ4.out.bel.size
      have hne4 : (Value.slice Ao fs.length co).ownBlock ≠ some p := fun e => by have := HLOW.out p e; omega
      have HNE4 := hide hne4
      clear hne4 hp
      go_region_held3 (fun V : World => V.cell? ⟨p, 0, none⟩ = some (.int .i64 ln) ∧ V.cell? ⟨p, 1, none⟩ = some (.int .i64 y1) ∧ V.cell? ⟨p, 2, none⟩ = some (.int .i64 y2) ∧ V.cell? ⟨p, 3, none⟩ = some (.int .i64 y3) ∧ V.cell? ⟨p, 4, none⟩ = some (.bool y4))
        ((first | exact row5 R7.out | (go_keep; done)))
        ((refine step_appV rfl _ _ _ rfl 6 iR _ 64 Try.underlying61 hiR zR0 zR1 zR2 rfl (by omega) w.heap.size (.slice Ao fs.length co) fs.length (rwV R) rfl HJ4.out.ow _ 1 1 (rwV fun _ => ⟨1, y1, y2, y3, y4, cutA Ab cb 9, ln, cb - 9, fun _ => 0⟩) rfl HX4.out (rwV_one _ _) (by simp only [maxLen]; omega) (by omega) hb4 ?_; intro v7 w7 h7 hg7 hb7; have hg8 : (w3.alloc (.cells #[.int .i64 1, .int .i64 y1, .int .i64 y2, .int .i64 y3, .bool y4, .slice (cutA Ab cb 9) ln (cb - 9)] 29)).grownBy w7 (Value.slice Ao fs.length co).ownBlock := ⟨hg7.os, hg7.tape, hg7.output, hg7.size, hg7.block⟩; have R7 := hide (keepGrown R4.out hg8 HNE4.out); obtain ⟨A7, c7, rfl, _, _⟩ := h7.rd; have H7 := hide h7; have G7 := hide hg8; clear h7 hg7 hb7 hg8))
      all_goals
        have hx : (rlOf 1 (r.take 9) ((r.drop 9).take ln)).Ok 1 ∧ (rlOf 1 (r.take 9) ((r.drop 9).take ln)).enc = r.take 9 ++ (r.drop 9).take ln := by
          refine rlOf_ok (HRB.out.take 9) (by rw [List.length_take]; omega) ?_
          rw [gL_congr (g := lyF r) fun i hi => lyF_take r hi, HY.out.1, List.length_take, List.length_drop]
          omega
        have hbl : ((r.drop 9).take ln).length = ln := by rw [List.length_take, List.length_drop]; omega
        have hsp : r = (rlOf 1 (r.take 9) ((r.drop 9).take ln)).enc ++ (r.drop 9).drop ln := by
          rw [hx.2, List.append_assoc, List.take_append_drop, List.take_append_drop]
        have hr2 : ((r.drop 9).drop ln).length = r.length - (9 + ln) := by rw [List.length_drop, List.length_drop]; omega
        have hRI : RwIs (w3.alloc (.cells #[.int .i64 1, .int .i64 y1, .int .i64 y2, .int .i64 y3, .bool y4, .slice (cutA Ab cb 9) ln (cb - 9)] 29)) ⟨1, y1, y2, y3, y4, cutA Ab cb 9, ln, cb - 9, fun _ => 0⟩ (rlOf 1 (r.take 9) ((r.drop 9).take ln)) := by
          refine ⟨rfl, ?_, ?_, ?_, ?_, hbl.symm, ?_⟩
          · show y1 = lyF (r.take 9) 3
            rw [lyF_take r (by omega), HY.out.2.1]
          · show y2 = lyF (r.take 9) 4
            rw [lyF_take r (by omega), HY.out.2.2.1]
          · show y3 = lowN (gX (lyF (r.take 9)))
            rw [gX_congr (g := lyF r) fun i hi => lyF_take r hi, HY.out.2.2.2.1]
          · show y4 = lowB (gX (lyF (r.take 9)))
            rw [gX_congr (g := lyF r) fun i hi => lyF_take r hi, HY.out.2.2.2.2]
          · have h1 := HJ4.out.rd.cutR (lo := 9) (hi := 9 + ln) (by omega) hfull
            rw [show 9 + ln - 9 = ln by omega] at h1
            refine h1.congr fun i hi => ?_
            show lyF r (9 + i) = lyF ((r.drop 9).take ln) i
            rw [lyF_take _ hi, lyF_drop]
        have hJ8 := HJ4.out.more (HJ4.out.ok.snoc hx.1 HJ4.out.ne) hsp hRI (fun hn a ha => by
          obtain ⟨b', hb1, hb2⟩ := cutA_block ha
          rw [← hb2]
          exact HJ4.out.lt (by omega) b' hb1) H7.out G7.out (9 + ln) (by rw [hr2]; omega)
        rw [hr2] at hJ8
        have HJ8 := hide hJ8
        obtain ⟨k0, k1, k2, k3, k4⟩ := row5 R7.out
        clear hx hsp hRI hJ8 hbl hr2
        go_wp2_with fail
        go_roundw
        case rel => exact ⟨_, _, _, _, _, HJ8.out⟩
        case measure =>
          show r.length - (9 + ln) < r.length
          omega
end Go.Proofs.Ytpnjamomkpkkeaa
