/- Layer 12: the document's Feed: what ends with each piece. -/
import Derived.Test.YtpnjamomkpkkeaaCth
import Derived.Deep.RegionLaw
import Derived.RegionTactic
import Derived.Deep.CutRange
namespace Go.Proofs.Ytpnjamomkpkkeaa
set_option linter.unusedVariables false
set_option linter.unusedSimpArgs false
open Go.RowKit

section
variable {P : Program} (T e : TypeId) (s : Nat) (hT : P.underlying T = some (.slice e)) (hE : P.elem T = e) (hs : (P.info? e).map (·.size) = some s) (A : Option Addr) (n c : Nat)
include hT hE hs
omit hT in
theorem size_runS (W : World) : (sizeOf (P.elem T)).run P W = .ok s W := by
  obtain ⟨i, hi, h1⟩ := Option.map_eq_some_iff.1 hs
  rw [hE]
  simp [sizeOf, typeInfo, hi, h1]
theorem cut_lS (lo : Nat) (hlo : lo ≤ n) (kl : IntKind) (W : World) :
    (Instr.slice T (.slice A n c) (some (.int kl (lo : Int))) none none).run P W = .ok (.slice (if c = lo then A else A.map (·.add (lo * s))) (n - lo) (c - lo)) W := by
  rw [run_slice_l (P := P) (w := W) T A n c (by rw [hE]; exact hT) kl (lo : Int) (by omega) (by omega), size_runS T e s hE hs W]
  simp [Result.andThen, sliced]
end
def cut6 (A : Option Addr) (c lo : Nat) : Option Addr := if c = lo then A else A.map (·.add (lo * 6))
theorem cut6_block {A : Option Addr} {c lo : Nat} {a : Addr} (h : cut6 A c lo = some a) : ∃ b, A = some b ∧ b.block = a.block := by
  unfold cut6 at h
  split at h
  · exact ⟨a, h, rfl⟩
  · cases A with
    | none => cases h
    | some b =>
      refine ⟨b, rfl, ?_⟩
      have := Option.some.inj h
      rw [← this]
      simp only [Addr.add]
      split <;> rfl
theorem raws_cut (A : Option Addr) (n c k : Nat) (hk : k ≤ n) (W : World) : (Instr.slice 61 (.slice A n c) (some (.int .i64 (k : Int))) none none).run Try.prog W = .ok (.slice (cut6 A c k) (n - k) (c - k)) W :=
  cut_lS 61 29 6 Try.underlying61 (by kernel_rfl) (by kernel_rfl) A n c k hk .i64 W
/-- A slice of frames; where its blocks may lie. -/
def RwsB (S : Nat → Prop) (w : World) (A : Option Addr) (n c : Nat) (fs : List Rl) : Prop :=
  ∃ R : Nat → Rw, RdV 6 w A n c (rwV R) ∧ n = fs.length ∧ (0 < n → ∀ a, A = some a → S a.block) ∧ ∀ j x, fs[j]? = some x → RwIs w (R j) x ∧ (0 < (R j).n → ∀ a, (R j).A = some a → S a.block)
theorem RdV.frQ12 {s : Nat} {T : Nat → Prop} {w w' : World} {A : Option Addr} {n c : Nat} {F : Nat → Value} (h : RdV s w A n c F) (hf : FrQ T w w') (hT : 0 < n → ∀ a, A = some a → ¬ T a.block) : RdV s w' A n c F :=
  ⟨h.1, h.2.1, h.2.2.1, fun hn => by
    obtain ⟨b, off, hA, hc⟩ := h.2.2.2 hn
    refine ⟨b, off, hA, fun i hi => ?_⟩
    have h1 := hc i hi
    have hb := hf.keep b (World.block_lt_of_cell? w _ h1) (hT hn _ hA)
    rw [World.cell?_of_block (a := ⟨b, off + i, none⟩) hb]
    exact h1⟩
theorem RdV.blk12 {s : Nat} {w : World} {A : Option Addr} {n c : Nat} {F : Nat → Value} (hs : 0 < s) (h : RdV s w A n c F) (hn : 0 < n) {a : Addr} (ha : A = some a) : a.block < w.heap.size := by
  obtain ⟨b, off, hA, hc⟩ := h.2.2.2 hn
  obtain rfl := Option.some.inj (ha.symm.trans hA)
  exact World.block_lt_of_cell? w _ (hc 0 (Nat.mul_pos hn hs))
theorem Rd.blk12 {k : IntKind} {w : World} {A : Option Addr} {n c : Nat} {f : Nat → Int} (h : Rd k w A n c f) (hn : 0 < n) {a : Addr} (ha : A = some a) : a.block < w.heap.size := by
  obtain ⟨b, off, hA, h1, _⟩ := h.block hn
  obtain rfl := Option.some.inj (ha.symm.trans hA)
  exact h1
theorem RwsB.frQ {S S' T : Nat → Prop} {w w' : World} {A : Option Addr} {n c : Nat} {fs : List Rl} (h : RwsB S w A n c fs) (hf : FrQ T w w') (hT : ∀ i, i < w.heap.size → S i → ¬ T i) (hS : ∀ i, i < w.heap.size → S i → S' i) : RwsB S' w' A n c fs := by
  obtain ⟨R, h1, h2, h3, h4⟩ := h
  have hb : 0 < n → ∀ a, A = some a → a.block < w.heap.size := fun hn a ha => h1.blk12 (by omega) hn ha
  have hr : ∀ j x, fs[j]? = some x → 0 < (R j).n → ∀ a, (R j).A = some a → a.block < w.heap.size := fun j x hx hn a ha => (h4 j x hx).1.2.2.2.2.2.2.blk12 hn ha
  exact ⟨R, h1.frQ12 hf fun hn a ha => hT _ (hb hn a ha) (h3 hn a ha), h2, fun hn a ha => hS _ (hb hn a ha) (h3 hn a ha), fun j x hx => ⟨(h4 j x hx).1.frQ hf fun hn a ha => hT _ (hr j x hx hn a ha) ((h4 j x hx).2 hn a ha), fun hn a ha => hS _ (hr j x hx hn a ha) ((h4 j x hx).2 hn a ha)⟩⟩
theorem RwsB.below {S : Nat → Prop} {w w' : World} {A : Option Addr} {n c : Nat} {fs : List Rl} (h : RwsB S w A n c fs) (hb : Below w.heap.size w w') : RwsB S w' A n c fs :=
  h.frQ (FrQ.ofBelow (fun _ => False) hb) (fun _ _ _ e => e) fun _ _ e => e
theorem RwsB.rwsR {S : Nat → Prop} {w : World} {A : Option Addr} {n c : Nat} {fs : List Rl} (h : RwsB S w A n c fs) : RwsR w A n c fs := by
  obtain ⟨R, h1, h2, _, h4⟩ := h
  exact ⟨R, h1, h2, fun j x hx => (h4 j x hx).1⟩
theorem RwsB.nil (S : Nat → Prop) (w : World) : RwsB S w none 0 0 [] := ⟨default, ⟨Nat.le_refl _, by simp [maxLen], fun _ => rfl, fun h => absurd h (Nat.lt_irrefl _)⟩, rfl, fun _ a e => (by cases e), fun j x hx => (by simp at hx)⟩
theorem RwsB.drop {S : Nat → Prop} {w : World} {A : Option Addr} {n c : Nat} {fs : List Rl} (h : RwsB S w A n c fs) {k : Nat} (hk : k ≤ n) : RwsB S w (cut6 A c k) (n - k) (c - k) (fs.drop k) := by
  obtain ⟨R, h1, h2, h3, h4⟩ := h
  refine ⟨fun i => R (k + i), ?_, by rw [List.length_drop]; omega, fun hn a ha => ?_, fun j x hx => ?_⟩
  · have g1 := h1.1
    have g2 := h1.2.1
    refine ⟨by omega, by omega, fun e => ?_, fun hn => ?_⟩
    · unfold cut6 at e
      split at e
      · omega
      · cases A with
        | none => have := h1.2.2.1 rfl; omega
        | some b => cases e
    · obtain ⟨b, off, hA, hc⟩ := h1.2.2.2 (by omega)
      subst hA
      refine ⟨b, off + k * 6, ?_, fun i hi => ?_⟩
      · unfold cut6
        rw [if_neg (by omega)]
        simp [Addr.add]
      · have h5 := hc (k * 6 + i) (by omega)
        rw [← Nat.add_assoc] at h5
        rw [h5]
        unfold rwV
        have e1 : (k * 6 + i) % 6 = i % 6 := by omega
        have e2 : (k * 6 + i) / 6 = k + i / 6 := by omega
        rw [e1, e2]
  · obtain ⟨b, hb1, hb2⟩ := cut6_block ha
    rw [← hb2]
    exact h3 (by omega) b hb1
  · rw [List.getElem?_drop] at hx
    exact h4 _ _ hx
/-- What ends with the i-th piece. -/
noncomputable def gsK (F : Nat → Ck) (i : Nat) : List Rl :=
  if (F i).from_ = 0 ∨ (F i).from_ = 1 then (frs (F i).from_ (endF nilL (flK F i) (F i).from_ ++ bM (F i))).drop (frs (F i).from_ (endF nilL (flK F i) (F i).from_)).length else []
/-- The memory of Feed. -/
structure RfK (F : Nat → Ck) (w wr : World) (k : Nat) (vo : Value) (Vs : Nat → Value) (a0 a1 : Value) : Prop where
  r3 : wr.heap[w.heap.size]? = some (.cells #[.int .i64 0, .int .i64 0] 71 (0, 0))
  r5 : wr.heap[w.heap.size + 1]? = some (.cells #[a0, a1] 158 (0, 0))
  r6 : wr.heap[w.heap.size + 2]? = some (.cells #[.int .i64 ((frs 0 (endF nilL (flK F k) 0)).length : Nat), .int .i64 ((frs 1 (endF nilL (flK F k) 1)).length : Nat)] 71 (0, 0))
  r7 : wr.heap[w.heap.size + 3]? = some (.cells #[.int .i64 (lftN 0 (endF nilL (flK F k) 0) : Nat), .int .i64 (lftN 1 (endF nilL (flK F k) 1) : Nat)] 71 (0, 0))
  o0 : Own .u8 5 (w.heap.size + 4) wr a0 (endF nilL (flK F k) 0).length (lyF (endF nilL (flK F k) 0))
  o1 : Own .u8 5 (w.heap.size + 4) wr a1 (endF nilL (flK F k) 1).length (lyF (endF nilL (flK F k) 1))
  b0 : ByL (endF nilL (flK F k) 0)
  b1 : ByL (endF nilL (flK F k) 1)
  out : OwnV 1 61 (w.heap.size + 4) wr vo k Vs
  el : ∀ i, i < k → ∃ A c, Vs i = .slice A (gsK F i).length c ∧ RwsB (fun j => w.heap.size + 4 ≤ j ∧ vo.ownBlock ≠ some j) wr A (gsK F i).length c (gsK F i)
  bel : Below w.heap.size w wr
  hq : w.heap.size + 4 ≤ wr.heap.size
theorem raws_info12 : (Try.prog.info? 61).map (fun i => (i.zero, i.size, i.bytes)) = some (some (.slice none 0 0), 1, 24) := by kernel_rfl
theorem end_chunk12 (sd : Int) : ∀ (M : List Int) (L : Int → List Int), endF L (M.map fun b => (sd, b)) = upS L sd (L sd ++ M)
  | [], L => by show L = _; rw [List.append_nil, upS_id]
  | b :: M, L => by
    show endF (upS L sd (L sd ++ [b])) (M.map fun b => (sd, b)) = _
    rw [end_chunk12 sd M, upS_at, upS_up]
    simp
/-- Behind the bytes that were put together. -/
def RfCut (w : World) (p5 : Nat) (wr W : World) (a0 a1 : Value) (s : Nat) (n : Nat) (f : Nat → Int) : Prop :=
  ∃ (A : Option Addr) (c : Nat), FrQ (fun i => i = p5) wr W ∧ W.heap[p5]? = some (.cells (if s = 0 then #[.slice A n c, a1] else #[a0, .slice A n c]) 158 (0, 0)) ∧ Own .u8 5 (w.heap.size + 4) W (.slice A n c) n f ∧ ∀ i, (Value.slice A n c).ownBlock = some i → wr.heap.size ≤ i
/-- What Feed hands back. -/
def RfP (F : Nat → Ck) (n : Nat) (w : World) (e : Ending) (w' : World) : Prop :=
  ∃ (A : Option Addr) (c : Nat) (Vs : Nat → Value) (x y : Int), e = .returned (.tuple #[.slice A n c, .agg #[.int .i64 x, .int .i64 y]]) ∧ x = (lftN 0 (endF nilL (flK F n) 0) : Nat) ∧ y = (lftN 1 (endF nilL (flK F n) 1) : Nat) ∧ RdV 1 w' A n c Vs ∧ (0 < n → ∀ a, A = some a → w.heap.size ≤ a.block) ∧ (∀ i, i < n → ∃ A c, Vs i = .slice A (gsK F i).length c ∧ RwsB (fun j => w.heap.size ≤ j) w' A (gsK F i).length c (gsK F i)) ∧ Below w.heap.size w w'
theorem RfP.drew {F : Nat → Ck} {n : Nat} {w : World} {e : Ending} {w' : World} (h : RfP F n w e w') : RfP F n w e w'.drew := by
  have hb : Below w'.heap.size w' w'.drew := ⟨rfl, rfl, rfl, Nat.le_refl _, fun _ _ => rfl⟩
  obtain ⟨A, c, Vs, x, y, h1, h2, h3, h4, h5, h6, h7⟩ := h
  exact ⟨A, c, Vs, x, y, h1, h2, h3, h4.bel12 hb, h5, fun i hi => by
    obtain ⟨A2, c2, e, hB⟩ := h6 i hi
    exact ⟨A2, c2, e, hB.below hb⟩, h7.trans (hb.mono h7.size)⟩
set_option maxRecDepth 100000 in
set_option maxHeartbeats 6400000 in
theorem rfeed12 (A : Option Addr) (n c : Nat) (F : Nat → Ck) (w : World) (ha : RdC w A n c F) (hn : n ≤ 1000) (hs : sumC F n ≤ 1000000) :
    Calls Try.prog 34 #[.slice A n c] w (RfP F n w) := by
  obtain ⟨i0, hi, hz0, hz1, hz2⟩ := info_parts c8_info
  obtain ⟨iL, hiL, zL0, zL1, zL2⟩ := info_parts raws_info12
  have HA := hide ha
  have HS := hide hs
  clear ha hs
  go_enter Try.func34, Try.ntmps34
  have a1 := (Below.refl w.heap.size w).alloc (Nat.le_refl _) (.cells #[.int .i64 0, .int .i64 0] 71)
  have a2 := a1.alloc a1.size (.cells #[.slice none 0 0, .slice none 0 0] 158)
  have a3 := a2.alloc a2.size (.cells #[.int .i64 0, .int .i64 0] 71)
  have a4 := a3.alloc a3.size (.cells #[.int .i64 0, .int .i64 0] 71)
  have n1 := heap_alloc_new w (.cells #[.int .i64 0, .int .i64 0] 71)
  have n2 := heap_alloc_new (w.alloc (.cells #[.int .i64 0, .int .i64 0] 71)) (.cells #[.slice none 0 0, .slice none 0 0] 158)
  have n3 := heap_alloc_new ((w.alloc (.cells #[.int .i64 0, .int .i64 0] 71)).alloc (.cells #[.slice none 0 0, .slice none 0 0] 158)) (.cells #[.int .i64 0, .int .i64 0] 71)
  have n4 := heap_alloc_new (((w.alloc (.cells #[.int .i64 0, .int .i64 0] 71)).alloc (.cells #[.slice none 0 0, .slice none 0 0] 158)).alloc (.cells #[.int .i64 0, .int .i64 0] 71)) (.cells #[.int .i64 0, .int .i64 0] 71)
  have z1 : (w.alloc (.cells #[.int .i64 0, .int .i64 0] 71)).heap.size = w.heap.size + 1 := by simp
  have z2 : ((w.alloc (.cells #[.int .i64 0, .int .i64 0] 71)).alloc (.cells #[.slice none 0 0, .slice none 0 0] 158)).heap.size = w.heap.size + 2 := by simp
  have z3 : (((w.alloc (.cells #[.int .i64 0, .int .i64 0] 71)).alloc (.cells #[.slice none 0 0, .slice none 0 0] 158)).alloc (.cells #[.int .i64 0, .int .i64 0] 71)).heap.size = w.heap.size + 3 := by simp
  have z4 : ((((w.alloc (.cells #[.int .i64 0, .int .i64 0] 71)).alloc (.cells #[.slice none 0 0, .slice none 0 0] 158)).alloc (.cells #[.int .i64 0, .int .i64 0] 71)).alloc (.cells #[.int .i64 0, .int .i64 0] 71)).heap.size = w.heap.size + 4 := by simp
  rw [z1] at n2
  rw [z2] at n3
  rw [z3] at n4
  have b2 := (Below.refl (w.alloc (.cells #[.int .i64 0, .int .i64 0] 71)).heap.size (w.alloc (.cells #[.int .i64 0, .int .i64 0] 71))).alloc (Nat.le_refl _) (.cells #[.slice none 0 0, .slice none 0 0] 158)
  have b3 := (Below.refl ((w.alloc (.cells #[.int .i64 0, .int .i64 0] 71)).alloc (.cells #[.slice none 0 0, .slice none 0 0] 158)).heap.size ((w.alloc (.cells #[.int .i64 0, .int .i64 0] 71)).alloc (.cells #[.slice none 0 0, .slice none 0 0] 158))).alloc (Nat.le_refl _) (.cells #[.int .i64 0, .int .i64 0] 71)
  have b4 := (Below.refl (((w.alloc (.cells #[.int .i64 0, .int .i64 0] 71)).alloc (.cells #[.slice none 0 0, .slice none 0 0] 158)).alloc (.cells #[.int .i64 0, .int .i64 0] 71)).heap.size (((w.alloc (.cells #[.int .i64 0, .int .i64 0] 71)).alloc (.cells #[.slice none 0 0, .slice none 0 0] 158)).alloc (.cells #[.int .i64 0, .int .i64 0] 71))).alloc (Nat.le_refl _) (.cells #[.int .i64 0, .int .i64 0] 71)
  have HK0 : Hid (RfK F w ((((w.alloc (.cells #[.int .i64 0, .int .i64 0] 71)).alloc (.cells #[.slice none 0 0, .slice none 0 0] 158)).alloc (.cells #[.int .i64 0, .int .i64 0] 71)).alloc (.cells #[.int .i64 0, .int .i64 0] 71)) 0 (.slice none 0 0) default (.slice none 0 0) (.slice none 0 0)) := by
    refine ⟨keepRow (keepRow (keepRow n1 b2) b3) b4, keepRow (keepRow n2 b3) b4, ?_, ?_, Own.nil _ _ _ _ _, Own.nil _ _ _ _ _, fun x hx => absurd hx (by simp [flK, flF, endF, nilL]), fun x hx => absurd hx (by simp [flK, flF, endF, nilL]), OwnV.nil _ _ _ _ _, fun i hi => absurd hi (by omega), a4, by omega⟩
    · have e0 : frs 0 (endF nilL (flK F 0) 0) = [] := frs_nil 0
      have e1 : frs 1 (endF nilL (flK F 0) 1) = [] := frs_nil 1
      rw [e0, e1]
      exact keepRow n3 b4
    · have e0 : lftN 0 (endF nilL (flK F 0) 0) = 0 := lft_nil 0
      have e1 : lftN 1 (endF nilL (flK F 0) 1) = 0 := lft_nil 1
      rw [e0, e1]
      exact n4
  clear a1 a2 a3 a4 n1 n2 n3 n4 z1 z2 z3 z4 b2 b3 b4
  go_wp2_with fail
  generalize hp7 : w.heap.size + 1 + 1 + 1 = p7
  generalize hp6 : w.heap.size + 1 + 1 = p6
  generalize hp5 : w.heap.size + 1 = p5
  have l5 : w.heap.size + 1 ≤ p5 := by omega
  have g5 : p5 ≤ w.heap.size + 1 := by omega
  have l6 : w.heap.size + 2 ≤ p6 := by omega
  have g6 : p6 ≤ w.heap.size + 2 := by omega
  have l7 : w.heap.size + 3 ≤ p7 := by omega
  have g7 : p7 ≤ w.heap.size + 3 := by omega
  clear hp5 hp6 hp7
  generalize (((w.alloc (.cells #[.int .i64 0, .int .i64 0] 71)).alloc (.cells #[.slice none 0 0, .slice none 0 0] 158)).alloc (.cells #[.int .i64 0, .int .i64 0] 71)).alloc (.cells #[.int .i64 0, .int .i64 0] 71) = W0 at *
  go_loopw [4, 8] (fun vo i wr => ∃ (k : Nat) (Vs : Nat → Value) (a0 a1 : Value), k ≤ n ∧ i = .int .i64 k ∧ RfK F w wr k vo Vs a0 a1) (fun _ i _ => n - (intOf i).toNat)
  case atStart => exact ⟨0, _, _, _, Nat.zero_le _, rfl, HK0.out⟩
  case round =>
    obtain ⟨k, Vs, a0, a1, hk, rfl, hK⟩ := hrel
    clear HK0
    obtain ⟨Ao, co, ho, _⟩ := hK.out.rd
    subst ho
    have HK := hide hK
    clear hK
    have hi0 : (0 : Int) ≤ (k : Int) := by omega
    by_cases hlt : k < n
    · have hi1 : (k : Int) < (n : Int) := by omega
      have har := HA.out.below HK.out.bel
      obtain ⟨b, off, rfl, e0, e1⟩ := har.at_ hlt
      obtain ⟨hrd, hbyt⟩ := har.2.2.2.2 k hlt
      have hrw := (HA.out.2.2.2.2 k hlt).1
      by_cases hx : (F k).from_ = 0 ∨ (F k).from_ = 1
      · rcases hx with hfr | hfr
        · rw [hfr] at e0
          have hL : ByL (endF nilL (flK F k) 0) := HK.out.b0
          obtain ⟨q1, q2⟩ := out_step F k (by rw [hfr]; exact hL) (bM_byt hbyt)
          rw [hfr] at q1 q2
          have hgs : gsK F k = (frs 0 (endF nilL (flK F k) 0 ++ bM (F k))).drop (frs 0 (endF nilL (flK F k) 0)).length := by unfold gsK; rw [hfr, if_pos (by decide)]
          obtain ⟨gm, hgm⟩ := frs_more (sd := 0) hL (bM_byt hbyt)
          have hl1 := endF_len (flK F k) nilL 0
          rw [flK_len] at hl1
          have hl2 := sumC_mono F (show k + 1 ≤ n from hlt)
          have hl3 : sumC F (k + 1) = sumC F k + (F k).n := rfl
          have hl4 := HS.out
          have hl5 : (nilL 0).length = 0 := rfl
          have hl6 : (endF nilL (flK F k) 0).length + (F k).n ≤ 1000000 := by omega
          have hby2 : ByL (endF nilL (flK F k) 0 ++ bM (F k)) := hL.app (bM_byt hbyt)
          have hfl2 := frs_len (sd := 0) hby2
          have hml := bM_len (F k)
          rw [List.length_append, hml] at hfl2
          have hlow : (frs 0 (endF nilL (flK F k) 0)).length ≤ (frs 0 (endF nilL (flK F k) 0 ++ bM (F k))).length := by rw [hgm, List.length_append]; omega
          obtain ⟨A0, c0, ha0, _⟩ := HK.out.o0.rd
          obtain ⟨A1, c1, ha1, _⟩ := HK.out.o1.rd
          subst ha0 ha1
          have R3 := hide HK.out.r3
          have R5 := HK.out.r5
          rw [← (by omega : p5 = w.heap.size + 1)] at R5
          have R6 := HK.out.r6
          rw [← (by omega : p6 = w.heap.size + 2)] at R6
          have R7 := HK.out.r7
          rw [← (by omega : p7 = w.heap.size + 3)] at R7
          have O0 := HK.out.o0
          have O1 := HK.out.o1
          have HB0 := hide HK.out.b0
          have HB1 := hide HK.out.b1
          have HOUT := hide HK.out.out
          have HEL := hide HK.out.el
          have HBEL := hide HK.out.bel
          have hq4 := HK.out.hq
          have HRDM := hide (bM_rd hrd)
          have HRWM := hide hrw
          have HQ2 := hide q2
          have HGS := hide hgs
          have HBY2 := hide hby2
          have HMB := hide (bM_byt hbyt)
          clear q1 q2 hgs hgm hl1 hl2 hl3 hl4 hl5 hby2 hrd hbyt hrw har hL HK
          generalize hL0 : endF nilL (flK F k) 0 = L0 at *
          generalize hL1 : endF nilL (flK F k) 1 = L1 at *
          obtain ⟨P0, hP0⟩ : ∃ P, (frs 0 L0).length = P := ⟨_, rfl⟩
          obtain ⟨P1, hP1⟩ : ∃ P, (frs 1 L1).length = P := ⟨_, rfl⟩
          obtain ⟨X0, hX0⟩ : ∃ P, lftN 0 L0 = P := ⟨_, rfl⟩
          obtain ⟨X1, hX1⟩ : ∃ P, lftN 1 L1 = P := ⟨_, rfl⟩
          obtain ⟨N0, hN0⟩ : ∃ P, L0.length = P := ⟨_, rfl⟩
          obtain ⟨N1, hN1⟩ : ∃ P, L1.length = P := ⟨_, rfl⟩
          rw [hP0, hP1] at R6
          rw [hX0, hX1] at R7
          rw [hN0] at R5 O0
          rw [hN1] at R5 O1
          rw [hP0] at hlow
          rw [hN0] at hl6 hfl2
          have HPP := hide (And.intro hP0 hP1)
          have HXX := hide (And.intro hX0 hX1)
          have HNN := hide (And.intro hN0 hN1)
          have HLL := hide (And.intro hL0 hL1)
          have HML := hide hml
          have HO0 := hide O0
          have HO1 := hide O1
          clear hP0 hP1 hX0 hX1 hN0 hN1 hL0 hL1 hml
          have hfr2 : (F k).from_ = 0 := hfr
          have HFR := hide hfr2
          generalize hM : bM (F k) = M at *
          generalize F k = Z at *
          obtain ⟨zx, XA, xn, xc, xb⟩ := Z
          simp only at *
          subst hfr
          clear hM hfr2
          obtain ⟨d0, d1⟩ := row2 R5
          obtain ⟨d2, d3⟩ := row2 R6
          obtain ⟨d4, d5⟩ := row2 R7
          have R5a := keepRow R5 ((Below.refl wr.heap.size wr).alloc (Nat.le_refl _) (.cells #[] 5))
          obtain ⟨h0, h1⟩ := row2 R5a
          have e1a : (wr.alloc (.cells #[] 5)).cell? ⟨b, off + k * 2 + 1, none⟩ = some (.slice XA xn xc) := cellKeepC ((Below.refl wr.heap.size wr).alloc (Nat.le_refl _) (.cells #[] 5)) e1
          have hbw : b < w.heap.size ∨ True := .inr trivial
          have HBq : Hid (b < w.heap.size) := hide (by
            obtain ⟨b', o', e, c0', _⟩ := HA.out.at_ hlt
            cases e
            exact World.block_lt_of_cell? w _ c0')
          have HOL : Hid (Own .u8 5 (w.heap.size + 4) (wr.alloc (.cells #[] 5)) (.slice (some ⟨wr.heap.size, 0, none⟩) 0 0) 0 (lyF [])) := hide (Own.lit .u8 5 (w.heap.size + 4) wr (lyF []) #[] 0 hq4 (by simp [maxLen]) rfl)
          have HRs : Hid (Rd .u8 (wr.alloc (.cells #[] 5)) A0 N0 c0 (lyF L0)) := hide (by
            obtain ⟨A', c', e, hr, _⟩ := HO0.out.rd
            injection e with e1 e2 e3
            subst e1 e3
            exact hr.below ((Below.refl wr.heap.size wr).alloc (Nat.le_refl _) (.cells #[] 5)))
          have HRM := hide (HRDM.out.below ((Below.refl wr.heap.size wr).alloc (Nat.le_refl _) (.cells #[] 5)))
          have HE1a := hide e1a
          have HR5a := hide R5a
          have HR6 := hide R6
          have HR7 := hide R7
          have hbz : w.heap.size + 4 ≤ (wr.alloc (.cells #[] 5)).heap.size := by simp; omega
          clear R5 R6 R7 O0 O1 R5a hbw
          go_wp2_with fail
          go_cut [] from 32 to 67 (fun W => RfCut w p5 wr W (.slice A0 N0 c0) (.slice A1 N1 c1) 0 (N0 + xn) (catF N0 (catF 0 (lyF []) (lyF L0)) (lyF M)))
          case first =>
            go_region_law (first
              | (refine step_appQ rfl (.tmp 33) (.tmp 36) _ rfl i0 _ 1 Try.underlying22 hi hz0 hz1 hz2 (w.heap.size + 4) (.slice (some ⟨wr.heap.size, 0, none⟩) 0 0) 0 (lyF []) rfl HOL.out A0 N0 c0 (lyF L0) rfl HRs.out (by simp only [maxLen]; omega) (by omega) hbz ?_; intro v5 w5 hown5 hg5 hb5; rw [Nat.zero_add] at hown5; have hgg5 : (wr.alloc (.cells #[] 5)).grownBy w5 (some wr.heap.size) := ⟨hg5.os, hg5.tape, hg5.output, hg5.size, hg5.block⟩; have HG5 := hide hgg5; have HB5 := hide hb5; obtain ⟨A5, k5, rfl, _, _⟩ := hown5.rd; have HO5 := hide hown5; have HR55 := hide ((hgg5.block _ (rowLt HR5a.out) (fun e => by have := Option.some.inj e; omega)).trans HR5a.out); have zz5 := frozenRow HR55.out 0; have e15 := hgg5.cell HE1a.out (fun e => by have h9 := HBq.out; have := Option.some.inj e; simp only at this; omega); have HRM5 := hide (HRM.out.frQ (FrQ.grown (S := fun i => i = wr.heap.size) hgg5 fun g e => (Option.some.inj e).symm) fun hn a ha e => by have h9 := HRWM.out.blk12 hn ha; have e' : a.block = wr.heap.size := e; omega); have hbz5 : w.heap.size + 4 ≤ w5.heap.size := Nat.le_trans hbz hgg5.size; clear hown5 hg5 hb5 hgg5 d0 d1 h0 h1 e1 e1a; obtain ⟨h0, h1⟩ := row2 HR55.out)
              | (refine step_appQ rfl (.tmp 37) (.tmp 42) _ rfl i0 _ 1 Try.underlying22 hi hz0 hz1 hz2 (w.heap.size + 4) (.slice A5 N0 k5) N0 (catF 0 (lyF []) (lyF L0)) rfl HO5.out XA xn xc (lyF M) rfl HRM5.out (by simp only [maxLen]; omega) (by omega) hbz5 ?_; intro v6 w6 hown6 hg6 hb6; have hgg6 : w5.grownBy w6 (Value.slice A5 N0 k5).ownBlock := ⟨hg6.os, hg6.tape, hg6.output, hg6.size, hg6.block⟩; have HG6 := hide hgg6; have HB6 := hide hb6; obtain ⟨A6, c6, rfl, _, _⟩ := hown6.rd; have HO6 := hide hown6; have HR56 := hide ((hgg6.block _ (rowLt HR55.out) (fun e => by have h9 := (World.ownsRow.lt HO5.out _ e.symm).1; omega)).trans HR55.out); clear zz5; have zz6 := frozenRow HR56.out 0; clear hown6 hg6 hb6 hgg6 h0 h1; obtain ⟨h0, h1⟩ := row2 HR56.out))
            all_goals
              have s5 := setRow w6 (p5) 0 (.slice A6 (N0 + xn) c6) HR56.out
              simp only [List.setIfInBounds_toArray, List.set_cons_zero, List.set_cons_succ] at s5
              have hv5 : ∀ i, (Value.slice A5 N0 k5).ownBlock = some i → wr.heap.size ≤ i := fun i e => by
                rcases HB5.out with h9 | h9
                · rw [h9] at e; have h8 : wr.heap.size = i := Option.some.inj e; omega
                · rw [h9] at e; have h8 := Option.some.inj e; have : (wr.alloc (.cells #[] 5)).heap.size = wr.heap.size + 1 := by simp
                  have h7 : (wr.alloc (.cells #[] 5)).heap.size = i := h8
                  omega
              have hv6 : ∀ i, (Value.slice A6 (N0 + xn) c6).ownBlock = some i → wr.heap.size ≤ i := fun i e => by
                rcases HB6.out with h9 | h9
                · exact hv5 i (h9.symm.trans e)
                · rw [h9] at e; have h8 := Option.some.inj e; have h7 : w5.heap.size = i := h8; have h6 := HG5.out.size; have : (wr.alloc (.cells #[] 5)).heap.size = wr.heap.size + 1 := by simp
                  omega
              have q1 : FrQ (fun i => i = p5) wr w6 := ((FrQ.ofBelow (fun _ => False) ((Below.refl wr.heap.size wr).alloc (Nat.le_refl _) (.cells #[] 5))).trans ((FrQ.grown (S := fun i => wr.heap.size ≤ i) HG5.out fun g e => by have := Option.some.inj e; omega).tr (FrQ.grown (S := fun i => wr.heap.size ≤ i) HG6.out fun g e => hv5 g e)) (fun _ _ e => e.elim) fun i hi e => by omega)
              have HRC := hide (show RfCut w p5 wr (w6.setCell ⟨p5, 0, none⟩ (.slice A6 (N0 + xn) c6)) (.slice A0 N0 c0) (.slice A1 N1 c1) 0 (N0 + xn) (catF N0 (catF 0 (lyF []) (lyF L0)) (lyF M)) from
                ⟨A6, c6, q1.tr (FrQ.set (S := fun i => i = p5) rfl 0 _), s5, HO6.out.frQ (FrQ.set (S := fun i => i = p5) rfl 0 _) (fun i hi e => by have h1 := hv6 i hi; have h2 : i = p5 := e; omega), hv6⟩)
              clear s5 hv5 hv6 q1
              go_wp2_with fail
              go_meet
              exact HRC.out
          case rest =>
            obtain ⟨A6, c6, hq5, r5, o6, hv6⟩ := hcut
            have R5 : wc.heap[p5]? = some (.cells #[(.slice A6 (N0 + xn) c6), (.slice A1 N1 c1)] 158 (0, 0)) := r5
            obtain ⟨h0, h1⟩ := row2 R5
            have R3c := hide (hq5.row R3.out (by show ¬ w.heap.size = p5; omega))
            have R6c := hide (hq5.row HR6.out (by show ¬ p6 = p5; omega))
            have R7c := hide (hq5.row HR7.out (by show ¬ p7 = p5; omega))
            have OTc := hide (HO1.out.frQ hq5 fun i hi e => by have h2 := (World.ownsRow.lt HO1.out i hi).1; have h3 : i = p5 := e; omega)
            have OUTc := hide (HOUT.out.frQ hq5 fun i hi e => by have h2 := (World.ownsRow.lt HOUT.out i hi).1; have h3 : i = p5 := e; omega)
            have ELc : Hid (∀ i, i < k → ∃ A c, Vs i = .slice A (gsK F i).length c ∧ RwsB (fun j => w.heap.size + 4 ≤ j ∧ (Value.slice Ao k co).ownBlock ≠ some j) wc A (gsK F i).length c (gsK F i)) := hide fun i hi => by
              obtain ⟨A', c', e, hB⟩ := HEL.out i hi
              exact ⟨A', c', e, hB.frQ hq5 (fun j _ hj e => by have h2 : j = p5 := e; have := hj.1; omega) fun j _ hj => hj⟩
            have BELc := hide (HBEL.out.trans (hq5.bel HBEL.out.size fun i _ e => by have h2 : i = p5 := e; omega))
            have hvlt : ∀ i, (Value.slice Ao k co).ownBlock = some i → i < wr.heap.size := fun i e => (World.ownsRow.lt HOUT.out i e).2
            have hsc := hq5.size
            have hcat : ∀ i, i < N0 + xn → catF N0 (catF 0 (lyF []) (lyF L0)) (lyF M) i = lyF (L0 ++ M) i := fun i _ => by
              have h2 : catF 0 (lyF []) (lyF L0) = lyF L0 := by funext j; simp [catF]
              rw [h2, ← HNN.out.1]
              exact lyF_cat i
            have o6b := o6.congr hcat
            have hlen : (L0 ++ M).length = N0 + xn := by rw [List.length_append, HNN.out.1, HML.out]
            have hrd6 : Rd .u8 wc A6 (L0 ++ M).length c6 (lyF (L0 ++ M)) := by
              rw [hlen]
              obtain ⟨A', c', e, hr, _⟩ := o6b.rd
              injection e with e1 e2 e3
              subst e1 e3
              exact hr
            have hcut := rcut12 (fun j => w.heap.size + 4 ≤ j ∧ (Value.slice Ao k co).ownBlock ≠ some j) 0 (L0 ++ M) A6 c6 wc (by decide) HBY2.out hrd6 (by rw [hlen]; omega) (fun _ a ha => ⟨(World.ownsRow.lt o6 a.block (by rw [ha]; rfl)).1, fun e => by have h2 := hvlt _ e; have h3 := hv6 a.block (by rw [ha]; rfl); omega⟩)
            rw [hlen] at hcut
            have HCUT := hide hcut
            have HO6 := hide o6b
            have HLEN := hide hlen
            have HVLT := hide hvlt
            clear r5 hq5 o6 hcat hlen hrd6 hcut hvlt
            clear o6b hv6
            go_wp2_with fail
            refine HCUT.out.mono ?_
            rintro e w8 ⟨A8, c8, gs8, x8, R8, rfl, hgs8, hx8, hr8, hA8, hb8, hbel8⟩
            have hgl8 : gs8.length ≤ 1000000 := by rw [hgs8]; omega
            have hlw8 : P0 ≤ gs8.length := by rw [hgs8]; exact hlow
            have R3d := hide (keepRow R3c.out hbel8)
            have R5d := hide (keepRow R5 hbel8)
            have R6d := keepRow R6c.out hbel8
            have R7d := keepRow R7c.out hbel8
            have OTd := hide (OTc.out.below hbel8)
            have OSd := hide (HO6.out.below hbel8)
            have OUTd := hide (OUTc.out.below hbel8)
            have ELd : Hid (∀ i, i < k → ∃ A c, Vs i = .slice A (gsK F i).length c ∧ RwsB (fun j => w.heap.size + 4 ≤ j ∧ (Value.slice Ao k co).ownBlock ≠ some j) w8 A (gsK F i).length c (gsK F i)) := hide fun i hi => by
              obtain ⟨A', c', e, hB⟩ := ELc.out i hi
              exact ⟨A', c', e, hB.below hbel8⟩
            have hwc : w.heap.size ≤ wc.heap.size := BELc.out.size
            have BELd := hide (BELc.out.trans (hbel8.mono hwc))
            have NEWd : Hid (RwsB (fun j => w.heap.size + 4 ≤ j ∧ (Value.slice Ao k co).ownBlock ≠ some j) w8 A8 gs8.length c8 gs8) := hide ⟨R8, hr8, rfl, fun _ a ha => ⟨by have := (hA8 a ha).1; omega, fun e => by have := (hA8 a ha).1; have := HVLT.out _ e; omega⟩, fun j x hx => ⟨(hb8 j x hx).1, fun hn a ha => ((hb8 j x hx).2 hn a ha).2⟩⟩
            have HGS8 := hide hgs8
            have HX8 := hide hx8
            have hsz8 := hbel8.size
            clear hr8 hA8 hb8 hgs8 hx8 hbel8 h0 h1 R5
            -- the stores
            obtain ⟨i0_, i1_⟩ := row2 R7d
            have z7 := frozenRow R7d 0
            have S7 := setRow w8 (p7) 0 (.int .i64 x8) R7d
            simp only [List.setIfInBounds_toArray, List.set_cons_zero, List.set_cons_succ] at S7
            have q7 : FrQ (fun i => i = p7) w8 (w8.setCell ⟨p7, 0, none⟩ (.int .i64 x8)) := FrQ.set (S := fun i => i = p7) rfl 0 _
            have R6e := q7.row R6d (by show ¬ p6 = p7; omega)
            obtain ⟨j0, j1⟩ := row2 R6e
            have hcutR : ∀ W, (Instr.slice 61 (.slice A8 gs8.length c8) (some (.int .i64 (P0 : Int))) none none).run Try.prog W = .ok (.slice (cut6 A8 c8 P0) (gs8.length - P0) (c8 - P0)) W := fun W => raws_cut A8 gs8.length c8 P0 hlw8 W
            have S7H := hide S7
            have HQ7 := hide q7
            have R6E := hide R6e
            have hov : OwnV 1 61 (w.heap.size + 4) ((w8.setCell ⟨p7, 0, none⟩ (.int .i64 x8)).alloc (.cells #[(.slice (cut6 A8 c8 P0) (gs8.length - P0) (c8 - P0))] 61)) (.slice Ao k co) k Vs := (OUTd.out.frQ q7 fun i hi e => by have h2 := (World.ownsRow.lt OUTd.out i hi).1; have h3 : i = p7 := e; omega).alloc _
            have HOV := hide hov
            have HEL1 : Hid (RdV 1 ((w8.setCell ⟨p7, 0, none⟩ (.int .i64 x8)).alloc (.cells #[(.slice (cut6 A8 c8 P0) (gs8.length - P0) (c8 - P0))] 61)) (some ⟨w8.heap.size, 0, none⟩) 1 1 (fun _ => (.slice (cut6 A8 c8 P0) (gs8.length - P0) (c8 - P0)))) := hide (by
              have h9 : (w8.setCell ⟨p7, 0, none⟩ (.int .i64 x8)).heap.size = w8.heap.size := by simp [World.setCell]
              obtain ⟨A', c', e, hr, _⟩ := (OwnV.lit 1 61 0 (w8.setCell ⟨p7, 0, none⟩ (.int .i64 x8)) (fun _ => (.slice (cut6 A8 c8 P0) (gs8.length - P0) (c8 - P0))) #[(.slice (cut6 A8 c8 P0) (gs8.length - P0) (c8 - P0))] 1 (Nat.zero_le _) (by simp [maxLen]) rfl).rd
              rw [h9] at e
              injection e with e1 e2 e3
              subst e1 e3
              exact hr)
            have hbs : w.heap.size + 4 ≤ ((w8.setCell ⟨p7, 0, none⟩ (.int .i64 x8)).alloc (.cells #[(.slice (cut6 A8 c8 P0) (gs8.length - P0) (c8 - P0))] 61)).heap.size := by
              have h9 : (w8.setCell ⟨p7, 0, none⟩ (.int .i64 x8)).heap.size = w8.heap.size := by simp [World.setCell]
              simp [h9]
              omega
            clear S7 q7 R6e R6d R7d hov hgl8
            have R6f := hide (keepRow R6E.out ((Below.refl (w8.setCell ⟨p7, 0, none⟩ (.int .i64 x8)).heap.size (w8.setCell ⟨p7, 0, none⟩ (.int .i64 x8))).alloc (Nat.le_refl _) (.cells #[(.slice (cut6 A8 c8 P0) (gs8.length - P0) (c8 - P0))] 61)))
            go_wp2_with (at_builtin; refine wp_appV rfl _ _ _ rfl 1 iL _ 24 Try.underlying77 hiL zL0 zL1 zL2 rfl (by omega) (w.heap.size + 4) (.slice Ao k co) k Vs rfl HOV.out _ 1 1 _ rfl HEL1.out (fun _ _ => rfl) (by simp only [maxLen]; omega) (by omega) hbs ?_; intro v9 w9 h9 hg9 hb9; obtain ⟨A9, c9, rfl, _, _⟩ := h9.rd; have H9 := hide h9; have G9 := hide hg9; have B9 := hide hb9; have R69 := (hg9.block _ (rowLt R6f.out) (fun e => by have h8 := (World.ownsRow.lt HOV.out _ e.symm).1; omega)).trans R6f.out; clear j0 j1; obtain ⟨j0, j1⟩ := row2 R69; have zz6 := frozenRow R69 0; have S69 := setRow w9 p6 0 (.int .i64 (gs8.length : Nat)) R69; simp only [List.setIfInBounds_toArray, List.set_cons_zero, List.set_cons_succ] at S69; have HS69 := hide S69; clear h9 hg9 hb9 S69 R69)
            go_roundw
            case rel =>
              have e0 : endF nilL (flK F (k + 1)) 0 = L0 ++ M := by rw [HQ2.out, upS_at]
              have e1 : endF nilL (flK F (k + 1)) 1 = L1 := by rw [HQ2.out, upS_ne _ _ (by decide)]; exact HLL.out.2
              have hz9 : (w8.setCell ⟨p7, 0, none⟩ (.int .i64 x8)).heap.size = w8.heap.size := by simp [World.setCell]
              have hF : FrQ (fun i => i = p7 ∨ i = p6 ∨ (Value.slice Ao k co).ownBlock = some i) w8 (w9.setCell ⟨p6, 0, none⟩ (.int .i64 (gs8.length : Nat))) :=
                ((HQ7.out.wide fun _ _ e => .inl e).tr (FrQ.ofBelow _ ((Below.refl (w8.setCell ⟨p7, 0, none⟩ (.int .i64 x8)).heap.size (w8.setCell ⟨p7, 0, none⟩ (.int .i64 x8))).alloc (Nat.le_refl _) (.cells #[(.slice (cut6 A8 c8 P0) (gs8.length - P0) (c8 - P0))] 61)))).tr ((FrQ.grown G9.out fun g e => .inr (.inr e)).tr (FrQ.set (.inr (.inl rfl)) 0 _))
              have hvo : ∀ i, (Value.slice Ao k co).ownBlock = some i → w.heap.size + 4 ≤ i := fun i e => (World.ownsRow.lt HOV.out i e).1
              have hnew : ∀ j, j < w8.heap.size → (Value.slice Ao k co).ownBlock ≠ some j → (Value.slice A9 (k + 1) c9).ownBlock ≠ some j := fun j hj hne e => by
                rcases B9.out with h | h
                · exact hne (h ▸ e)
                · rw [h] at e
                  have h8 := Option.some.inj e
                  have h7 : ((w8.setCell ⟨p7, 0, none⟩ (.int .i64 x8)).alloc (.cells #[(.slice (cut6 A8 c8 P0) (gs8.length - P0) (c8 - P0))] 61)).heap.size = w8.heap.size + 1 := by simp [hz9]
                  have h6 : ((w8.setCell ⟨p7, 0, none⟩ (.int .i64 x8)).alloc (.cells #[(.slice (cut6 A8 c8 P0) (gs8.length - P0) (c8 - P0))] 61)).heap.size = j := h8
                  omega
              have keepS : ∀ (A' : Option Addr) (n' c' : Nat) (fs : List Rl), RwsB (fun j => w.heap.size + 4 ≤ j ∧ (Value.slice Ao k co).ownBlock ≠ some j) w8 A' n' c' fs → RwsB (fun j => w.heap.size + 4 ≤ j ∧ (Value.slice A9 (k + 1) c9).ownBlock ≠ some j) (w9.setCell ⟨p6, 0, none⟩ (.int .i64 (gs8.length : Nat))) A' n' c' fs := fun A' n' c' fs h => h.frQ hF (fun j _ hj e => by
                rcases e with e | e | e
                · have := hj.1; omega
                · have := hj.1; omega
                · exact hj.2 e) fun j hlt hj => ⟨hj.1, hnew j hlt hj.2⟩
              refine ⟨k + 1, catV k Vs (fun _ => (.slice (cut6 A8 c8 P0) (gs8.length - P0) (c8 - P0))), (.slice A6 (N0 + xn) c6), (.slice A1 N1 c1), by omega, by go_num, ⟨hF.row R3d.out (by rintro (e | e | e); omega; omega; have := hvo _ e; omega), ?_, ?_, ?_, ?_, ?_, ?_, ?_, ?_, ?_, ?_, ?_⟩⟩
              · have h5 := hF.row R5d.out (by rintro (e | e | e); omega; omega; have := hvo _ e; omega)
                rw [(by omega : p5 = w.heap.size + 1)] at h5
                exact h5
              · have h6 := HS69.out
                rw [(by omega : p6 = w.heap.size + 2)] at h6
                rw [e0, e1]
                have hpp := HPP.out
                rw [hpp.2, ← HGS8.out]
                rw [(by omega : p6 = w.heap.size + 2)]
                exact h6
              · have h7 := (FrQ.tr (FrQ.ofBelow (fun i => i = p6 ∨ (Value.slice Ao k co).ownBlock = some i) ((Below.refl (w8.setCell ⟨p7, 0, none⟩ (.int .i64 x8)).heap.size (w8.setCell ⟨p7, 0, none⟩ (.int .i64 x8))).alloc (Nat.le_refl _) (.cells #[(.slice (cut6 A8 c8 P0) (gs8.length - P0) (c8 - P0))] 61))) ((FrQ.grown G9.out fun g e => .inr e).tr (FrQ.set (.inl rfl) 0 (.int .i64 (gs8.length : Nat))))).row S7H.out (by rintro (e | e); omega; have := hvo _ e; omega)
                rw [e0, e1]
                have hxx := HXX.out
                rw [hxx.2, ← HX8.out]
                rw [(by omega : w.heap.size + 3 = p7)]
                exact h7
              · have h5 : (L0 ++ M).length = N0 + xn := HLEN.out
                rw [e0, h5]
                exact OSd.out.frQ hF fun i hi e => by rcases e with e | e | e; (have := (World.ownsRow.lt OSd.out i hi).1; omega); (have := (World.ownsRow.lt OSd.out i hi).1; omega); exact own_ne_type OSd.out OUTd.out (by decide) hi e
              · rw [e1, HNN.out.2]
                exact OTd.out.frQ hF fun i hi e => by rcases e with e | e | e; (have := (World.ownsRow.lt OTd.out i hi).1; omega); (have := (World.ownsRow.lt OTd.out i hi).1; omega); exact own_ne_type OTd.out OUTd.out (by decide) hi e
              · rw [e0]; exact HBY2.out
              · rw [e1]; exact HB1.out
              · have h9 := H9.out
                exact (OwnV.frQ h9 (FrQ.set (S := fun i => i = p6) rfl 0 _) fun i hi e => by have h8 := (World.ownsRow.lt h9 i hi).1; have h7 : i = p6 := e; omega).congr fun i _ => by rw [Nat.mul_one]
              · intro i hi
                by_cases h : i = k
                · subst h
                  refine ⟨cut6 A8 c8 P0, c8 - P0, ?_, keepS _ _ _ _ ?_⟩
                  · show catV i Vs (fun _ => (.slice (cut6 A8 c8 P0) (gs8.length - P0) (c8 - P0))) i = _
                    unfold catV
                    rw [if_neg (Nat.lt_irrefl _)]
                    have h1 : (gsK F i).length = gs8.length - P0 := by rw [HGS.out, ← HGS8.out, List.length_drop, HPP.out.1]
                    rw [h1]
                  · have h1 : (gsK F i).length = gs8.length - P0 := by rw [HGS.out, ← HGS8.out, List.length_drop, HPP.out.1]
                    rw [h1, HGS.out, ← HGS8.out, HPP.out.1]
                    exact NEWd.out.drop hlw8
                · obtain ⟨A', c', e, hB⟩ := ELd.out i (by omega)
                  refine ⟨A', c', ?_, keepS _ _ _ _ hB⟩
                  show catV k Vs (fun _ => (.slice (cut6 A8 c8 P0) (gs8.length - P0) (c8 - P0))) i = _
                  unfold catV
                  rw [if_pos (by omega)]
                  exact e
              · exact BELd.out.trans (hF.bel BELd.out.size fun i _ e => by rcases e with e | e | e; omega; omega; have := hvo i e; omega)
              · have h1 := hF.size
                omega
            case measure => simp [intOf]; omega
        · rw [hfr] at e0
          have hL : ByL (endF nilL (flK F k) 1) := HK.out.b1
          obtain ⟨q1, q2⟩ := out_step F k (by rw [hfr]; exact hL) (bM_byt hbyt)
          rw [hfr] at q1 q2
          have hgs : gsK F k = (frs 1 (endF nilL (flK F k) 1 ++ bM (F k))).drop (frs 1 (endF nilL (flK F k) 1)).length := by unfold gsK; rw [hfr, if_pos (by decide)]
          obtain ⟨gm, hgm⟩ := frs_more (sd := 1) hL (bM_byt hbyt)
          have hl1 := endF_len (flK F k) nilL 1
          rw [flK_len] at hl1
          have hl2 := sumC_mono F (show k + 1 ≤ n from hlt)
          have hl3 : sumC F (k + 1) = sumC F k + (F k).n := rfl
          have hl4 := HS.out
          have hl5 : (nilL 1).length = 0 := rfl
          have hl6 : (endF nilL (flK F k) 1).length + (F k).n ≤ 1000000 := by omega
          have hby2 : ByL (endF nilL (flK F k) 1 ++ bM (F k)) := hL.app (bM_byt hbyt)
          have hfl2 := frs_len (sd := 1) hby2
          have hml := bM_len (F k)
          rw [List.length_append, hml] at hfl2
          have hlow : (frs 1 (endF nilL (flK F k) 1)).length ≤ (frs 1 (endF nilL (flK F k) 1 ++ bM (F k))).length := by rw [hgm, List.length_append]; omega
          obtain ⟨A1, c1, ha1, _⟩ := HK.out.o1.rd
          obtain ⟨A0, c0, ha0, _⟩ := HK.out.o0.rd
          subst ha1 ha0
          have R3 := hide HK.out.r3
          have R5 := HK.out.r5
          rw [← (by omega : p5 = w.heap.size + 1)] at R5
          have R6 := HK.out.r6
          rw [← (by omega : p6 = w.heap.size + 2)] at R6
          have R7 := HK.out.r7
          rw [← (by omega : p7 = w.heap.size + 3)] at R7
          have O1 := HK.out.o1
          have O0 := HK.out.o0
          have HB1 := hide HK.out.b1
          have HB0 := hide HK.out.b0
          have HOUT := hide HK.out.out
          have HEL := hide HK.out.el
          have HBEL := hide HK.out.bel
          have hq4 := HK.out.hq
          have HRDM := hide (bM_rd hrd)
          have HRWM := hide hrw
          have HQ2 := hide q2
          have HGS := hide hgs
          have HBY2 := hide hby2
          have HMB := hide (bM_byt hbyt)
          clear q1 q2 hgs hgm hl1 hl2 hl3 hl4 hl5 hby2 hrd hbyt hrw har hL HK
          generalize hL1 : endF nilL (flK F k) 1 = L1 at *
          generalize hL0 : endF nilL (flK F k) 0 = L0 at *
          obtain ⟨P1, hP1⟩ : ∃ P, (frs 1 L1).length = P := ⟨_, rfl⟩
          obtain ⟨P0, hP0⟩ : ∃ P, (frs 0 L0).length = P := ⟨_, rfl⟩
          obtain ⟨X1, hX1⟩ : ∃ P, lftN 1 L1 = P := ⟨_, rfl⟩
          obtain ⟨X0, hX0⟩ : ∃ P, lftN 0 L0 = P := ⟨_, rfl⟩
          obtain ⟨N1, hN1⟩ : ∃ P, L1.length = P := ⟨_, rfl⟩
          obtain ⟨N0, hN0⟩ : ∃ P, L0.length = P := ⟨_, rfl⟩
          rw [hP0, hP1] at R6
          rw [hX0, hX1] at R7
          rw [hN1] at R5 O1
          rw [hN0] at R5 O0
          rw [hP1] at hlow
          rw [hN1] at hl6 hfl2
          have HPP := hide (And.intro hP0 hP1)
          have HXX := hide (And.intro hX0 hX1)
          have HNN := hide (And.intro hN0 hN1)
          have HLL := hide (And.intro hL0 hL1)
          have HML := hide hml
          have HO1 := hide O1
          have HO0 := hide O0
          clear hP1 hP0 hX1 hX0 hN1 hN0 hL1 hL0 hml
          have hfr2 : (F k).from_ = 1 := hfr
          have HFR := hide hfr2
          generalize hM : bM (F k) = M at *
          generalize F k = Z at *
          obtain ⟨zx, XA, xn, xc, xb⟩ := Z
          simp only at *
          subst hfr
          clear hM hfr2
          obtain ⟨d0, d1⟩ := row2 R5
          obtain ⟨d2, d3⟩ := row2 R6
          obtain ⟨d4, d5⟩ := row2 R7
          have R5a := keepRow R5 ((Below.refl wr.heap.size wr).alloc (Nat.le_refl _) (.cells #[] 5))
          obtain ⟨h0, h1⟩ := row2 R5a
          have e1a : (wr.alloc (.cells #[] 5)).cell? ⟨b, off + k * 2 + 1, none⟩ = some (.slice XA xn xc) := cellKeepC ((Below.refl wr.heap.size wr).alloc (Nat.le_refl _) (.cells #[] 5)) e1
          have hbw : b < w.heap.size ∨ True := .inr trivial
          have HBq : Hid (b < w.heap.size) := hide (by
            obtain ⟨b', o', e, c1', _⟩ := HA.out.at_ hlt
            cases e
            exact World.block_lt_of_cell? w _ c1')
          have HOL : Hid (Own .u8 5 (w.heap.size + 4) (wr.alloc (.cells #[] 5)) (.slice (some ⟨wr.heap.size, 0, none⟩) 0 0) 0 (lyF [])) := hide (Own.lit .u8 5 (w.heap.size + 4) wr (lyF []) #[] 0 hq4 (by simp [maxLen]) rfl)
          have HRs : Hid (Rd .u8 (wr.alloc (.cells #[] 5)) A1 N1 c1 (lyF L1)) := hide (by
            obtain ⟨A', c', e, hr, _⟩ := HO1.out.rd
            injection e with e1 e2 e3
            subst e1 e3
            exact hr.below ((Below.refl wr.heap.size wr).alloc (Nat.le_refl _) (.cells #[] 5)))
          have HRM := hide (HRDM.out.below ((Below.refl wr.heap.size wr).alloc (Nat.le_refl _) (.cells #[] 5)))
          have HE1a := hide e1a
          have HR5a := hide R5a
          have HR6 := hide R6
          have HR7 := hide R7
          have hbz : w.heap.size + 4 ≤ (wr.alloc (.cells #[] 5)).heap.size := by simp; omega
          clear R5 R6 R7 O1 O0 R5a hbw
          go_wp2_with fail
          go_cut [] from 32 to 67 (fun W => RfCut w p5 wr W (.slice A0 N0 c0) (.slice A1 N1 c1) 1 (N1 + xn) (catF N1 (catF 0 (lyF []) (lyF L1)) (lyF M)))
          case first =>
            go_region_law (first
              | (refine step_appQ rfl (.tmp 33) (.tmp 36) _ rfl i0 _ 1 Try.underlying22 hi hz0 hz1 hz2 (w.heap.size + 4) (.slice (some ⟨wr.heap.size, 0, none⟩) 0 0) 0 (lyF []) rfl HOL.out A1 N1 c1 (lyF L1) rfl HRs.out (by simp only [maxLen]; omega) (by omega) hbz ?_; intro v5 w5 hown5 hg5 hb5; rw [Nat.zero_add] at hown5; have hgg5 : (wr.alloc (.cells #[] 5)).grownBy w5 (some wr.heap.size) := ⟨hg5.os, hg5.tape, hg5.output, hg5.size, hg5.block⟩; have HG5 := hide hgg5; have HB5 := hide hb5; obtain ⟨A5, k5, rfl, _, _⟩ := hown5.rd; have HO5 := hide hown5; have HR55 := hide ((hgg5.block _ (rowLt HR5a.out) (fun e => by have := Option.some.inj e; omega)).trans HR5a.out); have zz5 := frozenRow HR55.out 1; have e15 := hgg5.cell HE1a.out (fun e => by have h9 := HBq.out; have := Option.some.inj e; simp only at this; omega); have HRM5 := hide (HRM.out.frQ (FrQ.grown (S := fun i => i = wr.heap.size) hgg5 fun g e => (Option.some.inj e).symm) fun hn a ha e => by have h9 := HRWM.out.blk12 hn ha; have e' : a.block = wr.heap.size := e; omega); have hbz5 : w.heap.size + 4 ≤ w5.heap.size := Nat.le_trans hbz hgg5.size; clear hown5 hg5 hb5 hgg5 d0 d1 h0 h1 e1 e1a; obtain ⟨h0, h1⟩ := row2 HR55.out)
              | (refine step_appQ rfl (.tmp 37) (.tmp 42) _ rfl i0 _ 1 Try.underlying22 hi hz0 hz1 hz2 (w.heap.size + 4) (.slice A5 N1 k5) N1 (catF 0 (lyF []) (lyF L1)) rfl HO5.out XA xn xc (lyF M) rfl HRM5.out (by simp only [maxLen]; omega) (by omega) hbz5 ?_; intro v6 w6 hown6 hg6 hb6; have hgg6 : w5.grownBy w6 (Value.slice A5 N1 k5).ownBlock := ⟨hg6.os, hg6.tape, hg6.output, hg6.size, hg6.block⟩; have HG6 := hide hgg6; have HB6 := hide hb6; obtain ⟨A6, c6, rfl, _, _⟩ := hown6.rd; have HO6 := hide hown6; have HR56 := hide ((hgg6.block _ (rowLt HR55.out) (fun e => by have h9 := (World.ownsRow.lt HO5.out _ e.symm).1; omega)).trans HR55.out); clear zz5; have zz6 := frozenRow HR56.out 1; clear hown6 hg6 hb6 hgg6 h0 h1; obtain ⟨h0, h1⟩ := row2 HR56.out))
            all_goals
              have s5 := setRow w6 (p5) 1 (.slice A6 (N1 + xn) c6) HR56.out
              simp only [List.setIfInBounds_toArray, List.set_cons_zero, List.set_cons_succ] at s5
              have hv5 : ∀ i, (Value.slice A5 N1 k5).ownBlock = some i → wr.heap.size ≤ i := fun i e => by
                rcases HB5.out with h9 | h9
                · rw [h9] at e; have h8 : wr.heap.size = i := Option.some.inj e; omega
                · rw [h9] at e; have h8 := Option.some.inj e; have : (wr.alloc (.cells #[] 5)).heap.size = wr.heap.size + 1 := by simp
                  have h7 : (wr.alloc (.cells #[] 5)).heap.size = i := h8
                  omega
              have hv6 : ∀ i, (Value.slice A6 (N1 + xn) c6).ownBlock = some i → wr.heap.size ≤ i := fun i e => by
                rcases HB6.out with h9 | h9
                · exact hv5 i (h9.symm.trans e)
                · rw [h9] at e; have h8 := Option.some.inj e; have h7 : w5.heap.size = i := h8; have h6 := HG5.out.size; have : (wr.alloc (.cells #[] 5)).heap.size = wr.heap.size + 1 := by simp
                  omega
              have q1 : FrQ (fun i => i = p5) wr w6 := ((FrQ.ofBelow (fun _ => False) ((Below.refl wr.heap.size wr).alloc (Nat.le_refl _) (.cells #[] 5))).trans ((FrQ.grown (S := fun i => wr.heap.size ≤ i) HG5.out fun g e => by have := Option.some.inj e; omega).tr (FrQ.grown (S := fun i => wr.heap.size ≤ i) HG6.out fun g e => hv5 g e)) (fun _ _ e => e.elim) fun i hi e => by omega)
              have HRC := hide (show RfCut w p5 wr (w6.setCell ⟨p5, 1, none⟩ (.slice A6 (N1 + xn) c6)) (.slice A0 N0 c0) (.slice A1 N1 c1) 1 (N1 + xn) (catF N1 (catF 0 (lyF []) (lyF L1)) (lyF M)) from
                ⟨A6, c6, q1.tr (FrQ.set (S := fun i => i = p5) rfl 1 _), s5, HO6.out.frQ (FrQ.set (S := fun i => i = p5) rfl 1 _) (fun i hi e => by have h1 := hv6 i hi; have h2 : i = p5 := e; omega), hv6⟩)
              clear s5 hv5 hv6 q1
              go_wp2_with fail
              go_meet
              exact HRC.out
          case rest =>
            obtain ⟨A6, c6, hq5, r5, o6, hv6⟩ := hcut
            have R5 : wc.heap[p5]? = some (.cells #[(.slice A0 N0 c0), (.slice A6 (N1 + xn) c6)] 158 (0, 0)) := r5
            obtain ⟨h0, h1⟩ := row2 R5
            have R3c := hide (hq5.row R3.out (by show ¬ w.heap.size = p5; omega))
            have R6c := hide (hq5.row HR6.out (by show ¬ p6 = p5; omega))
            have R7c := hide (hq5.row HR7.out (by show ¬ p7 = p5; omega))
            have OTc := hide (HO0.out.frQ hq5 fun i hi e => by have h2 := (World.ownsRow.lt HO0.out i hi).1; have h3 : i = p5 := e; omega)
            have OUTc := hide (HOUT.out.frQ hq5 fun i hi e => by have h2 := (World.ownsRow.lt HOUT.out i hi).1; have h3 : i = p5 := e; omega)
            have ELc : Hid (∀ i, i < k → ∃ A c, Vs i = .slice A (gsK F i).length c ∧ RwsB (fun j => w.heap.size + 4 ≤ j ∧ (Value.slice Ao k co).ownBlock ≠ some j) wc A (gsK F i).length c (gsK F i)) := hide fun i hi => by
              obtain ⟨A', c', e, hB⟩ := HEL.out i hi
              exact ⟨A', c', e, hB.frQ hq5 (fun j _ hj e => by have h2 : j = p5 := e; have := hj.1; omega) fun j _ hj => hj⟩
            have BELc := hide (HBEL.out.trans (hq5.bel HBEL.out.size fun i _ e => by have h2 : i = p5 := e; omega))
            have hvlt : ∀ i, (Value.slice Ao k co).ownBlock = some i → i < wr.heap.size := fun i e => (World.ownsRow.lt HOUT.out i e).2
            have hsc := hq5.size
            have hcat : ∀ i, i < N1 + xn → catF N1 (catF 0 (lyF []) (lyF L1)) (lyF M) i = lyF (L1 ++ M) i := fun i _ => by
              have h2 : catF 0 (lyF []) (lyF L1) = lyF L1 := by funext j; simp [catF]
              rw [h2, ← HNN.out.2]
              exact lyF_cat i
            have o6b := o6.congr hcat
            have hlen : (L1 ++ M).length = N1 + xn := by rw [List.length_append, HNN.out.2, HML.out]
            have hrd6 : Rd .u8 wc A6 (L1 ++ M).length c6 (lyF (L1 ++ M)) := by
              rw [hlen]
              obtain ⟨A', c', e, hr, _⟩ := o6b.rd
              injection e with e1 e2 e3
              subst e1 e3
              exact hr
            have hcut := rcut12 (fun j => w.heap.size + 4 ≤ j ∧ (Value.slice Ao k co).ownBlock ≠ some j) 1 (L1 ++ M) A6 c6 wc (by decide) HBY2.out hrd6 (by rw [hlen]; omega) (fun _ a ha => ⟨(World.ownsRow.lt o6 a.block (by rw [ha]; rfl)).1, fun e => by have h2 := hvlt _ e; have h3 := hv6 a.block (by rw [ha]; rfl); omega⟩)
            rw [hlen] at hcut
            have HCUT := hide hcut
            have HO6 := hide o6b
            have HLEN := hide hlen
            have HVLT := hide hvlt
            clear r5 hq5 o6 hcat hlen hrd6 hcut hvlt
            clear o6b hv6
            go_wp2_with fail
            refine HCUT.out.mono ?_
            rintro e w8 ⟨A8, c8, gs8, x8, R8, rfl, hgs8, hx8, hr8, hA8, hb8, hbel8⟩
            have hgl8 : gs8.length ≤ 1000000 := by rw [hgs8]; omega
            have hlw8 : P1 ≤ gs8.length := by rw [hgs8]; exact hlow
            have R3d := hide (keepRow R3c.out hbel8)
            have R5d := hide (keepRow R5 hbel8)
            have R6d := keepRow R6c.out hbel8
            have R7d := keepRow R7c.out hbel8
            have OTd := hide (OTc.out.below hbel8)
            have OSd := hide (HO6.out.below hbel8)
            have OUTd := hide (OUTc.out.below hbel8)
            have ELd : Hid (∀ i, i < k → ∃ A c, Vs i = .slice A (gsK F i).length c ∧ RwsB (fun j => w.heap.size + 4 ≤ j ∧ (Value.slice Ao k co).ownBlock ≠ some j) w8 A (gsK F i).length c (gsK F i)) := hide fun i hi => by
              obtain ⟨A', c', e, hB⟩ := ELc.out i hi
              exact ⟨A', c', e, hB.below hbel8⟩
            have hwc : w.heap.size ≤ wc.heap.size := BELc.out.size
            have BELd := hide (BELc.out.trans (hbel8.mono hwc))
            have NEWd : Hid (RwsB (fun j => w.heap.size + 4 ≤ j ∧ (Value.slice Ao k co).ownBlock ≠ some j) w8 A8 gs8.length c8 gs8) := hide ⟨R8, hr8, rfl, fun _ a ha => ⟨by have := (hA8 a ha).1; omega, fun e => by have := (hA8 a ha).1; have := HVLT.out _ e; omega⟩, fun j x hx => ⟨(hb8 j x hx).1, fun hn a ha => ((hb8 j x hx).2 hn a ha).2⟩⟩
            have HGS8 := hide hgs8
            have HX8 := hide hx8
            have hsz8 := hbel8.size
            clear hr8 hA8 hb8 hgs8 hx8 hbel8 h0 h1 R5
            -- the stores
            obtain ⟨i0_, i1_⟩ := row2 R7d
            have z7 := frozenRow R7d 1
            have S7 := setRow w8 (p7) 1 (.int .i64 x8) R7d
            simp only [List.setIfInBounds_toArray, List.set_cons_zero, List.set_cons_succ] at S7
            have q7 : FrQ (fun i => i = p7) w8 (w8.setCell ⟨p7, 1, none⟩ (.int .i64 x8)) := FrQ.set (S := fun i => i = p7) rfl 1 _
            have R6e := q7.row R6d (by show ¬ p6 = p7; omega)
            obtain ⟨j0, j1⟩ := row2 R6e
            have hcutR : ∀ W, (Instr.slice 61 (.slice A8 gs8.length c8) (some (.int .i64 (P1 : Int))) none none).run Try.prog W = .ok (.slice (cut6 A8 c8 P1) (gs8.length - P1) (c8 - P1)) W := fun W => raws_cut A8 gs8.length c8 P1 hlw8 W
            have S7H := hide S7
            have HQ7 := hide q7
            have R6E := hide R6e
            have hov : OwnV 1 61 (w.heap.size + 4) ((w8.setCell ⟨p7, 1, none⟩ (.int .i64 x8)).alloc (.cells #[(.slice (cut6 A8 c8 P1) (gs8.length - P1) (c8 - P1))] 61)) (.slice Ao k co) k Vs := (OUTd.out.frQ q7 fun i hi e => by have h2 := (World.ownsRow.lt OUTd.out i hi).1; have h3 : i = p7 := e; omega).alloc _
            have HOV := hide hov
            have HEL1 : Hid (RdV 1 ((w8.setCell ⟨p7, 1, none⟩ (.int .i64 x8)).alloc (.cells #[(.slice (cut6 A8 c8 P1) (gs8.length - P1) (c8 - P1))] 61)) (some ⟨w8.heap.size, 0, none⟩) 1 1 (fun _ => (.slice (cut6 A8 c8 P1) (gs8.length - P1) (c8 - P1)))) := hide (by
              have h9 : (w8.setCell ⟨p7, 1, none⟩ (.int .i64 x8)).heap.size = w8.heap.size := by simp [World.setCell]
              obtain ⟨A', c', e, hr, _⟩ := (OwnV.lit 1 61 0 (w8.setCell ⟨p7, 1, none⟩ (.int .i64 x8)) (fun _ => (.slice (cut6 A8 c8 P1) (gs8.length - P1) (c8 - P1))) #[(.slice (cut6 A8 c8 P1) (gs8.length - P1) (c8 - P1))] 1 (Nat.zero_le _) (by simp [maxLen]) rfl).rd
              rw [h9] at e
              injection e with e1 e2 e3
              subst e1 e3
              exact hr)
            have hbs : w.heap.size + 4 ≤ ((w8.setCell ⟨p7, 1, none⟩ (.int .i64 x8)).alloc (.cells #[(.slice (cut6 A8 c8 P1) (gs8.length - P1) (c8 - P1))] 61)).heap.size := by
              have h9 : (w8.setCell ⟨p7, 1, none⟩ (.int .i64 x8)).heap.size = w8.heap.size := by simp [World.setCell]
              simp [h9]
              omega
            clear S7 q7 R6e R6d R7d hov hgl8
            have R6f := hide (keepRow R6E.out ((Below.refl (w8.setCell ⟨p7, 1, none⟩ (.int .i64 x8)).heap.size (w8.setCell ⟨p7, 1, none⟩ (.int .i64 x8))).alloc (Nat.le_refl _) (.cells #[(.slice (cut6 A8 c8 P1) (gs8.length - P1) (c8 - P1))] 61)))
            go_wp2_with (at_builtin; refine wp_appV rfl _ _ _ rfl 1 iL _ 24 Try.underlying77 hiL zL0 zL1 zL2 rfl (by omega) (w.heap.size + 4) (.slice Ao k co) k Vs rfl HOV.out _ 1 1 _ rfl HEL1.out (fun _ _ => rfl) (by simp only [maxLen]; omega) (by omega) hbs ?_; intro v9 w9 h9 hg9 hb9; obtain ⟨A9, c9, rfl, _, _⟩ := h9.rd; have H9 := hide h9; have G9 := hide hg9; have B9 := hide hb9; have R69 := (hg9.block _ (rowLt R6f.out) (fun e => by have h8 := (World.ownsRow.lt HOV.out _ e.symm).1; omega)).trans R6f.out; clear j0 j1; obtain ⟨j0, j1⟩ := row2 R69; have zz6 := frozenRow R69 1; have S69 := setRow w9 p6 1 (.int .i64 (gs8.length : Nat)) R69; simp only [List.setIfInBounds_toArray, List.set_cons_zero, List.set_cons_succ] at S69; have HS69 := hide S69; clear h9 hg9 hb9 S69 R69)
            go_roundw
            case rel =>
              have e0 : endF nilL (flK F (k + 1)) 1 = L1 ++ M := by rw [HQ2.out, upS_at]
              have e1 : endF nilL (flK F (k + 1)) 0 = L0 := by rw [HQ2.out, upS_ne _ _ (by decide)]; exact HLL.out.1
              have hz9 : (w8.setCell ⟨p7, 1, none⟩ (.int .i64 x8)).heap.size = w8.heap.size := by simp [World.setCell]
              have hF : FrQ (fun i => i = p7 ∨ i = p6 ∨ (Value.slice Ao k co).ownBlock = some i) w8 (w9.setCell ⟨p6, 1, none⟩ (.int .i64 (gs8.length : Nat))) :=
                ((HQ7.out.wide fun _ _ e => .inl e).tr (FrQ.ofBelow _ ((Below.refl (w8.setCell ⟨p7, 1, none⟩ (.int .i64 x8)).heap.size (w8.setCell ⟨p7, 1, none⟩ (.int .i64 x8))).alloc (Nat.le_refl _) (.cells #[(.slice (cut6 A8 c8 P1) (gs8.length - P1) (c8 - P1))] 61)))).tr ((FrQ.grown G9.out fun g e => .inr (.inr e)).tr (FrQ.set (.inr (.inl rfl)) 1 _))
              have hvo : ∀ i, (Value.slice Ao k co).ownBlock = some i → w.heap.size + 4 ≤ i := fun i e => (World.ownsRow.lt HOV.out i e).1
              have hnew : ∀ j, j < w8.heap.size → (Value.slice Ao k co).ownBlock ≠ some j → (Value.slice A9 (k + 1) c9).ownBlock ≠ some j := fun j hj hne e => by
                rcases B9.out with h | h
                · exact hne (h ▸ e)
                · rw [h] at e
                  have h8 := Option.some.inj e
                  have h7 : ((w8.setCell ⟨p7, 1, none⟩ (.int .i64 x8)).alloc (.cells #[(.slice (cut6 A8 c8 P1) (gs8.length - P1) (c8 - P1))] 61)).heap.size = w8.heap.size + 1 := by simp [hz9]
                  have h6 : ((w8.setCell ⟨p7, 1, none⟩ (.int .i64 x8)).alloc (.cells #[(.slice (cut6 A8 c8 P1) (gs8.length - P1) (c8 - P1))] 61)).heap.size = j := h8
                  omega
              have keepS : ∀ (A' : Option Addr) (n' c' : Nat) (fs : List Rl), RwsB (fun j => w.heap.size + 4 ≤ j ∧ (Value.slice Ao k co).ownBlock ≠ some j) w8 A' n' c' fs → RwsB (fun j => w.heap.size + 4 ≤ j ∧ (Value.slice A9 (k + 1) c9).ownBlock ≠ some j) (w9.setCell ⟨p6, 1, none⟩ (.int .i64 (gs8.length : Nat))) A' n' c' fs := fun A' n' c' fs h => h.frQ hF (fun j _ hj e => by
                rcases e with e | e | e
                · have := hj.1; omega
                · have := hj.1; omega
                · exact hj.2 e) fun j hlt hj => ⟨hj.1, hnew j hlt hj.2⟩
              refine ⟨k + 1, catV k Vs (fun _ => (.slice (cut6 A8 c8 P1) (gs8.length - P1) (c8 - P1))), (.slice A0 N0 c0), (.slice A6 (N1 + xn) c6), by omega, by go_num, ⟨hF.row R3d.out (by rintro (e | e | e); omega; omega; have := hvo _ e; omega), ?_, ?_, ?_, ?_, ?_, ?_, ?_, ?_, ?_, ?_, ?_⟩⟩
              · have h5 := hF.row R5d.out (by rintro (e | e | e); omega; omega; have := hvo _ e; omega)
                rw [(by omega : p5 = w.heap.size + 1)] at h5
                exact h5
              · have h6 := HS69.out
                rw [(by omega : p6 = w.heap.size + 2)] at h6
                rw [e1, e0]
                have hpp := HPP.out
                rw [hpp.1, ← HGS8.out]
                rw [(by omega : p6 = w.heap.size + 2)]
                exact h6
              · have h7 := (FrQ.tr (FrQ.ofBelow (fun i => i = p6 ∨ (Value.slice Ao k co).ownBlock = some i) ((Below.refl (w8.setCell ⟨p7, 1, none⟩ (.int .i64 x8)).heap.size (w8.setCell ⟨p7, 1, none⟩ (.int .i64 x8))).alloc (Nat.le_refl _) (.cells #[(.slice (cut6 A8 c8 P1) (gs8.length - P1) (c8 - P1))] 61))) ((FrQ.grown G9.out fun g e => .inr e).tr (FrQ.set (.inl rfl) 1 (.int .i64 (gs8.length : Nat))))).row S7H.out (by rintro (e | e); omega; have := hvo _ e; omega)
                rw [e1, e0]
                have hxx := HXX.out
                rw [hxx.1, ← HX8.out]
                rw [(by omega : w.heap.size + 3 = p7)]
                exact h7
              · rw [e1, HNN.out.1]
                exact OTd.out.frQ hF fun i hi e => by rcases e with e | e | e; (have := (World.ownsRow.lt OTd.out i hi).1; omega); (have := (World.ownsRow.lt OTd.out i hi).1; omega); exact own_ne_type OTd.out OUTd.out (by decide) hi e
              · have h5 : (L1 ++ M).length = N1 + xn := HLEN.out
                rw [e0, h5]
                exact OSd.out.frQ hF fun i hi e => by rcases e with e | e | e; (have := (World.ownsRow.lt OSd.out i hi).1; omega); (have := (World.ownsRow.lt OSd.out i hi).1; omega); exact own_ne_type OSd.out OUTd.out (by decide) hi e
              · rw [e1]; exact HB0.out
              · rw [e0]; exact HBY2.out
              · have h9 := H9.out
                exact (OwnV.frQ h9 (FrQ.set (S := fun i => i = p6) rfl 1 _) fun i hi e => by have h8 := (World.ownsRow.lt h9 i hi).1; have h7 : i = p6 := e; omega).congr fun i _ => by rw [Nat.mul_one]
              · intro i hi
                by_cases h : i = k
                · subst h
                  refine ⟨cut6 A8 c8 P1, c8 - P1, ?_, keepS _ _ _ _ ?_⟩
                  · show catV i Vs (fun _ => (.slice (cut6 A8 c8 P1) (gs8.length - P1) (c8 - P1))) i = _
                    unfold catV
                    rw [if_neg (Nat.lt_irrefl _)]
                    have h1 : (gsK F i).length = gs8.length - P1 := by rw [HGS.out, ← HGS8.out, List.length_drop, HPP.out.2]
                    rw [h1]
                  · have h1 : (gsK F i).length = gs8.length - P1 := by rw [HGS.out, ← HGS8.out, List.length_drop, HPP.out.2]
                    rw [h1, HGS.out, ← HGS8.out, HPP.out.2]
                    exact NEWd.out.drop hlw8
                · obtain ⟨A', c', e, hB⟩ := ELd.out i (by omega)
                  refine ⟨A', c', ?_, keepS _ _ _ _ hB⟩
                  show catV k Vs (fun _ => (.slice (cut6 A8 c8 P1) (gs8.length - P1) (c8 - P1))) i = _
                  unfold catV
                  rw [if_pos (by omega)]
                  exact e
              · exact BELd.out.trans (hF.bel BELd.out.size fun i _ e => by rcases e with e | e | e; omega; omega; have := hvo i e; omega)
              · have h1 := hF.size
                omega
            case measure => simp [intOf]; omega
      · have dF0 : ((F k).from_ != 0) = true := by simp; omega
        have dF1 : ((F k).from_ != 1) = true := by simp; omega
        have hgs : gsK F k = [] := by unfold gsK; rw [if_neg hx]
        have hstep : endF nilL (flK F (k + 1)) 0 = endF nilL (flK F k) 0 ∧ endF nilL (flK F (k + 1)) 1 = endF nilL (flK F k) 1 := by
          have h1 : endF nilL (flK F (k + 1)) = upS (endF nilL (flK F k)) (F k).from_ (endF nilL (flK F k) (F k).from_ ++ bM (F k)) := by
            rw [flK_succ, endF_app, end_chunk12]
          rw [h1, upS_ne _ _ (by omega), upS_ne _ _ (by omega)]
          exact ⟨rfl, rfl⟩
        have HGS := hide hgs
        have HST := hide hstep
        have hov : OwnV 1 61 (w.heap.size + 4) (wr.alloc (.cells #[.slice none 0 0] 61)) (.slice Ao k co) k Vs := HK.out.out.alloc _
        have HOV := hide hov
        have HEL1 : Hid (RdV 1 (wr.alloc (.cells #[.slice none 0 0] 61)) (some ⟨wr.heap.size, 0, none⟩) 1 1 (fun _ => .slice none 0 0)) := hide (by
          obtain ⟨A', c', e, hr, _⟩ := (OwnV.lit 1 61 0 wr (fun _ => .slice none 0 0) #[.slice none 0 0] 1 (Nat.zero_le _) (by simp [maxLen]) rfl).rd
          injection e with e1 e2 e3
          subst e1 e3
          exact hr)
        have hbs : w.heap.size + 4 ≤ (wr.alloc (.cells #[.slice none 0 0] 61)).heap.size := by have := HK.out.hq; simp; omega
        clear hx hgs hstep hov hrd hbyt hrw har
        go_wp2_with (at_builtin; refine wp_appV rfl _ _ _ rfl 1 iL _ 24 Try.underlying77 hiL zL0 zL1 zL2 rfl (by omega) (w.heap.size + 4) (.slice Ao k co) k Vs rfl HOV.out _ 1 1 _ rfl HEL1.out (fun _ _ => rfl) (by simp only [maxLen]; omega) (by omega) hbs ?_; intro v9 w9 h9 hg9 hb9; obtain ⟨A9, c9, rfl, _, _⟩ := h9.rd; have H9 := hide h9; have G9 := hide hg9; have B9 := hide hb9; clear h9 hg9 hb9)
        go_roundw
        case rel =>
          have hF : FrQ (fun i => (Value.slice Ao k co).ownBlock = some i) wr w9 :=
            (FrQ.ofBelow _ ((Below.refl wr.heap.size wr).alloc (Nat.le_refl _) (.cells #[.slice none 0 0] 61))).tr (FrQ.grown G9.out fun g e => e)
          have hvo : ∀ i, (Value.slice Ao k co).ownBlock = some i → w.heap.size + 4 ≤ i := fun i e => (World.ownsRow.lt HOV.out i e).1
          have hnew : ∀ j, j < wr.heap.size → (Value.slice Ao k co).ownBlock ≠ some j → (Value.slice A9 (k + 1) c9).ownBlock ≠ some j := fun j hj hne e => by
            rcases B9.out with h | h
            · exact hne (h ▸ e)
            · rw [h] at e
              have h8 : (wr.alloc (.cells #[.slice none 0 0] 61)).heap.size = j := Option.some.inj e
              have h7 : (wr.alloc (.cells #[.slice none 0 0] 61)).heap.size = wr.heap.size + 1 := by simp
              omega
          refine ⟨k + 1, catV k Vs (fun _ => .slice none 0 0), a0, a1, by omega, by go_num, ⟨hF.row HK.out.r3 (fun e => by have := hvo _ e; omega), hF.row HK.out.r5 (fun e => by have := hvo _ e; omega), ?_, ?_, ?_, ?_, ?_, ?_, ?_, ?_, ?_, ?_⟩⟩
          · rw [HST.out.1, HST.out.2]
            exact hF.row HK.out.r6 (fun e => by have := hvo _ e; omega)
          · rw [HST.out.1, HST.out.2]
            exact hF.row HK.out.r7 (fun e => by have := hvo _ e; omega)
          · rw [HST.out.1]
            exact HK.out.o0.frQ hF fun i hi e => own_ne_type HK.out.o0 HK.out.out (by decide) hi e
          · rw [HST.out.2]
            exact HK.out.o1.frQ hF fun i hi e => own_ne_type HK.out.o1 HK.out.out (by decide) hi e
          · rw [HST.out.1]; exact HK.out.b0
          · rw [HST.out.2]; exact HK.out.b1
          · exact (H9.out).congr fun i _ => by rw [Nat.mul_one]
          · intro i hi
            by_cases h : i = k
            · subst h
              refine ⟨none, 0, ?_, ?_⟩
              · show catV i Vs (fun _ => .slice none 0 0) i = _
                unfold catV
                rw [if_neg (Nat.lt_irrefl _), HGS.out]
                rfl
              · rw [HGS.out]
                exact RwsB.nil _ _
            · obtain ⟨A', c', e, hB⟩ := HK.out.el i (by omega)
              refine ⟨A', c', ?_, hB.frQ hF (fun j _ hj e => hj.2 e) fun j hlt hj => ⟨hj.1, hnew j hlt hj.2⟩⟩
              show catV k Vs (fun _ => .slice none 0 0) i = _
              unfold catV
              rw [if_pos (by omega)]
              exact e
          · exact HK.out.bel.trans (hF.bel HK.out.bel.size fun i _ e => by have := hvo i e; omega)
          · exact Nat.le_trans HK.out.hq hF.size
        case measure => simp [intOf]; omega
    · obtain rfl : k = n := by omega
      have R3 := HK.out.r3
      have R7 := HK.out.r7
      rw [← (by omega : p7 = w.heap.size + 3)] at R7
      have hEL := HK.out.el
      have hov := HK.out.out
      have hbel := HK.out.bel
      obtain ⟨x, hx⟩ : ∃ x : Int, (lftN 0 (endF nilL (flK F k) 0) : Nat) = x := ⟨_, rfl⟩
      obtain ⟨y, hy⟩ : ∃ y : Int, (lftN 1 (endF nilL (flK F k) 1) : Nat) = y := ⟨_, rfl⟩
      rw [hx, hy] at R7
      have HX := hide hx
      have HY := hide hy
      have HEL := hide hEL
      have HOV := hide hov
      have HBEL := hide hbel
      obtain ⟨d0, d1⟩ := row2 R7
      obtain ⟨c0, c1⟩ := row2 R3
      have f0 := frozenRow R3 0
      have S0 := setRow wr w.heap.size 0 (.int .i64 x) R3
      simp only [List.setIfInBounds_toArray, List.set_cons_zero, List.set_cons_succ] at S0
      obtain ⟨-, t1⟩ := row2 S0
      have f1 := frozenRow S0 1
      have S1 := setRow (wr.setCell ⟨w.heap.size, 0, none⟩ (.int .i64 x)) w.heap.size 1 (.int .i64 y) S0
      simp only [List.setIfInBounds_toArray, List.set_cons_zero, List.set_cons_succ] at S1
      obtain ⟨k0, k1⟩ := row2 S1
      have hq2 : FrQ (fun i => i = w.heap.size) wr ((wr.setCell ⟨w.heap.size, 0, none⟩ (.int .i64 x)).setCell ⟨w.heap.size, 1, none⟩ (.int .i64 y)) := (FrQ.set (S := fun i => i = w.heap.size) rfl 0 _).tr (FrQ.set (S := fun i => i = w.heap.size) rfl 1 _)
      have HQ2 := hide hq2
      clear HK hx hy hEL hov hbel S0 S1 hq2 R3 R7
      have HGO : Hid (RfP F k w (.returned (.tuple #[.slice Ao k co, .agg #[.int .i64 x, .int .i64 y]])) ((wr.setCell ⟨w.heap.size, 0, none⟩ (.int .i64 x)).setCell ⟨w.heap.size, 1, none⟩ (.int .i64 y))) := hide (by
        obtain ⟨A', c', e, hr, hb⟩ := HOV.out.rd
        injection e with e1 e2 e3
        subst e1 e3
        refine ⟨Ao, co, Vs, x, y, rfl, HX.out.symm, HY.out.symm, hr.frQ12 HQ2.out fun _ a ha e => ?_, fun _ a ha => ?_, fun i hi => ?_, HBEL.out.trans (HQ2.out.bel HBEL.out.size fun i _ e => Nat.le_of_eq e.symm)⟩
        · have := (hb a ha).1; have e' : a.block = w.heap.size := e; omega
        · have := (hb a ha).1; omega
        · obtain ⟨A2, c2, e, hB⟩ := HEL.out i hi
          exact ⟨A2, c2, e, hB.frQ HQ2.out (fun j _ hj e => by have e' : j = w.heap.size := e; have := hj.1; omega) fun j _ hj => by have := hj.1; omega⟩)
      clear HX HY HEL HOV HBEL HQ2
      go_wp2_with fail
      go_region
      all_goals
        go_wp2_with fail
        refine bodyPost_ret (v := .tuple #[.slice Ao k co, .agg #[.int .i64 x, .int .i64 y]]) ?_ rfl (by first | exact HGO.out | exact HGO.out.drew)
        rw [results_tmp_cell12 rfl]
        go_simp
end Go.Proofs.Ytpnjamomkpkkeaa
