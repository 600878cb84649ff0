/- Layer 12: Feed, New and Left. -/
import Derived.Test.YtpnjamomkpkkeaaCt5
import Derived.Test.YtpnjamomkpkkeaaCt6
import Derived.StillTailTactics
namespace Go.Proofs.Ytpnjamomkpkkeaa
set_option linter.unusedVariables false
set_option linter.unusedSimpArgs false
open Go.RowKit

theorem OwnV.low12 {s : Nat} {e : TypeId} {B B' : Nat} {w : World} {v : Value} {n : Nat} {f : Nat → Value} (hB : B' ≤ B) (h : OwnV s e B w v n f) : OwnV s e B' w v n f := by
  refine ⟨h.1, ?_⟩
  rcases h.2 with h2 | ⟨g, cap, cur, hv, hg, r⟩
  · exact .inl h2
  · exact .inr ⟨g, cap, cur, hv, Nat.le_trans hB hg, r⟩
theorem Own.low12 {k : IntKind} {e : TypeId} {B B' : Nat} {w : World} {v : Value} {n : Nat} {f : Nat → Int} (hB : B' ≤ B) (h : Own k e B w v n f) : Own k e B' w v n f := by
  refine ⟨h.1, ?_⟩
  rcases h.2 with h2 | ⟨g, cap, cur, hv, hg, r⟩
  · exact .inl h2
  · exact .inr ⟨g, cap, cur, hv, Nat.le_trans hB hg, r⟩
def ctW (s0 : Pt) (v0 : Value) (s1 : Pt) (v1 : Value) : Obj := ctR0 (.int .i64 s1.k) (.int .i64 (gL (lyF s1.h))) (.int .i64 (lyF s1.h 3)) (.int .i64 (lyF s1.h 4)) (.int .i64 (lowN (gX (lyF s1.h)))) (.bool (lowB (gX (lyF s1.h)))) v1 s0 v0
theorem ctW_1 (s0 : Pt) (v0 : Value) (s1 : Pt) (v1 : Value) : ctW s0 v0 s1 v1 = ctR1 (.int .i64 s0.k) (.int .i64 (gL (lyF s0.h))) (.int .i64 (lyF s0.h 3)) (.int .i64 (lyF s0.h 4)) (.int .i64 (lowN (gX (lyF s0.h)))) (.bool (lowB (gX (lyF s0.h)))) v0 s1 v1 := rfl
/-- A cutter of the heap: what was fed to each side. -/
structure CtOk (p B : Nat) (w : World) (L : Int → List Int) (s : Int → Pt) (v : Int → Value) : Prop where
  row : w.heap[p]? = some (ctW (s 0) (v 0) (s 1) (v 1))
  o0 : Own .u8 5 B w (v 0) (s 0).g.length (lyF (s 0).g)
  o1 : Own .u8 5 B w (v 1) (s 1).g.length (lyF (s 1).g)
  ap : ∀ b, (v 0).ownBlock = some b → (v 1).ownBlock ≠ some b
  h0 : Hw 0 (L 0) (frs 0 (L 0)) (s 0)
  l0 : ((s 0).g.length : Int) < (s 0).want 0
  h1 : Hw 1 (L 1) (frs 1 (L 1)) (s 1)
  l1 : ((s 1).g.length : Int) < (s 1).want 1
  hB : B ≤ w.heap.size
  hp : B ≤ p
theorem CtOk.nep0 {p B : Nat} {w : World} {L : Int → List Int} {s : Int → Pt} {v : Int → Value} (h : CtOk p B w L s v) : (v 0).ownBlock ≠ some p := own_ne_row12 h.o0 h.row (by decide)
theorem CtOk.nep1 {p B : Nat} {w : World} {L : Int → List Int} {s : Int → Pt} {v : Int → Value} (h : CtOk p B w L s v) : (v 1).ownBlock ≠ some p := own_ne_row12 h.o1 h.row (by decide)
theorem CtOk.lt {p B : Nat} {w : World} {L : Int → List Int} {s : Int → Pt} {v : Int → Value} (h : CtOk p B w L s v) : p < w.heap.size := rowLt h.row
theorem CtOk.below {p B : Nat} {w w' : World} {L : Int → List Int} {s : Int → Pt} {v : Int → Value} (h : CtOk p B w L s v) (hb : Below w.heap.size w w') : CtOk p B w' L s v :=
  ⟨keepRow h.row hb, h.o0.below hb, h.o1.below hb, h.ap, h.h0, h.l0, h.h1, h.l1, Nat.le_trans h.hB hb.size, h.hp⟩
/-- The blocks that a cutter may write. -/
def ctS (p : Nat) (v : Int → Value) : Nat → Prop := fun i => i = p ∨ (v 0).ownBlock = some i ∨ (v 1).ownBlock = some i
theorem CtOk.frQ {p B : Nat} {S : Nat → Prop} {w w' : World} {L : Int → List Int} {s : Int → Pt} {v : Int → Value} (h : CtOk p B w L s v) (hf : FrQ S w w') (hS : ∀ i, i < w.heap.size → ctS p v i → ¬ S i) : CtOk p B w' L s v :=
  ⟨hf.row h.row (hS p h.lt (.inl rfl)), h.o0.frQ hf fun i hi => hS i (World.ownsRow.lt h.o0 i hi).2 (.inr (.inl hi)), h.o1.frQ hf fun i hi => hS i (World.ownsRow.lt h.o1 i hi).2 (.inr (.inr hi)), h.ap, h.h0, h.l0, h.h1, h.l1, Nat.le_trans h.hB hf.size, h.hp⟩
theorem CtOk.at0 {p B : Nat} {w : World} {L : Int → List Int} {s : Int → Pt} {v : Int → Value} (h : CtOk p B w L s v) {i : Nat} (hi : ctS p v i) : B ≤ i ∧ i < w.heap.size := by
  rcases hi with rfl | hi | hi
  · exact ⟨h.hp, h.lt⟩
  · exact World.ownsRow.lt h.o0 i hi
  · exact World.ownsRow.lt h.o1 i hi
/-- The frames that a feeding hands over. -/
structure RwsO (S : Nat → Prop) (N : Nat) (w : World) (ve : Value) (gs : List Rl) (F : Nat → Rw) : Prop where
  own : OwnV 6 29 N w ve gs.length (rwV F)
  bod : ∀ i x, gs[i]? = some x → RwIs w (F i) x ∧ (0 < (F i).n → ∀ a, (F i).A = some a → S a.block ∧ ve.ownBlock ≠ some a.block ∧ a.block < w.heap.size)
def FeedQ (sd : Int) (p B : Nat) (L : Int → List Int) (M : List Int) (s : Int → Pt) (v : Int → Value) (w : World) (e : Ending) (w' : World) : Prop :=
  ∃ (t : Pt) (u ve : Value) (F : Nat → Rw), e = .returned (.tuple #[ve, .int .i64 0]) ∧ CtOk p B w' (upS L sd (L sd ++ M)) (upS s sd t) (upS v sd u) ∧ FrQ (fun i => i = p ∨ (v sd).ownBlock = some i) w w' ∧ (∀ i, u.ownBlock = some i → (v sd).ownBlock = some i ∨ w.heap.size ≤ i) ∧ RwsO (fun i => ((v sd).ownBlock = some i ∨ w.heap.size ≤ i) ∧ ¬ ctS p (upS v sd u) i) w.heap.size w' ve ((frs sd (L sd ++ M)).drop (frs sd (L sd)).length) F
theorem isSide12 (x : Int) (w : World) (h : x = 0 ∨ x = 1) : Calls Try.prog 73 #[.int .i64 x] w fun e w' => e = .returned (.bool true) ∧ w = w' := by
  rcases h with rfl | rfl <;>
  · go_enter Try.func73, Try.ntmps73
    go_wp2_with fail
    go_ret
    exact ⟨rfl, rfl⟩
theorem isSideNo12 (x : Int) (w : World) (h : ¬ (x = 0 ∨ x = 1)) : Calls Try.prog 73 #[.int .i64 x] w fun e w' => e = .returned (.bool false) ∧ w = w' := by
  have h0 : (x == 0) = false := by simp; omega
  have h1 : (x == 1) = false := by simp; omega
  clear h
  go_enter Try.func73, Try.ntmps73
  go_wp2_with fail
  go_ret
  exact ⟨rfl, rfl⟩
theorem feedNo12 (x : Int) (A : Option Addr) (n c p : Nat) (w : World) (h : ¬ (x = 0 ∨ x = 1)) : Calls Try.prog 26 #[.pointer (some ⟨p, 0, none⟩), .agg #[.int .i64 x, .slice A n c]] w fun e w' => e = .returned (.tuple #[.slice none 0 0, .int .i64 1]) ∧ Below w.heap.size w w' := by
  have al := (Below.refl w.heap.size w).alloc (Nat.le_refl _) (.cells #[.int .i64 x, .slice A n c] 52)
  have R0 := heap_alloc_new w (.cells #[.int .i64 x, .slice A n c] 52)
  obtain ⟨r0, r1⟩ := row2 R0
  have AL := hide al
  clear al
  go_enter Try.func26, Try.ntmps26
  go_wp2_with fail
  refine (isSideNo12 x _ h).mono ?_
  rintro e w' ⟨rfl, rfl⟩
  go_wp2_with fail
  go_ret2
  exact ⟨rfl, AL.out⟩
theorem feedNil12 (x : Int) (A : Option Addr) (n c : Nat) (w : World) : Calls Try.prog 26 #[.pointer none, .agg #[.int .i64 x, .slice A n c]] w fun e w' => e = .returned (.tuple #[.slice none 0 0, .int .i64 2]) ∧ Below w.heap.size w w' := by
  have al := (Below.refl w.heap.size w).alloc (Nat.le_refl _) (.cells #[.int .i64 x, .slice A n c] 52)
  have AL := hide al
  clear al
  go_enter Try.func26, Try.ntmps26
  go_wp2_with fail
  go_ret2
  exact ⟨rfl, AL.out⟩
theorem leftNil12 (x : Int) (w : World) : Calls Try.prog 28 #[.pointer none, .int .i64 x] w fun e w' => e = .returned (.int .i64 0) ∧ w = w' := by
  go_enter Try.func28, Try.ntmps28
  go_wp2_with fail
  go_ret
  exact ⟨rfl, rfl⟩
theorem leftNo12 (x : Int) (p : Nat) (w : World) (h : ¬ (x = 0 ∨ x = 1)) : Calls Try.prog 28 #[.pointer (some ⟨p, 0, none⟩), .int .i64 x] w fun e w' => e = .returned (.int .i64 0) ∧ w = w' := by
  go_enter Try.func28, Try.ntmps28
  go_wp2_with fail
  refine (isSideNo12 x _ h).mono ?_
  rintro e w' ⟨rfl, rfl⟩
  go_wp2_with fail
  go_ret
  exact ⟨rfl, rfl⟩
set_option maxRecDepth 20000 in
set_option maxHeartbeats 1600000 in
theorem feedF0 {p B : Nat} {w : World} {L : Int → List Int} {s : Int → Pt} {v : Int → Value} (h : CtOk p B w L s v) (M : List Int) (A : Option Addr) (c : Nat) (hM : ByL M) (hr : Rd .u8 w A M.length c (lyF M)) (hap : 0 < M.length → ∀ a, A = some a → (v 0).ownBlock ≠ some a.block ∧ a.block ≠ p) (hsz : (L 0).length + M.length ≤ 10000000) :
    Calls Try.prog 26 #[.pointer (some ⟨p, 0, none⟩), .agg #[.int .i64 0, .slice A M.length c]] w (FeedQ 0 p B L M s v w) := by
  have al := (Below.refl w.heap.size w).alloc (Nat.le_refl _) (.cells #[.int .i64 0, .slice A M.length c] 52)
  have R0 := heap_alloc_new w (.cells #[.int .i64 0, .slice A M.length c] 52)
  obtain ⟨r0, r1⟩ := row2 R0
  have AL := hide al
  have H := hide (h.below al)
  have HO := hide h
  have HR := hide (hr.below al)
  have HM := hide hM
  have HAP := hide hap
  have HSZ := hide hsz
  clear al R0 h hr hM hap hsz
  go_enter Try.func26, Try.ntmps26
  go_wp2_with fail
  generalize w.alloc (.cells #[.int .i64 0, .slice A M.length c] 52) = W0 at *
  refine (isSide12 0 _ (by simp)).mono ?_
  rintro e w' ⟨rfl, rfl⟩
  go_wp2_with fail
  go_still_tail 10, (by kernel_rfl)
  change wpList _ _ _ _ _ W0.drew
  go_wp2_with fail
  have hd : Below W0.heap.size W0 W0.drew := ⟨rfl, rfl, rfl, Nat.le_refl _, fun _ _ => rfl⟩
  have H1 := H.out.below hd
  refine (feed0 p B (L 0) M (frs 0 (L 0)) (s 0) (v 0) A c _ _ _ _ _ _ _ W0.drew H1.row H1.o0 H1.h0 H1.hB HM.out (HR.out.below hd) HAP.out HSZ.out).mono ?_
  rintro e W ⟨gs, t, u, ve, F, A2, c2, rfl, hJ, hW, hl⟩
  have hfr := frs_eq hW hl
  have HGO : Hid (FeedQ 0 p B L M s v w (.returned (.tuple #[ve, .int .i64 0])) W) := by
    refine ⟨t, u, ve, F, rfl, ?_, ?_, ?_, ?_⟩
    · refine ⟨?_, ?_, ?_, ?_, ?_, ?_, ?_, ?_, Nat.le_trans H1.hB hJ.fr.size, H.out.hp⟩
      · exact hJ.row
      · exact hJ.own
      · exact H1.o1.frQ hJ.fr fun i hi e => e.elim (fun e => H1.nep1 (e ▸ hi)) fun e => H1.ap i e hi
      · intro b hb
        exact fun e => by rcases hJ.blk b hb with h2 | h2; exact HO.out.ap b h2 e; have h3 := (World.ownsRow.lt HO.out.o1 b e).2; have h9 : w.heap.size ≤ W0.heap.size := AL.out.size; have h4 : W0.heap.size ≤ b := h2; omega
      · have h5 := hW
        rw [← hfr] at h5
        exact h5
      · exact hl
      · exact H1.h1
      · exact H1.l1
    · exact (FrQ.ofBelow _ AL.out).trans ((FrQ.ofBelow _ hd).tr (hJ.fr.wide fun _ _ e => e)) (fun _ _ e => e) fun _ _ e => e
    · intro i hi
      rcases hJ.blk i hi with h1 | h1
      · exact .inl h1
      · exact .inr (Nat.le_trans AL.out.size h1)
    · rw [hfr, List.drop_left]
      refine ⟨OwnV.low12 (Nat.le_trans AL.out.size (Nat.le_refl _)) hJ.ov, fun i x hx => ?_⟩
      obtain ⟨k1, k2⟩ := hJ.bod i x hx
      refine ⟨k1, fun hn a ha => ?_⟩
      obtain ⟨b0, b1, b2, b3, b4⟩ := k2 hn a ha
      refine ⟨⟨b0.imp id (fun e => Nat.le_trans AL.out.size e), ?_⟩, b3, b4⟩
      have hOT : (v 1).ownBlock ≠ some a.block := fun e => by
        have hlt := (World.ownsRow.lt HO.out.o1 _ e).2
        rcases b0 with b0 | b0
        · exact HO.out.ap _ b0 e
        · have : W0.drew.heap.size ≤ a.block := b0
          have h9 : w.heap.size ≤ W0.heap.size := AL.out.size
          have h10 : W0.drew.heap.size = W0.heap.size := rfl
          omega
      rintro (e | e | e)
      · exact b1 e
      · exact b2 e
      · exact hOT e
  go_wp2_with fail
  go_ret2
  exact HGO.out
set_option maxRecDepth 20000 in
set_option maxHeartbeats 1600000 in
theorem feedF1 {p B : Nat} {w : World} {L : Int → List Int} {s : Int → Pt} {v : Int → Value} (h : CtOk p B w L s v) (M : List Int) (A : Option Addr) (c : Nat) (hM : ByL M) (hr : Rd .u8 w A M.length c (lyF M)) (hap : 0 < M.length → ∀ a, A = some a → (v 1).ownBlock ≠ some a.block ∧ a.block ≠ p) (hsz : (L 1).length + M.length ≤ 10000000) :
    Calls Try.prog 26 #[.pointer (some ⟨p, 0, none⟩), .agg #[.int .i64 1, .slice A M.length c]] w (FeedQ 1 p B L M s v w) := by
  have al := (Below.refl w.heap.size w).alloc (Nat.le_refl _) (.cells #[.int .i64 1, .slice A M.length c] 52)
  have R0 := heap_alloc_new w (.cells #[.int .i64 1, .slice A M.length c] 52)
  obtain ⟨r0, r1⟩ := row2 R0
  have AL := hide al
  have H := hide (h.below al)
  have HO := hide h
  have HR := hide (hr.below al)
  have HM := hide hM
  have HAP := hide hap
  have HSZ := hide hsz
  clear al R0 h hr hM hap hsz
  go_enter Try.func26, Try.ntmps26
  go_wp2_with fail
  generalize w.alloc (.cells #[.int .i64 1, .slice A M.length c] 52) = W0 at *
  refine (isSide12 1 _ (by simp)).mono ?_
  rintro e w' ⟨rfl, rfl⟩
  go_wp2_with fail
  go_still_tail 10, (by kernel_rfl)
  change wpList _ _ _ _ _ W0.drew
  go_wp2_with fail
  have hd : Below W0.heap.size W0 W0.drew := ⟨rfl, rfl, rfl, Nat.le_refl _, fun _ _ => rfl⟩
  have H1 := H.out.below hd
  refine (feed1 p B (L 1) M (frs 1 (L 1)) (s 1) (v 1) A c _ _ _ _ _ _ _ W0.drew H1.row H1.o1 H1.h1 H1.hB HM.out (HR.out.below hd) HAP.out HSZ.out).mono ?_
  rintro e W ⟨gs, t, u, ve, F, A2, c2, rfl, hJ, hW, hl⟩
  have hfr := frs_eq hW hl
  have HGO : Hid (FeedQ 1 p B L M s v w (.returned (.tuple #[ve, .int .i64 0])) W) := by
    refine ⟨t, u, ve, F, rfl, ?_, ?_, ?_, ?_⟩
    · refine ⟨?_, ?_, ?_, ?_, ?_, ?_, ?_, ?_, Nat.le_trans H1.hB hJ.fr.size, H.out.hp⟩
      · exact hJ.row
      · exact H1.o0.frQ hJ.fr fun i hi e => e.elim (fun e => H1.nep0 (e ▸ hi)) fun e => H1.ap i hi e
      · exact hJ.own
      · intro b hb
        exact fun e => by rcases hJ.blk b e with h2 | h2; exact HO.out.ap b hb h2; have h3 := (World.ownsRow.lt HO.out.o0 b hb).2; have h9 : w.heap.size ≤ W0.heap.size := AL.out.size; have h4 : W0.heap.size ≤ b := h2; omega
      · exact H1.h0
      · exact H1.l0
      · have h5 := hW
        rw [← hfr] at h5
        exact h5
      · exact hl
    · exact (FrQ.ofBelow _ AL.out).trans ((FrQ.ofBelow _ hd).tr (hJ.fr.wide fun _ _ e => e)) (fun _ _ e => e) fun _ _ e => e
    · intro i hi
      rcases hJ.blk i hi with h1 | h1
      · exact .inl h1
      · exact .inr (Nat.le_trans AL.out.size h1)
    · rw [hfr, List.drop_left]
      refine ⟨OwnV.low12 (Nat.le_trans AL.out.size (Nat.le_refl _)) hJ.ov, fun i x hx => ?_⟩
      obtain ⟨k1, k2⟩ := hJ.bod i x hx
      refine ⟨k1, fun hn a ha => ?_⟩
      obtain ⟨b0, b1, b2, b3, b4⟩ := k2 hn a ha
      refine ⟨⟨b0.imp id (fun e => Nat.le_trans AL.out.size e), ?_⟩, b3, b4⟩
      have hOT : (v 0).ownBlock ≠ some a.block := fun e => by
        have hlt := (World.ownsRow.lt HO.out.o0 _ e).2
        rcases b0 with b0 | b0
        · exact HO.out.ap _ e b0
        · have : W0.drew.heap.size ≤ a.block := b0
          have h9 : w.heap.size ≤ W0.heap.size := AL.out.size
          have h10 : W0.drew.heap.size = W0.heap.size := rfl
          omega
      rintro (e | e | e)
      · exact b1 e
      · exact hOT e
      · exact b2 e
  go_wp2_with fail
  go_ret2
  exact HGO.out
end Go.Proofs.Ytpnjamomkpkkeaa
