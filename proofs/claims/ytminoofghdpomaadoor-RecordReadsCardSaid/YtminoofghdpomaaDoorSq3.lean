/- strings.SplitSeq at one byte: its iterator. -/
import Derived.Test.YtminoofghdpomaaDoorSq2
import Derived.Test.YtminoofghdpomaaDoorShlf
import Derived.Test.YtminoofghdpomaaDoorVal
import Derived.Shelf.Abstract
import Derived.Shelf.RegionOpen
import Derived.WalkKit
import Derived.OwnWalkIn
import Derived.TacticsInMore
import Derived.LoopNIn
import Derived.LoopIn
namespace Go.Proofs.YtminoofghdpomaaDoor
set_option linter.unusedVariables false
set_option linter.unusedSimpArgs false
open Go Go.RowKit Go.Shelf
attribute [local go_sem] Oper.semAt_some

/-- how long what is left is -/
def leftSq (b : Nat) (w : World) : Nat := match w.cell? ⟨b, 0, none⟩ with | some (.string r) => r.size | _ => 0
def SqI (c : UInt8) (s : ByteArray) (b : Nat) (J : List ByteArray → World → Prop) (wr : World) : Prop :=
  ∃ pre rest, pcB c s = pre ++ pcB c rest ∧ rest.size ≤ s.size ∧ wr.cell? ⟨b, 0, none⟩ = some (.string rest) ∧ wr.frozen? ⟨b, 0, none⟩ = false ∧ wr.cell? ⟨b + 1, 0, none⟩ = some (.string ⟨#[c]⟩) ∧ wr.cell? ⟨b + 2, 0, none⟩ = some (.int .i64 0) ∧ J pre wr
theorem KMid.cell {lo hi : Nat} {A B : World} (h : KMid lo hi A B) {k : Nat} (h1 : lo ≤ k) (h2 : k < hi) {v : Value} (hc : A.cell? ⟨k, 0, none⟩ = some v) : B.cell? ⟨k, 0, none⟩ = some v :=
  (World.cell?_of_block (h.same k h1 h2)).trans hc
theorem KMid.froz {lo hi : Nat} {A B : World} (h : KMid lo hi A B) {k : Nat} (h1 : lo ≤ k) (h2 : k < hi) {v : Bool} (hc : A.frozen? ⟨k, 0, none⟩ = v) : B.frozen? ⟨k, 0, none⟩ = v :=
  (World.frozen?_of_block (h.same k h1 h2)).trans hc
set_option maxRecDepth 100000 in
set_option maxHeartbeats 2000000 in
theorem splitseq_itr (c : UInt8) (s : ByteArray) (hs : s.size ≤ 4611686018427387904) (b n : Nat) (w : World) (hn : 1 ≤ n) (h1 : w.cell? ⟨b, 0, none⟩ = some (.string s)) (h2 : w.frozen? ⟨b, 0, none⟩ = false) (h3 : w.cell? ⟨b + 1, 0, none⟩ = some (.string ⟨#[c]⟩)) (h4 : w.cell? ⟨b + 2, 0, none⟩ = some (.int .i64 0)) :
    Itr Tryd.prog n 59 #[.pointer (some ⟨b + 1, 0, none⟩), .pointer (some ⟨b, 0, none⟩), .pointer (some ⟨b + 2, 0, none⟩)] b (b + 3) b Value.string (pcB c s) w := by
  intro l J Jx X hX hJ hJx hY h0
  have a1 := hX.cell (Nat.le_refl _) (by omega) h1
  have a2 := hX.froz (Nat.le_refl _) (by omega) h2
  have a3 := hX.cell (k := b + 1) (by omega) (by omega) h3
  have a4 := hX.cell (k := b + 2) (by omega) (by omega) h4
  clear h1 h2 h3 h4 hX
  have HY : Hid (∀ pre x A, J pre A → pre ++ [x] <+: pcB c s → YieldAt Fence.wide (n - 1) Tryd.prog l #[Value.string x] A fun e B => (e = .returned (.bool true) ∧ J (pre ++ [x]) B ∧ KMid b (b + 3) A B) ∨ (e = .returned (.bool false) ∧ Jx (pre ++ [x]) B)) := hY
  have HJ : Hid (∀ s A B, J s A → A.grownBy B (some b) → J s B) := hJ
  clear hY hJ
  have hsep : decide ((1 : Int) = 0) = false := rfl
  refine callsIn_of_wp (F := Fence.wide) Tryd.func59 rfl trivial ?_ rfl
  simp only [Tryd.ntmps59, List.size_toArray, List.length_cons, List.length_nil, Nat.reduceAdd, Nat.reduceSub, Array.replicate_succ, Array.replicate_zero, List.push_toArray, List.append_toArray, List.nil_append, List.cons_append]
  gi_wp2
  gi_loopw [7, 8] (fun _ _ wr => SqI c s b J wr) (fun _ _ wr => leftSq b wr)
  case atStart => exact ⟨[], s, rfl, Nat.le_refl _, a1, a2, a3, a4, h0⟩
  case round =>
    clear a1 a2 a3 a4 h0
    obtain ⟨pre, rest, hx, hle, b1, b2, b3, b4, hj⟩ := hrel
    have HJp := hide hj
    have hcell : Hid (wr.cell? ⟨b, 0, none⟩ = some (.string rest)) := b1
    by_cases hi : Lib.indexByte rest.data.toList c = -1
    · have HI : Hid (∀ W, Calls Tryd.prog 61 #[.string rest, .string ⟨#[c]⟩] W fun e w' => e = .returned (.int .i64 (-1)) ∧ w' = W) := fun W => by
        have := Tryd.strings_Index_one rest c W
        rw [hi] at this
        exact this
      have hx2 := hide hx
      rw [pcB_miss hi] at hx2
      clear hi hx
      obtain ⟨fn, tmps, assign, body, hy, hR⟩ := HY.out pre rest wr hj ⟨[], by rw [hx2.out]; simp⟩
      have HR := hide hR
      clear hR hj
      gi_wp2_with fail
      refine ⟨trivial, (callsIn_wide.2 (HI.out _)).mono ?_⟩
      rintro e w' ⟨rfl, rfl⟩
      gi_wp2_with fail
      refine HR.out.mono ?_
      rintro e W3 (⟨rfl, hJ3, hk3⟩ | ⟨rfl, hJx3⟩)
      · have HJ3 := hide hJ3
        clear hJ3 hk3
        gi_wp2
        go_end0
        exact ⟨⟨_, rfl⟩, .inl (by rw [hx2.out]; exact HJ3.out)⟩
      · have HJ3 := hide hJx3
        clear hJx3
        gi_wp2
        go_end0
        exact ⟨⟨_, rfl⟩, .inr ⟨pre ++ [rest], by rw [hx2.out]; exact List.prefix_refl _, HJ3.out⟩⟩
    · obtain ⟨i, hi2⟩ : ∃ i : Nat, Lib.indexByte rest.data.toList c = (i : Int) := ⟨(Lib.indexByte rest.data.toList c).toNat, by have := Lib.indexByte_ge rest.data.toList c; omega⟩
      have HI : Hid (∀ W, Calls Tryd.prog 61 #[.string rest, .string ⟨#[c]⟩] W fun e w' => e = .returned (.int .i64 (i : Int)) ∧ w' = W) := fun W => by
        have := Tryd.strings_Index_one rest c W
        rw [hi2] at this
        exact this
      obtain ⟨hlt, hp2⟩ := pcB_hit hi2
      have hx2 := hide hx
      rw [hp2] at hx2
      clear hi hi2 hx hp2
      obtain ⟨fn, tmps, assign, body, hy, hR⟩ := HY.out pre (rest.extract 0 i) wr hj ⟨pcB c (rest.extract (i + 1) rest.size), by rw [hx2.out]; simp⟩
      have HR := hide hR
      clear hR hj
      have d1 : decide ((i : Int) < 0) = false := decide_eq_false (by omega)
      gi_wp2_with fail
      refine ⟨trivial, (callsIn_wide.2 (HI.out _)).mono ?_⟩
      rintro e w' ⟨rfl, rfl⟩
      gi_wp2_with fail
      refine HR.out.mono ?_
      rintro e W3 (⟨rfl, hJ3, hk3⟩ | ⟨rfl, hJx3⟩)
      · have HJ3 := hide hJ3
        have c1 := hk3.cell (Nat.le_refl _) (by omega) hcell.out
        have c2 := hk3.froz (Nat.le_refl _) (by omega) b2
        have c3 := hk3.cell (k := b + 1) (by omega) (by omega) b3
        have c4 := hk3.cell (k := b + 2) (by omega) (by omega) b4
        clear hJ3 hk3 b1 b2 b3 b4
        gi_wp2
        obtain ⟨r2, hr2⟩ : ∃ r2, rest.extract (i + 1) rest.size = r2 := ⟨_, rfl⟩
        have hz : r2.size = rest.size - (i + 1) := by rw [← hr2, ByteArray.size_extract]; omega
        have hs1 : (W3.setCell ⟨b, 0, none⟩ (.string r2)).cell? ⟨b, 0, none⟩ = some (.string r2) := World.cell?_setCell_same' _ _ _ (by rw [c1]; rfl)
        rw [hr2] at hx2 ⊢
        refine ⟨⟨pre ++ [rest.extract 0 i], r2, by rw [hx2.out]; simp, by omega, hs1, by rw [World.frozen?_setCell]; exact c2,
          (World.cell?_of_block (Below.heap_setCell W3 ⟨b, 0, none⟩ _ (b + 1) (by show b + 1 ≠ b; omega))).trans c3,
          (World.cell?_of_block (Below.heap_setCell W3 ⟨b, 0, none⟩ _ (b + 2) (by show b + 2 ≠ b; omega))).trans c4,
          HJ.out _ _ _ HJ3.out (grownBy_setCell' W3 b _)⟩, ?_⟩
        unfold leftSq
        rw [hs1, hcell.out]
        show r2.size < rest.size
        omega
      · have HJ3 := hide hJx3
        clear hJx3
        gi_wp2
        refine bodyPost_ret (results_none rfl _ _ _) rfl ?_
        exact ⟨⟨_, rfl⟩, .inr ⟨pre ++ [rest.extract 0 i], ⟨pcB c (rest.extract (i + 1) rest.size), by rw [hx2.out]; simp⟩, HJ3.out⟩⟩
end Go.Proofs.YtminoofghdpomaaDoor
