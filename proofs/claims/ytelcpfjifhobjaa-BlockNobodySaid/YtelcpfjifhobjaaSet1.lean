/- Layer 13: the contracts of 'setting.Parse', of its reference, and of the reference's comparing. -/
import Derived.Test.YtelcpfjifhobjaaMA
import Derived.Test.YtelcpfjifhobjaaVal
namespace Go.Proofs.Ytelcpfjifhobjaa
set_option linter.unusedVariables false
set_option linter.unusedSimpArgs false
open Go.RowKit

section
variable {P : Program} {e : TypeId} {w : World} {ops : Array Oper} {rest : List Oper} {o : Oper} {a : Act} {Q : Exit → Act → World → Prop}
/-- make([]T, n). -/
theorem wp_mkV (hgd : o.guard = none) (l c : Operand) (t : TypeId) (hop : o.op = Op.makeSlice t l c) (s : Nat)
    (i : TypeInfo) (z : Value) (bytes : Nat) (ht : P.underlying t = some (.slice e)) (hi : P.info? e = some i) (hz : i.zero = some z) (hsize : i.size = s) (hby : i.bytes = bytes) (F : Nat → Value)
    (B : Nat) (kl kc : IntKind) (L C : Int) (n : Nat) (hl : a.eval l = .int kl L) (hc : a.eval c = .int kc C) (hL : L = (n : Int)) (hC : C = (n : Int)) (hrow : (madeCells z.cells (n * s)).toList = rowV (n * s) F) (b2 : bytes * n ≤ 281474976710656) (b3 : n ≤ maxLen) (b4 : B ≤ w.heap.size)
    (hK : ∀ w', OwnV s e B w' (.slice (some ⟨w.heap.size, 0, none⟩) n n) n F → w.grownBy w' none → w'.heap.size = w.heap.size + 1 → wpList P ops Q rest (a.put o.dst (.slice (some ⟨w.heap.size, 0, none⟩) n n)) w') :
    wpList P ops Q (o :: rest) a w := by
  refine wpList_plain hgd fun K hK' => ?_
  subst hL
  subst hC
  have hb : (i.bytes : Int) * (n : Int) ≤ 281474976710656 := by
    rw [hby]
    have h : ((bytes * n : Nat) : Int) ≤ 281474976710656 := by omega
    rwa [Int.natCast_mul] at h
  have hr := run_make (P := P) w t e i z ht hi hz kl kc n n (by omega) (by omega) hb (by simp only [maxLen] at b3; omega)
  simp only [Int.toNat_natCast] at hr
  rw [hsize] at hr
  have h1 := OwnV.lit s e B w F (madeCells z.cells (n * s)) n b4 b3 hrow
  unfold Oper.wp
  simp [execOp, hop, hl, hc, hr, Result.andThen]
  exact hK' _ _ (hK _ h1 (World.grownBy_alloc w _ none) (by simp))
end
theorem made2 (n : Nat) : (madeCells (Value.agg #[.int .i64 0, .int .i64 0]).cells (n * 2)).toList = rowV (n * 2) (pr (oneF 0) (oneF 0)) := by
  simp only [madeCells, rowV, Array.toList_map, Array.toList_range, Value.cells]
  refine List.map_congr_left fun i _ => ?_
  rcases Nat.mod_two_eq_zero_or_one i with h | h <;> simp [h, pr, oneF]

theorem set_info : (Try.prog.info? 170).map (fun i => (i.zero, i.size, i.bytes)) = some (some (.agg #[.int .i64 0, .int .i64 0]), 2, 16) := by kernel_rfl
/-- The settings that bytes are. -/
def sF (f : Nat → Int) (i : Nat) : Int := num (fun j => f (i * 6 + j)) 2
def sG (f : Nat → Int) (i : Nat) : Int := num (fun j => f (i * 6 + 2 + j)) 4
/-- Those of the first k. -/
def upF (k : Nat) (F : Nat → Int) (i : Nat) : Int := if i < k then F i else 0
theorem upF_succ (k : Nat) (F : Nat → Int) : setF (upF k F) k (F k) = upF (k + 1) F := by
  funext i
  unfold setF upF
  by_cases h : i = k
  · subst h
    simp
  · by_cases h2 : i < k
    · have : i < k + 1 := by omega
      simp [h, h2, this]
    · have : ¬ i < k + 1 := by omega
      simp [h, h2, this]
/-- What a parse hands back. -/
def Sets (w : World) (m : Nat) (F G : Nat → Int) (v2 : Value) (e : Ending) (w' : World) : Prop :=
  ∃ A c, e = .returned (.tuple #[.slice A m c, v2]) ∧ Rd2 w' A m c F G ∧ Below w.heap.size w w'

theorem sparse_bad (A : Option Addr) (n c : Nat) (w : World) (hn : n ≤ 100000) (h : n % 6 ≠ 0) : Calls Try.prog 121 #[.slice A n c] w fun e w' => e = .returned (.tuple #[.slice none 0 0, .int .i64 4]) ∧ w = w' := by
  have hd : ((n : Int) % 6 != 0) = true := by simp; omega
  go_enter Try.func121, Try.ntmps121
  go_wp2
  go_ret2
  exact ⟨rfl, rfl⟩

set_option maxHeartbeats 3200000 in
theorem sparse_ok (A : Option Addr) (n c m : Nat) (f : Nat → Int) (w : World) (ha : Rd .u8 w A n c f) (hb : Byt n f) (hn : n ≤ 100000) (hm : n = m * 6) :
    Calls Try.prog 121 #[.slice A n c] w (Sets w m (sF f) (sG f) (.int .i64 0)) := by
  obtain ⟨i0, hi, hz0, hz1, hz2⟩ := info_parts set_info
  have hd : ((n : Int) % 6 != 0) = false := by simp; omega
  have hmn : m ≤ n := by omega
  have hq : (n : Int) / 6 = (m : Int) := by omega
  have Ha := hide ha
  have Hb := hide hb
  have Hm := hide hm
  have Hq := hide hq
  clear ha hb hm hq
  go_enter Try.func121, Try.ntmps121
  go_wp2_with fail
  refine (cnewA A n c f _ Ha.out (by omega)).mono ?_
  rintro e w1 ⟨p, A1, c1, rfl, hp, hcur, hA1, hb1⟩
  have Hcur := hide hcur
  have HA1 := hide hA1
  have HB1 := hide hb1
  have hp1 := hcur.lt
  have hsz := hb1.size
  clear hcur hA1 hb1
  go_wp2_with (at_make; refine wp_mkV rfl _ _ _ rfl 2 i0 _ 16 Try.underlying26 hi hz0 hz1 hz2 (pr (oneF 0) (oneF 0)) w.heap.size _ _ _ _ m rfl rfl Hq.out Hq.out (made2 m) (by omega) (by simp only [maxLen]; omega) hsz ?_; intro w2 hown2 hg2 hs2)
  have hbb : Below w1.heap.size w1 w2 := ⟨hg2.os, hg2.tape, hg2.output, hg2.size, fun i hi => hg2.block i hi (by simp)⟩
  have HB2 := hide (HB1.out.of hbb)
  have Hc2 := hide (Hcur.out.below hbb)
  have Hown2 := hide hown2
  clear hown2 hg2 hbb HB1 Hcur
  go_loopw [19] (fun i wr => ∃ k : Nat, k ≤ m ∧ i = .int .i64 k ∧ OwnV 2 170 w.heap.size wr (.slice (some ⟨w1.heap.size, 0, none⟩) m m) m (pr (upF k (sF f)) (upF k (sG f))) ∧ CurA wr p A1 c1 n f (k * 6) ∧ Below w.heap.size w wr ∧ w1.heap.size < wr.heap.size) (fun i _ => m - (intOf i).toNat)
  case atStart => exact ⟨0, Nat.zero_le _, rfl, Hown2.out.congr (fun i _ => by simp [upF, oneF, pr]), by simpa using Hc2.out, HB2.out, by omega⟩
  case round =>
    obtain ⟨k, hk, rfl, hown, hcur, hB, hlr⟩ := hrel
    have Hown := hide hown
    have Hcur := hide hcur
    have HB := hide hB
    clear hown hcur hB
    by_cases hlt : k < m
    · have hpg : p ≠ w1.heap.size := by omega
      have hAg : ∀ a, A1 = some a → a.block ≠ w1.heap.size := fun a e => by have := (HA1.out a e).2; omega
      have HAg := hide hAg
      have hnk : k * 6 + 6 ≤ n := by have := Hm.out; omega
      have hkm : (k : Int) < (m : Int) := by omega
      clear hAg
      go_wp2_with fail
      refine (numberA p n (k * 6) 2 c1 A1 _ rfl f _ Hcur.out Hb.out (by omega) (by omega) (by omega)).mono ?_
      rintro e w3 ⟨rfl, hc3, hg3⟩
      generalize hX : num (fun i => f (k * 6 + i)) 2 = x
      have HX : Hid (sF f k = x) := hX
      have Ho3 := hide (Hown.out.grown hg3 (by simp [Value.ownBlock]; omega))
      have HB3 := hide (HB.out.grown hg3 HB.out.size (fun j e => by have := Option.some.inj e; omega))
      have hl3 := Nat.lt_of_lt_of_le hlr hg3.size
      have Hc3 := hide hc3
      have hcell := Ho3.out.cell (j := k * 2) (by omega)
      have hfz := Ho3.out.frozen (k * 2)
      rw [pr_0] at hcell
      have Ho4 : Hid (OwnV 2 170 w.heap.size (w3.setCell ⟨w1.heap.size, k * 2, none⟩ (.int .i64 x)) (.slice (some ⟨w1.heap.size, 0, none⟩) m m) m (pr (upF (k + 1) (sF f)) (upF k (sG f)))) := by
        have := Ho3.out.set (k * 2) (.int .i64 x)
        rw [pr_set0, ← HX.out, upF_succ] at this
        rw [← HX.out]
        exact this
      have Hc4 := hide (Hc3.out.other (grown_set w3 w1.heap.size (k * 2) (.int .i64 x)) hpg HAg.out)
      have HB4 := hide (HB3.out.setCell (p := ⟨w1.heap.size, k * 2, none⟩) hsz (.int .i64 x))
      have hl4 : w1.heap.size < (w3.setCell ⟨w1.heap.size, k * 2, none⟩ (.int .i64 x)).heap.size := by simpa [World.setCell] using hl3
      clear hX hc3 hg3 Hcur Hown HB Hc3 HB3 Ho3
      go_wp2_with fail
      refine (numberA p n (k * 6 + 2) 4 c1 A1 _ rfl f _ Hc4.out Hb.out (by omega) (by omega) (by omega)).mono ?_
      rintro e w5 ⟨rfl, hc5, hg5⟩
      generalize hX : num (fun i => f (k * 6 + 2 + i)) 4 = y
      have HY : Hid (sG f k = y) := hX
      have Ho5 := hide (Ho4.out.grown hg5 (by simp [Value.ownBlock]; omega))
      have HB5 := hide (HB4.out.grown hg5 HB4.out.size (fun j e => by have := Option.some.inj e; omega))
      have hl5 := Nat.lt_of_lt_of_le hl4 hg5.size
      have Hc5 := hide hc5
      clear hcell hfz hl4
      have hcell := Ho5.out.cell (j := k * 2 + 1) (by omega)
      have hfz := Ho5.out.frozen (k * 2 + 1)
      rw [pr_1] at hcell
      have Ho6 : Hid (OwnV 2 170 w.heap.size (w5.setCell ⟨w1.heap.size, k * 2 + 1, none⟩ (.int .i64 y)) (.slice (some ⟨w1.heap.size, 0, none⟩) m m) m (pr (upF (k + 1) (sF f)) (upF (k + 1) (sG f)))) := by
        have := Ho5.out.set (k * 2 + 1) (.int .i64 y)
        rw [pr_set1, ← HY.out, upF_succ] at this
        rw [← HY.out]
        exact this
      have Hc6 := hide (Hc5.out.other (grown_set w5 w1.heap.size (k * 2 + 1) (.int .i64 y)) hpg HAg.out)
      have HB6 := hide (HB5.out.setCell (p := ⟨w1.heap.size, k * 2 + 1, none⟩) hsz (.int .i64 y))
      have hl6 : w1.heap.size < (w5.setCell ⟨w1.heap.size, k * 2 + 1, none⟩ (.int .i64 y)).heap.size := by simpa [World.setCell] using hl5
      clear hX hc5 hg5 Hc4 Ho4 HB4 Hc5 HB5 Ho5
      go_wp2_with fail
      go_roundw
      case rel => exact ⟨k + 1, by omega, by go_num, Ho6.out, by have := Hc6.out; rw [show k * 6 + 2 + 4 = (k + 1) * 6 by omega] at this; exact this, HB6.out, hl6⟩
      case measure => simp [intOf]; omega
    · obtain rfl : k = m := by omega
      have Hr := hide (rd2_of_rdV (Hown.out.rdS2))
      go_wp2_with fail
      go_ret2
      exact ⟨_, _, rfl, Hr.out.congr (fun i hi => by simp [upF, hi]) (fun i hi => by simp [upF, hi]), HB.out⟩
end Go.Proofs.Ytelcpfjifhobjaa
