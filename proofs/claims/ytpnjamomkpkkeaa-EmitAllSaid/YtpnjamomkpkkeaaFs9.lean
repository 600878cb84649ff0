/- Layer 13: bytes as settings, by the reference: the row is the call's own. -/
import Derived.Test.YtpnjamomkpkkeaaFs4
namespace Go.Proofs.Ytpnjamomkpkkeaa
set_option linter.unusedVariables false
set_option linter.unusedSimpArgs false
open Go.RowKit

def RSetsO (w : World) (n : Nat) (f : Nat → Int) (e : Ending) (w' : World) : Prop :=
  (∃ m, n = m * 6 ∧ ∃ A c, e = .returned (.tuple #[.slice A m c, .bool true]) ∧ Rd2 w' A m c (sF f) (sG f) ∧ (∀ a, A = some a → w.heap.size ≤ a.block) ∧ Below w.heap.size w w') ∨ (n % 6 ≠ 0 ∧ e = .returned (.tuple #[.slice none 0 0, .bool false]) ∧ Below w.heap.size w w')
set_option maxHeartbeats 3200000 in
theorem rsparseO (A : Option Addr) (n c : Nat) (f : Nat → Int) (w : World) (ha : Rd .u8 w A n c f) (hb : Byt n f) (hn : n ≤ 100000) :
    Calls Try.prog 110 #[.slice A n c] w (RSetsO w n f) := by
  obtain ⟨i0, hi, hz0, hz1, hz2⟩ := info_parts set_info
  have Ha := hide ha
  have Hb := hide hb
  clear ha hb
  go_enter Try.func110, Try.ntmps110
  go_wp2
  go_loopw [0, 4] (fun b out wr => ∃ (k q : Nat) (A' : Option Addr) (c' : Nat), k * 6 + q = n ∧ b = .slice A' q c' ∧ Rd .u8 w A' q c' (fun i => f (k * 6 + i)) ∧ OwnV 2 201 w.heap.size wr out k (pr (sF f) (sG f)) ∧ Below w.heap.size w wr) (fun b _ _ => match b with | .slice _ n _ => n | _ => 0)
  case atStart => exact ⟨0, n, A, c, by omega, rfl, Ha.out.congr (fun i _ => by simp), OwnV.nil _ _ _ _ _, Below.refl _ _⟩
  case round =>
    obtain ⟨k, q, A', c', hkq, rfl, hr, hown, hB⟩ := hrel
    have Hr := hide hr
    have Hown := hide hown
    have HB := hide hB
    have Hkq := hide hkq
    have hkn : k * 6 + q ≤ n := by omega
    have hsz := hB.size
    clear hr hown hB hkq
    by_cases h6 : 6 ≤ q
    · have hd : decide ((6 : Int) ≤ (q : Int)) = true := by simp; omega
      have hqc : q ≤ c' := Hr.out.1
      have hcut2 : ∀ W, (Instr.slice 22 (.slice A' q c') (some (.int .i64 2)) none none).run Try.prog W = .ok (.slice (cutA A' c' 2) (q - 2) (c' - 2)) W := fun W => bytes_cut A' q c' 2 (by omega) W
      have hcut6 : ∀ W, (Instr.slice 22 (.slice A' q c') (some (.int .i64 6)) none none).run Try.prog W = .ok (.slice (cutA A' c' 6) (q - 6) (c' - 6)) W := fun W => bytes_cut A' q c' 6 (by omega) W
      have Hb1 : Hid (Byt q (fun i => f (k * 6 + i))) := fun i hi => Hb.out (k * 6 + i) (by omega)
      have Hb2 : Hid (Byt (q - 2) (fun i => f (k * 6 + (2 + i)))) := fun i hi => Hb.out (k * 6 + (2 + i)) (by omega)
      go_wp2_with fail
      refine (rgetS A' q c' 2 _ rfl _ _ (Hr.out.below HB.out) Hb1.out (by omega) (by omega) (by omega)).mono ?_
      rintro e w1 ⟨rfl, hd1⟩
      generalize hX : num (fun i => f (k * 6 + i)) 2 = x
      have HX : Hid (sF f k = x) := hX
      have HB1 := hide (HB.out.trans (drawn_below hd1 _))
      have Ho1 := hide (Hown.out.below (drawn_below hd1 _))
      have Hr1 := hide ((Hr.out.below HB1.out).cutR (lo := 2) (hi := q) (by omega) (Nat.le_refl _))
      have hs1 := HB1.out.size
      clear hX hd1 HB Hown
      go_wp2_with fail
      refine (rgetS _ _ _ 4 _ rfl _ _ Hr1.out Hb2.out (by omega) (by omega) (by omega)).mono ?_
      rintro e w2 ⟨rfl, hd2⟩
      generalize hX : num (fun i => f (k * 6 + (2 + i))) 4 = y
      have HY : Hid (sG f k = y) := (numS_congr (fun j => by rw [Nat.add_assoc])).trans hX
      have HB2 := hide (HB1.out.trans (drawn_below hd2 _))
      have Ho2 := hide (Ho1.out.below (drawn_below hd2 _))
      have hs2 := HB2.out.size
      clear hX hd2 HB1 Ho1 Hr1
      set_option maxRecDepth 20000 in
      go_wp2_with (at_builtin; refine wp_appV rfl (.tmp 23) (.tmp 27) _ rfl 2 i0 _ 16 Try.underlying23 hi hz0 hz1 hz2 rfl (by omega) w.heap.size _ k _ rfl (Ho2.out.alloc _) _ 1 1 _ rfl (RdV.lit2 _ x y) (pr_one _ _ _) (by simp only [maxLen]; omega) (by omega) (by simp; omega) ?_; intro v3 w3 hown3 hg3 _)
      have HB3 := hide ((HB2.out.alloc hs2 _).grown hg3 (by simp; omega) Ho2.out.ltB)
      have Ho3 := hide (hown3.congr (app_set HX.out HY.out))
      have Hr3 : Hid (Rd .u8 w (cutA A' c' 6) (q - 6) (c' - 6) (fun i => f ((k + 1) * 6 + i))) := (Hr.out.cutR (lo := 6) (hi := q) (by omega) (Nat.le_refl _)).congr (fun i _ => by rw [show k * 6 + (6 + i) = (k + 1) * 6 + i by omega])
      clear hown3 hg3
      go_roundw
      case rel => exact ⟨k + 1, q - 6, _, _, by have := Hkq.out; omega, rfl, Hr3.out, Ho3.out, HB3.out⟩
      case measure => simp; omega
    · have hd : decide ((6 : Int) ≤ (q : Int)) = false := by simp; omega
      by_cases h0 : 0 < q
      · have hd0 : decide ((0 : Int) < (q : Int)) = true := by simp; omega
        have hmod : n % 6 ≠ 0 := by have := Hkq.out; omega
        have Hmod := hide hmod
        clear hmod
        go_wp2_with fail
        go_ret2
        exact .inr ⟨Hmod.out, rfl, HB.out⟩
      · obtain rfl : q = 0 := by omega
        obtain ⟨A2, c2, rfl, hr2, hz2⟩ := Hown.out.rd
        have Hr2 := hide (rd2_of_rdV hr2)
        have HZ : Hid (∀ a, A2 = some a → w.heap.size ≤ a.block) := fun a e => (hz2 a e).1
        clear hr2 hz2
        go_wp2_with fail
        go_ret2
        exact .inl ⟨k, by have := Hkq.out; omega, A2, c2, rfl, Hr2.out, HZ.out, HB.out⟩

end Go.Proofs.Ytpnjamomkpkkeaa
