/- Layer 23: what a decoder tells; one that is not there; large; the example. -/
import Derived.Test.YtnkcbljhgcgpaaaDoorDe9
import Derived.Test.YtnkcbljhgcgpaaaDoorBb1
import Derived.Test.YtnkcbljhgcgpaaaDoorSam3
namespace Go.Proofs.YtnkcbljhgcgpaaaDoor
set_option linter.unusedVariables false
set_option linter.unusedSimpArgs false
open Go.RowKit Go.Deep Go.ChangeShapes Go.WideShapes

theorem rdI_of {w : World} {A : Option Addr} {n c : Nat} {l : List Int} (h : RdV 1 w A n c (inV l)) : Rd .i64 w A n c (fun i => l.getD i 0) :=
  ⟨h.1, h.2.1, h.2.2.1, fun hn => by
    obtain ⟨b, off, hA, hc⟩ := h.2.2.2 hn
    exact ⟨b, off, hA, fun i hi => hc i (by omega)⟩⟩
theorem dmax {B : Nat} {w : World} {p : Nat} {g : Option Nat} {mx : Nat} {l : List Fd} (h : TL B w p g mx l) : Calls Tryd.prog 12 #[.pointer (some ⟨p, 0, none⟩)] w fun e w' => e = .returned (.int .i64 (mx : Int)) ∧ w = w' := by
  have C := hide (max21 h)
  clear h
  go_enter Tryd.func12, Tryd.ntmps12
  go_wp2_with fail
  refine C.out.mono ?_
  rintro e w1 ⟨rfl, rfl⟩
  go_wp2_with fail
  go_ret
  exact ⟨rfl, rfl⟩
theorem dsize {B : Nat} {w : World} {p : Nat} {g : Option Nat} {mx : Nat} {l : List Fd} (h : TL B w p g mx l) : Calls Tryd.prog 13 #[.pointer (some ⟨p, 0, none⟩)] w fun e w' => e = .returned (.int .i64 (sumL l : Int)) ∧ w = w' := by
  have C := hide (sizeL h)
  clear h
  go_enter Tryd.func13, Tryd.ntmps13
  go_wp2_with fail
  refine C.out.mono ?_
  rintro e w1 ⟨rfl, rfl⟩
  go_wp2_with fail
  go_ret
  exact ⟨rfl, rfl⟩
theorem dall {B : Nat} {w : World} {p : Nat} {g : Option Nat} {mx : Nat} {l : List Fd} (h : TL B w p g mx l) (hn : l.length ≤ 1000000) : Calls Tryd.prog 14 #[.pointer (some ⟨p, 0, none⟩)] w fun e w' => ∃ v, e = .returned v ∧ OwnV 3 51 w.heap.size w' v l.length (fdV (fn l)) ∧ Below w.heap.size w w' := by
  have C := hide (allL h hn)
  clear h
  go_enter Tryd.func14, Tryd.ntmps14
  go_wp2_with fail
  refine C.out.mono ?_
  rintro e w1 ⟨v, rfl, ho, hb⟩
  have HO := hide ho
  have HB := hide hb
  clear ho hb
  go_wp2_with fail
  go_ret
  exact ⟨v, rfl, HO.out, HB.out⟩
theorem dmaxNil (w : World) : Calls Tryd.prog 12 #[.pointer none] w fun e w' => e = .returned (.int .i64 0) ∧ w = w' := by
  go_enter Tryd.func12, Tryd.ntmps12
  go_wp2
  go_ret
  exact ⟨rfl, rfl⟩
theorem dsizeNil (w : World) : Calls Tryd.prog 13 #[.pointer none] w fun e w' => e = .returned (.int .i64 0) ∧ w = w' := by
  go_enter Tryd.func13, Tryd.ntmps13
  go_wp2
  go_ret
  exact ⟨rfl, rfl⟩
theorem dallNil (w : World) : Calls Tryd.prog 14 #[.pointer none] w fun e w' => e = .returned (.slice none 0 0) ∧ w = w' := by
  go_enter Tryd.func14, Tryd.ntmps14
  go_wp2
  go_ret
  exact ⟨rfl, rfl⟩
theorem decodeNil (A : Option Addr) (n c : Nat) (w : World) : Calls Tryd.prog 10 #[.pointer none, .slice A n c] w fun e w' => e = .returned (.tuple #[.agg #[.slice none 0 0, .slice none 0 0], .int .i64 2]) ∧ Below w.heap.size w w' := by
  obtain ⟨⟨u0, y0⟩, ⟨u1, y1⟩, rr2⟩ := store2z (heap_alloc_new w (.cells #[.slice none 0 0, .slice none 0 0] 32)) (.slice none 0 0) (.slice none 0 0)
  have RQ2 := hide rr2
  clear rr2
  go_enter Tryd.func10, Tryd.ntmps10
  go_wp2_with fail
  obtain ⟨n0, n1⟩ := row2 RQ2.out
  refine bodyPost_ret (v := .tuple #[.agg #[.slice none 0 0, .slice none 0 0], .int .i64 2]) ?_ rfl ⟨rfl, ?_⟩
  · rw [results_cell_tmp rfl]
    go_simp
  · go_grown
set_option maxRecDepth 20000 in
set_option maxHeartbeats 1600000 in
theorem large23 {w : World} {A : Option Addr} {n c : Nat} {F : Nat → Bb} (ha : RdBb w A n c F) :
    Calls Tryd.prog 18 #[.slice A n c] w fun e w' => (e = .returned (.bool true) ∨ (e = .returned (.bool false) ∧ n ≤ 20 ∧ ∀ i, i < n → (F i).n ≤ 120)) ∧ w = w' := by
  have Ha := hide ha
  have hn63 : (n : Int) ≤ 9223372036854775807 := by have h1 := ha.1; have h2 := ha.2.1; simp only [maxLen] at h2; omega
  clear ha
  by_cases h20 : 20 < n
  · have hd : decide ((20 : Int) < (n : Int)) = true := decide_eq_true (by omega)
    clear h20
    go_enter Tryd.func18, Tryd.ntmps18
    go_wp2_with fail
    go_ret
    exact ⟨.inl rfl, rfl⟩
  have hd : decide ((20 : Int) < (n : Int)) = false := decide_eq_false (by omega)
  have Hn : Hid (n ≤ 20) := by show _ ≤ _; omega
  clear h20
  go_enter Tryd.func18, Tryd.ntmps18
  go_wp2_with fail
  go_loop [3] (fun i => ∃ k : Nat, k ≤ n ∧ i = .int .i64 k ∧ ∀ j, j < k → (F j).n ≤ 120) (fun i => n - (intOf i).toNat)
  case atStart => exact ⟨0, Nat.zero_le _, rfl, fun j hj => absurd hj (by omega)⟩
  case round =>
    obtain ⟨k, hk, rfl, hsm⟩ := hrel
    have Hsm := hide hsm
    clear hsm
    by_cases hlt : k < n
    · have hkn' : (k : Int) < (n : Int) := by omega
      obtain ⟨b, off, rfl, hc0⟩ := Ha.out.at_ hlt
      have hl : (F k).n ≤ 9223372036854775807 := by have := (Ha.out.2.2.2.2 k hlt).1; have h1 := this.1; have h2 := this.2.1; simp only [maxLen] at h2; omega
      by_cases hbig : 120 < (F k).n
      · have hd1 : decide ((120 : Int) < ((F k).n : Int)) = true := decide_eq_true (by omega)
        clear hbig
        generalize F k = Fk at *
        go_wp2_with fail
        go_ret
        exact ⟨.inl rfl, rfl⟩
      · have hd1 : decide ((120 : Int) < ((F k).n : Int)) = false := decide_eq_false (by omega)
        have Hbig : Hid ((F k).n ≤ 120) := by show _ ≤ _; omega
        clear hbig
        go_wp2_with fail
        go_round
        case rel =>
          refine ⟨k + 1, by omega, by go_num, fun j hj => ?_⟩
          rcases Nat.lt_or_ge j k with h | h
          · exact Hsm.out j h
          · obtain rfl : j = k := by omega
            exact Hbig.out
        case measure => simp [intOf]; omega
    · obtain rfl : n = k := by omega
      go_wp2_with fail
      go_ret
      exact ⟨.inr ⟨rfl, Hn.out, Hsm.out⟩, rfl⟩
end Go.Proofs.YtnkcbljhgcgpaaaDoor
