/- Layer 28: what the document says of fields. -/
import Derived.Test.YtpfhiimlloeciaaDoorMg2
import Derived.Deep.Cut
namespace Go.Proofs.YtpfhiimlloeciaaDoor
open Go.RowKit Go.PlainAid

set_option maxRecDepth 20000 in
set_option maxHeartbeats 1600000 in
theorem rfields28 (A : Option Addr) (n c : Nat) (F : Nat → Fd) (w : World) (ha : RdFd w A n c F) (hs : Sm28 F n) :
    Calls Tryd.prog 66 #[.slice A n c] w fun e w' => e = .returned (.bool (!anyB wrgB F n)) ∧ Below w.heap.size w w' := by
  have Ha := hide ha
  have Hs := hide hs
  have hn := ha.le
  clear ha hs
  go_enter Tryd.func66, Tryd.ntmps66
  go_wp2_with fail
  go_loopw [3] (fun i wr => ∃ k : Nat, k ≤ n ∧ i = .int .i64 k ∧ (∀ j, j < k → wrgB (F j) = false) ∧ Below w.heap.size w wr) (fun i _ => n - (intOf i).toNat)
  case atStart => exact ⟨0, Nat.zero_le _, rfl, fun j h => absurd h (by omega), Below.refl _ _⟩
  case round =>
    obtain ⟨k, hk, rfl, hall, hB⟩ := hrel
    have HB := hide hB
    have Hall := hide hall
    clear hall
    by_cases hlt : k < n
    · have Hr := hide (Ha.out.below hB)
      clear hB
      obtain ⟨b, off, rfl, hc0, hc1, hc2⟩ := Hr.out.at_ hlt
      have hkn : (k : Int) < (n : Int) := by omega
      obtain ⟨s1, s2⟩ := Hs.out k hlt
      obtain ⟨X, hX⟩ : ∃ X, F k = X := ⟨_, rfl⟩
      have HX := hide hX
      rw [hX] at hc0 hc1 hc2 s1 s2
      clear hX
      obtain ⟨x0, x1, x2⟩ := X
      simp only at hc0 hc1 hc2 s1 s2
      obtain ⟨bb, hbb⟩ : ∃ b, b = fieldB x0 x1 := ⟨_, rfl⟩
      have HBB := hide hbb
      clear hbb
      cases bb with
      | true =>
        have Hall' : Hid (∀ j, j < k + 1 → wrgB (F j) = false) := fun j hj => by
          by_cases e : j = k
          · subst e
            rw [HX.out]
            show (!fieldB x0 x1) = false
            rw [← HBB.out]
            rfl
          · exact Hall.out j (by omega)
        go_wp2_with fail
        refine (rfield_any x0 x1 x2 _ (by omega) (by omega)).mono ?_
        rw [← HBB.out]
        rintro e w1 ⟨rfl, hw1⟩
        have HB1 : Hid (Below w.heap.size w w1) := by rw [hw1]; exact HB.out.alloc HB.out.size _
        clear hw1
        go_wp2_with fail
        go_roundw
        case rel => exact ⟨k + 1, by omega, by go_num, Hall'.out, HB1.out⟩
        case measure => simp [intOf]; omega
      | false =>
        have Hf : Hid (anyB wrgB F n = true) := decide_eq_true ⟨k, hlt, by rw [HX.out]; show (!fieldB x0 x1) = true; rw [← HBB.out]; rfl⟩
        go_wp2_with fail
        refine (rfield_any x0 x1 x2 _ (by omega) (by omega)).mono ?_
        rw [← HBB.out]
        rintro e w1 ⟨rfl, hw1⟩
        have HB1 : Hid (Below w.heap.size w w1) := by rw [hw1]; exact HB.out.alloc HB.out.size _
        clear hw1
        go_wp2_with fail
        go_ret
        exact ⟨by rw [Hf.out]; rfl, HB1.out⟩
    · obtain rfl : n = k := by omega
      have Hf : Hid (anyB wrgB F n = false) := decide_eq_false fun ⟨j, hj, e⟩ => by rw [Hall.out j hj] at e; cases e
      clear hB
      go_wp2_with fail
      go_ret
      exact ⟨by rw [Hf.out]; rfl, HB.out⟩
set_option maxRecDepth 20000 in
set_option maxHeartbeats 3200000 in
theorem rbarred28 (A : Option Addr) (n c : Nat) (F : Nat → Fd) (w : World) (ha : RdFd w A n c F) (hs : Sm28 F n) :
    Calls Tryd.prog 67 #[.slice A n c] w fun e w' => e = .returned (.bool (anyB brdB F n)) ∧ Below w.heap.size w w' := by
  have Ha := hide ha
  have Hs := hide hs
  have hn := ha.le
  clear ha hs
  go_enter Tryd.func67, Tryd.ntmps67
  go_wp2_with fail
  go_loopw [3] (fun i wr => ∃ k : Nat, k ≤ n ∧ i = .int .i64 k ∧ (∀ j, j < k → brdB (F j) = false) ∧ Below w.heap.size w wr) (fun i _ => n - (intOf i).toNat)
  case atStart => exact ⟨0, Nat.zero_le _, rfl, fun j h => absurd h (by omega), Below.refl _ _⟩
  case round =>
    obtain ⟨k, hk, rfl, hall, hB⟩ := hrel
    have HB := hide hB
    have Hall := hide hall
    clear hall
    by_cases hlt : k < n
    · have Hr := hide (Ha.out.below hB)
      clear hB
      obtain ⟨b, off, rfl, hc0, hc1, hc2⟩ := Hr.out.at_ hlt
      have hkn : (k : Int) < (n : Int) := by omega
      obtain ⟨s1, s2⟩ := Hs.out k hlt
      obtain ⟨X, hX⟩ : ∃ X, F k = X := ⟨_, rfl⟩
      have HX := hide hX
      rw [hX] at hc0 hc1 hc2 s1 s2
      clear hX
      obtain ⟨x, y, z⟩ := X
      simp only at hc0 hc1 hc2 s1 s2
      obtain ⟨bb, hbb⟩ : ∃ b, b = barB x := ⟨_, rfl⟩
      obtain ⟨t, ht⟩ : ∃ t, t = (x.toList == [116, 101]) := ⟨_, rfl⟩
      obtain ⟨u, hu⟩ : ∃ u, u = smallB y := ⟨_, rfl⟩
      obtain ⟨v, hv⟩ : ∃ v, v = (u.toList == [116, 114, 97, 105, 108, 101, 114, 115]) := ⟨_, rfl⟩
      have HBB := hide hbb
      have HU := hide hu
      have Hw : Hid (brdB (F k) = (bb || (t && !v))) := by show brdB _ = _; rw [HX.out]; unfold brdB; simp only; rw [← hbb, ← ht, ← hu, ← hv]
      clear hbb hu
      have keyN : ∀ _ : brdB (F k) = false, Hid (∀ j, j < k + 1 → brdB (F j) = false) := fun h j hj => by
        by_cases e : j = k
        · subst e; exact h
        · exact Hall.out j (by omega)
      have keyY : ∀ _ : brdB (F k) = true, Hid (anyB brdB F n = true) := fun h => decide_eq_true ⟨k, hlt, h⟩
      cases bb with
      | true =>
        have Hf := keyY (by rw [Hw.out]; rfl)
        clear ht hv keyN keyY
        go_wp2_with fail
        refine (rbarred_any x _).mono ?_
        rw [← HBB.out]
        rintro e w1 ⟨rfl, rfl⟩
        go_wp2_with fail
        go_ret
        exact ⟨by rw [Hf.out]; rfl, HB.out⟩
      | false =>
        cases t with
        | false =>
          have Hf := keyN (by rw [Hw.out]; rfl)
          have ht' := ht.symm
          clear ht hv keyN keyY
          go_wp2_with fail
          refine (rbarred_any x _).mono ?_
          rw [← HBB.out]
          rintro e w1 ⟨rfl, rfl⟩
          go_wp2_with fail
          go_roundw
          case rel => exact ⟨k + 1, by omega, by go_num, Hf.out, HB.out⟩
          case measure => simp [intOf]; omega
        | true =>
          have ht' := ht.symm
          cases v with
          | true =>
            have Hf := keyN (by rw [Hw.out]; rfl)
            have hv' := hv.symm
            clear ht hv keyN keyY
            go_wp2_with fail
            refine (rbarred_any x _).mono ?_
            rw [← HBB.out]
            rintro e w1 ⟨rfl, rfl⟩
            go_wp2_with fail
            refine (rlower_any y _ s2).mono ?_
            rw [← HU.out]
            rintro e w1 ⟨rfl, hw1⟩
            have HB1 := hide (HB.out.of hw1)
            clear hw1
            go_wp2_with fail
            go_roundw
            case rel => exact ⟨k + 1, by omega, by go_num, Hf.out, HB1.out⟩
            case measure => simp [intOf]; omega
          | false =>
            have Hf := keyY (by rw [Hw.out]; rfl)
            have hv' := hv.symm
            clear ht hv keyN keyY
            go_wp2_with fail
            refine (rbarred_any x _).mono ?_
            rw [← HBB.out]
            rintro e w1 ⟨rfl, rfl⟩
            go_wp2_with fail
            refine (rlower_any y _ s2).mono ?_
            rw [← HU.out]
            rintro e w1 ⟨rfl, hw1⟩
            have HB1 := hide (HB.out.of hw1)
            clear hw1
            go_wp2_with fail
            go_ret
            exact ⟨by rw [Hf.out]; rfl, HB1.out⟩
    · obtain rfl : n = k := by omega
      have Hf : Hid (anyB brdB F n = false) := decide_eq_false fun ⟨j, hj, e⟩ => by rw [Hall.out j hj] at e; cases e
      clear hB
      go_wp2_with fail
      go_ret
      exact ⟨by rw [Hf.out]; rfl, HB.out⟩
theorem absM {p : World → Prop} (W0 : World) (R : World → Prop) (h0 : R W0) (h : ∀ W, R W → p W) : p W0 := h W0 h0
theorem heap5o {w : World} {p q : Nat} (hne : q ≠ p) (b0 b1 b2 b3 b4 : Value) : (((((w.setCell ⟨p, 0, none⟩ b0).setCell ⟨p, 1, none⟩ b1).setCell ⟨p, 2, none⟩ b2).setCell ⟨p, 3, none⟩ b3).setCell ⟨p, 4, none⟩ b4).heap[q]? = w.heap[q]? := by
  rw [Below.heap_setCell _ ⟨p, 4, none⟩ _ _ hne, Below.heap_setCell _ ⟨p, 3, none⟩ _ _ hne, Below.heap_setCell _ ⟨p, 2, none⟩ _ _ hne, Below.heap_setCell _ ⟨p, 1, none⟩ _ _ hne, Below.heap_setCell _ ⟨p, 0, none⟩ _ _ hne]
/-- Fields that lie below a block are not touched by stores to it. -/
theorem rdfd5o {w : World} {A : Option Addr} {n c p : Nat} {F : Nat → Fd} (h : RdFd w A n c F) (hp : 0 < n → ∀ a, A = some a → a.block ≠ p) (b0 b1 b2 b3 b4 : Value) : RdFd (((((w.setCell ⟨p, 0, none⟩ b0).setCell ⟨p, 1, none⟩ b1).setCell ⟨p, 2, none⟩ b2).setCell ⟨p, 3, none⟩ b3).setCell ⟨p, 4, none⟩ b4) A n c F :=
  ⟨h.1, h.2.1, h.2.2.1, fun hn => by
    obtain ⟨b, off, hA, hc⟩ := h.2.2.2.1 hn
    have hb := hp hn _ hA
    have hh := heap5o (w := w) (p := p) hb b0 b1 b2 b3 b4
    have e : ∀ j, (((((w.setCell ⟨p, 0, none⟩ b0).setCell ⟨p, 1, none⟩ b1).setCell ⟨p, 2, none⟩ b2).setCell ⟨p, 3, none⟩ b3).setCell ⟨p, 4, none⟩ b4).cell? ⟨b, j, none⟩ = w.cell? ⟨b, j, none⟩ := fun j => by
      unfold World.cell?
      simp only at hh ⊢
      rw [hh]
    exact ⟨b, off, hA, fun i hi => by rw [e, e, e]; exact hc i hi⟩, h.2.2.2.2⟩
end Go.Proofs.YtpfhiimlloeciaaDoor
