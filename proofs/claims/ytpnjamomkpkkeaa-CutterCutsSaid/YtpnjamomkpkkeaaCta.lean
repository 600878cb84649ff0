/- Layer 12: the chapter's example; a cutter that is not there. -/
import Derived.Test.YtpnjamomkpkkeaaCt8
import Derived.Test.YtpnjamomkpkkeaaCt9
import Derived.Deep.RegionHeld3
namespace Go.Proofs.Ytpnjamomkpkkeaa
set_option linter.unusedVariables false
set_option linter.unusedSimpArgs false
open Go.RowKit

theorem RwsO.rws {S : Nat → Prop} {N : Nat} {w : World} {ve : Value} {gs : List Rl} {F : Nat → Rw} (h : RwsO S N w ve gs F) : ∃ A c, ve = .slice A gs.length c ∧ RwsR w A gs.length c gs := by
  obtain ⟨A, c, hv, hr, _⟩ := h.own.rd
  exact ⟨A, c, hv, F, hr, rfl, fun i x hx => (h.bod i x hx).1⟩
def exM : List Int := [0, 0, 0, 4, 1, 0, 0, 0, 0, 0, 0, 1]
def exR : Rl := ⟨1, 4, 1, 0, false, []⟩
theorem ex_byt : ByL exM := by
  intro x hx
  simp only [exM, List.mem_cons, List.mem_nil_iff, or_false] at hx
  omega
theorem ex_ok : exR.Ok 1 := ⟨rfl, by refine ⟨⟨?_, ?_⟩, ⟨?_, ?_⟩, ⟨?_, ?_⟩, ?_, ?_⟩ <;> simp [exR]⟩
theorem ex_eq : exM = encL [exR] ++ [0, 0, 1] := by
  show exM = (exR.enc ++ []) ++ [0, 0, 1]
  rw [ex_ok.enc]
  decide
theorem ex_frs : frs 1 exM = [exR] := by
  refine frs_of ex_byt ?_ ?_ ex_eq
  · unfold FsOk
    rw [if_neg (by decide)]
    intro y hy
    rw [List.mem_singleton.1 hy]
    exact ex_ok
  · unfold Inc
    rw [if_neg (by decide)]
    left
    decide
theorem ex_lft : lftN 1 exM = 3 := by
  unfold lftN
  rw [ex_frs]
  have h : (encL [exR]).length + 3 = exM.length := by rw [ex_eq, List.length_append]; rfl
  have : exM.length = 12 := rfl
  omega
set_option maxRecDepth 20000 in
set_option maxHeartbeats 1600000 in
theorem alive12 (w : World) : Calls Try.prog 25 #[] w fun e w' => e = .returned (.bool true) ∧ Below w.heap.size w w' := by
  have a0 := (Below.refl w.heap.size w).alloc (Nat.le_refl _) zeroCt
  have C0 := ctOk_zero (B := w.heap.size) (heap_alloc_new w zeroCt) (Nat.le_refl _)
  have HC0 := hide C0
  have A0 := hide a0
  have hs0 : (w.alloc zeroCt).heap.size = w.heap.size + 1 := by simp
  have HS0 := hide hs0
  clear a0 C0 hs0
  go_enter Try.func25, Try.ntmps25
  go_wp2_with fail
  refine (new12 w).mono ?_
  rintro e w' ⟨rfl, rfl⟩
  generalize hp : w.heap.size = p at *
  generalize hW : w.alloc zeroCt = W0 at *
  clear hW
  have b1 := (Below.refl W0.heap.size W0).alloc (Nat.le_refl _) (.cells #[.int .u8 0, .int .u8 0, .int .u8 0, .int .u8 4, .int .u8 1, .int .u8 0, .int .u8 0, .int .u8 0, .int .u8 0, .int .u8 0, .int .u8 0, .int .u8 1] 5)
  have o1 := Own.lit .u8 5 W0.heap.size W0 (lyF exM) #[.int .u8 0, .int .u8 0, .int .u8 0, .int .u8 4, .int .u8 1, .int .u8 0, .int .u8 0, .int .u8 0, .int .u8 0, .int .u8 0, .int .u8 0, .int .u8 1] 12 (Nat.le_refl _) (by simp [maxLen]) rfl
  have r1 : Rd .u8 (W0.alloc (.cells #[.int .u8 0, .int .u8 0, .int .u8 0, .int .u8 4, .int .u8 1, .int .u8 0, .int .u8 0, .int .u8 0, .int .u8 0, .int .u8 0, .int .u8 0, .int .u8 1] 5)) (some ⟨W0.heap.size, 0, none⟩) exM.length 12 (lyF exM) := by
    obtain ⟨A, c, e, hr, _⟩ := o1.rd
    injection e with e1 e2 e3
    subst e1 e3
    exact hr
  have HC1 := hide (HC0.out.below b1)
  have HR1 := hide r1
  have HB1 := hide b1
  have HP : Hid (p < W0.heap.size) := hide (by have := HS0.out; omega)
  clear o1 r1 b1
  go_wp2_with fail
  refine (feedF1 HC1.out exM _ 12 ex_byt HR1.out (fun _ a e => ⟨fun e2 => (by cases e2), by cases e; exact fun e3 => absurd e3 (by have := HP.out; show ¬ W0.heap.size = p; omega)⟩) (by show 0 + 12 ≤ 10000000; omega)).mono ?_
  rintro e W2 ⟨t, u, ve, F, rfl, hC2, hq2, hu2, hO2⟩
  have e1 : ([] : List Int) ++ exM = exM := rfl
  have e2 : (frs 1 ([] ++ exM)).drop (frs 1 []).length = [exR] := by rw [e1, ex_frs, frs_nil]; rfl
  rw [e2] at hO2
  obtain ⟨Ae, ce, rfl, hRR⟩ := hO2.rws
  have HC2 := hide hC2
  have HQ2 := hide hq2
  have HRR := hide hRR
  have hB2 : Below p w W2 := (A0.out.trans (HB1.out.mono (Nat.le_of_lt HP.out))).trans (hq2.bel (Nat.le_trans (Nat.le_of_lt HP.out) HB1.out.size) fun i _ e => by
    rcases e with e | e
    · exact Nat.le_of_eq e.symm
    · cases e)
  have HB2 := hide hB2
  have hl1 : lftN 1 (upS (fun _ => ([] : List Int)) 1 ([] ++ exM) 1) = 3 := by rw [upS_at]; exact ex_lft
  have hl0 : lftN 0 (upS (fun _ => ([] : List Int)) 1 ([] ++ exM) 0) = 0 := by rw [upS_ne _ _ (by decide)]; exact lft_nil 0
  have HL1 := hide hl1
  have HL0 := hide hl0
  have b3 := (Below.refl W2.heap.size W2).alloc (Nat.le_refl _) (.cells #[.int .i64 1, .int .i64 4, .int .i64 1, .int .i64 0, .bool false, .slice none 0 0] 29)
  have r3 : RwsR (W2.alloc (.cells #[.int .i64 1, .int .i64 4, .int .i64 1, .int .i64 0, .bool false, .slice none 0 0] 29)) (some ⟨W2.heap.size, 0, none⟩) 1 1 [exR] :=
    ⟨fun _ => ⟨1, 4, 1, 0, false, none, 0, 0, fun _ => 0⟩, rdV_raw (X := ⟨1, 4, 1, 0, false, none, 0, 0, fun _ => 0⟩) (heap_alloc_new W2 _), rfl, fun i x hx => by
      match i, hx with
      | 0, hx =>
        obtain rfl : exR = x := by simpa using hx
        exact ⟨rfl, rfl, rfl, rfl, rfl, rfl, ⟨Nat.le_refl _, by simp [maxLen], fun _ => rfl, fun h => absurd h (by decide)⟩⟩⟩
  have HR3 := hide r3
  have HB3 := hide b3
  clear hC2 hq2 hu2 hO2 hRR hB2 r3 b3 hl1 hl0
  go_wp2_with fail
  refine (rall07 _ _ 1 1 ce 1 [exR] _ (HRR.out.below HB3.out) HR3.out).mono ?_
  rintro e W4 ⟨rfl, hb4⟩
  have hB4 := HB3.out.trans (hb4.mono HB3.out.size)
  have HC4 := hide (HC2.out.below hB4)
  have HB4 : Hid (Below p w W4) := HB2.out.trans (hB4.mono (by have := HB2.out.size; have h2 := HP.out; exact Nat.le_trans (Nat.le_of_lt h2) (Nat.le_trans HB1.out.size HQ2.out.size)))
  clear hb4 hB4
  go_wp2_with fail
  refine (leftF1 HC4.out).mono ?_
  rintro e W5 ⟨rfl, rfl⟩
  rw [HL1.out]
  go_wp2_with fail
  refine (leftF0 HC4.out).mono ?_
  rintro e W5 ⟨rfl, rfl⟩
  rw [HL0.out]
  go_wp2_with fail
  go_ret
  exact ⟨rfl, by rw [hp]; exact HB4.out⟩
end Go.Proofs.Ytpnjamomkpkkeaa
