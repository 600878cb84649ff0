/- Layer 17: the chapter's examples; the walks of HuffEncodes and HuffDecodes. -/
import Derived.Test.YtkdldcmeiihbcaaHuG
import Derived.Lib.SlBytesConst
namespace Go.Proofs.Ytkdldcmeiihbcaa
open Go.RowKit

theorem ones_no : ∀ S, S < 257 → len S < 30 → cd (rnk S) ≠ 2 ^ (len S) - 1 := fun S hS => by
  have h := all_lt (n := 257) (p := fun S => decide (len S < 30 → cd (rnk S) ≠ 2 ^ (len S) - 1)) (by decide +kernel) S hS
  exact of_decide_eq_true h
theorem mt_ones {g : Nat → Int} {N t : Nat} (h : ∀ i, t ≤ i → i < N → g i = 1) (h30 : N - t < 30) (S : Nat) : ¬ Mt g N t S := fun hM => by
  have h1 := ones_num (h := fun i => g (t + i)) (len S) (fun i hi => h (t + i) (by omega) (by have := hM.2.1; omega))
  have h2 := hM.2.2
  rw [h1] at h2
  have h3 := ones_no S hM.1 (by have := hM.2.1; omega)
  have h4 : ((2 ^ len S - 1 : Nat) : Int) = 2 ^ len S - 1 := by
    have h5 : 1 ≤ 2 ^ len S := Nat.one_le_two_pow
    have e : ((2 : Int) ^ len S) = ((2 ^ len S : Nat) : Int) := by simp
    rw [e]
    generalize 2 ^ len S = z at *
    omega
  rw [← h4] at h2
  exact h3 (by exact_mod_cast h2.symm)
theorem ex31 : Dcd (bitF (oneF 31)) 8 1 (oneF 97) 0 :=
  ⟨1, fun i => 5 * i, fun _ => 97, ⟨rfl, fun i hi => by
    obtain rfl : i = 0 := by omega
    exact ⟨⟨by decide, by decide +kernel, by decide +kernel⟩, by decide, by decide +kernel⟩⟩, .inl ⟨rfl, rfl, fun _ _ => rfl, mt_ones (fun i (h1 : 5 ≤ i) h2 => by
    have : i = 5 ∨ i = 6 ∨ i = 7 := by omega
    rcases this with rfl | rfl | rfl <;> decide +kernel) (by decide), by decide, fun i (h1 : 5 ≤ i) h2 => by
    have : i = 5 ∨ i = 6 ∨ i = 7 := by omega
    rcases this with rfl | rfl | rfl <;> decide +kernel⟩⟩
theorem ex255 : Dcd (bitF (oneF 255)) 8 0 (oneF 0) 10 :=
  ⟨0, fun _ => 0, fun _ => 0, ⟨rfl, fun i hi => by omega⟩, .inr (.inl ⟨rfl, rfl, mt_ones (fun i h1 h2 => by
    have h := all_lt (n := 8) (p := fun i => decide (bitF (oneF 255) i = 1)) (by decide +kernel) i h2
    exact of_decide_eq_true h) (by decide), fun h => absurd h.1 (by decide)⟩)⟩
def f31 : Nat → Int := fun i => if i = 0 then 31 else 255
theorem ex31255 : Dcd (bitF f31) 16 0 (oneF 0) 10 :=
  ⟨1, fun i => 5 * i, fun _ => 97, ⟨rfl, fun i hi => by
    obtain rfl : i = 0 := by omega
    exact ⟨⟨by decide, by decide +kernel, by decide +kernel⟩, by decide, by decide +kernel⟩⟩, .inr (.inl ⟨rfl, rfl, mt_ones (fun i h1 h2 => by
    have h := all_lt (n := 16) (p := fun i => decide (5 ≤ i → bitF f31 i = 1)) (by decide +kernel) i h2
    exact of_decide_eq_true h h1) (by decide), fun h => absurd h.1 (by decide)⟩)⟩
theorem exEnc : enT (oneF 97) 1 = 5 ∧ byF (enG (oneF 97) 1) 5 0 = 31 := by decide +kernel
theorem Rd.oneM (w : World) (x : Int) (T : TypeId) (fr : Nat × Nat) : Rd .u8 (w.alloc (.cells #[.int .u8 x] T fr)) (some ⟨w.heap.size, 0, none⟩) 1 1 (oneF x) :=
  ⟨Nat.le_refl _, by simp [maxLen], fun e => (by cases e), fun _ => ⟨_, _, rfl, fun i hi => by
    obtain rfl : i = 0 := by omega
    rw [World.cell?_alloc_mark]
    rfl⟩⟩
theorem byt_one {x : Int} (h0 : 0 ≤ x) (h1 : x ≤ 255) : Byt 1 (oneF x) := fun _ _ => ⟨h0, h1⟩
set_option maxRecDepth 100000 in
set_option maxHeartbeats 3200000 in
theorem alive17 (w : World) : Calls Try.prog 39 #[] w (Yes w) := by
  have kc := fun (w : World) (C : Array Value) (n c : Nat) => Lib.run_convert_bytes_const (P := Try.prog) w 25 5 C n c Try.underlying25 Try.underlying5
  go_enter Try.func39, Try.ntmps39
  go_wp2_with fail
  refine (decode_any _ 1 1 (oneF 31) _ (Rd.one .u8 5 w 31) (byt_one (by decide) (by decide)) (by decide)).mono ?_
  rintro e w1 ⟨v1, m1, h1, er1, rfl, ho1, hD1, hb1⟩
  obtain ⟨rfl, rfl, hf1⟩ := hD1.same (bitF_bits _ _) ex31
  obtain ⟨A1, c1, rfl, hr1, _⟩ := ho1.rd
  have Hr1 := hide (hr1.congr hf1)
  have HB1 : Hid (Below w.heap.size w w1) := ((Below.refl w.heap.size w).alloc (Nat.le_refl _) _).of (hb1.mono (by simp))
  clear ho1 hD1 hb1 hr1 hf1
  go_wp2_with fail
  refine (decode_any _ 1 1 (oneF 255) _ (Rd.one .u8 5 w1 255) (byt_one (by decide) (by decide)) (by decide)).mono ?_
  rintro e w2 ⟨v2, m2, h2, er2, rfl, ho2, hD2, hb2⟩
  obtain ⟨rfl, rfl, hf2⟩ := hD2.same (bitF_bits _ _) ex255
  have hk2 : Below w1.heap.size w1 w2 := ((Below.refl w1.heap.size w1).alloc (Nat.le_refl _) _).trans (hb2.mono (by simp))
  have Hr2 := hide (Hr1.out.below hk2)
  have HB2 := hide (HB1.out.of hk2)
  clear ho2 hD2 hb2 hf2 hk2
  go_wp2_with fail
  have hl3 : Rd .u8 (w2.alloc (.cells #[.int .u8 31, .int .u8 255] 5)) (some ⟨w2.heap.size, 0, none⟩) 2 2 f31 := by
    obtain ⟨A, c, e1, h, _⟩ := (Own.lit .u8 5 0 w2 f31 #[.int .u8 31, .int .u8 255] 2 (Nat.zero_le _) (by simp [maxLen]) rfl).rd
    injection e1 with e1 _ e2
    subst e1
    subst e2
    exact h
  refine (decode_any _ 2 2 f31 _ hl3 (fun i hi => by unfold f31; split <;> decide) (by decide)).mono ?_
  rintro e w3 ⟨v3, m3, h3, er3, rfl, ho3, hD3, hb3⟩
  obtain ⟨rfl, rfl, hf3⟩ := hD3.same (bitF_bits _ _) ex31255
  have hk3 : Below w2.heap.size w2 w3 := ((Below.refl w2.heap.size w2).alloc (Nat.le_refl _) _).trans (hb3.mono (by simp))
  have Hr3 := hide (Hr2.out.below hk3)
  have HB3 := hide (HB2.out.of hk3)
  clear ho3 hD3 hb3 hf3 hk3 hl3
  go_wp2_with fail
  refine (encode_any _ 1 1 (oneF 97) _ (Rd.oneM w3 97 _ _) (byt_one (by decide) (by decide)) (by decide)).mono ?_
  rintro e w4 ⟨v4, rfl, ho4, hb4⟩
  have hk4 : Below w3.heap.size w3 w4 := ((Below.refl w3.heap.size w3).alloc (Nat.le_refl _) _).trans (hb4.mono (by simp))
  have ho4' : Own .u8 5 w3.heap.size w4 v4 1 (oneF 31) := by
    have := Own.baseB ho4 (B' := w3.heap.size) (by simp)
    rw [exEnc.1] at this
    exact this.congr fun i hi => by
      obtain rfl : i = 0 := by omega
      exact exEnc.2
  obtain ⟨A4, c4, rfl, hr4, _⟩ := ho4'.rd
  have Hr4 := hide hr4
  have Hq4 := hide (Hr3.out.below hk4)
  have HB4 := hide (HB3.out.of hk4)
  clear ho4 ho4' hb4 hk4 hr4
  go_wp2_with fail
  refine (rsame_yes _ _ 1 _ _ (oneF 31) (oneF 31) _ (Hr4.out.alloc _) (Rd.one .u8 5 w4 31) (fun _ _ => rfl)).mono ?_
  rintro e w5 ⟨rfl, hd5⟩
  have hk5 : Below w4.heap.size w4 w5 := ((Below.refl w4.heap.size w4).alloc (Nat.le_refl _) _).trans (drawn_below hd5 _)
  have Hq5 := hide (Hq4.out.below hk5)
  have HB5 := hide (HB4.out.of hk5)
  clear hd5 hk5
  go_wp2_with fail
  refine (rsame_yes _ _ 1 _ _ (oneF 97) (oneF 97) _ (Hq5.out.alloc _) (Rd.oneM w5 97 _ _) (fun _ _ => rfl)).mono ?_
  rintro e w6 ⟨rfl, hd6⟩
  have hk6 : Below w5.heap.size w5 w6 := ((Below.refl w5.heap.size w5).alloc (Nat.le_refl _) _).trans (drawn_below hd6 _)
  have HB6 := hide (HB5.out.of hk6)
  clear hd6 hk6
  go_wp2_with fail
  go_ret
  exact ⟨rfl, HB6.out⟩
set_option maxRecDepth 20000 in
set_option maxHeartbeats 3200000 in
theorem huffEncodes_walk (A : Option Addr) (n c : Nat) (f : Nat → Int) (w : World) (ha : Rd .u8 w A n c f) (hf : Byt n f) : Calls Try.prog 9 #[.slice A n c] w (Yes w) := by
  by_cases hbig : 24 < n
  · have hd : decide ((24 : Int) < (n : Int)) = true := decide_eq_true (by omega)
    clear ha hf
    go_enter Try.func9, Try.ntmps9
    go_wp2_with fail
    refine (alive17 _).mono ?_
    rintro e w' ⟨rfl, hb⟩
    have HB := hide hb
    clear hb
    go_wp2_with fail
    go_ret
    exact ⟨rfl, HB.out⟩
  have hd : decide ((24 : Int) < (n : Int)) = false := decide_eq_false (by omega)
  have hn : n ≤ 1000 := by omega
  have Ha := hide ha
  have Hf := hide hf
  clear ha hf hbig
  go_enter Try.func9, Try.ntmps9
  go_wp2_with fail
  refine (encode_any A n c f _ Ha.out Hf.out hn).mono ?_
  rintro e w1 ⟨v1, rfl, ho1, hb1⟩
  obtain ⟨A1, c1, rfl, hr1, _⟩ := ho1.rd
  have Hr1 := hide hr1
  have Ha1 := hide (Ha.out.below hb1)
  have HB1 := hide hb1
  clear ho1 hr1 hb1
  go_wp2_with fail
  refine (rencode_any A n c f _ Ha1.out Hf.out hn).mono ?_
  rintro e w2 ⟨v2, rfl, ho2, hb2⟩
  obtain ⟨A2, c2, rfl, hr2, _⟩ := ho2.rd
  have Hr2 := hide hr2
  have Hr12 := hide (Hr1.out.below hb2)
  have Ha2 := hide (Ha1.out.below hb2)
  have HB2 := hide (HB1.out.of hb2)
  clear ho2 hr2 hb2
  go_wp2_with fail
  refine (rsame_yes _ _ _ _ _ _ _ _ Hr12.out Hr2.out (fun _ _ => rfl)).mono ?_
  rintro e w3 ⟨rfl, hd3⟩
  have Ha3 := hide (Ha2.out.below (drawn_below hd3 _))
  have HB3 := hide (HB2.out.of (drawn_below hd3 _))
  clear hd3
  go_wp2_with fail
  refine (hsize_any A n c f _ Ha3.out Hf.out hn).mono ?_
  rintro e w4 ⟨rfl, hb4⟩
  have HB4 := hide (HB3.out.of hb4)
  clear hb4
  go_wp2_with fail
  refine (alive17 _).mono ?_
  rintro e w5 ⟨rfl, hb5⟩
  have HB5 := hide (HB4.out.of hb5)
  clear hb5
  go_wp2_with fail
  go_ret
  exact ⟨rfl, HB5.out⟩
set_option maxRecDepth 20000 in
set_option maxHeartbeats 3200000 in
theorem huffDecodes_walk (A : Option Addr) (n c : Nat) (f : Nat → Int) (w : World) (ha : Rd .u8 w A n c f) (hf : Byt n f) : Calls Try.prog 10 #[.slice A n c] w (Yes w) := by
  by_cases hbig : 24 < n
  · have hd : decide ((24 : Int) < (n : Int)) = true := decide_eq_true (by omega)
    clear ha hf
    go_enter Try.func10, Try.ntmps10
    go_wp2_with fail
    refine (alive17 _).mono ?_
    rintro e w' ⟨rfl, hb⟩
    have HB := hide hb
    clear hb
    go_wp2_with fail
    go_ret
    exact ⟨rfl, HB.out⟩
  have hd : decide ((24 : Int) < (n : Int)) = false := decide_eq_false (by omega)
  have hn : n ≤ 1000 := by omega
  have hn2 : n ≤ 2000 := by omega
  have Ha := hide ha
  have Hf := hide hf
  clear ha hf hbig
  go_enter Try.func10, Try.ntmps10
  go_wp2_with fail
  refine (decode_any A n c f _ Ha.out Hf.out hn2).mono ?_
  rintro e w1 ⟨v1, m1, h1, er1, rfl, ho1, hD1, hb1⟩
  obtain ⟨A1, c1, rfl, hr1, _⟩ := ho1.rd
  have Hr1 := hide hr1
  have HD1 := hide hD1
  have Ha1 := hide (Ha.out.below hb1)
  have HB1 := hide hb1
  clear ho1 hr1 hb1 hD1
  go_wp2_with fail
  refine (rdecode_any A n c f _ Ha1.out Hf.out hn).mono ?_
  rintro e w2 ⟨v2, m2, h2, er2, rfl, ho2, hD2, hb2⟩
  obtain ⟨rfl, rfl, hff⟩ := HD1.out.same (bitF_bits _ _) hD2
  obtain ⟨A2, c2, rfl, hr2, _⟩ := ho2.rd
  have Hr2 := hide hr2
  have Hff := hide hff
  have Hr12 := hide (Hr1.out.below hb2)
  have HB2 := hide (HB1.out.of hb2)
  clear ho2 hr2 hb2 hD2 hff
  go_wp2_with fail
  refine (rsame_yes _ _ _ _ _ _ _ _ Hr12.out Hr2.out Hff.out).mono ?_
  rintro e w3 ⟨rfl, hd3⟩
  have HB3 := hide (HB2.out.of (drawn_below hd3 _))
  clear hd3
  go_wp2_with fail
  refine (alive17 _).mono ?_
  rintro e w5 ⟨rfl, hb5⟩
  have HB5 := hide (HB3.out.of hb5)
  clear hb5
  go_wp2_with fail
  go_ret
  exact ⟨rfl, HB5.out⟩
end Go.Proofs.Ytkdldcmeiihbcaa
