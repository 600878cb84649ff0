/- Layer 8: the names of a type's flags, both sides; the walk of the law on flags. -/
import Derived.Test.YtbkdegjkjjdcdaaDoorKf2
namespace Go.Proofs.YtbkdegjkjjdcdaaDoor
set_option linter.unusedVariables false
set_option linter.unusedSimpArgs false
open Go.RowKit Go.PlainAid

def PADD : ByteArray := ⟨#[80, 65, 68, 68, 69, 68]⟩
def PRIO : ByteArray := ⟨#[80, 82, 73, 79, 82, 73, 84, 89]⟩
def nmX (t x : Int) : ByteArray := if x = 1 then (if strI t = 0 then ACK else ENDS) else if x = 4 then ENDH else if x = 8 then PADD else PRIO
def lsS (L : List ByteArray) : Nat → ByteArray := fun i => L.getD i ⟨#[]⟩
def pw2 (j : Nat) : Int := ((2 ^ j : Nat) : Int)
def preF (t fl : Int) : Nat → List ByteArray
  | 0 => []
  | j + 1 => preF t fl j ++ (if hxB t fl (pw2 j) = true then [nmX t (pw2 j)] else [])
theorem preF_le (t fl : Int) : ∀ j, (preF t fl j).length ≤ j
  | 0 => Nat.le_refl _
  | j + 1 => by
    have := preF_le t fl j
    unfold preF
    rw [List.length_append]
    split
    · rw [List.length_singleton]
      omega
    · rw [List.length_nil]
      omega
theorem catS (L : List ByteArray) (s : ByteArray) : ∀ i, i < (L.length + 1) * 1 → catV (L.length * 1) (stV1 (lsS L)) (fun _ => .string s) i = stV1 (lsS (L ++ [s])) i := by
  intro i hi
  unfold catV stV1 lsS
  rw [Nat.mul_one] at *
  by_cases h : i < L.length
  · rw [if_pos h, List.getD_eq_getElem?_getD, List.getD_eq_getElem?_getD, List.getElem?_append_left h]
  · rw [if_neg h, List.getD_eq_getElem?_getD, List.getElem?_append_right (by omega)]
    have : i - L.length = 0 := by omega
    rw [this]
    rfl
theorem fname_any (t x : Int) (w : World) : Calls Tryd.prog 41 #[.int .i64 t, .int .i64 x] w fun e w' => e = .returned (.string (nmX t x)) ∧ w = w' := by
  obtain ⟨s, hs⟩ : ∃ s, strI t = s := ⟨_, rfl⟩
  have HS := hide (fun W => hs ▸ streams_any t W)
  by_cases h1 : x = 1
  · subst h1
    by_cases h0 : s = 0
    · have HN : Hid (nmX t 1 = ACK) := by show _ = _; unfold nmX; rw [if_pos rfl, hs, if_pos h0]
      subst h0
      clear hs
      go_enter Tryd.func41, Tryd.ntmps41
      go_wp2_with (go_at_call 61; refine (HS.out _).mono ?_; rintro e w' ⟨rfl, rfl⟩)
      go_ret
      exact ⟨by rw [HN.out]; rfl, rfl⟩
    · have HN : Hid (nmX t 1 = ENDS) := by show _ = _; unfold nmX; rw [if_pos rfl, hs, if_neg h0]
      have d0 : (s == 0) = false := beq_eq_false_iff_ne.2 h0
      clear hs h0
      go_enter Tryd.func41, Tryd.ntmps41
      go_wp2_with (go_at_call 61; refine (HS.out _).mono ?_; rintro e w' ⟨rfl, rfl⟩)
      go_ret
      exact ⟨by rw [HN.out]; rfl, rfl⟩
  · have d1 : (x == 1) = false := beq_eq_false_iff_ne.2 h1
    by_cases h4 : x = 4
    · subst h4
      have HN : Hid (nmX t 4 = ENDH) := by show _ = _; unfold nmX; rw [if_neg (by omega), if_pos rfl]
      clear hs h1 HS
      go_enter Tryd.func41, Tryd.ntmps41
      go_wp2
      go_ret
      exact ⟨by rw [HN.out]; rfl, rfl⟩
    · have d4 : (x == 4) = false := beq_eq_false_iff_ne.2 h4
      by_cases h8 : x = 8
      · subst h8
        have HN : Hid (nmX t 8 = PADD) := by show _ = _; unfold nmX; rw [if_neg (by omega), if_neg (by omega), if_pos rfl]
        clear hs h1 HS h4
        go_enter Tryd.func41, Tryd.ntmps41
        go_wp2
        go_ret
        exact ⟨by rw [HN.out]; rfl, rfl⟩
      · have d8 : (x == 8) = false := beq_eq_false_iff_ne.2 h8
        have HN : Hid (nmX t x = PRIO) := by show _ = _; unfold nmX; rw [if_neg h1, if_neg h4, if_neg h8]
        clear hs h1 HS h4 h8
        go_enter Tryd.func41, Tryd.ntmps41
        go_wp2
        go_ret
        exact ⟨by rw [HN.out]; rfl, rfl⟩
theorem pw2_le (j : Nat) (h : j < 6) : 1 ≤ pw2 j ∧ pw2 j ≤ 32 ∧ pw2 j * 2 = pw2 (j + 1) := by
  have : j = 0 ∨ j = 1 ∨ j = 2 ∨ j = 3 ∨ j = 4 ∨ j = 5 := by omega
  rcases this with rfl | rfl | rfl | rfl | rfl | rfl <;> decide
/-- What both Flags answer. -/
def FgE (t fl : Int) (w : World) (e : Ending) (w' : World) : Prop := ∃ A c, e = .returned (.slice A (preF t fl 6).length c) ∧ RdV 1 w' A (preF t fl 6).length c (stV1 (lsS (preF t fl 6))) ∧ Below w.heap.size w w'
set_option maxRecDepth 20000 in
set_option maxHeartbeats 1600000 in
theorem kflags_any (t fl : Int) (hf : fl ≤ 9223372036854775807) (w : World) : Calls Tryd.prog 12 #[.int .i64 t, .int .i64 fl] w (FgE t fl w) := by
  obtain ⟨i0, hi, hz0, hz1, hz2⟩ := info_parts str_info
  go_enter Tryd.func12, Tryd.ntmps12
  go_wp2_with fail
  go_loopw [5, 6] (fun v i wr => ∃ j : Nat, j ≤ 6 ∧ i = .int .i64 (pw2 j) ∧ OwnV 1 9 w.heap.size wr v (preF t fl j).length (stV1 (lsS (preF t fl j))) ∧ Below w.heap.size w wr) (fun _ i _ => 64 - (intOf i).toNat)
  case atStart => exact ⟨0, Nat.zero_le _, rfl, OwnV.nil _ _ _ _ _, Below.refl _ _⟩
  case round =>
    obtain ⟨j, hj, rfl, hown, hb⟩ := hrel
    have HO := hide hown
    have HB := hide hb
    have hsz := hb.size
    clear hown hb
    by_cases hlt : j < 6
    · obtain ⟨x, hx⟩ : ∃ x, pw2 j = x := ⟨_, rfl⟩
      obtain ⟨p1, p2, p3⟩ := pw2_le j hlt
      have HX : Hid (∀ W, Calls Tryd.prog 9 #[.int .i64 t, .int .i64 fl, .int .i64 x] W fun e w' => e = .returned (.bool (hxB t fl x)) ∧ W = w') := fun W => khas_any t fl x hf (by omega) W
      have HF : Hid (∀ W, Calls Tryd.prog 41 #[.int .i64 t, .int .i64 x] W fun e w' => e = .returned (.string (nmX t x)) ∧ W = w') := fun W => fname_any t x W
      have HP : Hid (preF t fl (j + 1) = preF t fl j ++ (if hxB t fl x = true then [nmX t x] else [])) := by
        show _ = _
        rw [← hx]
        rfl
      have HL := hide (preF_le t fl j)
      rw [hx] at *
      have HN : Hid (x * 2 = pw2 (j + 1)) := p3
      have d1 : decide (x ≤ 32) = true := decide_eq_true p2
      have e1 : IntKind.i64.wrap (x * 2) = x * 2 := IntWalk.i64_in _ (by omega)
      clear hx p3
      obtain ⟨b, hb⟩ : ∃ b, hxB t fl x = b := ⟨_, rfl⟩
      obtain ⟨s, hs⟩ : ∃ s, nmX t x = s := ⟨_, rfl⟩
      rw [hb, hs] at HP
      rw [hb] at HX
      rw [hs] at HF
      clear hb hs
      generalize preF t fl j = L at *
      cases b with
      | false =>
        have HP2 : Hid (preF t fl (j + 1) = L) := by
          show _ = _
          rw [HP.out, if_neg (by decide), List.append_nil]
        clear HP
        go_wp2_with fail
        refine (HX.out _).mono ?_
        rintro e w1 ⟨rfl, rfl⟩
        go_wp2_with fail
        first
          | (refine ⟨⟨j + 1, by omega, by rw [← HN.out], by rw [HP2.out]; exact HO.out, HB.out⟩, ?_⟩; simp [intOf]; omega)
          | (go_roundw
             case rel => exact ⟨j + 1, by omega, by rw [← HN.out], by rw [HP2.out]; exact HO.out, HB.out⟩
             case measure => simp [intOf]; omega)
      | true =>
        have HP2 : Hid (preF t fl (j + 1) = L ++ [s]) := by
          show _ = _
          rw [HP.out, if_pos rfl]
        clear HP
        go_wp2_with fail
        refine (HX.out _).mono ?_
        rintro e w1 ⟨rfl, rfl⟩
        go_wp2_with fail
        refine (HF.out _).mono ?_
        rintro e w2 ⟨rfl, rfl⟩
        have HO2 := hide (HO.out.alloc (.cells #[.string s] 9))
        have HB2 := hide (HB.out.alloc hsz (.cells #[.string s] 9))
        have Hx := hide (rdV_str wr s 9)
        go_wp2_with (at_builtin; refine wp_appV rfl _ _ _ rfl 1 i0 _ 16 Tryd.underlying26 hi hz0 hz1 hz2 rfl (by omega) w.heap.size _ L.length _ rfl HO2.out _ 1 1 _ rfl Hx.out (fun _ _ => rfl) (by have := HL.out; simp [maxLen]; omega) (by have := HL.out; omega) HB2.out.size ?_; intro v3 w3 hown3 hg3 _)
        have HB3 := hide (HB2.out.grown hg3 HB2.out.size (fun j e => (World.ownsRow.lt HO2.out j e).1))
        have HO3 : Hid (OwnV 1 9 w.heap.size w3 v3 (L ++ [s]).length (stV1 (lsS (L ++ [s])))) := by
          rw [List.length_append, List.length_singleton]
          exact hown3.congr (catS L s)
        clear hown3 hg3
        go_roundw
        case rel => exact ⟨j + 1, by omega, by rw [← HN.out], by rw [HP2.out]; exact HO3.out, HB3.out⟩
        case measure => simp [intOf]; omega
    · obtain rfl : j = 6 := by omega
      obtain ⟨A, c, rfl, hr, _⟩ := HO.out.rd
      have HR := hide hr
      clear hr
      have e64 : pw2 6 = 64 := rfl
      rw [e64]
      go_wp2_with fail
      go_ret
      exact ⟨A, c, rfl, HR.out, HB.out⟩
theorem hxB_2 (t fl : Int) : hxB t fl 2 = false := hxB_no t fl 2 (by omega)
theorem hxB_16 (t fl : Int) : hxB t fl 16 = false := hxB_no t fl 16 (by omega)
theorem preF_6 (t fl : Int) : preF t fl 6 = ((([] ++ (if hxB t fl 1 = true then [nmX t 1] else [])) ++ (if hxB t fl 4 = true then [ENDH] else [])) ++ (if hxB t fl 8 = true then [PADD] else [])) ++ (if hxB t fl 32 = true then [PRIO] else []) := by
  have e : preF t fl 6 = ((((([] ++ (if hxB t fl 1 = true then [nmX t 1] else [])) ++ (if hxB t fl 2 = true then [nmX t 2] else [])) ++ (if hxB t fl 4 = true then [ENDH] else [])) ++ (if hxB t fl 8 = true then [PADD] else [])) ++ (if hxB t fl 16 = true then [nmX t 16] else [])) ++ (if hxB t fl 32 = true then [PRIO] else []) := rfl
  rw [e, hxB_2, hxB_16]
  simp only [Bool.false_eq_true, if_false, List.append_nil]
/-- Where a type uses the flag 1. -/
theorem hxB_one {t fl : Int} (h : hxB t fl 1 = true) : (t = 0 ∨ t = 1) ∧ nmX t 1 = ENDS ∨ (t ≠ 0 ∧ t ≠ 1) ∧ nmX t 1 = ACK := by
  have h2 : (usedN t).testBit 0 = true := by
    unfold hxB hsB at h
    rw [if_pos rfl] at h
    simp only [Bool.and_eq_true] at h
    exact h.2.1
  rw [kused_bit0] at h2
  simp only [Bool.or_eq_true, beq_iff_eq] at h2
  rcases h2 with rfl | rfl | rfl | rfl
  · exact .inl ⟨.inl rfl, by decide⟩
  · exact .inl ⟨.inr rfl, by decide⟩
  · exact .inr ⟨by omega, by decide⟩
  · exact .inr ⟨by omega, by decide⟩
set_option maxRecDepth 20000 in
set_option maxHeartbeats 6400000 in
theorem rflags_any (t fl : Int) (hf : fl ≤ 9223372036854775807) (w0 : World) : Calls Tryd.prog 13 #[.int .i64 t, .int .i64 fl] w0 (FgE t fl w0) := by
  obtain ⟨i0, hi, hz0, hz1, hz2⟩ := info_parts str_info
  obtain ⟨w, hw⟩ : ∃ w, w0 = w := ⟨_, rfl⟩
  have HX1 := hide (fun W => krhas_any t fl 1 hf W)
  have HX4 := hide (fun W => krhas_any t fl 4 hf W)
  have HX8 := hide (fun W => krhas_any t fl 8 hf W)
  have HX32 := hide (fun W => krhas_any t fl 32 hf W)
  have HT := hide (fun h : hxB t fl 1 = true => hxB_one h)
  have HF := hide (preF_6 t fl)
  unfold FgE
  generalize hxB t fl 1 = b1 at *
  generalize hxB t fl 4 = b4 at *
  generalize hxB t fl 8 = b8 at *
  generalize hxB t fl 32 = b32 at *
  have HO0 : Hid (OwnV 1 9 w.heap.size w0 (.slice none 0 0) 0 (stV1 (lsS []))) := by rw [hw]; exact OwnV.nil _ _ _ _ _
  have HB0 : Hid (Below w.heap.size w w0) := by rw [hw]; exact Below.refl _ _
  subst hw
  go_enter Tryd.func13, Tryd.ntmps13
  go_wp2_with fail
  generalize Value.slice none 0 0 = v0 at HO0 ⊢
  refine (HX1.out _).mono ?_
  rintro e w_ ⟨rfl, rfl⟩
  cases b1 with
  | false =>
    go_wp2_with fail
    refine (HX4.out _).mono ?_
    rintro e w_ ⟨rfl, rfl⟩
    cases b4 with
    | false =>
      go_wp2_with fail
      refine (HX8.out _).mono ?_
      rintro e w_ ⟨rfl, rfl⟩
      cases b8 with
      | false =>
        go_wp2_with fail
        refine (HX32.out _).mono ?_
        rintro e w_ ⟨rfl, rfl⟩
        cases b32 with
        | false =>
          go_wp2_with fail
          have HV := hide HF.out
          obtain ⟨A, c, rfl, hr, _⟩ := HO0.out.rd
          have HR := hide hr
          clear hr
          go_wp2_with fail
          go_ret
          refine ⟨A, c, ?_, ?_, HB0.out⟩
          · rw [HF.out]; rfl
          · rw [HF.out]; exact HR.out
        | true =>
          have HO1a := hide (HO0.out.alloc (.cells #[.string PRIO] 9))
          have HB1a := hide (HB0.out.alloc HB0.out.size (.cells #[.string PRIO] 9))
          have Hx1 := hide (rdV_str w0 PRIO 9)
          go_wp2_with (at_builtin; refine wp_appV rfl _ _ _ rfl 1 i0 _ 16 Tryd.underlying26 hi hz0 hz1 hz2 rfl (by omega) w0.heap.size _ 0 _ rfl HO1a.out _ 1 1 _ rfl Hx1.out (fun _ _ => rfl) (by simp [maxLen]) (by omega) HB1a.out.size ?_; intro v1 w1 hown hg _; have HB1 := hide (HB1a.out.grown hg HB1a.out.size (fun j e => (World.ownsRow.lt HO1a.out j e).1)); have HO1 : Hid (OwnV 1 9 w0.heap.size w1 v1 1 (stV1 (lsS [PRIO]))) := hown.congr (catS [] PRIO); clear hown hg)
          clear HO1a HB1a Hx1
          have HV := hide HF.out
          obtain ⟨A, c, rfl, hr, _⟩ := HO1.out.rd
          have HR := hide hr
          clear hr
          go_wp2_with fail
          go_ret
          refine ⟨A, c, ?_, ?_, HB1.out⟩
          · rw [HF.out]; rfl
          · rw [HF.out]; exact HR.out
      | true =>
        have HO1a := hide (HO0.out.alloc (.cells #[.string PADD] 9))
        have HB1a := hide (HB0.out.alloc HB0.out.size (.cells #[.string PADD] 9))
        have Hx1 := hide (rdV_str w0 PADD 9)
        go_wp2_with (at_builtin; refine wp_appV rfl _ _ _ rfl 1 i0 _ 16 Tryd.underlying26 hi hz0 hz1 hz2 rfl (by omega) w0.heap.size _ 0 _ rfl HO1a.out _ 1 1 _ rfl Hx1.out (fun _ _ => rfl) (by simp [maxLen]) (by omega) HB1a.out.size ?_; intro v1 w1 hown hg _; have HB1 := hide (HB1a.out.grown hg HB1a.out.size (fun j e => (World.ownsRow.lt HO1a.out j e).1)); have HO1 : Hid (OwnV 1 9 w0.heap.size w1 v1 1 (stV1 (lsS [PADD]))) := hown.congr (catS [] PADD); clear hown hg)
        clear HO1a HB1a Hx1
        refine (HX32.out _).mono ?_
        rintro e w_ ⟨rfl, rfl⟩
        cases b32 with
        | false =>
          go_wp2_with fail
          have HV := hide HF.out
          obtain ⟨A, c, rfl, hr, _⟩ := HO1.out.rd
          have HR := hide hr
          clear hr
          go_wp2_with fail
          go_ret
          refine ⟨A, c, ?_, ?_, HB1.out⟩
          · rw [HF.out]; rfl
          · rw [HF.out]; exact HR.out
        | true =>
          have HO2a := hide (HO1.out.alloc (.cells #[.string PRIO] 9))
          have HB2a := hide (HB1.out.alloc HB1.out.size (.cells #[.string PRIO] 9))
          have Hx2 := hide (rdV_str w1 PRIO 9)
          go_wp2_with (at_builtin; refine wp_appV rfl _ _ _ rfl 1 i0 _ 16 Tryd.underlying26 hi hz0 hz1 hz2 rfl (by omega) w0.heap.size _ 1 _ rfl HO2a.out _ 1 1 _ rfl Hx2.out (fun _ _ => rfl) (by simp [maxLen]) (by omega) HB2a.out.size ?_; intro v2 w2 hown hg _; have HB2 := hide (HB2a.out.grown hg HB2a.out.size (fun j e => (World.ownsRow.lt HO2a.out j e).1)); have HO2 : Hid (OwnV 1 9 w0.heap.size w2 v2 2 (stV1 (lsS [PADD, PRIO]))) := hown.congr (catS [PADD] PRIO); clear hown hg)
          clear HO2a HB2a Hx2
          have HV := hide HF.out
          obtain ⟨A, c, rfl, hr, _⟩ := HO2.out.rd
          have HR := hide hr
          clear hr
          go_wp2_with fail
          go_ret
          refine ⟨A, c, ?_, ?_, HB2.out⟩
          · rw [HF.out]; rfl
          · rw [HF.out]; exact HR.out
    | true =>
      have HO1a := hide (HO0.out.alloc (.cells #[.string ENDH] 9))
      have HB1a := hide (HB0.out.alloc HB0.out.size (.cells #[.string ENDH] 9))
      have Hx1 := hide (rdV_str w0 ENDH 9)
      go_wp2_with (at_builtin; refine wp_appV rfl _ _ _ rfl 1 i0 _ 16 Tryd.underlying26 hi hz0 hz1 hz2 rfl (by omega) w0.heap.size _ 0 _ rfl HO1a.out _ 1 1 _ rfl Hx1.out (fun _ _ => rfl) (by simp [maxLen]) (by omega) HB1a.out.size ?_; intro v1 w1 hown hg _; have HB1 := hide (HB1a.out.grown hg HB1a.out.size (fun j e => (World.ownsRow.lt HO1a.out j e).1)); have HO1 : Hid (OwnV 1 9 w0.heap.size w1 v1 1 (stV1 (lsS [ENDH]))) := hown.congr (catS [] ENDH); clear hown hg)
      clear HO1a HB1a Hx1
      refine (HX8.out _).mono ?_
      rintro e w_ ⟨rfl, rfl⟩
      cases b8 with
      | false =>
        go_wp2_with fail
        refine (HX32.out _).mono ?_
        rintro e w_ ⟨rfl, rfl⟩
        cases b32 with
        | false =>
          go_wp2_with fail
          have HV := hide HF.out
          obtain ⟨A, c, rfl, hr, _⟩ := HO1.out.rd
          have HR := hide hr
          clear hr
          go_wp2_with fail
          go_ret
          refine ⟨A, c, ?_, ?_, HB1.out⟩
          · rw [HF.out]; rfl
          · rw [HF.out]; exact HR.out
        | true =>
          have HO2a := hide (HO1.out.alloc (.cells #[.string PRIO] 9))
          have HB2a := hide (HB1.out.alloc HB1.out.size (.cells #[.string PRIO] 9))
          have Hx2 := hide (rdV_str w1 PRIO 9)
          go_wp2_with (at_builtin; refine wp_appV rfl _ _ _ rfl 1 i0 _ 16 Tryd.underlying26 hi hz0 hz1 hz2 rfl (by omega) w0.heap.size _ 1 _ rfl HO2a.out _ 1 1 _ rfl Hx2.out (fun _ _ => rfl) (by simp [maxLen]) (by omega) HB2a.out.size ?_; intro v2 w2 hown hg _; have HB2 := hide (HB2a.out.grown hg HB2a.out.size (fun j e => (World.ownsRow.lt HO2a.out j e).1)); have HO2 : Hid (OwnV 1 9 w0.heap.size w2 v2 2 (stV1 (lsS [ENDH, PRIO]))) := hown.congr (catS [ENDH] PRIO); clear hown hg)
          clear HO2a HB2a Hx2
          have HV := hide HF.out
          obtain ⟨A, c, rfl, hr, _⟩ := HO2.out.rd
          have HR := hide hr
          clear hr
          go_wp2_with fail
          go_ret
          refine ⟨A, c, ?_, ?_, HB2.out⟩
          · rw [HF.out]; rfl
          · rw [HF.out]; exact HR.out
      | true =>
        have HO2a := hide (HO1.out.alloc (.cells #[.string PADD] 9))
        have HB2a := hide (HB1.out.alloc HB1.out.size (.cells #[.string PADD] 9))
        have Hx2 := hide (rdV_str w1 PADD 9)
        go_wp2_with (at_builtin; refine wp_appV rfl _ _ _ rfl 1 i0 _ 16 Tryd.underlying26 hi hz0 hz1 hz2 rfl (by omega) w0.heap.size _ 1 _ rfl HO2a.out _ 1 1 _ rfl Hx2.out (fun _ _ => rfl) (by simp [maxLen]) (by omega) HB2a.out.size ?_; intro v2 w2 hown hg _; have HB2 := hide (HB2a.out.grown hg HB2a.out.size (fun j e => (World.ownsRow.lt HO2a.out j e).1)); have HO2 : Hid (OwnV 1 9 w0.heap.size w2 v2 2 (stV1 (lsS [ENDH, PADD]))) := hown.congr (catS [ENDH] PADD); clear hown hg)
        clear HO2a HB2a Hx2
        refine (HX32.out _).mono ?_
        rintro e w_ ⟨rfl, rfl⟩
        cases b32 with
        | false =>
          go_wp2_with fail
          have HV := hide HF.out
          obtain ⟨A, c, rfl, hr, _⟩ := HO2.out.rd
          have HR := hide hr
          clear hr
          go_wp2_with fail
          go_ret
          refine ⟨A, c, ?_, ?_, HB2.out⟩
          · rw [HF.out]; rfl
          · rw [HF.out]; exact HR.out
        | true =>
          have HO3a := hide (HO2.out.alloc (.cells #[.string PRIO] 9))
          have HB3a := hide (HB2.out.alloc HB2.out.size (.cells #[.string PRIO] 9))
          have Hx3 := hide (rdV_str w2 PRIO 9)
          go_wp2_with (at_builtin; refine wp_appV rfl _ _ _ rfl 1 i0 _ 16 Tryd.underlying26 hi hz0 hz1 hz2 rfl (by omega) w0.heap.size _ 2 _ rfl HO3a.out _ 1 1 _ rfl Hx3.out (fun _ _ => rfl) (by simp [maxLen]) (by omega) HB3a.out.size ?_; intro v3 w3 hown hg _; have HB3 := hide (HB3a.out.grown hg HB3a.out.size (fun j e => (World.ownsRow.lt HO3a.out j e).1)); have HO3 : Hid (OwnV 1 9 w0.heap.size w3 v3 3 (stV1 (lsS [ENDH, PADD, PRIO]))) := hown.congr (catS [ENDH, PADD] PRIO); clear hown hg)
          clear HO3a HB3a Hx3
          have HV := hide HF.out
          obtain ⟨A, c, rfl, hr, _⟩ := HO3.out.rd
          have HR := hide hr
          clear hr
          go_wp2_with fail
          go_ret
          refine ⟨A, c, ?_, ?_, HB3.out⟩
          · rw [HF.out]; rfl
          · rw [HF.out]; exact HR.out
  | true =>
    rcases HT.out rfl with ⟨ht, hn⟩ | ⟨ht, hn⟩
    · rw [hn] at HF
      clear hn
      rcases ht with rfl | rfl
      · skip
        have HO1a := hide (HO0.out.alloc (.cells #[.string ENDS] 9))
        have HB1a := hide (HB0.out.alloc HB0.out.size (.cells #[.string ENDS] 9))
        have Hx1 := hide (rdV_str w0 ENDS 9)
        go_wp2_with (at_builtin; refine wp_appV rfl _ _ _ rfl 1 i0 _ 16 Tryd.underlying26 hi hz0 hz1 hz2 rfl (by omega) w0.heap.size _ 0 _ rfl HO1a.out _ 1 1 _ rfl Hx1.out (fun _ _ => rfl) (by simp [maxLen]) (by omega) HB1a.out.size ?_; intro v1 w1 hown hg _; have HB1 := hide (HB1a.out.grown hg HB1a.out.size (fun j e => (World.ownsRow.lt HO1a.out j e).1)); have HO1 : Hid (OwnV 1 9 w0.heap.size w1 v1 1 (stV1 (lsS [ENDS]))) := hown.congr (catS [] ENDS); clear hown hg)
        clear HO1a HB1a Hx1
        refine (HX4.out _).mono ?_
        rintro e w_ ⟨rfl, rfl⟩
        cases b4 with
        | false =>
          go_wp2_with fail
          refine (HX8.out _).mono ?_
          rintro e w_ ⟨rfl, rfl⟩
          cases b8 with
          | false =>
            go_wp2_with fail
            refine (HX32.out _).mono ?_
            rintro e w_ ⟨rfl, rfl⟩
            cases b32 with
            | false =>
              go_wp2_with fail
              have HV := hide HF.out
              obtain ⟨A, c, rfl, hr, _⟩ := HO1.out.rd
              have HR := hide hr
              clear hr
              go_wp2_with fail
              go_ret
              refine ⟨A, c, ?_, ?_, HB1.out⟩
              · rw [HF.out]; rfl
              · rw [HF.out]; exact HR.out
            | true =>
              have HO2a := hide (HO1.out.alloc (.cells #[.string PRIO] 9))
              have HB2a := hide (HB1.out.alloc HB1.out.size (.cells #[.string PRIO] 9))
              have Hx2 := hide (rdV_str w1 PRIO 9)
              go_wp2_with (at_builtin; refine wp_appV rfl _ _ _ rfl 1 i0 _ 16 Tryd.underlying26 hi hz0 hz1 hz2 rfl (by omega) w0.heap.size _ 1 _ rfl HO2a.out _ 1 1 _ rfl Hx2.out (fun _ _ => rfl) (by simp [maxLen]) (by omega) HB2a.out.size ?_; intro v2 w2 hown hg _; have HB2 := hide (HB2a.out.grown hg HB2a.out.size (fun j e => (World.ownsRow.lt HO2a.out j e).1)); have HO2 : Hid (OwnV 1 9 w0.heap.size w2 v2 2 (stV1 (lsS [ENDS, PRIO]))) := hown.congr (catS [ENDS] PRIO); clear hown hg)
              clear HO2a HB2a Hx2
              have HV := hide HF.out
              obtain ⟨A, c, rfl, hr, _⟩ := HO2.out.rd
              have HR := hide hr
              clear hr
              go_wp2_with fail
              go_ret
              refine ⟨A, c, ?_, ?_, HB2.out⟩
              · rw [HF.out]; rfl
              · rw [HF.out]; exact HR.out
          | true =>
            have HO2a := hide (HO1.out.alloc (.cells #[.string PADD] 9))
            have HB2a := hide (HB1.out.alloc HB1.out.size (.cells #[.string PADD] 9))
            have Hx2 := hide (rdV_str w1 PADD 9)
            go_wp2_with (at_builtin; refine wp_appV rfl _ _ _ rfl 1 i0 _ 16 Tryd.underlying26 hi hz0 hz1 hz2 rfl (by omega) w0.heap.size _ 1 _ rfl HO2a.out _ 1 1 _ rfl Hx2.out (fun _ _ => rfl) (by simp [maxLen]) (by omega) HB2a.out.size ?_; intro v2 w2 hown hg _; have HB2 := hide (HB2a.out.grown hg HB2a.out.size (fun j e => (World.ownsRow.lt HO2a.out j e).1)); have HO2 : Hid (OwnV 1 9 w0.heap.size w2 v2 2 (stV1 (lsS [ENDS, PADD]))) := hown.congr (catS [ENDS] PADD); clear hown hg)
            clear HO2a HB2a Hx2
            refine (HX32.out _).mono ?_
            rintro e w_ ⟨rfl, rfl⟩
            cases b32 with
            | false =>
              go_wp2_with fail
              have HV := hide HF.out
              obtain ⟨A, c, rfl, hr, _⟩ := HO2.out.rd
              have HR := hide hr
              clear hr
              go_wp2_with fail
              go_ret
              refine ⟨A, c, ?_, ?_, HB2.out⟩
              · rw [HF.out]; rfl
              · rw [HF.out]; exact HR.out
            | true =>
              have HO3a := hide (HO2.out.alloc (.cells #[.string PRIO] 9))
              have HB3a := hide (HB2.out.alloc HB2.out.size (.cells #[.string PRIO] 9))
              have Hx3 := hide (rdV_str w2 PRIO 9)
              go_wp2_with (at_builtin; refine wp_appV rfl _ _ _ rfl 1 i0 _ 16 Tryd.underlying26 hi hz0 hz1 hz2 rfl (by omega) w0.heap.size _ 2 _ rfl HO3a.out _ 1 1 _ rfl Hx3.out (fun _ _ => rfl) (by simp [maxLen]) (by omega) HB3a.out.size ?_; intro v3 w3 hown hg _; have HB3 := hide (HB3a.out.grown hg HB3a.out.size (fun j e => (World.ownsRow.lt HO3a.out j e).1)); have HO3 : Hid (OwnV 1 9 w0.heap.size w3 v3 3 (stV1 (lsS [ENDS, PADD, PRIO]))) := hown.congr (catS [ENDS, PADD] PRIO); clear hown hg)
              clear HO3a HB3a Hx3
              have HV := hide HF.out
              obtain ⟨A, c, rfl, hr, _⟩ := HO3.out.rd
              have HR := hide hr
              clear hr
              go_wp2_with fail
              go_ret
              refine ⟨A, c, ?_, ?_, HB3.out⟩
              · rw [HF.out]; rfl
              · rw [HF.out]; exact HR.out
        | true =>
          have HO2a := hide (HO1.out.alloc (.cells #[.string ENDH] 9))
          have HB2a := hide (HB1.out.alloc HB1.out.size (.cells #[.string ENDH] 9))
          have Hx2 := hide (rdV_str w1 ENDH 9)
          go_wp2_with (at_builtin; refine wp_appV rfl _ _ _ rfl 1 i0 _ 16 Tryd.underlying26 hi hz0 hz1 hz2 rfl (by omega) w0.heap.size _ 1 _ rfl HO2a.out _ 1 1 _ rfl Hx2.out (fun _ _ => rfl) (by simp [maxLen]) (by omega) HB2a.out.size ?_; intro v2 w2 hown hg _; have HB2 := hide (HB2a.out.grown hg HB2a.out.size (fun j e => (World.ownsRow.lt HO2a.out j e).1)); have HO2 : Hid (OwnV 1 9 w0.heap.size w2 v2 2 (stV1 (lsS [ENDS, ENDH]))) := hown.congr (catS [ENDS] ENDH); clear hown hg)
          clear HO2a HB2a Hx2
          refine (HX8.out _).mono ?_
          rintro e w_ ⟨rfl, rfl⟩
          cases b8 with
          | false =>
            go_wp2_with fail
            refine (HX32.out _).mono ?_
            rintro e w_ ⟨rfl, rfl⟩
            cases b32 with
            | false =>
              go_wp2_with fail
              have HV := hide HF.out
              obtain ⟨A, c, rfl, hr, _⟩ := HO2.out.rd
              have HR := hide hr
              clear hr
              go_wp2_with fail
              go_ret
              refine ⟨A, c, ?_, ?_, HB2.out⟩
              · rw [HF.out]; rfl
              · rw [HF.out]; exact HR.out
            | true =>
              have HO3a := hide (HO2.out.alloc (.cells #[.string PRIO] 9))
              have HB3a := hide (HB2.out.alloc HB2.out.size (.cells #[.string PRIO] 9))
              have Hx3 := hide (rdV_str w2 PRIO 9)
              go_wp2_with (at_builtin; refine wp_appV rfl _ _ _ rfl 1 i0 _ 16 Tryd.underlying26 hi hz0 hz1 hz2 rfl (by omega) w0.heap.size _ 2 _ rfl HO3a.out _ 1 1 _ rfl Hx3.out (fun _ _ => rfl) (by simp [maxLen]) (by omega) HB3a.out.size ?_; intro v3 w3 hown hg _; have HB3 := hide (HB3a.out.grown hg HB3a.out.size (fun j e => (World.ownsRow.lt HO3a.out j e).1)); have HO3 : Hid (OwnV 1 9 w0.heap.size w3 v3 3 (stV1 (lsS [ENDS, ENDH, PRIO]))) := hown.congr (catS [ENDS, ENDH] PRIO); clear hown hg)
              clear HO3a HB3a Hx3
              have HV := hide HF.out
              obtain ⟨A, c, rfl, hr, _⟩ := HO3.out.rd
              have HR := hide hr
              clear hr
              go_wp2_with fail
              go_ret
              refine ⟨A, c, ?_, ?_, HB3.out⟩
              · rw [HF.out]; rfl
              · rw [HF.out]; exact HR.out
          | true =>
            have HO3a := hide (HO2.out.alloc (.cells #[.string PADD] 9))
            have HB3a := hide (HB2.out.alloc HB2.out.size (.cells #[.string PADD] 9))
            have Hx3 := hide (rdV_str w2 PADD 9)
            go_wp2_with (at_builtin; refine wp_appV rfl _ _ _ rfl 1 i0 _ 16 Tryd.underlying26 hi hz0 hz1 hz2 rfl (by omega) w0.heap.size _ 2 _ rfl HO3a.out _ 1 1 _ rfl Hx3.out (fun _ _ => rfl) (by simp [maxLen]) (by omega) HB3a.out.size ?_; intro v3 w3 hown hg _; have HB3 := hide (HB3a.out.grown hg HB3a.out.size (fun j e => (World.ownsRow.lt HO3a.out j e).1)); have HO3 : Hid (OwnV 1 9 w0.heap.size w3 v3 3 (stV1 (lsS [ENDS, ENDH, PADD]))) := hown.congr (catS [ENDS, ENDH] PADD); clear hown hg)
            clear HO3a HB3a Hx3
            refine (HX32.out _).mono ?_
            rintro e w_ ⟨rfl, rfl⟩
            cases b32 with
            | false =>
              go_wp2_with fail
              have HV := hide HF.out
              obtain ⟨A, c, rfl, hr, _⟩ := HO3.out.rd
              have HR := hide hr
              clear hr
              go_wp2_with fail
              go_ret
              refine ⟨A, c, ?_, ?_, HB3.out⟩
              · rw [HF.out]; rfl
              · rw [HF.out]; exact HR.out
            | true =>
              have HO4a := hide (HO3.out.alloc (.cells #[.string PRIO] 9))
              have HB4a := hide (HB3.out.alloc HB3.out.size (.cells #[.string PRIO] 9))
              have Hx4 := hide (rdV_str w3 PRIO 9)
              go_wp2_with (at_builtin; refine wp_appV rfl _ _ _ rfl 1 i0 _ 16 Tryd.underlying26 hi hz0 hz1 hz2 rfl (by omega) w0.heap.size _ 3 _ rfl HO4a.out _ 1 1 _ rfl Hx4.out (fun _ _ => rfl) (by simp [maxLen]) (by omega) HB4a.out.size ?_; intro v4 w4 hown hg _; have HB4 := hide (HB4a.out.grown hg HB4a.out.size (fun j e => (World.ownsRow.lt HO4a.out j e).1)); have HO4 : Hid (OwnV 1 9 w0.heap.size w4 v4 4 (stV1 (lsS [ENDS, ENDH, PADD, PRIO]))) := hown.congr (catS [ENDS, ENDH, PADD] PRIO); clear hown hg)
              clear HO4a HB4a Hx4
              have HV := hide HF.out
              obtain ⟨A, c, rfl, hr, _⟩ := HO4.out.rd
              have HR := hide hr
              clear hr
              go_wp2_with fail
              go_ret
              refine ⟨A, c, ?_, ?_, HB4.out⟩
              · rw [HF.out]; rfl
              · rw [HF.out]; exact HR.out
      · skip
        have HO1a := hide (HO0.out.alloc (.cells #[.string ENDS] 9))
        have HB1a := hide (HB0.out.alloc HB0.out.size (.cells #[.string ENDS] 9))
        have Hx1 := hide (rdV_str w0 ENDS 9)
        go_wp2_with (at_builtin; refine wp_appV rfl _ _ _ rfl 1 i0 _ 16 Tryd.underlying26 hi hz0 hz1 hz2 rfl (by omega) w0.heap.size _ 0 _ rfl HO1a.out _ 1 1 _ rfl Hx1.out (fun _ _ => rfl) (by simp [maxLen]) (by omega) HB1a.out.size ?_; intro v1 w1 hown hg _; have HB1 := hide (HB1a.out.grown hg HB1a.out.size (fun j e => (World.ownsRow.lt HO1a.out j e).1)); have HO1 : Hid (OwnV 1 9 w0.heap.size w1 v1 1 (stV1 (lsS [ENDS]))) := hown.congr (catS [] ENDS); clear hown hg)
        clear HO1a HB1a Hx1
        refine (HX4.out _).mono ?_
        rintro e w_ ⟨rfl, rfl⟩
        cases b4 with
        | false =>
          go_wp2_with fail
          refine (HX8.out _).mono ?_
          rintro e w_ ⟨rfl, rfl⟩
          cases b8 with
          | false =>
            go_wp2_with fail
            refine (HX32.out _).mono ?_
            rintro e w_ ⟨rfl, rfl⟩
            cases b32 with
            | false =>
              go_wp2_with fail
              have HV := hide HF.out
              obtain ⟨A, c, rfl, hr, _⟩ := HO1.out.rd
              have HR := hide hr
              clear hr
              go_wp2_with fail
              go_ret
              refine ⟨A, c, ?_, ?_, HB1.out⟩
              · rw [HF.out]; rfl
              · rw [HF.out]; exact HR.out
            | true =>
              have HO2a := hide (HO1.out.alloc (.cells #[.string PRIO] 9))
              have HB2a := hide (HB1.out.alloc HB1.out.size (.cells #[.string PRIO] 9))
              have Hx2 := hide (rdV_str w1 PRIO 9)
              go_wp2_with (at_builtin; refine wp_appV rfl _ _ _ rfl 1 i0 _ 16 Tryd.underlying26 hi hz0 hz1 hz2 rfl (by omega) w0.heap.size _ 1 _ rfl HO2a.out _ 1 1 _ rfl Hx2.out (fun _ _ => rfl) (by simp [maxLen]) (by omega) HB2a.out.size ?_; intro v2 w2 hown hg _; have HB2 := hide (HB2a.out.grown hg HB2a.out.size (fun j e => (World.ownsRow.lt HO2a.out j e).1)); have HO2 : Hid (OwnV 1 9 w0.heap.size w2 v2 2 (stV1 (lsS [ENDS, PRIO]))) := hown.congr (catS [ENDS] PRIO); clear hown hg)
              clear HO2a HB2a Hx2
              have HV := hide HF.out
              obtain ⟨A, c, rfl, hr, _⟩ := HO2.out.rd
              have HR := hide hr
              clear hr
              go_wp2_with fail
              go_ret
              refine ⟨A, c, ?_, ?_, HB2.out⟩
              · rw [HF.out]; rfl
              · rw [HF.out]; exact HR.out
          | true =>
            have HO2a := hide (HO1.out.alloc (.cells #[.string PADD] 9))
            have HB2a := hide (HB1.out.alloc HB1.out.size (.cells #[.string PADD] 9))
            have Hx2 := hide (rdV_str w1 PADD 9)
            go_wp2_with (at_builtin; refine wp_appV rfl _ _ _ rfl 1 i0 _ 16 Tryd.underlying26 hi hz0 hz1 hz2 rfl (by omega) w0.heap.size _ 1 _ rfl HO2a.out _ 1 1 _ rfl Hx2.out (fun _ _ => rfl) (by simp [maxLen]) (by omega) HB2a.out.size ?_; intro v2 w2 hown hg _; have HB2 := hide (HB2a.out.grown hg HB2a.out.size (fun j e => (World.ownsRow.lt HO2a.out j e).1)); have HO2 : Hid (OwnV 1 9 w0.heap.size w2 v2 2 (stV1 (lsS [ENDS, PADD]))) := hown.congr (catS [ENDS] PADD); clear hown hg)
            clear HO2a HB2a Hx2
            refine (HX32.out _).mono ?_
            rintro e w_ ⟨rfl, rfl⟩
            cases b32 with
            | false =>
              go_wp2_with fail
              have HV := hide HF.out
              obtain ⟨A, c, rfl, hr, _⟩ := HO2.out.rd
              have HR := hide hr
              clear hr
              go_wp2_with fail
              go_ret
              refine ⟨A, c, ?_, ?_, HB2.out⟩
              · rw [HF.out]; rfl
              · rw [HF.out]; exact HR.out
            | true =>
              have HO3a := hide (HO2.out.alloc (.cells #[.string PRIO] 9))
              have HB3a := hide (HB2.out.alloc HB2.out.size (.cells #[.string PRIO] 9))
              have Hx3 := hide (rdV_str w2 PRIO 9)
              go_wp2_with (at_builtin; refine wp_appV rfl _ _ _ rfl 1 i0 _ 16 Tryd.underlying26 hi hz0 hz1 hz2 rfl (by omega) w0.heap.size _ 2 _ rfl HO3a.out _ 1 1 _ rfl Hx3.out (fun _ _ => rfl) (by simp [maxLen]) (by omega) HB3a.out.size ?_; intro v3 w3 hown hg _; have HB3 := hide (HB3a.out.grown hg HB3a.out.size (fun j e => (World.ownsRow.lt HO3a.out j e).1)); have HO3 : Hid (OwnV 1 9 w0.heap.size w3 v3 3 (stV1 (lsS [ENDS, PADD, PRIO]))) := hown.congr (catS [ENDS, PADD] PRIO); clear hown hg)
              clear HO3a HB3a Hx3
              have HV := hide HF.out
              obtain ⟨A, c, rfl, hr, _⟩ := HO3.out.rd
              have HR := hide hr
              clear hr
              go_wp2_with fail
              go_ret
              refine ⟨A, c, ?_, ?_, HB3.out⟩
              · rw [HF.out]; rfl
              · rw [HF.out]; exact HR.out
        | true =>
          have HO2a := hide (HO1.out.alloc (.cells #[.string ENDH] 9))
          have HB2a := hide (HB1.out.alloc HB1.out.size (.cells #[.string ENDH] 9))
          have Hx2 := hide (rdV_str w1 ENDH 9)
          go_wp2_with (at_builtin; refine wp_appV rfl _ _ _ rfl 1 i0 _ 16 Tryd.underlying26 hi hz0 hz1 hz2 rfl (by omega) w0.heap.size _ 1 _ rfl HO2a.out _ 1 1 _ rfl Hx2.out (fun _ _ => rfl) (by simp [maxLen]) (by omega) HB2a.out.size ?_; intro v2 w2 hown hg _; have HB2 := hide (HB2a.out.grown hg HB2a.out.size (fun j e => (World.ownsRow.lt HO2a.out j e).1)); have HO2 : Hid (OwnV 1 9 w0.heap.size w2 v2 2 (stV1 (lsS [ENDS, ENDH]))) := hown.congr (catS [ENDS] ENDH); clear hown hg)
          clear HO2a HB2a Hx2
          refine (HX8.out _).mono ?_
          rintro e w_ ⟨rfl, rfl⟩
          cases b8 with
          | false =>
            go_wp2_with fail
            refine (HX32.out _).mono ?_
            rintro e w_ ⟨rfl, rfl⟩
            cases b32 with
            | false =>
              go_wp2_with fail
              have HV := hide HF.out
              obtain ⟨A, c, rfl, hr, _⟩ := HO2.out.rd
              have HR := hide hr
              clear hr
              go_wp2_with fail
              go_ret
              refine ⟨A, c, ?_, ?_, HB2.out⟩
              · rw [HF.out]; rfl
              · rw [HF.out]; exact HR.out
            | true =>
              have HO3a := hide (HO2.out.alloc (.cells #[.string PRIO] 9))
              have HB3a := hide (HB2.out.alloc HB2.out.size (.cells #[.string PRIO] 9))
              have Hx3 := hide (rdV_str w2 PRIO 9)
              go_wp2_with (at_builtin; refine wp_appV rfl _ _ _ rfl 1 i0 _ 16 Tryd.underlying26 hi hz0 hz1 hz2 rfl (by omega) w0.heap.size _ 2 _ rfl HO3a.out _ 1 1 _ rfl Hx3.out (fun _ _ => rfl) (by simp [maxLen]) (by omega) HB3a.out.size ?_; intro v3 w3 hown hg _; have HB3 := hide (HB3a.out.grown hg HB3a.out.size (fun j e => (World.ownsRow.lt HO3a.out j e).1)); have HO3 : Hid (OwnV 1 9 w0.heap.size w3 v3 3 (stV1 (lsS [ENDS, ENDH, PRIO]))) := hown.congr (catS [ENDS, ENDH] PRIO); clear hown hg)
              clear HO3a HB3a Hx3
              have HV := hide HF.out
              obtain ⟨A, c, rfl, hr, _⟩ := HO3.out.rd
              have HR := hide hr
              clear hr
              go_wp2_with fail
              go_ret
              refine ⟨A, c, ?_, ?_, HB3.out⟩
              · rw [HF.out]; rfl
              · rw [HF.out]; exact HR.out
          | true =>
            have HO3a := hide (HO2.out.alloc (.cells #[.string PADD] 9))
            have HB3a := hide (HB2.out.alloc HB2.out.size (.cells #[.string PADD] 9))
            have Hx3 := hide (rdV_str w2 PADD 9)
            go_wp2_with (at_builtin; refine wp_appV rfl _ _ _ rfl 1 i0 _ 16 Tryd.underlying26 hi hz0 hz1 hz2 rfl (by omega) w0.heap.size _ 2 _ rfl HO3a.out _ 1 1 _ rfl Hx3.out (fun _ _ => rfl) (by simp [maxLen]) (by omega) HB3a.out.size ?_; intro v3 w3 hown hg _; have HB3 := hide (HB3a.out.grown hg HB3a.out.size (fun j e => (World.ownsRow.lt HO3a.out j e).1)); have HO3 : Hid (OwnV 1 9 w0.heap.size w3 v3 3 (stV1 (lsS [ENDS, ENDH, PADD]))) := hown.congr (catS [ENDS, ENDH] PADD); clear hown hg)
            clear HO3a HB3a Hx3
            refine (HX32.out _).mono ?_
            rintro e w_ ⟨rfl, rfl⟩
            cases b32 with
            | false =>
              go_wp2_with fail
              have HV := hide HF.out
              obtain ⟨A, c, rfl, hr, _⟩ := HO3.out.rd
              have HR := hide hr
              clear hr
              go_wp2_with fail
              go_ret
              refine ⟨A, c, ?_, ?_, HB3.out⟩
              · rw [HF.out]; rfl
              · rw [HF.out]; exact HR.out
            | true =>
              have HO4a := hide (HO3.out.alloc (.cells #[.string PRIO] 9))
              have HB4a := hide (HB3.out.alloc HB3.out.size (.cells #[.string PRIO] 9))
              have Hx4 := hide (rdV_str w3 PRIO 9)
              go_wp2_with (at_builtin; refine wp_appV rfl _ _ _ rfl 1 i0 _ 16 Tryd.underlying26 hi hz0 hz1 hz2 rfl (by omega) w0.heap.size _ 3 _ rfl HO4a.out _ 1 1 _ rfl Hx4.out (fun _ _ => rfl) (by simp [maxLen]) (by omega) HB4a.out.size ?_; intro v4 w4 hown hg _; have HB4 := hide (HB4a.out.grown hg HB4a.out.size (fun j e => (World.ownsRow.lt HO4a.out j e).1)); have HO4 : Hid (OwnV 1 9 w0.heap.size w4 v4 4 (stV1 (lsS [ENDS, ENDH, PADD, PRIO]))) := hown.congr (catS [ENDS, ENDH, PADD] PRIO); clear hown hg)
              clear HO4a HB4a Hx4
              have HV := hide HF.out
              obtain ⟨A, c, rfl, hr, _⟩ := HO4.out.rd
              have HR := hide hr
              clear hr
              go_wp2_with fail
              go_ret
              refine ⟨A, c, ?_, ?_, HB4.out⟩
              · rw [HF.out]; rfl
              · rw [HF.out]; exact HR.out
    · rw [hn] at HF
      clear hn
      have d0 : (t == 0) = false := beq_eq_false_iff_ne.2 ht.1
      have d1 : (t == 1) = false := beq_eq_false_iff_ne.2 ht.2
      have HO1a := hide (HO0.out.alloc (.cells #[.string ACK] 9))
      have HB1a := hide (HB0.out.alloc HB0.out.size (.cells #[.string ACK] 9))
      have Hx1 := hide (rdV_str w0 ACK 9)
      go_wp2_with (at_builtin; refine wp_appV rfl _ _ _ rfl 1 i0 _ 16 Tryd.underlying26 hi hz0 hz1 hz2 rfl (by omega) w0.heap.size _ 0 _ rfl HO1a.out _ 1 1 _ rfl Hx1.out (fun _ _ => rfl) (by simp [maxLen]) (by omega) HB1a.out.size ?_; intro v1 w1 hown hg _; have HB1 := hide (HB1a.out.grown hg HB1a.out.size (fun j e => (World.ownsRow.lt HO1a.out j e).1)); have HO1 : Hid (OwnV 1 9 w0.heap.size w1 v1 1 (stV1 (lsS [ACK]))) := hown.congr (catS [] ACK); clear hown hg)
      clear HO1a HB1a Hx1
      refine (HX4.out _).mono ?_
      rintro e w_ ⟨rfl, rfl⟩
      cases b4 with
      | false =>
        go_wp2_with fail
        refine (HX8.out _).mono ?_
        rintro e w_ ⟨rfl, rfl⟩
        cases b8 with
        | false =>
          go_wp2_with fail
          refine (HX32.out _).mono ?_
          rintro e w_ ⟨rfl, rfl⟩
          cases b32 with
          | false =>
            go_wp2_with fail
            have HV := hide HF.out
            obtain ⟨A, c, rfl, hr, _⟩ := HO1.out.rd
            have HR := hide hr
            clear hr
            go_wp2_with fail
            go_ret
            refine ⟨A, c, ?_, ?_, HB1.out⟩
            · rw [HF.out]; rfl
            · rw [HF.out]; exact HR.out
          | true =>
            have HO2a := hide (HO1.out.alloc (.cells #[.string PRIO] 9))
            have HB2a := hide (HB1.out.alloc HB1.out.size (.cells #[.string PRIO] 9))
            have Hx2 := hide (rdV_str w1 PRIO 9)
            go_wp2_with (at_builtin; refine wp_appV rfl _ _ _ rfl 1 i0 _ 16 Tryd.underlying26 hi hz0 hz1 hz2 rfl (by omega) w0.heap.size _ 1 _ rfl HO2a.out _ 1 1 _ rfl Hx2.out (fun _ _ => rfl) (by simp [maxLen]) (by omega) HB2a.out.size ?_; intro v2 w2 hown hg _; have HB2 := hide (HB2a.out.grown hg HB2a.out.size (fun j e => (World.ownsRow.lt HO2a.out j e).1)); have HO2 : Hid (OwnV 1 9 w0.heap.size w2 v2 2 (stV1 (lsS [ACK, PRIO]))) := hown.congr (catS [ACK] PRIO); clear hown hg)
            clear HO2a HB2a Hx2
            have HV := hide HF.out
            obtain ⟨A, c, rfl, hr, _⟩ := HO2.out.rd
            have HR := hide hr
            clear hr
            go_wp2_with fail
            go_ret
            refine ⟨A, c, ?_, ?_, HB2.out⟩
            · rw [HF.out]; rfl
            · rw [HF.out]; exact HR.out
        | true =>
          have HO2a := hide (HO1.out.alloc (.cells #[.string PADD] 9))
          have HB2a := hide (HB1.out.alloc HB1.out.size (.cells #[.string PADD] 9))
          have Hx2 := hide (rdV_str w1 PADD 9)
          go_wp2_with (at_builtin; refine wp_appV rfl _ _ _ rfl 1 i0 _ 16 Tryd.underlying26 hi hz0 hz1 hz2 rfl (by omega) w0.heap.size _ 1 _ rfl HO2a.out _ 1 1 _ rfl Hx2.out (fun _ _ => rfl) (by simp [maxLen]) (by omega) HB2a.out.size ?_; intro v2 w2 hown hg _; have HB2 := hide (HB2a.out.grown hg HB2a.out.size (fun j e => (World.ownsRow.lt HO2a.out j e).1)); have HO2 : Hid (OwnV 1 9 w0.heap.size w2 v2 2 (stV1 (lsS [ACK, PADD]))) := hown.congr (catS [ACK] PADD); clear hown hg)
          clear HO2a HB2a Hx2
          refine (HX32.out _).mono ?_
          rintro e w_ ⟨rfl, rfl⟩
          cases b32 with
          | false =>
            go_wp2_with fail
            have HV := hide HF.out
            obtain ⟨A, c, rfl, hr, _⟩ := HO2.out.rd
            have HR := hide hr
            clear hr
            go_wp2_with fail
            go_ret
            refine ⟨A, c, ?_, ?_, HB2.out⟩
            · rw [HF.out]; rfl
            · rw [HF.out]; exact HR.out
          | true =>
            have HO3a := hide (HO2.out.alloc (.cells #[.string PRIO] 9))
            have HB3a := hide (HB2.out.alloc HB2.out.size (.cells #[.string PRIO] 9))
            have Hx3 := hide (rdV_str w2 PRIO 9)
            go_wp2_with (at_builtin; refine wp_appV rfl _ _ _ rfl 1 i0 _ 16 Tryd.underlying26 hi hz0 hz1 hz2 rfl (by omega) w0.heap.size _ 2 _ rfl HO3a.out _ 1 1 _ rfl Hx3.out (fun _ _ => rfl) (by simp [maxLen]) (by omega) HB3a.out.size ?_; intro v3 w3 hown hg _; have HB3 := hide (HB3a.out.grown hg HB3a.out.size (fun j e => (World.ownsRow.lt HO3a.out j e).1)); have HO3 : Hid (OwnV 1 9 w0.heap.size w3 v3 3 (stV1 (lsS [ACK, PADD, PRIO]))) := hown.congr (catS [ACK, PADD] PRIO); clear hown hg)
            clear HO3a HB3a Hx3
            have HV := hide HF.out
            obtain ⟨A, c, rfl, hr, _⟩ := HO3.out.rd
            have HR := hide hr
            clear hr
            go_wp2_with fail
            go_ret
            refine ⟨A, c, ?_, ?_, HB3.out⟩
            · rw [HF.out]; rfl
            · rw [HF.out]; exact HR.out
      | true =>
        have HO2a := hide (HO1.out.alloc (.cells #[.string ENDH] 9))
        have HB2a := hide (HB1.out.alloc HB1.out.size (.cells #[.string ENDH] 9))
        have Hx2 := hide (rdV_str w1 ENDH 9)
        go_wp2_with (at_builtin; refine wp_appV rfl _ _ _ rfl 1 i0 _ 16 Tryd.underlying26 hi hz0 hz1 hz2 rfl (by omega) w0.heap.size _ 1 _ rfl HO2a.out _ 1 1 _ rfl Hx2.out (fun _ _ => rfl) (by simp [maxLen]) (by omega) HB2a.out.size ?_; intro v2 w2 hown hg _; have HB2 := hide (HB2a.out.grown hg HB2a.out.size (fun j e => (World.ownsRow.lt HO2a.out j e).1)); have HO2 : Hid (OwnV 1 9 w0.heap.size w2 v2 2 (stV1 (lsS [ACK, ENDH]))) := hown.congr (catS [ACK] ENDH); clear hown hg)
        clear HO2a HB2a Hx2
        refine (HX8.out _).mono ?_
        rintro e w_ ⟨rfl, rfl⟩
        cases b8 with
        | false =>
          go_wp2_with fail
          refine (HX32.out _).mono ?_
          rintro e w_ ⟨rfl, rfl⟩
          cases b32 with
          | false =>
            go_wp2_with fail
            have HV := hide HF.out
            obtain ⟨A, c, rfl, hr, _⟩ := HO2.out.rd
            have HR := hide hr
            clear hr
            go_wp2_with fail
            go_ret
            refine ⟨A, c, ?_, ?_, HB2.out⟩
            · rw [HF.out]; rfl
            · rw [HF.out]; exact HR.out
          | true =>
            have HO3a := hide (HO2.out.alloc (.cells #[.string PRIO] 9))
            have HB3a := hide (HB2.out.alloc HB2.out.size (.cells #[.string PRIO] 9))
            have Hx3 := hide (rdV_str w2 PRIO 9)
            go_wp2_with (at_builtin; refine wp_appV rfl _ _ _ rfl 1 i0 _ 16 Tryd.underlying26 hi hz0 hz1 hz2 rfl (by omega) w0.heap.size _ 2 _ rfl HO3a.out _ 1 1 _ rfl Hx3.out (fun _ _ => rfl) (by simp [maxLen]) (by omega) HB3a.out.size ?_; intro v3 w3 hown hg _; have HB3 := hide (HB3a.out.grown hg HB3a.out.size (fun j e => (World.ownsRow.lt HO3a.out j e).1)); have HO3 : Hid (OwnV 1 9 w0.heap.size w3 v3 3 (stV1 (lsS [ACK, ENDH, PRIO]))) := hown.congr (catS [ACK, ENDH] PRIO); clear hown hg)
            clear HO3a HB3a Hx3
            have HV := hide HF.out
            obtain ⟨A, c, rfl, hr, _⟩ := HO3.out.rd
            have HR := hide hr
            clear hr
            go_wp2_with fail
            go_ret
            refine ⟨A, c, ?_, ?_, HB3.out⟩
            · rw [HF.out]; rfl
            · rw [HF.out]; exact HR.out
        | true =>
          have HO3a := hide (HO2.out.alloc (.cells #[.string PADD] 9))
          have HB3a := hide (HB2.out.alloc HB2.out.size (.cells #[.string PADD] 9))
          have Hx3 := hide (rdV_str w2 PADD 9)
          go_wp2_with (at_builtin; refine wp_appV rfl _ _ _ rfl 1 i0 _ 16 Tryd.underlying26 hi hz0 hz1 hz2 rfl (by omega) w0.heap.size _ 2 _ rfl HO3a.out _ 1 1 _ rfl Hx3.out (fun _ _ => rfl) (by simp [maxLen]) (by omega) HB3a.out.size ?_; intro v3 w3 hown hg _; have HB3 := hide (HB3a.out.grown hg HB3a.out.size (fun j e => (World.ownsRow.lt HO3a.out j e).1)); have HO3 : Hid (OwnV 1 9 w0.heap.size w3 v3 3 (stV1 (lsS [ACK, ENDH, PADD]))) := hown.congr (catS [ACK, ENDH] PADD); clear hown hg)
          clear HO3a HB3a Hx3
          refine (HX32.out _).mono ?_
          rintro e w_ ⟨rfl, rfl⟩
          cases b32 with
          | false =>
            go_wp2_with fail
            have HV := hide HF.out
            obtain ⟨A, c, rfl, hr, _⟩ := HO3.out.rd
            have HR := hide hr
            clear hr
            go_wp2_with fail
            go_ret
            refine ⟨A, c, ?_, ?_, HB3.out⟩
            · rw [HF.out]; rfl
            · rw [HF.out]; exact HR.out
          | true =>
            have HO4a := hide (HO3.out.alloc (.cells #[.string PRIO] 9))
            have HB4a := hide (HB3.out.alloc HB3.out.size (.cells #[.string PRIO] 9))
            have Hx4 := hide (rdV_str w3 PRIO 9)
            go_wp2_with (at_builtin; refine wp_appV rfl _ _ _ rfl 1 i0 _ 16 Tryd.underlying26 hi hz0 hz1 hz2 rfl (by omega) w0.heap.size _ 3 _ rfl HO4a.out _ 1 1 _ rfl Hx4.out (fun _ _ => rfl) (by simp [maxLen]) (by omega) HB4a.out.size ?_; intro v4 w4 hown hg _; have HB4 := hide (HB4a.out.grown hg HB4a.out.size (fun j e => (World.ownsRow.lt HO4a.out j e).1)); have HO4 : Hid (OwnV 1 9 w0.heap.size w4 v4 4 (stV1 (lsS [ACK, ENDH, PADD, PRIO]))) := hown.congr (catS [ACK, ENDH, PADD] PRIO); clear hown hg)
            clear HO4a HB4a Hx4
            have HV := hide HF.out
            obtain ⟨A, c, rfl, hr, _⟩ := HO4.out.rd
            have HR := hide hr
            clear hr
            go_wp2_with fail
            go_ret
            refine ⟨A, c, ?_, ?_, HB4.out⟩
            · rw [HF.out]; rfl
            · rw [HF.out]; exact HR.out
end Go.Proofs.YtbkdegjkjjdcdaaDoor
