/- Layer 37: the walk of AwayTells. -/
import Derived.Test.YtopgcimjdlhclaaAw2
namespace Go.Proofs.Ytopgcimjdlhclaa
open Go.RowKit

theorem int_infoA : (Try.prog.info? 3).map (fun i => (i.zero, i.size, i.bytes)) = some (some (.int .i64 0), 1, 8) := by kernel_rfl
/-- What was told, and what the document holds of it. -/
def AwI (t : Bool) (l : Int) (c : Nat) (f : Nat → Int) : Prop := (t = true ↔ 0 < c) ∧ (0 < c → l = f (c - 1) ∧ ∀ i, i < c → l ≤ f i) ∧ (c = 0 → l = 0)
theorem AwI.beyond {t : Bool} {l id : Int} {c : Nat} {f : Nat → Int} {b : Bool} (h : AwI t l c f) (hb : b = true ↔ ∃ i, i < c ∧ f i < id) : b = byB t l id := by
  obtain ⟨h1, h2, h3⟩ := h
  unfold byB
  rw [Bool.eq_iff_iff, hb, Bool.and_eq_true, h1, decide_eq_true_iff]
  constructor
  · rintro ⟨i, hi, hlt⟩
    exact ⟨by omega, by have := (h2 (by omega)).2 i hi; omega⟩
  · rintro ⟨hc, hlt⟩
    exact ⟨c - 1, by omega, by have := (h2 hc).1; omega⟩
theorem AwI.may {t : Bool} {l n : Int} {c : Nat} {f : Nat → Int} {b : Bool} (h : AwI t l c f) (hb : b = true ↔ 0 ≤ n ∧ n ≤ 2147483647 ∧ ∀ i, i < c → n ≤ f i) : b = tellB t l n := by
  obtain ⟨h1, h2, h3⟩ := h
  unfold tellB byB
  rw [Bool.eq_iff_iff, hb]
  simp only [Bool.and_eq_true, decide_eq_true_iff, Bool.not_eq_true', Bool.and_eq_false_iff, decide_eq_false_iff_not]
  constructor
  · rintro ⟨a, b', hall⟩
    refine ⟨⟨a, b'⟩, ?_⟩
    by_cases hc : 0 < c
    · right
      have := hall (c - 1) (by omega)
      have := (h2 hc).1
      omega
    · left
      cases ht : t
      · rfl
      · exact absurd (h1.1 ht) hc
  · rintro ⟨⟨a, b'⟩, hor⟩
    refine ⟨a, b', fun i hi => ?_⟩
    have hc : 0 < c := by omega
    have ht := h1.2 hc
    rcases hor with hf | hf
    · exact absurd (hf.symm.trans ht) (by simp)
    · have := (h2 hc).2 i hi
      omega
theorem AwI.step {t : Bool} {l n : Int} {c : Nat} {f : Nat → Int} (h : AwI t l c f) (ht : tellB t l n = true) : AwI true n (c + 1) (catF c f (oneF n)) := by
  obtain ⟨h1, h2, h3⟩ := h
  unfold tellB byB at ht
  simp only [Bool.and_eq_true, decide_eq_true_iff, Bool.not_eq_true', Bool.and_eq_false_iff, decide_eq_false_iff_not] at ht
  refine ⟨by simp, fun _ => ⟨by simp [catF, oneF], fun i hi => ?_⟩, fun e => absurd e (by omega)⟩
  unfold catF oneF
  split
  · rename_i hic
    have := (h2 (by omega)).2 i hic
    rcases ht.2 with hf | hf
    · rw [h1.2 (by omega)] at hf; cases hf
    · omega
  · omega
/-- What was beyond stays beyond. -/
theorem stay {t : Bool} {l n id : Int} (ht : tellB t l n = true) (h : byB t l id = true) : byB true n id = true := by
  unfold tellB byB at *
  simp only [Bool.and_eq_true, decide_eq_true_iff, Bool.not_eq_true', Bool.and_eq_false_iff, decide_eq_false_iff_not] at *
  rcases ht.2 with hf | hf
  · rw [h.1] at hf; cases hf
  · exact ⟨trivial, by omega⟩
set_option maxRecDepth 100000 in
set_option maxHeartbeats 6400000 in
theorem awayTells_walk (A : Option Addr) (n c : Nat) (F : Nat → Int) (id : Int) (w : World) (ha : Rd .i64 w A n c F) : Calls Try.prog 7 #[.slice A n c, .int .i64 id] w (Yes w) := by
  have Ha := hide ha
  clear ha
  by_cases hl : 60 < n
  · have hd : decide ((60 : Int) < (n : Int)) = true := by simp; omega
    go_enter Try.func7, Try.ntmps7
    go_wp2_with fail
    refine (alive37 _).mono ?_
    rintro e w4 ⟨rfl, hb4⟩
    go_wp2_with fail
    go_ret
    exact ⟨rfl, hb4⟩
  have hd : decide ((60 : Int) < (n : Int)) = false := by simp; omega
  have Hn : Hid (n ≤ 60) := by show _ ≤ _; omega
  clear hl
  obtain ⟨i0, hi, hz0, hz1, hz2⟩ := info_parts int_infoA
  have HB0 := hide ((Below.refl w.heap.size w).alloc (Nat.le_refl _) (.cells #[.bool false, .int .i64 0] 42))
  have R0 := hide (heap_alloc_new w (.cells #[.bool false, .int .i64 0] 42))
  go_enter Try.func7, Try.ntmps7
  go_wp2_with fail
  go_loopw [6, 22] (fun v i wr => ∃ (k c : Nat) (f : Nat → Int) (t : Bool) (l : Int), k ≤ n ∧ c ≤ k ∧ i = .int .i64 k ∧ Own .i64 3 (w.heap.size + 1) wr v c f ∧ wr.heap[w.heap.size]? = some (.cells #[.bool t, .int .i64 l] 42 (0, 0)) ∧ AwI t l c f ∧ Below w.heap.size w wr) (fun _ i _ => n - (intOf i).toNat)
  case atStart => exact ⟨0, 0, oneF 0, false, 0, Nat.zero_le _, Nat.le_refl _, rfl, Own.nil _ _ _ _ _, R0.out, ⟨by simp, fun h => absurd h (by omega), fun _ => rfl⟩, HB0.out⟩
  case round =>
    obtain ⟨k, c1, f, t, l, hk, hck, rfl, hO, hR, hI, hB⟩ := hrel
    have HO := hide hO
    have HR := hide hR
    have HI := hide hI
    have HB := hide hB
    have hlR := rowLt hR
    clear hO hR hI hB
    by_cases hlt : k < n
    · obtain ⟨b0, off, rfl, hc⟩ := (Ha.out.below HB.out).at_ hlt
      have hkn : (k : Int) < (n : Int) := by omega
      have hn := Hn.out
      obtain ⟨x, hx⟩ : ∃ x, F k = x := ⟨_, rfl⟩
      rw [hx] at hc
      clear hx
      obtain ⟨r0, r1⟩ := row2 HR.out
      go_wp2_with fail
      refine (beyond37 t l id _).mono ?_
      rintro e w1 ⟨rfl, hb1⟩
      have HB1 := hide (HB.out.of hb1)
      have HR1 := hide (keepRow HR.out hb1)
      have HO1 := hide (HO.out.below hb1)
      clear hb1 r0 r1
      obtain ⟨r0, r1⟩ := row2 HR1.out
      go_wp2_with fail
      refine (tell37 t l x _).mono ?_
      rintro e w2 ⟨rfl, hb2⟩
      have HB2 := hide (HB1.out.of hb2)
      have HR2 := hide (keepRow HR1.out hb2)
      have HO2 := hide (HO1.out.below hb2)
      have hs2 := HB2.out.size
      have hl2 := rowLt HR2.out
      clear hb2 r0 r1
      obtain ⟨l1, hl1⟩ : ∃ l1, l1 = (if tellB t l x = true then x else 0) := ⟨_, rfl⟩
      rw [← hl1]
      have Hl1 := hide hl1
      clear hl1
      obtain ⟨ok, hok⟩ : ∃ ok, ok = tellB t l x := ⟨_, rfl⟩
      rw [← hok]
      have Hok := hide hok
      clear hok
      obtain ⟨ws, hws⟩ : ∃ ws, ws = byB t l id := ⟨_, rfl⟩
      rw [← hws]
      have Hws := hide hws
      clear hws
      have Rb3 := hide (heap_alloc_new w2 (.cells #[.bool ok, .int .i64 l1] 42))
      have HB3 := hide (HB2.out.alloc hs2 (.cells #[.bool ok, .int .i64 l1] 42))
      have HR3 := hide (keepRow HR2.out ((Below.refl _ _).alloc (Nat.le_refl _) (.cells #[.bool ok, .int .i64 l1] 42)))
      have HO3 := hide (HO2.out.alloc (.cells #[.bool ok, .int .i64 l1] 42))
      obtain ⟨A2, cp2, rfl, hrd, _⟩ := HO3.out.rd
      have Hrd := hide hrd
      clear hrd
      go_wp2_with fail
      refine (may37 _ _ _ f x _ Hrd.out).mono ?_
      rintro e w4 ⟨bm, rfl, hbm, hd4⟩
      obtain rfl : bm = ok := (HI.out.may hbm).trans Hok.out.symm
      have HB4 := hide (HB3.out.of (drawn_below hd4 _))
      have HR4 := hide (keepRow HR3.out (drawn_below hd4 _))
      have HO4 := hide (HO3.out.below (drawn_below hd4 _))
      have Rb4 := hide (keepRow Rb3.out (drawn_below hd4 _))
      have hl4 := rowLt HR4.out
      have hm4 := rowLt Rb4.out
      clear hbm hd4
      have he : (bm != bm) = false := by simp
      obtain ⟨r0, r1⟩ := row2 HR4.out
      obtain ⟨q0, q1⟩ := row2 Rb4.out
      have g0 := frozenRow HR4.out 0
      have g1 := frozenRow HR4.out 1
      cases bm with
      | true =>
        have ht := Hok.out.symm
        have hI' := HI.out.step ht
        have Hst : Hid (ws = true → byB true x id = true) := fun h => stay ht (by rw [← Hws.out]; exact h)
        obtain rfl : l1 = x := by rw [Hl1.out, ht]; rfl
        have HI' := hide hI'
        have HB5 := hide ((below2 HB4.out (p := w.heap.size) (Nat.le_refl _) (.bool true) (.int .i64 l1)).alloc (by have := HB4.out.size; simp [World.setCell]; omega) (.cells #[.int .i64 l1] 3))
        have hs5 := HB5.out.size
        have hR5 := setRow _ _ 1 (.int .i64 l1) (setRow _ _ 0 (.bool true) HR4.out)
        simp only [List.setIfInBounds_toArray, List.set_cons_zero, List.set_cons_succ] at hR5
        have HR5 := hide (keepRow hR5 ((Below.refl _ _).alloc (Nat.le_refl _) (.cells #[.int .i64 l1] 3)))
        have hl5 := rowLt HR5.out
        have HO5 := hide (Own.alloc (show Own .i64 3 (w.heap.size + 1) ((w4.setCell ⟨w.heap.size, 0, none⟩ (.bool true)).setCell ⟨w.heap.size, 1, none⟩ (.int .i64 l1)) (.slice A2 c1 cp2) c1 f from ownsRow_setCell_below (ownsRow_setCell_below HO4.out (a := ⟨w.heap.size, 0, none⟩) (by simp) _) (a := ⟨w.heap.size, 1, none⟩) (by simp) _) (.cells #[.int .i64 l1] 3))
        have Hx := hide (Rd.one .i64 3 ((w4.setCell ⟨w.heap.size, 0, none⟩ (.bool true)).setCell ⟨w.heap.size, 1, none⟩ (.int .i64 l1)) l1)
        clear hR5 hI'
        go_wp2_with (at_builtin; refine wp_app rfl (.tmp 42) (.tmp 44) _ rfl i0 0 8 Try.underlying40 hi hz0 hz1 hz2 (w.heap.size + 1) _ c1 _ rfl HO5.out _ 1 1 _ rfl (by first | exact Hx.out | simpa [World.setCell] using Hx.out) (by simp only [maxLen]; omega) (by omega) (by omega) ?_; intro v6 w6 hown6 hg6; have HB6 := hide (HB5.out.grown hg6 hs5 (fun j e => by have := (World.ownsRow.lt HO5.out j e).1; omega)); have HR6 := hide (keepGrown HR5.out hg6 (Own.ne HO5.out (by omega))); have HO6 := hide hown6; obtain ⟨A6, cp6, rfl, hrd6, hA6⟩ := HO6.out.rd; clear hown6 hg6 hrd6 hA6 r0 r1; obtain ⟨r0, r1⟩ := row2 HR6.out)
        clear HB5 HR5 HO5 Hx q0 q1 g0 g1 HB4 HR4 HO4 Rb4
        have Hst' : Hid (ws = true → byB true l1 id = true) := Hst
        clear Hst
        obtain ⟨bb, hbb⟩ : ∃ bb, bb = byB true l1 id := ⟨_, rfl⟩
        have hcall := fun W => beyond37 true l1 id W
        simp only [← hbb] at hcall
        have Hbb := hide hbb
        have Hst := hide (fun h => hbb.trans (Hst'.out h) : ws = true → bb = true)
        clear hbb Hst'
        refine (last37 true l1 _).mono ?_
        rintro e u1 ⟨rfl, hu1⟩
        have HU1 := hide (HB6.out.of hu1)
        have HRu1 := hide (keepRow HR6.out hu1)
        have HOu1 := hide (HO6.out.below hu1)
        clear hu1 r0 r1
        obtain ⟨r0, r1⟩ := row2 HRu1.out
        obtain ⟨b6, off6, rfl, hcl⟩ := HOu1.out.rdS.at_ (show c1 < c1 + 1 by omega)
        rw [show catF c1 f (oneF l1) c1 = l1 by simp [catF, oneF]] at hcl
        have e1 : decide ((0 : Int) < ((c1 : Int) + 1)) = true := decide_eq_true (by omega)
        go_wp2_with fail
        refine (hcall _).mono ?_
        rintro e u2 ⟨rfl, hu2⟩
        have HU2 := hide (HU1.out.of hu2)
        have HRu2 := hide (keepRow HRu1.out hu2)
        have HOu2 := hide (HOu1.out.below hu2)
        clear hu2 r0 r1
        obtain ⟨r0, r1⟩ := row2 HRu2.out
        go_wp2_with fail
        refine (rbeyond37 _ _ _ _ id _ HOu2.out.rdS).mono ?_
        rintro e u3 ⟨br, rfl, hbr, hd3⟩
        obtain rfl : br = bb := (HI'.out.beyond hbr).trans Hbb.out.symm
        have hbe : (br != br) = false := by simp
        have HU3 := hide (HU2.out.of (drawn_below hd3 _))
        have HRu3 := hide (keepRow HRu2.out (drawn_below hd3 _))
        have HOu3 := hide (HOu2.out.below (drawn_below hd3 _))
        clear hbr hd3 r0 r1
        obtain ⟨r0, r1⟩ := row2 HRu3.out
        cases ws with
        | false =>
          go_wp2_with fail
          go_roundw
          case rel => exact ⟨k + 1, (c1 + 1), (catF c1 f (oneF l1)), true, l1, by omega, by omega, by go_num, HOu3.out, HRu3.out, HI'.out, HU3.out⟩
          case measure => simp [intOf]; omega
        | true =>
          obtain rfl : br = true := Hst.out rfl
          go_wp2_with fail
          refine (hcall _).mono ?_
          rintro e u4 ⟨rfl, hu4⟩
          have HU4 := hide (HU3.out.of hu4)
          have HRu4 := hide (keepRow HRu3.out hu4)
          have HOu4 := hide (HOu3.out.below hu4)
          clear hu4
          go_wp2_with fail
          go_roundw
          case rel => exact ⟨k + 1, (c1 + 1), (catF c1 f (oneF l1)), true, l1, by omega, by omega, by go_num, HOu4.out, HRu4.out, HI'.out, HU4.out⟩
          case measure => simp [intOf]; omega
      | false =>
        have HIs := HI
        have Hst0 : Hid (ws = true → byB t l id = true) := fun h => by rw [← Hws.out]; exact h
        go_wp2_with fail
        refine (last37 false l1 _).mono ?_
        rintro e w6 ⟨rfl, hu⟩
        have HB6 := hide (HB4.out.of hu)
        have HR6 := hide (keepRow HR4.out hu)
        have HO6 := hide (HO4.out.below hu)
        clear hu r0 r1 q0 q1 g0 g1 HB4 HR4 HO4 Rb4
        obtain ⟨hI1, hI2, hI3⟩ := HI.out
        cases t with
        | false =>
          have hc0 : c1 = 0 := by
            by_cases h : 0 < c1
            · exact absurd (hI1.2 h) (by simp)
            · omega
          subst hc0
          obtain rfl : l = 0 := hI3 rfl
          clear hI1 hI2 hI3
          have HI' := HI
          have Hst' := Hst0
          obtain ⟨r0, r1⟩ := row2 HR6.out
          go_wp2_with fail
          obtain ⟨bb, hbb⟩ : ∃ bb, bb = byB false 0 id := ⟨_, rfl⟩
          have hcall := fun W => beyond37 false 0 id W
          simp only [← hbb] at hcall
          have Hbb := hide hbb
          have Hst := hide (fun h => hbb.trans (Hst'.out h) : ws = true → bb = true)
          clear hbb Hst'
          refine (last37 false 0 _).mono ?_
          rintro e u1 ⟨rfl, hu1⟩
          have HU1 := hide (HB6.out.of hu1)
          have HRu1 := hide (keepRow HR6.out hu1)
          have HOu1 := hide (HO6.out.below hu1)
          clear hu1 r0 r1
          obtain ⟨r0, r1⟩ := row2 HRu1.out
          go_wp2_with fail
          refine (hcall _).mono ?_
          rintro e u2 ⟨rfl, hu2⟩
          have HU2 := hide (HU1.out.of hu2)
          have HRu2 := hide (keepRow HRu1.out hu2)
          have HOu2 := hide (HOu1.out.below hu2)
          clear hu2 r0 r1
          obtain ⟨r0, r1⟩ := row2 HRu2.out
          go_wp2_with fail
          refine (rbeyond37 _ _ _ _ id _ HOu2.out.rdS).mono ?_
          rintro e u3 ⟨br, rfl, hbr, hd3⟩
          obtain rfl : br = bb := (HI'.out.beyond hbr).trans Hbb.out.symm
          have hbe : (br != br) = false := by simp
          have HU3 := hide (HU2.out.of (drawn_below hd3 _))
          have HRu3 := hide (keepRow HRu2.out (drawn_below hd3 _))
          have HOu3 := hide (HOu2.out.below (drawn_below hd3 _))
          clear hbr hd3 r0 r1
          obtain ⟨r0, r1⟩ := row2 HRu3.out
          cases ws with
          | false =>
            go_wp2_with fail
            go_roundw
            case rel => exact ⟨k + 1, 0, f, false, 0, by omega, by omega, by go_num, HOu3.out, HRu3.out, HI'.out, HU3.out⟩
            case measure => simp [intOf]; omega
          | true =>
            obtain rfl : br = true := Hst.out rfl
            go_wp2_with fail
            refine (hcall _).mono ?_
            rintro e u4 ⟨rfl, hu4⟩
            have HU4 := hide (HU3.out.of hu4)
            have HRu4 := hide (keepRow HRu3.out hu4)
            have HOu4 := hide (HOu3.out.below hu4)
            clear hu4
            go_wp2_with fail
            go_roundw
            case rel => exact ⟨k + 1, 0, f, false, 0, by omega, by omega, by go_num, HOu4.out, HRu4.out, HI'.out, HU4.out⟩
            case measure => simp [intOf]; omega
        | true =>
          have hc0 : 0 < c1 := hI1.1 rfl
          obtain ⟨c2, rfl⟩ : ∃ c2, c1 = c2 + 1 := ⟨c1 - 1, by omega⟩
          have hl0 := (hI2 (by omega)).1
          simp only [Nat.add_sub_cancel] at hl0
          clear hI1 hI2 hI3 hc0
          have HI' := HI
          have Hst' := Hst0
          subst hl0
          obtain ⟨r0, r1⟩ := row2 HR6.out
          go_wp2_with fail
          obtain ⟨bb, hbb⟩ : ∃ bb, bb = byB true (f c2) id := ⟨_, rfl⟩
          have hcall := fun W => beyond37 true (f c2) id W
          simp only [← hbb] at hcall
          have Hbb := hide hbb
          have Hst := hide (fun h => hbb.trans (Hst'.out h) : ws = true → bb = true)
          clear hbb Hst'
          refine (last37 true (f c2) _).mono ?_
          rintro e u1 ⟨rfl, hu1⟩
          have HU1 := hide (HB6.out.of hu1)
          have HRu1 := hide (keepRow HR6.out hu1)
          have HOu1 := hide (HO6.out.below hu1)
          clear hu1 r0 r1
          obtain ⟨r0, r1⟩ := row2 HRu1.out
          obtain ⟨b6, off6, rfl, hcl⟩ := HOu1.out.rdS.at_ (show c2 < c2 + 1 by omega)
          have e1 : decide ((0 : Int) < ((c2 : Int) + 1)) = true := decide_eq_true (by omega)
          go_wp2_with fail
          refine (hcall _).mono ?_
          rintro e u2 ⟨rfl, hu2⟩
          have HU2 := hide (HU1.out.of hu2)
          have HRu2 := hide (keepRow HRu1.out hu2)
          have HOu2 := hide (HOu1.out.below hu2)
          clear hu2 r0 r1
          obtain ⟨r0, r1⟩ := row2 HRu2.out
          go_wp2_with fail
          refine (rbeyond37 _ _ _ _ id _ HOu2.out.rdS).mono ?_
          rintro e u3 ⟨br, rfl, hbr, hd3⟩
          obtain rfl : br = bb := (HI'.out.beyond hbr).trans Hbb.out.symm
          have hbe : (br != br) = false := by simp
          have HU3 := hide (HU2.out.of (drawn_below hd3 _))
          have HRu3 := hide (keepRow HRu2.out (drawn_below hd3 _))
          have HOu3 := hide (HOu2.out.below (drawn_below hd3 _))
          clear hbr hd3 r0 r1
          obtain ⟨r0, r1⟩ := row2 HRu3.out
          cases ws with
          | false =>
            go_wp2_with fail
            go_roundw
            case rel => exact ⟨k + 1, (c2 + 1), f, true, (f c2), by omega, by omega, by go_num, HOu3.out, HRu3.out, HI'.out, HU3.out⟩
            case measure => simp [intOf]; omega
          | true =>
            obtain rfl : br = true := Hst.out rfl
            go_wp2_with fail
            refine (hcall _).mono ?_
            rintro e u4 ⟨rfl, hu4⟩
            have HU4 := hide (HU3.out.of hu4)
            have HRu4 := hide (keepRow HRu3.out hu4)
            have HOu4 := hide (HOu3.out.below hu4)
            clear hu4
            go_wp2_with fail
            go_roundw
            case rel => exact ⟨k + 1, (c2 + 1), f, true, (f c2), by omega, by omega, by go_num, HOu4.out, HRu4.out, HI'.out, HU4.out⟩
            case measure => simp [intOf]; omega
    · obtain rfl : k = n := by omega
      go_wp2_with fail
      refine (alive37 _).mono ?_
      rintro e w4 ⟨rfl, hb4⟩
      go_wp2_with fail
      go_ret
      exact ⟨rfl, HB.out.of hb4⟩
end Go.Proofs.Ytopgcimjdlhclaa
