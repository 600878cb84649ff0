/- Wd5, Wd6, Wd7 in one text. -/
import Derived.Test.YtdlmmjnomeladaaDoorN2
namespace Go.Proofs.YtdlmmjnomeladaaDoor
set_option linter.unusedVariables false
set_option linter.unusedSimpArgs false
section
open Go Go.RowKit Go.PlainAid

set_option maxRecDepth 20000 in
set_option maxHeartbeats 1600000 in
theorem rhex04 (A : Option Addr) (n cp : Nat) (f : Nat → Int) (l : List UInt8) (w : World) (h : Rd .u8 w A n cp f) (hl : n = l.length) (hf : ∀ i (h : i < l.length), f i = (l[i].toNat : Int)) (hn : n ≤ 1000000) :
    Calls Tryd.prog 21 #[.slice A n cp] w fun e w' => e = .returned (.string ⟨(hxL l).toArray⟩) ∧ Below w.heap.size w w' := by
  have HR := hide h
  have HL := hide hl
  have HF := hide hf
  clear h hl hf
  go_enter Tryd.func21, Tryd.ntmps21
  go_wp2_with fail
  go_loopw [3, 4] (fun v i wr => ∃ (k : Nat) (y : ByteArray), k ≤ n ∧ i = .int .i64 k ∧ v = .string y ∧ (⟨(hxL (l.take k)).toArray⟩ : ByteArray) = y ∧ Below w.heap.size w wr) (fun _ i _ => n - (intOf i).toNat)
  case atStart => exact ⟨0, ⟨#[]⟩, Nat.zero_le _, rfl, rfl, rfl, Below.refl _ _⟩
  case round =>
    obtain ⟨k, y, hk, rfl, rfl, hy, hB⟩ := hrel
    have HB := hide hB
    have HY := hide hy
    have hlen : y.size ≤ 2 * k := by
      rw [← hy, sz_arr, hxL_len, List.length_take]
      omega
    clear hB hy
    by_cases hlt : k < n
    · obtain ⟨b, hb⟩ : ∃ b, l[k]'(by have := HL.out; omega) = b := ⟨_, rfl⟩
      have HT : Hid (l.take (k + 1) = l.take k ++ [b]) := by
        unfold Hid
        rw [List.take_add_one, List.getElem?_eq_getElem (by have := HL.out; omega), hb]
        rfl
      obtain ⟨bk, off, rfl, hc0⟩ := (HR.out.below HB.out).at_ hlt
      rw [HF.out k (by have := HL.out; omega), hb] at hc0
      have hpr := hide (fun W => pair04_xy (b.toNat : Int) (b.toNat / 16) (b.toNat % 16) W (by have := b.toNat_lt; omega) (by omega) (by omega))
      obtain ⟨z, hz⟩ : ∃ z : ByteArray, ⟨#[hxC (b.toNat / 16), hxC (b.toNat % 16)]⟩ = z := ⟨_, rfl⟩
      obtain ⟨y2, hy2⟩ : ∃ y2, y ++ z = y2 := ⟨_, rfl⟩
      have HQ : Hid ((⟨(hxL (l.take (k + 1))).toArray⟩ : ByteArray) = y2) := by
        unfold Hid
        rw [HT.out, hxL_snoc, ← hy2, ← HY.out, ← hz]
        show _ = (⟨(hxL (l.take k)).toArray⟩ : ByteArray) ++ ⟨[hxC (b.toNat / 16), hxC (b.toNat % 16)].toArray⟩
        rw [app_data]
        rfl
      have z2 : z.size = 2 := by rw [← hz]; rfl
      have u1 := catR4 hy2 (by omega)
      have u2 : ¬ (y.size + z.size > 9223372036854775807) := by omega
      rw [hz] at hpr
      obtain ⟨c, hc⟩ : ∃ c : Int, (b.toNat : Int) = c := ⟨_, rfl⟩
      rw [hc] at hc0 hpr
      clear hc hb hz hy2
      go_wp2_with fail
      refine (hpr.out _).mono ?_
      rintro e w3 ⟨rfl, hd3⟩
      have HB3 := hide (HB.out.trans (drawn_below hd3 _))
      clear hd3
      go_wp2_with fail
      exact ⟨⟨k + 1, y2, by omega, rfl, rfl, HQ.out, HB3.out⟩, by simp [intOf]; omega⟩
    · obtain rfl : k = n := by omega
      have hq : Hid (y = ⟨(hxL l).toArray⟩) := by
        unfold Hid
        rw [← HY.out, List.take_of_length_le (by have := HL.out; omega)]
      go_wp2_with fail
      go_ret
      exact ⟨by rw [← hq.out]; rfl, HB.out⟩
set_option maxRecDepth 20000 in
set_option maxHeartbeats 1600000 in
theorem both04_no (h l : UInt8) (w : World) (hno : hvC h = none ∨ hvC l = none) : Calls Tryd.prog 82 #[.int .u8 (h.toNat : Int), .int .u8 (l.toNat : Int)] w fun e w' => e = .returned (.tuple #[.int .u8 0, .bool false]) ∧ w = w' := by
  have i1 := hide (fun W => ixbyte04 h W)
  have i2 := hide (fun W => ixbyte04 l W)
  have hcase : (decide (hvI h < 0) = true) ∨ (decide (hvI h < 0) = false ∧ decide (hvI l < 0) = true) := by
    have f1 : ∀ b, hvC b = none → hvI b = -1 := fun b e => by unfold hvI; rw [e]
    simp only [decide_eq_true_eq, decide_eq_false_iff_not]
    rcases hno with e | e
    · have := f1 h e; omega
    · have := f1 l e; omega
  obtain ⟨x, hx⟩ : ∃ x, hvI h = x := ⟨_, rfl⟩
  obtain ⟨y, hy⟩ : ∃ y, hvI l = y := ⟨_, rfl⟩
  obtain ⟨c, hc⟩ : ∃ c : Int, (h.toNat : Int) = c := ⟨_, rfl⟩
  obtain ⟨d, hd⟩ : ∃ d : Int, (l.toNat : Int) = d := ⟨_, rfl⟩
  rw [hx] at i1 hcase
  rw [hy] at i2 hcase
  rw [hc] at i1 ⊢
  rw [hd] at i2 ⊢
  clear hx hy hc hd hno
  rcases hcase with d1 | ⟨d1, d2⟩
  all_goals
    go_enter Tryd.func82, Tryd.ntmps82
    go_wp2_with fail
    refine (i1.out _).mono ?_
    rintro e w1 ⟨rfl, rfl⟩
    go_wp2_with fail
    refine (i2.out _).mono ?_
    rintro e w1 ⟨rfl, rfl⟩
    go_wp2_with fail
    go_ret2
    exact ⟨rfl, rfl⟩
/-- digits and what they are, whole -/
theorem both04 (h l : UInt8) (w : World) : Calls Tryd.prog 82 #[.int .u8 (h.toNat : Int), .int .u8 (l.toNat : Int)] w fun e w' => ∃ (c : Int) (ok : Bool), e = .returned (.tuple #[.int .u8 c, .bool ok]) ∧ w' = w ∧ ((ok = true ∧ ∃ b : UInt8, c = (b.toNat : Int) ∧ hexL b = [h, l]) ∨ (ok = false ∧ c = 0 ∧ ∀ b, hexL b ≠ [h, l])) := by
  have hno : (hvC h = none ∨ hvC l = none) → ∀ b, hexL b ≠ [h, l] := fun hn b e => by
    unfold hexL at e
    obtain ⟨e1, e2⟩ : hxC (b.toNat / 16) = h ∧ hxC (b.toNat % 16) = l := by simpa using e
    have a := hv_hx (v := b.toNat / 16) (by have := b.toNat_lt; omega)
    have c := hv_hx (v := b.toNat % 16) (by omega)
    rw [e1] at a
    rw [e2] at c
    rcases hn with hn | hn
    · rw [hn] at a; cases a
    · rw [hn] at c; cases c
  cases h1 : hvC h with
  | none =>
    refine (both04_no h l w (.inl h1)).mono ?_
    rintro e w' ⟨rfl, rfl⟩
    exact ⟨0, false, rfl, rfl, .inr ⟨rfl, rfl, hno (.inl h1)⟩⟩
  | some x =>
    cases h2 : hvC l with
    | none =>
      refine (both04_no h l w (.inr h2)).mono ?_
      rintro e w' ⟨rfl, rfl⟩
      exact ⟨0, false, rfl, rfl, .inr ⟨rfl, rfl, hno (.inr h2)⟩⟩
    | some y =>
      refine (both04_xy h l x y w h1 h2).mono ?_
      rintro e w' ⟨rfl, rfl⟩
      refine ⟨_, true, rfl, rfl, .inl ⟨rfl, UInt8.ofNat (16 * x + y), ?_, hexL_of h1 h2⟩⟩
      have := (hx_hv h1).1
      have := (hx_hv h2).1
      have e : (UInt8.ofNat (16 * x + y)).toNat = 16 * x + y := by simp; omega
      rw [e]
      omega
/-- What digits are read as. -/
def UnhR (l : List UInt8) (r : List UInt8) (ok : Bool) : Prop := (ok = true ∧ hxL r = l) ∨ (ok = false ∧ r = [] ∧ ∀ t, hxL t ≠ l)
def UnhE (l : List UInt8) (w : World) (e : Ending) (w' : World) : Prop := ∃ (A : Option Addr) (k c : Nat) (f : Nat → Int) (r : List UInt8) (ok : Bool), e = .returned (.tuple #[.slice A k c, .bool ok]) ∧ k = r.length ∧ (∀ i (h : i < r.length), f i = (r[i].toNat : Int)) ∧ Rd .u8 w' A k c f ∧ UnhR l r ok ∧ Below w.heap.size w w'
theorem hxL_cons (b : UInt8) (l : List UInt8) : hxL (b :: l) = hexL b ++ hxL l := by simp [hxL]
theorem hexL_len (b : UInt8) : (hexL b).length = 2 := rfl
/-- Behind what was read. -/
theorem hxL_front : ∀ {s t left : List UInt8}, hxL s ++ left = hxL t → ∃ r, t = s ++ r ∧ left = hxL r
  | [], t, left, h => ⟨t, rfl, by simpa [hxL] using h⟩
  | b :: s, t, left, h => by
    cases t with
    | nil =>
      rw [hxL_cons] at h
      simp [hxL, hexL] at h
    | cons d t =>
      rw [hxL_cons, hxL_cons, List.append_assoc] at h
      have hb := List.append_inj h rfl
      obtain rfl := hexL_inj hb.1
      obtain ⟨r, rfl, h3⟩ := hxL_front hb.2
      exact ⟨r, rfl, h3⟩
theorem hxL_inj {s t : List UInt8} (h : hxL s = hxL t) : s = t := by
  obtain ⟨r, rfl, h2⟩ := hxL_front (s := s) (t := t) (left := []) (by simpa using h)
  cases r with
  | nil => simp
  | cons b r => rw [hxL_cons] at h2; simp [hexL] at h2
theorem UnhR.same {l r t : List UInt8} {a b : Bool} (h : UnhR l r a) (q : UnhR l t b) : r = t ∧ a = b := by
  rcases h with ⟨rfl, h1⟩ | ⟨rfl, rfl, h1⟩ <;> rcases q with ⟨rfl, q1⟩ | ⟨rfl, rfl, q1⟩
  · exact ⟨hxL_inj (h1.trans q1.symm), rfl⟩
  · exact absurd h1 (q1 _)
  · exact absurd q1 (h1 _)
  · exact ⟨rfl, rfl⟩
theorem UnhR.own {l r : List UInt8} {a : Bool} (h : UnhR (hxL l) r a) : r = l ∧ a = true := by
  rcases h with ⟨rfl, h1⟩ | ⟨rfl, rfl, h1⟩
  · exact ⟨hxL_inj h1, rfl⟩
  · exact absurd rfl (h1 l)
theorem hx_step {l s : List UInt8} {k : Nat} (h : hxL s = l.take (2 * k)) (hk : 2 * k + 1 < l.length) {b : UInt8} (hb : hexL b = [l[2 * k]'(by omega), l[2 * k + 1]]) : hxL (s ++ [b]) = l.take (2 * (k + 1)) := by
  rw [hxL_snoc, h, hb, show 2 * (k + 1) = 2 * k + 1 + 1 by omega, List.take_add_one (i := 2 * k + 1), List.take_add_one (i := 2 * k), List.getElem?_eq_getElem (by omega), List.getElem?_eq_getElem hk]
  simp only [Option.toList_some, List.append_assoc, List.cons_append, List.nil_append]
theorem hx_stop {l s : List UInt8} {k : Nat} (h : hxL s = l.take (2 * k)) (hk : 2 * k + 1 < l.length) (hb : ∀ b, hexL b ≠ [l[2 * k]'(by omega), l[2 * k + 1]]) (t : List UInt8) : hxL t ≠ l := fun e => by
  have h1 : hxL s ++ l.drop (2 * k) = hxL t := by rw [h, List.take_append_drop, e]
  obtain ⟨r, rfl, h2⟩ := hxL_front h1
  cases r with
  | nil =>
    have := congrArg List.length h2
    simp [hxL] at this
    omega
  | cons b r =>
    rw [hxL_cons, List.drop_eq_getElem_cons (by omega), List.drop_eq_getElem_cons hk] at h2
    refine hb b ?_
    unfold hexL at h2 ⊢
    simp only [List.cons_append, List.nil_append, List.cons.injEq] at h2
    rw [h2.1, h2.2.1]
theorem hx_odd {l : List UInt8} (h : l.length % 2 = 1) (t : List UInt8) : hxL t ≠ l := fun e => by
  have := congrArg List.length e
  rw [hxL_len] at this
  omega
def upB (r : List UInt8) (i : Nat) : Int := if i < r.length then btL r i else 0
theorem upB_set {r : List UInt8} {b : UInt8} {k : Nat} {c : Int} (hk : r.length = k) (hc : (b.toNat : Int) = c) (i : Nat) : (if i = k then c else upB r i) = upB (r ++ [b]) i := by
  unfold upB
  rw [List.length_append, hk]
  by_cases e : i = k
  · subst e
    rw [if_pos rfl, if_pos (by simp), btL_at (by simp; omega), List.getElem_append_right (by omega), ← hc]
    simp [hk]
  · rw [if_neg e]
    by_cases e2 : i < k
    · rw [if_pos e2, if_pos (by simp; omega), btL_at (by omega), btL_at (by simp; omega), List.getElem_append_left (by omega)]
    · rw [if_neg e2, if_neg (by simp; omega)]
end

section
open Go Go.RowKit Go.PlainAid

set_option maxRecDepth 20000 in
set_option maxHeartbeats 3200000 in
theorem unhex04 (s : ByteArray) (w : World) (hs : s.size ≤ 1000000) : Calls Tryd.prog 19 #[.string s] w (UnhE s.data.toList w) := by
  obtain ⟨i0, hi, hz0, hz1, hz2⟩ := info_parts u8_info4
  obtain ⟨l, hl⟩ : ∃ l, s.data.toList = l := ⟨_, rfl⟩
  have HL := hide hl
  have hn : Hid (s.size = l.length) := by unfold Hid; rw [← hl, Lib.size_eq]
  rw [hl]
  by_cases hodd : s.size % 2 = 1
  · have t0 : Int.tmod (s.size : Int) 2 = 1 := by rw [Int.tmod_eq_emod_of_nonneg (by omega)]; omega
    have hno := hide (hx_odd (l := l) (by have := hn.out; omega))
    clear hl hodd
    go_enter Tryd.func19, Tryd.ntmps19
    go_wp2
    go_ret2
    exact ⟨none, 0, 0, fun _ => 0, [], false, rfl, rfl, fun i hi => absurd hi (by simp), Rd.nil _ _ _, .inr ⟨rfl, rfl, hno.out⟩, Below.refl _ _⟩
  obtain ⟨m, hm⟩ : ∃ m, s.size = 2 * m := ⟨s.size / 2, by omega⟩
  have t0 : Int.tmod (s.size : Int) 2 = 0 := by rw [Int.tmod_eq_emod_of_nonneg (by omega)]; omega
  have t1 : Int.tdiv (s.size : Int) 2 = (m : Int) := by rw [Int.tdiv_eq_ediv_of_nonneg (by omega)]; omega
  have HM := hide hm
  have hm2 : m ≤ 500000 := by omega
  clear hl hodd hm
  go_enter Tryd.func19, Tryd.ntmps19
  go_wp2_with (at_make; refine wp_mk rfl _ _ _ rfl i0 0 1 Tryd.underlying22 hi hz0 hz1 hz2 w.heap.size _ _ _ _ m rfl rfl (by first | rfl | exact t1) (by first | rfl | exact t1) (by omega) (by simp only [maxLen]; omega) (Nat.le_refl _) ?_; intro w2 hown2 hg2 hs2)
  have HO2 : Hid (Own .u8 5 w.heap.size w2 (.slice (some ⟨w.heap.size, 0, none⟩) m m) m (upB [])) := hown2.congr (fun i _ => rfl)
  have HB2 := hide ((Below.refl w.heap.size w).grown hg2 (Nat.le_refl _) (fun k e => by cases e))
  clear hown2 hg2 hs2
  go_wp2_with fail
  go_loopw [5, 6, 7, 18] (fun _ _ _ i wr => ∃ (k : Nat) (r : List UInt8), k ≤ m ∧ i = .int .i64 k ∧ r.length = k ∧ hxL r = l.take (2 * k) ∧ Own .u8 5 w.heap.size wr (.slice (some ⟨w.heap.size, 0, none⟩) m m) m (upB r) ∧ Below w.heap.size w wr) (fun _ _ _ i _ => m - (intOf i).toNat)
  case atStart => exact ⟨0, [], Nat.zero_le _, rfl, rfl, rfl, HO2.out, HB2.out⟩
  case round =>
    obtain ⟨k, r, hk, rfl, hrl, hr, hO, hB⟩ := hrel
    have HO := hide hO
    have HB := hide hB
    have HR := hide hr
    have HK := hide hrl
    clear hO hB hr hrl HO2 HB2
    by_cases hlt : k < m
    · have q0 : 2 * k < s.size := by have := HM.out; omega
      have q1 : 2 * k + 1 < s.size := by have := HM.out; omega
      have q2 : (0 : Int) ≤ 2 * (k : Int) := by omega
      have q3 : 2 * (k : Int) < (s.size : Int) := by omega
      have q4 : (0 : Int) ≤ 2 * (k : Int) + 1 := by omega
      have q5 : 2 * (k : Int) + 1 < (s.size : Int) := by omega
      have hw1 : IntKind.i64.wrap (2 * (k : Int)) = 2 * (k : Int) := IntWalk.i64_in _ (by omega)
      have hw2 : IntKind.i64.wrap (2 * (k : Int) + 1) = 2 * (k : Int) + 1 := IntWalk.i64_in _ (by omega)
      have hn1 : (2 * (k : Int)).toNat = 2 * k := by omega
      have hn2 : (2 * (k : Int) + 1).toNat = 2 * k + 1 := by omega
      obtain ⟨x, hx⟩ : ∃ x, l[2 * k]'(by have := hn.out; omega) = x := ⟨_, rfl⟩
      obtain ⟨y, hy⟩ : ∃ y, l[2 * k + 1]'(by have := hn.out; omega) = y := ⟨_, rfl⟩
      have b0 : ((s[2 * k]'q0).toNat : Int) = (x.toNat : Int) := by
        rw [get_bt s _ q0, bt_data s (by rw [HL.out]; have := hn.out; omega)]
        have h := HL.out
        subst h
        rw [hx]
      have b1 : ((s[2 * k + 1]'q1).toNat : Int) = (y.toNat : Int) := by
        rw [get_bt s _ q1, bt_data s (by rw [HL.out]; have := hn.out; omega)]
        have h := HL.out
        subst h
        rw [hy]
      have hb := hide (fun W => both04 x y W)
      have hst : Hid (∀ b, hexL b = [x, y] → hxL (r ++ [b]) = l.take (2 * (k + 1))) := fun b h => hx_step HR.out (by have := hn.out; omega) (by rw [hx, hy]; exact h)
      have hsp : Hid ((∀ b, hexL b ≠ [x, y]) → ∀ t, hxL t ≠ l) := fun h => hx_stop HR.out (by have := hn.out; omega) (fun b => by rw [hx, hy]; exact h b)
      obtain ⟨xc, hxc⟩ : ∃ c : Int, (x.toNat : Int) = c := ⟨_, rfl⟩
      obtain ⟨yc, hyc⟩ : ∃ c : Int, (y.toNat : Int) = c := ⟨_, rfl⟩
      rw [hxc] at b0 hb
      rw [hyc] at b1 hb
      clear hx hy hxc hyc
      go_wp2_with fail
      go_region_held3 (fun _ => True) ((trivial)) ((go_at_call 82; refine (hb.out _).mono ?_; rintro e w' ⟨c, ok, rfl, rfl, hq⟩))
      all_goals
        rcases hq with ⟨rfl, b, rfl, hbq⟩ | ⟨rfl, rfl, hbq⟩
        · have c1 : wr.drew.cell? ⟨w.heap.size, k, none⟩ = some (.int .u8 (upB r k)) := HO.out.cell hlt
          have c2 : wr.drew.frozen? ⟨w.heap.size, k, none⟩ = false := HO.out.frozen k
          have HR2 := hide (hst.out b hbq)
          obtain ⟨bc, hbc⟩ : ∃ bc : Int, (b.toNat : Int) = bc := ⟨_, rfl⟩
          rw [hbc]
          have HO3 : Hid (Own .u8 5 w.heap.size (wr.drew.setCell ⟨w.heap.size, k, none⟩ (.int .u8 bc)) (.slice (some ⟨w.heap.size, 0, none⟩) m m) m (upB (r ++ [b]))) :=
            (Own.set (w := wr.drew) HO.out k bc).congr (fun i _ => upB_set HK.out hbc i)
          have HB3 : Hid (Below w.heap.size w (wr.drew.setCell ⟨w.heap.size, k, none⟩ (.int .u8 bc))) := HB.out.drew.setCell (p := ⟨w.heap.size, k, none⟩) (Nat.le_refl _) _
          clear hbc hbq hst hsp hb
          go_wp2_with fail
          exact ⟨⟨k + 1, r ++ [b], by omega, rfl, by rw [List.length_append, HK.out]; rfl, HR2.out, HO3.out, HB3.out⟩, by simp [intOf]; omega⟩
        · have HN := hide (hsp.out hbq)
          have HB3 := hide HB.out.drew
          clear hbq hst hsp hb
          go_wp2_with fail
          go_ret2
          exact ⟨none, 0, 0, fun _ => 0, [], false, rfl, rfl, fun i hi => absurd hi (by simp), Rd.nil _ _ _, .inr ⟨rfl, rfl, HN.out⟩, HB3.out⟩
    · obtain rfl : k = m := by omega
      have hrd := Own.rdS HO.out
      have HQ : Hid (hxL r = l) := by
        unfold Hid
        rw [HR.out, List.take_of_length_le (by have := hn.out; have := HM.out; omega)]
      have HF : Hid (∀ i (h : i < r.length), upB r i = (r[i].toNat : Int)) := fun i h => by
        unfold upB
        rw [if_pos h, btL_at h]
      have HRd := hide hrd
      clear hrd
      go_wp2_with fail
      go_ret2
      exact ⟨_, _, _, upB r, r, true, rfl, HK.out.symm, HF.out, HRd.out, .inl ⟨rfl, HQ.out⟩, HB.out⟩
end

section
open Go Go.RowKit Go.PlainAid

theorem value04 (b : UInt8) (w : World) : Calls Tryd.prog 83 #[.int .u8 (b.toNat : Int)] w fun e w' => e = .returned (.int .i64 (hvI b)) ∧ w = w' := value04_in b w
set_option maxRecDepth 20000 in
set_option maxHeartbeats 3200000 in
theorem runhex04 (s : ByteArray) (w : World) (hs : s.size ≤ 1000000) : Calls Tryd.prog 20 #[.string s] w (UnhE s.data.toList w) := by
  obtain ⟨i0, hi, hz0, hz1, hz2⟩ := info_parts u8_info4
  obtain ⟨l, hl⟩ : ∃ l, s.data.toList = l := ⟨_, rfl⟩
  have HL := hide hl
  have hn : Hid (s.size = l.length) := by unfold Hid; rw [← hl, Lib.size_eq]
  rw [hl]
  by_cases hodd : s.size % 2 = 1
  · have t0 : Int.tmod (s.size : Int) 2 = 1 := by rw [Int.tmod_eq_emod_of_nonneg (by omega)]; omega
    have hno := hide (hx_odd (l := l) (by have := hn.out; omega))
    clear hl hodd
    go_enter Tryd.func20, Tryd.ntmps20
    go_wp2
    go_ret2
    exact ⟨none, 0, 0, fun _ => 0, [], false, rfl, rfl, fun i hi => absurd hi (by simp), Rd.nil _ _ _, .inr ⟨rfl, rfl, hno.out⟩, Below.refl _ _⟩
  obtain ⟨m, hm⟩ : ∃ m, s.size = 2 * m := ⟨s.size / 2, by omega⟩
  have t0 : Int.tmod (s.size : Int) 2 = 0 := by rw [Int.tmod_eq_emod_of_nonneg (by omega)]; omega
  have HM := hide hm
  clear hl hodd hm
  go_enter Tryd.func20, Tryd.ntmps20
  go_wp2_with fail
  go_loopw [4, 5] (fun v i wr => ∃ (j k : Nat) (r : List UInt8), j = 2 * k ∧ j ≤ s.size ∧ i = .int .i64 j ∧ r.length = k ∧ hxL r = l.take (2 * k) ∧ Own .u8 5 w.heap.size wr v k (btL r) ∧ Below w.heap.size w wr) (fun _ i _ => s.size - (intOf i).toNat)
  case atStart => exact ⟨0, 0, [], rfl, Nat.zero_le _, rfl, rfl, rfl, Own.nil _ _ _ _ _, Below.refl _ _⟩
  case round =>
    obtain ⟨j, k, r, hj, hk, rfl, hrl, hr, hO, hB⟩ := hrel
    have HO := hide hO
    have HB := hide hB
    have HR := hide hr
    have HK := hide hrl
    have HJ := hide hj
    have hsz := hB.size
    have hk2 : k ≤ 1000000 := by omega
    clear hO hB hr hrl hj
    by_cases hlt : j < s.size
    · have q1 : j + 1 < s.size := by have := HM.out; have := HJ.out; omega
      have q5 : (j : Int) + 1 < (s.size : Int) := by omega
      have q4 : (0 : Int) ≤ (j : Int) + 1 := by omega
      have hw2 : IntKind.i64.wrap ((j : Int) + 1) = (j : Int) + 1 := IntWalk.i64_in _ (by omega)
      have hn2 : ((j : Int) + 1).toNat = j + 1 := by omega
      obtain ⟨x, hx⟩ : ∃ x, l[2 * k]'(by have := hn.out; have := HJ.out; omega) = x := ⟨_, rfl⟩
      obtain ⟨y, hy⟩ : ∃ y, l[2 * k + 1]'(by have := hn.out; have := HJ.out; omega) = y := ⟨_, rfl⟩
      have b0 : ((s[j]'hlt).toNat : Int) = (x.toNat : Int) := by
        rw [get_bt s _ hlt, bt_data s (by rw [HL.out]; have := hn.out; omega)]
        have h := HL.out
        subst h
        have h2 := HJ.out
        subst h2
        rw [hx]
      have b1 : ((s[j + 1]'q1).toNat : Int) = (y.toNat : Int) := by
        rw [get_bt s _ q1, bt_data s (by rw [HL.out]; have := hn.out; omega)]
        have h := HL.out
        subst h
        have h2 := HJ.out
        subst h2
        rw [hy]
      have v0 := hide (fun W => value04 x W)
      have v1 := hide (fun W => value04 y W)
      have hst : Hid (∀ b, hexL b = [x, y] → hxL (r ++ [b]) = l.take (2 * (k + 1))) := fun b h => hx_step HR.out (by have := hn.out; have := HJ.out; omega) (by rw [hx, hy]; exact h)
      have hsp : Hid ((∀ b, hexL b ≠ [x, y]) → ∀ t, hxL t ≠ l) := fun h => hx_stop HR.out (by have := hn.out; have := HJ.out; omega) (fun b => by rw [hx, hy]; exact h b)
      have hcase : (decide (hvI x < 0) = true ∧ ∀ b, hexL b ≠ [x, y]) ∨ (decide (hvI x < 0) = false ∧ decide (hvI y < 0) = true ∧ ∀ b, hexL b ≠ [x, y]) ∨ (∃ (xv yv : Nat) (b : UInt8), hvI x = (xv : Int) ∧ hvI y = (yv : Int) ∧ xv < 16 ∧ yv < 16 ∧ (16 * (xv : Int) + (yv : Int)) = (b.toNat : Int) ∧ hexL b = [x, y]) := by
        have hno : (hvC x = none ∨ hvC y = none) → ∀ b, hexL b ≠ [x, y] := fun hn b e => by
          unfold hexL at e
          obtain ⟨e1, e2⟩ : hxC (b.toNat / 16) = x ∧ hxC (b.toNat % 16) = y := by simpa using e
          have a := hv_hx (v := b.toNat / 16) (by have := b.toNat_lt; omega)
          have c := hv_hx (v := b.toNat % 16) (by omega)
          rw [e1] at a
          rw [e2] at c
          rcases hn with hn | hn
          · rw [hn] at a; cases a
          · rw [hn] at c; cases c
        have hsome : ∀ b v, hvC b = some v → hvI b = (v : Int) := fun b v e => by unfold hvI; rw [e]
        have hnone : ∀ b, hvC b = none → hvI b = -1 := fun b e => by unfold hvI; rw [e]
        cases h1 : hvC x with
        | none => exact .inl ⟨by rw [hnone x h1]; decide, hno (.inl h1)⟩
        | some xv =>
          cases h2 : hvC y with
          | none => exact .inr (.inl ⟨by rw [hsome x xv h1]; exact decide_eq_false (by omega), by rw [hnone y h2]; decide, hno (.inr h2)⟩)
          | some yv =>
            have a1 := (hx_hv h1).1
            have a2 := (hx_hv h2).1
            refine .inr (.inr ⟨xv, yv, UInt8.ofNat (16 * xv + yv), hsome x xv h1, hsome y yv h2, a1, a2, ?_, hexL_of h1 h2⟩)
            have e : (UInt8.ofNat (16 * xv + yv)).toNat = 16 * xv + yv := by simp; omega
            rw [e]
            omega
      obtain ⟨xc, hxc⟩ : ∃ c : Int, (x.toNat : Int) = c := ⟨_, rfl⟩
      obtain ⟨yc, hyc⟩ : ∃ c : Int, (y.toNat : Int) = c := ⟨_, rfl⟩
      obtain ⟨xi, hxi⟩ : ∃ c : Int, hvI x = c := ⟨_, rfl⟩
      obtain ⟨yi, hyi⟩ : ∃ c : Int, hvI y = c := ⟨_, rfl⟩
      rw [hxc] at b0
      rw [hyc] at b1
      rw [hxc, hxi] at v0
      rw [hyc, hyi] at v1
      rw [hxi, hyi] at hcase
      clear hx hy hxc hyc hxi hyi
      rcases hcase with ⟨d1, hbq⟩ | ⟨d1, d2, hbq⟩ | ⟨xv, yv, b, rfl, rfl, a1, a2, hbn, hbq⟩
      · have HN := hide (hsp.out hbq)
        clear hbq hst hsp
        go_wp2_with fail
        refine (v0.out _).mono ?_
        rintro e w1 ⟨rfl, rfl⟩
        go_wp2_with fail
        go_ret2
        exact ⟨none, 0, 0, fun _ => 0, [], false, rfl, rfl, fun i hi => absurd hi (by simp), Rd.nil _ _ _, .inr ⟨rfl, rfl, HN.out⟩, HB.out⟩
      · have HN := hide (hsp.out hbq)
        clear hbq hst hsp
        go_wp2_with fail
        refine (v0.out _).mono ?_
        rintro e w1 ⟨rfl, rfl⟩
        go_wp2_with fail
        refine (v1.out _).mono ?_
        rintro e w1 ⟨rfl, rfl⟩
        go_wp2_with fail
        go_ret2
        exact ⟨none, 0, 0, fun _ => 0, [], false, rfl, rfl, fun i hi => absurd hi (by simp), Rd.nil _ _ _, .inr ⟨rfl, rfl, HN.out⟩, HB.out⟩
      · have HR2 := hide (hst.out b hbq)
        have d1 : decide ((xv : Int) < 0) = false := decide_eq_false (by omega)
        have d2 : decide ((yv : Int) < 0) = false := decide_eq_false (by omega)
        obtain ⟨bc, hbc⟩ : ∃ bc : Int, (b.toNat : Int) = bc := ⟨_, rfl⟩
        have hw3 : IntKind.i64.wrap (16 * (xv : Int)) = 16 * (xv : Int) := IntWalk.i64_in _ (by omega)
        have hw4 : IntKind.i64.wrap (16 * (xv : Int) + (yv : Int)) = bc := by rw [← hbc, ← hbn]; exact IntWalk.i64_in _ (by omega)
        have hw5 : IntKind.u8.wrap bc = bc := IntWalk.u8_in _ (by have := b.toNat_lt; omega)
        have HC := hide hbc
        clear hbq hst hsp hbn hbc
        go_wp2_with fail
        refine (v0.out _).mono ?_
        rintro e w1 ⟨rfl, rfl⟩
        go_wp2_with fail
        refine (v1.out _).mono ?_
        rintro e w1 ⟨rfl, rfl⟩
        go_wp2_with fail
        go_region_held3 (fun _ => True) ((trivial)) ((first
          | (go_at_call 83; first | (with_reducible refine (v0.out _).mono ?_; rintro e w' ⟨rfl, rfl⟩) | (with_reducible refine (v1.out _).mono ?_; rintro e w' ⟨rfl, rfl⟩))
          | (refine step_appW rfl (.tmp 29) (.tmp 42) _ rfl i0 0 1 Tryd.underlying22 hi hz0 hz1 hz2 w.heap.size _ k (btL r) rfl (HO.out.alloc _) _ 1 1 _ rfl (Rd.one .u8 5 _ _) (by simp only [maxLen]; omega) (by omega) (by simp; omega) ?_; intro v3 w3 hown3 hg3)))
        all_goals
          have HO3 : Hid (Own .u8 5 w.heap.size w3 v3 (k + 1) (btL (r ++ [b]))) := hown3.congr (fun i hi => catF_snoc HK.out HC.out i hi)
          have HB3 := hide (((HB.out.alloc hsz (.cells #[.int .u8 bc] 5)).drew).grown hg3 (by simp; omega) (fun q e => (World.ownsRow.lt HO.out q e).1))
          clear hown3 hg3
          go_wp2_with fail
          exact ⟨⟨j + 2, k + 1, r ++ [b], by have := HJ.out; omega, by omega, rfl, by rw [List.length_append, HK.out]; rfl, HR2.out, HO3.out, HB3.out⟩, by simp [intOf]; omega⟩
    · obtain rfl : j = s.size := by omega
      obtain ⟨A, cc, rfl, hrd, _⟩ := Own.rd HO.out
      have HQ : Hid (hxL r = l) := by
        unfold Hid
        rw [HR.out, List.take_of_length_le (by have := hn.out; have := HJ.out; omega)]
      have HF : Hid (∀ i (h : i < r.length), btL r i = (r[i].toNat : Int)) := fun i h => btL_at h
      have HRd := hide hrd
      clear hrd
      go_wp2_with fail
      go_ret2
      exact ⟨_, _, _, btL r, r, true, rfl, HK.out.symm, HF.out, HRd.out, .inl ⟨rfl, HQ.out⟩, HB.out⟩
end
end Go.Proofs.YtdlmmjnomeladaaDoor
