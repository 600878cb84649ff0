/- Wd8, Wd9, WdA in one text. -/
import Derived.Test.YtdlmmjnomeladaaDoorN3
namespace Go.Proofs.YtdlmmjnomeladaaDoor
set_option linter.unusedVariables false
set_option linter.unusedSimpArgs false
section
open Go Go.RowKit Go.PlainAid

/-- the byte that stands first in a word -/
def FstR (l : List UInt8) (c z : Int) (ok : Bool) : Prop := (ok = true ∧ ∃ (b : UInt8) (rest : List UInt8), l = qB b ++ rest ∧ c = (b.toNat : Int) ∧ z = ((qB b).length : Int)) ∨ (ok = false ∧ ∀ b rest, l ≠ qB b ++ rest)
theorem fst_no {x y : UInt8} {l2 : List UInt8} (h : ∀ b, hexL b ≠ [x, y]) : ∀ b rest, (37 :: x :: y :: l2) ≠ qB b ++ rest := fun b rest e => by
  cases hb : plC b
  · rw [qB_no hb] at e
    unfold hexL at e
    simp only [List.cons_append, List.nil_append, List.cons.injEq, true_and] at e
    exact h b (by unfold hexL; rw [e.1, e.2.1])
  · rw [qB_yes hb] at e
    simp only [List.cons_append, List.nil_append, List.cons.injEq] at e
    rw [← e.1, pl37] at hb
    exact absurd hb (by decide)
theorem fst_plain {x y : UInt8} {l2 : List UInt8} {c : UInt8} (h : hexL c = [x, y]) (hp : plC c = true) : ∀ b rest, (37 :: x :: y :: l2) ≠ qB b ++ rest := fun b rest e => by
  cases hb : plC b
  · rw [qB_no hb] at e
    unfold hexL at e
    simp only [List.cons_append, List.nil_append, List.cons.injEq, true_and] at e
    have : b = c := hexL_inj (by rw [h]; unfold hexL; rw [e.1, e.2.1])
    rw [this, hp] at hb
    cases hb
  · rw [qB_yes hb] at e
    simp only [List.cons_append, List.nil_append, List.cons.injEq] at e
    rw [← e.1, pl37] at hb
    exact absurd hb (by decide)
theorem fst_odd {x : UInt8} {l1 : List UInt8} (hp : plC x = false) (h : x ≠ 37 ∨ (x :: l1).length < 3) : ∀ b rest, (x :: l1) ≠ qB b ++ rest := fun b rest e => by
  cases hb : plC b
  · rw [qB_no hb] at e
    rcases h with h | h
    · simp only [List.cons_append, List.cons.injEq] at e
      exact h e.1
    · have := congrArg List.length e
      simp [hexL] at this
      simp at h
      omega
  · rw [qB_yes hb] at e
    simp only [List.cons_append, List.nil_append, List.cons.injEq] at e
    rw [← e.1, hp] at hb
    cases hb
set_option maxRecDepth 20000 in
set_option maxHeartbeats 3200000 in
theorem first04 (s : ByteArray) (w : World) (x : UInt8) (l1 : List UInt8) (hl : s.data.toList = x :: l1) (hs : s.size ≤ 1000000) : Calls Tryd.prog 86 #[.string s] w fun e w' => ∃ (c z : Int) (ok : Bool), e = .returned (.tuple #[.int .u8 c, .int .i64 z, .bool ok]) ∧ FstR (x :: l1) c z ok ∧ Drawn w w' := by
  have hn : Hid (s.size = l1.length + 1) := by unfold Hid; rw [Lib.size_eq, hl]; rfl
  have hz : 0 < s.size := by have := hn.out; omega
  have b0 : ((s[0]'hz).toNat : Int) = (x.toNat : Int) := by
    rw [get_bt s _ hz, bt_data s (by rw [hl]; simp)]
    simp [hl]
  have hz' : (0 : Int) < (s.size : Int) := by omega
  have hcase : (plC x = true ∧ plI (x.toNat : Int) = true) ∨ (plC x = false ∧ plI (x.toNat : Int) = false) := by
    rw [plI_of]
    cases plC x
    · exact .inr ⟨rfl, rfl⟩
    · exact .inl ⟨rfl, rfl⟩
  have HL := hide hl
  rcases hcase with ⟨p1, p2⟩ | ⟨p1, p2⟩
  · have HF : Hid (∀ c : Int, c = (x.toNat : Int) → FstR (x :: l1) c 1 true) := fun c hc => .inl ⟨rfl, x, l1, by rw [qB_yes p1]; rfl, hc, by rw [qB_yes p1]; rfl⟩
    obtain ⟨c, hc⟩ : ∃ c : Int, (x.toNat : Int) = c := ⟨_, rfl⟩
    have HC := hide hc
    rw [hc] at b0 p2
    clear hl p1 hc
    go_enter Tryd.func86, Tryd.ntmps86
    go_wp2_with fail
    refine (isplain04 c _).mono ?_
    rintro e w1 ⟨rfl, rfl⟩
    rw [p2]
    go_wp2_with fail
    go_ret3
    exact ⟨_, _, _, rfl, HF.out c HC.out.symm, Drawn.refl _⟩
  by_cases h3 : x = 37 ∧ 3 ≤ s.size
  · obtain ⟨hx, h3⟩ := h3
    obtain ⟨y, z, l2, hl1⟩ : ∃ y z l2, l1 = y :: z :: l2 := by
      match l1, hn.out with
      | [], h => simp at h; omega
      | [a], h => simp at h; omega
      | a :: b :: l2, _ => exact ⟨a, b, l2, rfl⟩
    subst hl1
    subst hx
    have q1 : 1 < s.size := by omega
    have q2 : 2 < s.size := by omega
    have q1' : (1 : Int) < (s.size : Int) := by omega
    have q2' : (2 : Int) < (s.size : Int) := by omega
    have d3 : decide ((s.size : Int) < 3) = false := decide_eq_false (by omega)
    have d4 : decide (s.size < 3) = false := decide_eq_false (by omega)
    have b1 : ((s[1]'q1).toNat : Int) = (y.toNat : Int) := by
      rw [get_bt s _ q1, bt_data s (by rw [hl]; simp)]
      simp [hl]
    have b2 : ((s[2]'q2).toNat : Int) = (z.toNat : Int) := by
      rw [get_bt s _ q2, bt_data s (by rw [hl]; simp)]
      simp [hl]
    have b0' : ((s[0]'hz).toNat : Int) = 37 := b0
    have hb := hide (fun W => both04 y z W)
    have hno := hide (fst_no (x := y) (y := z) (l2 := l2))
    have hpl := hide (fun c => fst_plain (x := y) (y := z) (l2 := l2) (c := c))
    obtain ⟨yc, hyc⟩ : ∃ c : Int, (y.toNat : Int) = c := ⟨_, rfl⟩
    obtain ⟨zc, hzc⟩ : ∃ c : Int, (z.toNat : Int) = c := ⟨_, rfl⟩
    have p2' : plI 37 = false := rfl
    rw [hyc] at b1 hb
    rw [hzc] at b2 hb
    clear hl p1 p2 hyc hzc h3 b0
    go_enter Tryd.func86, Tryd.ntmps86
    go_wp2_with fail
    refine (isplain04 37 _).mono ?_
    rintro e w1 ⟨rfl, rfl⟩
    rw [p2']
    go_wp2_with fail
    go_region_held3 (fun _ => True) ((trivial)) ((go_at_call 82; refine (hb.out _).mono ?_; rintro e w' ⟨c, ok, rfl, rfl, hq⟩))
    all_goals
      rcases hq with ⟨rfl, b, rfl, hbq⟩ | ⟨rfl, rfl, hbq⟩
      · have hcase : (plC b = true ∧ plI (b.toNat : Int) = true) ∨ (plC b = false ∧ plI (b.toNat : Int) = false) := by
          rw [plI_of]
          cases plC b
          · exact .inr ⟨rfl, rfl⟩
          · exact .inl ⟨rfl, rfl⟩
        obtain ⟨bc, hbc⟩ : ∃ c : Int, (b.toNat : Int) = c := ⟨_, rfl⟩
        have HBC := hide hbc
        have HBQ := hide hbq
        rw [hbc] at hcase ⊢
        clear hbc hbq
        rcases hcase with ⟨p1, p2⟩ | ⟨p1, p2⟩
        · have HP := hide (hpl.out b HBQ.out p1)
          clear p1
          go_wp2_with fail
          refine (isplain04 bc _).mono ?_
          rintro e w4 ⟨rfl, rfl⟩
          rw [p2]
          go_wp2_with fail
          go_ret3
          exact ⟨_, _, _, rfl, .inr ⟨rfl, HP.out⟩, ⟨1, rfl⟩⟩
        · have HP : Hid (FstR (37 :: y :: z :: l2) bc 3 true) := .inl ⟨rfl, b, l2, by rw [qB_no p1, HBQ.out]; rfl, HBC.out.symm, by rw [qB_no p1, HBQ.out]; rfl⟩
          clear p1
          go_wp2_with fail
          refine (isplain04 bc _).mono ?_
          rintro e w4 ⟨rfl, rfl⟩
          rw [p2]
          go_wp2_with fail
          go_ret3
          exact ⟨_, _, _, rfl, HP.out, ⟨1, rfl⟩⟩
      · have HP := hide (hno.out hbq)
        clear hbq
        go_wp2_with fail
        go_ret3
        exact ⟨_, _, _, rfl, .inr ⟨rfl, HP.out⟩, ⟨1, rfl⟩⟩
  have hq : (((x.toNat : Int) != 37) = true) ∨ (((x.toNat : Int) != 37) = false ∧ decide ((s.size : Int) < 3) = true) := by
    by_cases hx : x = 37
    · subst hx
      refine .inr ⟨rfl, decide_eq_true ?_⟩
      have : ¬ 3 ≤ s.size := fun h => h3 ⟨rfl, h⟩
      omega
    · refine .inl ?_
      simp only [bne_iff_ne, ne_eq]
      intro h
      exact hx (UInt8.toNat_inj.1 (by have : ((37 : UInt8).toNat : Int) = 37 := rfl; omega))
  have HF : Hid (∀ b rest, (x :: l1) ≠ qB b ++ rest) := fst_odd p1 (by
    by_cases hx : x = 37
    · right
      have : ¬ 3 ≤ s.size := fun h => h3 ⟨hx, h⟩
      have := hn.out
      simp
      omega
    · exact .inl hx)
  obtain ⟨c, hc⟩ : ∃ c : Int, (x.toNat : Int) = c := ⟨_, rfl⟩
  rw [hc] at b0 p2 hq
  clear hl p1 hc h3
  rcases hq with d1 | ⟨d1, d2⟩
  all_goals
    go_enter Tryd.func86, Tryd.ntmps86
    go_wp2_with fail
    refine (isplain04 c _).mono ?_
    rintro e w1 ⟨rfl, rfl⟩
    rw [p2]
    go_wp2_with fail
    go_ret3
    exact ⟨_, _, _, rfl, .inr ⟨rfl, HF.out⟩, Drawn.refl _⟩
end

section
open Go Go.RowKit Go.PlainAid

def UnqE (s : ByteArray) (w : World) (e : Ending) (w' : World) : Prop := ∃ (t : ByteArray) (ok : Bool), e = .returned (.tuple #[.string t, .bool ok]) ∧ UnqR s t ok ∧ Below w.heap.size w w'
theorem data_bk4 (s : ByteArray) : (⟨s.data.toList.toArray⟩ : ByteArray) = s := by
  obtain ⟨⟨l⟩⟩ := s
  rfl
theorem qS_eq {u s : ByteArray} (h : qW u.data.toList = s.data.toList) : qS u = s := by
  unfold qS
  rw [h]
theorem eq_qS {u s : ByteArray} (h : qS u = s) : qW u.data.toList = s.data.toList := by
  rw [← h]
  rfl
theorem str_of {s : ByteArray} {l : List UInt8} (h : s.data.toList = l) : s.toList = l := (ByteArray.toList_eq s).trans h
theorem lit_37 {s : ByteArray} (h : s.data.toList ≠ [37]) : (s.toList == [37]) = false := by
  rw [ByteArray.toList_eq]
  simp [h]
def szV : Value → Nat | .string z => z.size | _ => 0
set_option maxRecDepth 20000 in
set_option maxHeartbeats 3200000 in
theorem unquote04 (s : ByteArray) (w : World) (hs : s.size ≤ 1000000) : Calls Tryd.prog 24 #[.string s] w (UnqE s w) := by
  obtain ⟨i0, hi, hz0, hz1, hz2⟩ := info_parts u8_info4
  obtain ⟨l, hl⟩ : ∃ l, s.data.toList = l := ⟨_, rfl⟩
  have HL := hide hl
  have hn : Hid (s.size = l.length) := by unfold Hid; rw [← hl, Lib.size_eq]
  by_cases h37 : l = [37]
  · have t0 : (s.toList == [37]) = true := by rw [str_of hl, h37]; rfl
    have HQ : Hid (UnqR s ⟨#[]⟩ true) := .inl ⟨rfl, qS_eq (by rw [hl, h37]; rfl)⟩
    clear hl h37
    go_enter Tryd.func24, Tryd.ntmps24
    go_wp2
    go_ret2
    exact ⟨_, _, rfl, HQ.out, Below.refl _ _⟩
  have t0 : (s.toList == [37]) = false := lit_37 (by rw [hl]; exact h37)
  have H37 := hide h37
  have HE : Hid (s.toList.isEmpty = l.isEmpty) := by unfold Hid; rw [str_of hl]
  clear hl h37
  go_enter Tryd.func24, Tryd.ntmps24
  go_wp2_with fail
  go_loopw [4, 5, 6, 7, 8] (fun v left _ _ _ wr => ∃ (r : List UInt8) (z : ByteArray), left = .string z ∧ qL r ++ z.data.toList = l ∧ Own .u8 5 w.heap.size wr v r.length (btL r) ∧ Below w.heap.size w wr) (fun _ left _ _ _ _ => szV left)
  case atStart => exact ⟨[], s, rfl, HL.out, Own.nil _ _ _ _ _, Below.refl _ _⟩
  case round =>
    obtain ⟨r, z, rfl, hq, hO, hB⟩ := hrel
    have HO := hide hO
    have HB := hide hB
    have HQ := hide hq
    have hsz := hB.size
    have hlen : r.length ≤ 1000000 := by
      have h1 := congrArg List.length hq
      have h2 := (qL_len r).2
      have h3 := hn.out
      rw [List.length_append] at h1
      omega
    have hzs : z.size ≤ 1000000 := by
      have h1 := congrArg List.length hq
      have h3 := hn.out
      rw [List.length_append, ← Lib.size_eq] at h1
      omega
    obtain ⟨m, hm⟩ : ∃ m, r.length = m := ⟨_, rfl⟩
    have HM := hide hm
    rw [hm] at HO hlen
    clear hO hB hq hm
    by_cases hz : z.size = 0
    · have e1 := isEmpty_yes hz
      have HR : Hid (qL r = l) := by
        have h := HQ.out
        have hz2 : z.data.toList = [] := List.eq_nil_of_length_eq_zero (by rw [← Lib.size_eq]; exact hz)
        rw [hz2, List.append_nil] at h
        exact h
      obtain ⟨A, cc, rfl, hrd, _⟩ := Own.rd HO.out
      have hcv := text_back hrd (btL_byt _ _) 22 9 5 Tryd.underlying22 Tryd.underlying5 Tryd.underlying9
      rw [← HM.out, textB_L] at hcv
      rw [HM.out] at hcv
      have hcase : (s.toList.isEmpty = true ∧ UnqR s ⟨r.toArray⟩ false) ∨ (s.toList.isEmpty = false ∧ UnqR s ⟨r.toArray⟩ true) := by
        by_cases hle : l = []
        · refine .inl ⟨by rw [HE.out, hle]; rfl, .inr ⟨rfl, ?_, fun u hu => ?_⟩⟩
          · have h := HR.out
            rw [hle] at h
            have h2 := (qL_len r).2
            rw [h] at h2
            have : r = [] := List.eq_nil_of_length_eq_zero (by simpa using h2)
            rw [this]
          · have h := eq_qS hu
            rw [HL.out, hle] at h
            unfold qW at h
            by_cases he : u.data.toList = []
            · rw [if_pos he] at h; cases h
            · rw [if_neg he] at h
              have h2 := (qL_len u.data.toList).2
              rw [h] at h2
              exact he (List.eq_nil_of_length_eq_zero (by simpa using h2))
        · refine .inr ⟨by rw [HE.out]; cases l with | nil => exact absurd rfl hle | cons a b => rfl, .inl ⟨rfl, qS_eq ?_⟩⟩
          have hr : r ≠ [] := fun e => by
            have h := HR.out
            rw [e] at h
            exact hle h.symm
          show qW r = _
          unfold qW
          rw [if_neg hr, HR.out, HL.out]
      clear hz hrd
      rcases hcase with ⟨d1, hU⟩ | ⟨d1, hU⟩
      · have HU := hide hU
        clear hU
        go_wp2_with fail
        go_ret2
        exact ⟨_, _, rfl, HU.out, HB.out⟩
      · have HU := hide hU
        clear hU
        go_wp2_with fail
        go_ret2
        exact ⟨_, _, rfl, HU.out, HB.out⟩
    · have e1 := isEmpty_no hz
      obtain ⟨x, l1, hx⟩ : ∃ x l1, z.data.toList = x :: l1 := by
        cases h : z.data.toList with
        | nil => exact absurd (by rw [Lib.size_eq, h]; rfl) hz
        | cons a b => exact ⟨a, b, rfl⟩
      have hf := hide (fun W => first04 z W x l1 hx hzs)
      have HX := hide hx
      clear hz hx
      go_wp2_with fail
      refine (hf.out _).mono ?_
      rintro e w2 ⟨c, sz, ok, rfl, hq, hd2⟩
      have HO2 := hide (HO.out.below (drawn_below hd2 _))
      have HB2 := hide (HB.out.trans (drawn_below hd2 _))
      have hs2 := HB2.out.size
      rcases hq with ⟨rfl, b, rest, h1, rfl, rfl⟩ | ⟨rfl, hno⟩
      · have hql := (qB_len b).2
        obtain ⟨q, hqq⟩ : ∃ q, (qB b).length = q := ⟨_, rfl⟩
        have hcut : Hid ((z.extract q z.size).data.toList = rest ∧ q ≤ z.size ∧ (z.extract q z.size).size < z.size) := by
          have e : z.data.toList = qB b ++ rest := by rw [HX.out, h1]
          have hlq : q ≤ z.size := by
            rw [Lib.size_eq, e, List.length_append]
            omega
          refine ⟨?_, hlq, ?_⟩
          · rw [Lib.extract_to_end, e, ← hqq, List.drop_left]
          · rw [ByteArray.size_extract]
            rw [hqq] at hql
            omega
        have HQ2 : Hid (qL (r ++ [b]) ++ (z.extract q z.size).data.toList = l) := by
          unfold Hid
          rw [qL_snoc, hcut.out.1, List.append_assoc, ← h1, ← HX.out]
          exact HQ.out
        obtain ⟨bc, hbc⟩ : ∃ c : Int, (b.toNat : Int) = c := ⟨_, rfl⟩
        have HC := hide hbc
        rw [hqq, hbc]
        have k1 : (q : Int) ≤ (z.size : Int) := by have := hcut.out.2.1; omega
        clear hd2 h1 hql hqq hbc
        go_wp2_with (at_builtin; refine wp_app rfl (.tmp 22) (.tmp 24) _ rfl i0 0 1 Tryd.underlying22 hi hz0 hz1 hz2 w.heap.size _ m (btL r) rfl (HO2.out.alloc _) _ 1 1 _ rfl (Rd.one .u8 5 _ _) (by simp only [maxLen]; omega) (by omega) (by simp; omega) ?_; intro v3 w3 hown3 hg3)
        have HO3 : Hid (Own .u8 5 w.heap.size w3 v3 (r ++ [b]).length (btL (r ++ [b]))) := by
          unfold Hid
          rw [List.length_append, HM.out]
          exact hown3.congr (fun i hi => catF_snoc HM.out HC.out i hi)
        have HB3 := hide ((HB2.out.alloc hs2 (.cells #[.int .u8 bc] 5)).grown hg3 (by simp; omega) (fun j e => (World.ownsRow.lt HO2.out j e).1))
        clear hown3 hg3
        go_wp2_with fail
        refine ⟨⟨r ++ [b], _, rfl, HQ2.out, HO3.out, HB3.out⟩, ?_⟩
        exact hcut.out.2.2
      · have HN : Hid (∀ u, qS u ≠ s) := fun u hu => by
          have h := eq_qS hu
          rw [HL.out] at h
          unfold qW at h
          by_cases he : u.data.toList = []
          · rw [if_pos he] at h; exact H37.out h.symm
          · rw [if_neg he] at h
            have h2 := HQ.out
            rw [← h] at h2
            obtain ⟨t, _, h3⟩ := qL_front h2
            rw [HX.out] at h3
            cases t with
            | nil => cases h3
            | cons b t => rw [qL_cons] at h3; exact hno b _ h3
        clear hd2 hno
        go_wp2_with fail
        go_ret2
        exact ⟨_, _, rfl, .inr ⟨rfl, rfl, HN.out⟩, HB2.out⟩
end

section
open Go Go.RowKit Go.PlainAid

/-- whatever text the word is of, it begins with what was read -/
def Lse (l r : List UInt8) (i : Nat) : Prop := ∀ u, qL u = l → ∃ t, u = r ++ t ∧ l.drop i = qL t
theorem Lse.plain {l r : List UInt8} {i : Nat} (h : Lse l r i) (hi : i < l.length) (hb : l[i] ≠ 37) : Lse l (r ++ [l[i]]) (i + 1) := fun u hu => by
  obtain ⟨t, rfl, h2⟩ := h u hu
  rw [List.drop_eq_getElem_cons hi] at h2
  cases t with
  | nil => cases h2
  | cons b t =>
    rw [qL_cons] at h2
    cases hp : plC b
    · rw [qB_no hp] at h2
      simp only [List.cons_append, List.cons.injEq] at h2
      exact absurd h2.1 hb
    · rw [qB_yes hp] at h2
      simp only [List.cons_append, List.nil_append, List.cons.injEq] at h2
      exact ⟨t, by rw [h2.1]; simp, h2.2⟩
theorem Lse.dash {l r : List UInt8} {i : Nat} (h : Lse l r i) (hi : i + 2 < l.length) (h37 : l[i] = 37) {b : UInt8} (hb : hexL b = [l[i + 1], l[i + 2]]) : Lse l (r ++ [b]) (i + 3) := fun u hu => by
  obtain ⟨t, rfl, h2⟩ := h u hu
  rw [List.drop_eq_getElem_cons (by omega), List.drop_eq_getElem_cons (i := i + 1) (by omega), List.drop_eq_getElem_cons (i := i + 1 + 1) hi, h37] at h2
  cases t with
  | nil => cases h2
  | cons d t =>
    rw [qL_cons] at h2
    cases hp : plC d
    · rw [qB_no hp] at h2
      unfold hexL at h2
      simp only [List.cons_append, List.nil_append, List.cons.injEq, true_and] at h2
      have : d = b := hexL_inj (by rw [hb]; unfold hexL; rw [h2.1, h2.2.1])
      subst this
      exact ⟨t, by simp, h2.2.2⟩
    · rw [qB_yes hp] at h2
      simp only [List.cons_append, List.nil_append, List.cons.injEq] at h2
      rw [← h2.1, pl37] at hp
      cases hp
theorem Lse.bad {l r : List UInt8} {i : Nat} (h : Lse l r i) (hi : i < l.length) (h37 : l[i] = 37) (hb : l.length ≤ i + 2 ∨ ∃ hi : i + 2 < l.length, ∀ b, hexL b ≠ [l[i + 1], l[i + 2]]) (u : List UInt8) : qL u ≠ l := fun hu => by
  obtain ⟨t, rfl, h2⟩ := h u hu
  cases t with
  | nil =>
    rw [List.drop_eq_getElem_cons hi] at h2
    cases h2
  | cons d t =>
    rw [qL_cons] at h2
    cases hp : plC d
    · rw [qB_no hp] at h2
      unfold hexL at h2
      rcases hb with hb | ⟨hi2, hb⟩
      · have := congrArg List.length h2
        simp at this
        omega
      · rw [List.drop_eq_getElem_cons (by omega), List.drop_eq_getElem_cons (i := i + 1) (by omega), List.drop_eq_getElem_cons (i := i + 1 + 1) hi2, h37] at h2
        simp only [List.cons_append, List.nil_append, List.cons.injEq, true_and] at h2
        exact hb d (by unfold hexL; rw [h2.1, h2.2.1])
    · rw [qB_yes hp, List.drop_eq_getElem_cons hi, h37] at h2
      simp only [List.cons_append, List.nil_append, List.cons.injEq] at h2
      rw [← h2.1, pl37] at hp
      cases hp
theorem no_qS {s : ByteArray} {l : List UInt8} (hl : s.data.toList = l) (h37 : l ≠ [37]) (h : ∀ u, qL u ≠ l) (u : ByteArray) : qS u ≠ s := fun hu => by
  have e := eq_qS hu
  rw [hl] at e
  unfold qW at e
  by_cases he : u.data.toList = []
  · rw [if_pos he] at e; exact h37 e.symm
  · rw [if_neg he] at e; exact h _ e
set_option maxRecDepth 20000 in
set_option maxHeartbeats 6400000 in
theorem runquote04 (s : ByteArray) (w : World) (hs : s.size ≤ 1000000) : Calls Tryd.prog 25 #[.string s] w (UnqE s w) := by
  obtain ⟨i0, hi, hz0, hz1, hz2⟩ := info_parts u8_info4
  obtain ⟨l, hl⟩ : ∃ l, s.data.toList = l := ⟨_, rfl⟩
  have HL := hide hl
  have hn : Hid (s.size = l.length) := by unfold Hid; rw [← hl, Lib.size_eq]
  by_cases h37 : l = [37]
  · have t0 : (s.toList == [37]) = true := by rw [str_of hl, h37]; rfl
    have HQ : Hid (UnqR s ⟨#[]⟩ true) := .inl ⟨rfl, qS_eq (by rw [hl, h37]; rfl)⟩
    clear hl h37
    go_enter Tryd.func25, Tryd.ntmps25
    go_wp2
    go_ret2
    exact ⟨_, _, rfl, HQ.out, Below.refl _ _⟩
  have t0 : (s.toList == [37]) = false := lit_37 (by rw [hl]; exact h37)
  have HNQ : Hid ((∀ u, qL u ≠ l) → ∀ u, qS u ≠ s) := fun h u => no_qS hl h37 h u
  have H37 := hide h37
  clear hl h37
  go_enter Tryd.func25, Tryd.ntmps25
  go_wp2_with fail
  go_loopw [4, 5] (fun v i wr => ∃ (j : Nat) (r : List UInt8), i = .int .i64 j ∧ j ≤ s.size ∧ r.length ≤ j ∧ Lse l r j ∧ Own .u8 5 w.heap.size wr v r.length (btL r) ∧ Below w.heap.size w wr) (fun _ i _ => s.size - (intOf i).toNat)
  case atStart => exact ⟨0, [], rfl, Nat.zero_le _, Nat.le_refl _, fun u hu => ⟨u, rfl, hu.symm⟩, Own.lit .u8 5 w.heap.size w (btL []) #[] 0 (Nat.le_refl _) (by simp [maxLen]) rfl, (Below.refl _ _).alloc (Nat.le_refl _) _⟩
  case round =>
    obtain ⟨j, r, rfl, hj, hrj, hL, hO, hB⟩ := hrel
    have HO := hide hO
    have HB := hide hB
    have HS := hide hL
    have hsz := hB.size
    obtain ⟨m, hm⟩ : ∃ m, r.length = m := ⟨_, rfl⟩
    have HM := hide hm
    rw [hm] at HO hrj
    clear hO hB hL hm
    by_cases hlt : j < s.size
    · have hlj : Hid (j < l.length) := by unfold Hid; have := hn.out; omega
      obtain ⟨x, hx⟩ : ∃ x, l[j]'hlj.out = x := ⟨_, rfl⟩
      have b0 : ((s[j]'hlt).toNat : Int) = (x.toNat : Int) := by
        rw [get_bt s _ hlt, bt_data s (by rw [HL.out]; exact hlj.out)]
        have h := HL.out
        subst h
        rw [hx]
      by_cases h37 : x = 37
      · have b0' : ((s[j]'hlt).toNat : Int) = 37 := by rw [b0, h37]; rfl
        rw [h37] at hx
        clear b0 h37
        by_cases h2 : j + 2 < s.size
        · have q1 : j + 1 < s.size := by omega
          have q5 : (j : Int) + 1 < (s.size : Int) := by omega
          have q4 : (0 : Int) ≤ (j : Int) + 1 := by omega
          have q6 : (j : Int) + 2 < (s.size : Int) := by omega
          have q7 : (0 : Int) ≤ (j : Int) + 2 := by omega
          have hw1 : IntKind.i64.wrap ((j : Int) + 1) = (j : Int) + 1 := IntWalk.i64_in _ (by omega)
          have hw2 : IntKind.i64.wrap ((j : Int) + 2) = (j : Int) + 2 := IntWalk.i64_in _ (by omega)
          have hn1 : ((j : Int) + 1).toNat = j + 1 := by omega
          have hn2 : ((j : Int) + 2).toNat = j + 2 := by omega
          have d0 : decide ((s.size : Int) ≤ (j : Int) + 2) = false := decide_eq_false (by omega)
          have d0' : decide (s.size ≤ j + 2) = false := decide_eq_false (by omega)
          have hl2 : Hid (j + 2 < l.length) := by unfold Hid; have := hn.out; omega
          obtain ⟨y, hy⟩ : ∃ y, l[j + 1]'(by have := hl2.out; omega) = y := ⟨_, rfl⟩
          obtain ⟨z, hz⟩ : ∃ z, l[j + 2]'hl2.out = z := ⟨_, rfl⟩
          have b1 : ((s[j + 1]'q1).toNat : Int) = (y.toNat : Int) := by
            rw [get_bt s _ q1, bt_data s (by rw [HL.out]; have := hl2.out; omega)]
            have h := HL.out
            subst h
            rw [hy]
          have b2 : ((s[j + 2]'h2).toNat : Int) = (z.toNat : Int) := by
            rw [get_bt s _ h2, bt_data s (by rw [HL.out]; exact hl2.out)]
            have h := HL.out
            subst h
            rw [hz]
          have v0 := hide (fun W => value04 y W)
          have v1 := hide (fun W => value04 z W)
          have hst : Hid (∀ b, hexL b = [y, z] → Lse l (r ++ [b]) (j + 3)) := fun b h => HS.out.dash hl2.out hx (by rw [hy, hz]; exact h)
          have hsp : Hid ((∀ b, hexL b ≠ [y, z]) → ∀ u, qS u ≠ s) := fun h => HNQ.out (HS.out.bad hlj.out hx (.inr ⟨hl2.out, fun b => by rw [hy, hz]; exact h b⟩))
          have hcase : (decide (hvI y < 0) = true ∧ ∀ b, hexL b ≠ [y, z]) ∨ (decide (hvI y < 0) = false ∧ decide (hvI z < 0) = true ∧ ∀ b, hexL b ≠ [y, z]) ∨ (∃ (xv yv : Nat) (b : UInt8), hvI y = (xv : Int) ∧ hvI z = (yv : Int) ∧ xv < 16 ∧ yv < 16 ∧ (16 * (xv : Int) + (yv : Int)) = (b.toNat : Int) ∧ hexL b = [y, z]) := by
            have hno : (hvC y = none ∨ hvC z = none) → ∀ b, hexL b ≠ [y, z] := fun hn b e => by
              unfold hexL at e
              obtain ⟨e1, e2⟩ : hxC (b.toNat / 16) = y ∧ hxC (b.toNat % 16) = z := by simpa using e
              have a := hv_hx (v := b.toNat / 16) (by have := b.toNat_lt; omega)
              have c := hv_hx (v := b.toNat % 16) (by omega)
              rw [e1] at a
              rw [e2] at c
              rcases hn with hn | hn
              · rw [hn] at a; cases a
              · rw [hn] at c; cases c
            have hsome : ∀ b v, hvC b = some v → hvI b = (v : Int) := fun b v e => by unfold hvI; rw [e]
            have hnone : ∀ b, hvC b = none → hvI b = -1 := fun b e => by unfold hvI; rw [e]
            cases h1 : hvC y with
            | none => exact .inl ⟨by rw [hnone y h1]; decide, hno (.inl h1)⟩
            | some xv =>
              cases h2 : hvC z with
              | none => exact .inr (.inl ⟨by rw [hsome y xv h1]; exact decide_eq_false (by omega), by rw [hnone z h2]; decide, hno (.inr h2)⟩)
              | some yv =>
                have a1 := (hx_hv h1).1
                have a2 := (hx_hv h2).1
                refine .inr (.inr ⟨xv, yv, UInt8.ofNat (16 * xv + yv), hsome y xv h1, hsome z yv h2, a1, a2, ?_, hexL_of h1 h2⟩)
                have e : (UInt8.ofNat (16 * xv + yv)).toNat = 16 * xv + yv := by simp; omega
                rw [e]
                omega
          obtain ⟨yc, hyc⟩ : ∃ c : Int, (y.toNat : Int) = c := ⟨_, rfl⟩
          obtain ⟨zc, hzc⟩ : ∃ c : Int, (z.toNat : Int) = c := ⟨_, rfl⟩
          obtain ⟨xi, hxi⟩ : ∃ c : Int, hvI y = c := ⟨_, rfl⟩
          obtain ⟨yi, hyi⟩ : ∃ c : Int, hvI z = c := ⟨_, rfl⟩
          rw [hyc] at b1
          rw [hzc] at b2
          rw [hyc, hxi] at v0
          rw [hzc, hyi] at v1
          rw [hxi, hyi] at hcase
          clear hx hy hz hyc hzc hxi hyi
          rcases hcase with ⟨d1, hbq⟩ | ⟨d1, d2, hbq⟩ | ⟨xv, yv, b, rfl, rfl, a1, a2, hbn, hbq⟩
          · have HN := hide (hsp.out hbq)
            clear hbq hst hsp
            go_wp2_with fail
            refine (v0.out _).mono ?_
            rintro e w1 ⟨rfl, rfl⟩
            go_wp2_with fail
            go_ret2
            exact ⟨_, _, rfl, .inr ⟨rfl, rfl, HN.out⟩, HB.out⟩
          · have HN := hide (hsp.out hbq)
            clear hbq hst hsp
            go_wp2_with fail
            refine (v0.out _).mono ?_
            rintro e w1 ⟨rfl, rfl⟩
            go_wp2_with fail
            refine (v1.out _).mono ?_
            rintro e w1 ⟨rfl, rfl⟩
            go_wp2_with fail
            go_ret2
            exact ⟨_, _, rfl, .inr ⟨rfl, rfl, HN.out⟩, HB.out⟩
          · have HR2 := hide (hst.out b hbq)
            have d1 : decide ((xv : Int) < 0) = false := decide_eq_false (by omega)
            have d2 : decide ((yv : Int) < 0) = false := decide_eq_false (by omega)
            obtain ⟨bc, hbc⟩ : ∃ bc : Int, (b.toNat : Int) = bc := ⟨_, rfl⟩
            have hw3 : IntKind.i64.wrap (16 * (xv : Int)) = 16 * (xv : Int) := IntWalk.i64_in _ (by omega)
            have hw4 : IntKind.i64.wrap (16 * (xv : Int) + (yv : Int)) = bc := by rw [← hbc, ← hbn]; exact IntWalk.i64_in _ (by omega)
            have hw5 : IntKind.u8.wrap bc = bc := IntWalk.u8_in _ (by have := b.toNat_lt; omega)
            have HC := hide hbc
            clear hbq hst hsp hbn hbc
            go_wp2_with fail
            refine (v0.out _).mono ?_
            rintro e w1 ⟨rfl, rfl⟩
            go_wp2_with fail
            refine (v1.out _).mono ?_
            rintro e w1 ⟨rfl, rfl⟩
            go_wp2_with fail
            go_region_held3 (fun _ => True) ((trivial)) ((first
              | (go_at_call 83; first | (with_reducible refine (v0.out _).mono ?_; rintro e w' ⟨rfl, rfl⟩) | (with_reducible refine (v1.out _).mono ?_; rintro e w' ⟨rfl, rfl⟩))
              | (refine step_appW rfl (.tmp 47) (.tmp 61) _ rfl i0 0 1 Tryd.underlying22 hi hz0 hz1 hz2 w.heap.size _ m (btL r) rfl (HO.out.alloc _) _ 1 1 _ rfl (Rd.one .u8 5 _ _) (by simp only [maxLen]; omega) (by omega) (by simp; omega) ?_; intro v3 w3 hown3 hg3)))
            all_goals
              have HO3 : Hid (Own .u8 5 w.heap.size w3 v3 (r ++ [b]).length (btL (r ++ [b]))) := by
                unfold Hid
                rw [List.length_append, HM.out]
                exact hown3.congr (fun i hi => catF_snoc HM.out HC.out i hi)
              have HB3 := hide (((HB.out.alloc hsz (.cells #[.int .u8 bc] 5)).drew).grown hg3 (by simp; omega) (fun q e => (World.ownsRow.lt HO.out q e).1))
              clear hown3 hg3
              go_wp2_with fail
              exact ⟨⟨j + 3, r ++ [b], by first | rfl | simp; done | (simp; omega), by omega, by rw [List.length_append, HM.out]; simp; omega, HR2.out, HO3.out, HB3.out⟩, by simp [intOf]; omega⟩
        · have d0 : decide ((s.size : Int) ≤ (j : Int) + 2) = true := decide_eq_true (by omega)
          have d0' : decide (s.size ≤ j + 2) = true := decide_eq_true (by omega)
          have HN : Hid (∀ u, qS u ≠ s) := HNQ.out (HS.out.bad hlj.out hx (.inl (by have := hn.out; omega)))
          clear hx
          go_wp2_with fail
          go_ret2
          exact ⟨_, _, rfl, .inr ⟨rfl, rfl, HN.out⟩, HB.out⟩
      · have HL2 : Hid (Lse l (r ++ [x]) (j + 1)) := by
          have h := HS.out.plain hlj.out (by rw [hx]; exact h37)
          rw [hx] at h
          exact h
        have q1 : ((x.toNat : Int) != 37) = true := by
          simp only [bne_iff_ne, ne_eq]
          intro h
          exact h37 (UInt8.toNat_inj.1 (by have : ((37 : UInt8).toNat : Int) = 37 := rfl; omega))
        obtain ⟨c, hc⟩ : ∃ c : Int, (x.toNat : Int) = c := ⟨_, rfl⟩
        have HC := hide hc
        rw [hc] at b0 q1
        clear hx h37 hc
        go_wp2_with (at_builtin; refine wp_app rfl (.tmp 20) (.tmp 24) _ rfl i0 0 1 Tryd.underlying22 hi hz0 hz1 hz2 w.heap.size _ m (btL r) rfl (HO.out.alloc _) _ 1 1 _ rfl (Rd.one .u8 5 _ _) (by simp only [maxLen]; omega) (by omega) (by simp; omega) ?_; intro v3 w3 hown3 hg3)
        have HO3 : Hid (Own .u8 5 w.heap.size w3 v3 (r ++ [x]).length (btL (r ++ [x]))) := by
          unfold Hid
          rw [List.length_append, HM.out]
          exact hown3.congr (fun i hi => catF_snoc HM.out HC.out i hi)
        have HB3 := hide ((HB.out.alloc hsz (.cells #[.int .u8 c] 5)).grown hg3 (by simp; omega) (fun q e => (World.ownsRow.lt HO.out q e).1))
        clear hown3 hg3
        go_wp2_with fail
        exact ⟨⟨j + 1, r ++ [x], rfl, by omega, by rw [List.length_append, HM.out]; simp; omega, HL2.out, HO3.out, HB3.out⟩, by simp [intOf]; omega⟩
    · obtain rfl : j = s.size := by omega
      obtain ⟨A, cc, rfl, hrd, _⟩ := Own.rd HO.out
      have hcv := text_back hrd (btL_byt _ _) 22 9 5 Tryd.underlying22 Tryd.underlying5 Tryd.underlying9
      rw [← HM.out, textB_L] at hcv
      rw [HM.out] at hcv
      have hq := hide (rquote04 ⟨r.toArray⟩ wr (by rw [sz_arr, HM.out]; omega))
      have HE : Hid (∀ u, qL u = l → u = r) := fun u hu => by
        obtain ⟨t, rfl, h2⟩ := HS.out u hu
        rw [List.drop_eq_nil_of_le (by have := hn.out; omega)] at h2
        have h3 := (qL_len t).2
        rw [← h2] at h3
        have : t = [] := List.eq_nil_of_length_eq_zero (by simpa using h3)
        rw [this]
        simp
      have hcase : ((((qS ⟨r.toArray⟩).toList == s.toList) = true) ∧ UnqR s ⟨r.toArray⟩ true) ∨ ((((qS ⟨r.toArray⟩).toList == s.toList) = false) ∧ ∀ u, qS u ≠ s) := by
        by_cases he : qS ⟨r.toArray⟩ = s
        · exact .inl ⟨by rw [he]; simp, .inl ⟨rfl, he⟩⟩
        · refine .inr ⟨?_, fun u hu => ?_⟩
          · simp only [beq_eq_false_iff_ne, ne_eq]
            intro h
            rw [ByteArray.toList_eq, ByteArray.toList_eq] at h
            exact he (ByteArray.ext (Array.toList_inj.1 h))
          · have e := eq_qS hu
            rw [HL.out] at e
            unfold qW at e
            by_cases hu0 : u.data.toList = []
            · rw [if_pos hu0] at e; exact H37.out e.symm
            · rw [if_neg hu0] at e
              have h2 := HE.out _ e
              rw [← h2] at he
              rw [data_bk4] at he
              exact he hu
      obtain ⟨t, ht⟩ : ∃ t : ByteArray, ⟨r.toArray⟩ = t := ⟨_, rfl⟩
      rw [ht] at hcv hq hcase
      obtain ⟨y, hy⟩ : ∃ y, qS t = y := ⟨_, rfl⟩
      rw [hy] at hq
      rw [hy] at hcase
      clear hrd ht hy
      rcases hcase with ⟨d1, hU⟩ | ⟨d1, hU⟩
      all_goals
        have HU := hide hU
        have d2 : (y.toList != s.toList) = !(y.toList == s.toList) := rfl
        rw [d1] at d2
        simp only [Bool.not_true, Bool.not_false] at d2
        clear hU
        go_wp2_with fail
        refine hq.out.mono ?_
        rintro e w2 ⟨rfl, hb2⟩
        have HB2 := hide (HB.out.of hb2)
        clear hb2
        go_wp2_with fail
        go_ret2
        first
          | exact ⟨t, true, rfl, HU.out, HB2.out⟩
          | exact ⟨⟨#[]⟩, false, rfl, .inr ⟨rfl, rfl, HU.out⟩, HB2.out⟩
end
end Go.Proofs.YtdlmmjnomeladaaDoor
