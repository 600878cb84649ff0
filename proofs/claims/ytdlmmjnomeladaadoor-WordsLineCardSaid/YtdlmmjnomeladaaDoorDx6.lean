/- Layer 3: the law on lists of numbers. -/
import Derived.Test.YtdlmmjnomeladaaDoorDx5
namespace Go.Proofs.YtdlmmjnomeladaaDoor
set_option linter.unusedVariables false
set_option linter.unusedSimpArgs false
open Go.RowKit Go.PlainAid

theorem pcF_run (c : UInt8) : ∀ (x cur rest : List UInt8), c ∉ x → pcF c cur (x ++ rest) = pcF c (cur ++ x) rest
  | [], cur, rest, _ => by simp
  | b :: x, cur, rest, h => by
    have h1 : b ≠ c := fun e => h (by simp [e])
    have h2 : c ∉ x := fun e => h (by simp [e])
    rw [List.cons_append, pcF_more h1, pcF_run c x _ _ h2]
    simp
theorem pcF_tail (c : UInt8) : ∀ (r : List (List UInt8)) (x : List UInt8), c ∉ x → (∀ y ∈ r, c ∉ y) → pcF c [] (x ++ Lib.joinTail [c] r) = x :: r
  | [], x, hx, _ => by
    rw [pcF_run c x [] _ hx]
    rfl
  | y :: r, x, hx, hr => by
    have e : Lib.joinTail [c] (y :: r) = c :: (y ++ Lib.joinTail [c] r) := by simp [Lib.joinTail]
    rw [pcF_run c x [] _ hx, e, List.nil_append, pcF_sep, pcF_tail c r y (hr y (by simp)) (fun z hz => hr z (by simp [hz]))]
theorem pcB_join {c : UInt8} {xs : List ByteArray} (h : xs ≠ []) (hc : ∀ x ∈ xs, c ∉ x.data.toList) : pcB c (jnS ⟨#[c]⟩ xs) = xs := by
  unfold pcB jnS
  show (pcF c [] (Lib.join (xs.map (·.data.toList)) [c])).map _ = xs
  cases xs with
  | nil => exact absurd rfl h
  | cons x r =>
    rw [List.map_cons, Lib.join_cons, pcF_tail c _ _ (hc x (by simp)) (fun y hy => by
      obtain ⟨z, hz, rfl⟩ := List.mem_map.1 hy
      exact hc z (by simp [hz])), List.map_cons, data_back, List.map_map]
    refine congrArg (x :: ·) ?_
    calc r.map ((fun l => (⟨l.toArray⟩ : ByteArray)) ∘ fun x => x.data.toList) = r.map id := List.map_congr_left fun y _ => data_back y
      _ = r := List.map_id r
theorem join_two (x y : List UInt8) (r : List (List UInt8)) (sep : List UInt8) : Lib.join (x :: y :: r) sep = x ++ sep ++ Lib.join (y :: r) sep := by
  rw [Lib.join_cons, Lib.join_cons]
  simp [Lib.joinTail]
theorem pcF_ne (c : UInt8) : ∀ (l cur : List UInt8), pcF c cur l ≠ []
  | [], cur => by simp [pcF]
  | b :: l, cur => by
    by_cases e : b = c
    · subst e; rw [pcF_sep]; simp
    · rw [pcF_more e]; exact pcF_ne c l _
theorem join_pcF (c : UInt8) : ∀ (l cur : List UInt8), Lib.join (pcF c cur l) [c] = cur ++ l
  | [], cur => by rw [pcF_nil, Lib.join_one]; simp
  | b :: l, cur => by
    by_cases e : b = c
    · subst e
      rw [pcF_sep]
      have ih := join_pcF b l []
      cases hp : pcF b [] l with
      | nil => exact absurd hp (pcF_ne b l [])
      | cons y r =>
        rw [hp] at ih
        rw [join_two, ih]
        simp
    · rw [pcF_more e, join_pcF c l _]
      simp
theorem jnS_pcB (c : UInt8) (s : ByteArray) : jnS ⟨#[c]⟩ (pcB c s) = s := by
  unfold jnS pcB
  rw [List.map_map]
  have : ((fun x : ByteArray => x.data.toList) ∘ fun l => (⟨l.toArray⟩ : ByteArray)) = id := rfl
  rw [this, List.map_id]
  show (⟨(Lib.join (pcF c [] s.data.toList) [c]).toArray⟩ : ByteArray) = s
  rw [join_pcF, List.nil_append, data_back]
theorem no_comma (t : Int) : (44 : UInt8) ∉ (intS t).data.toList := fun h => by
  unfold intS at h
  have hd : ∀ n, (44 : UInt8) ∉ decL n := fun n hn => by
    have := (decL_dig n 44 hn).1
    exact absurd this (by decide)
  by_cases hn : t < 0
  · rw [if_pos hn, negS_data] at h
    rcases List.mem_cons.1 h with h2 | h2
    · exact absurd h2 (by decide)
    · exact hd _ h2
  · rw [if_neg hn, decS_dat] at h
    exact hd _ h
theorem itL_inj {k m : Nat} {f g : Nat → Int} (h : itL f k = itL g m) (hf : I64F k f) (hg : I64F m g) : k = m ∧ ∀ i, i < k → f i = g i := by
  have hl : k = m := by
    have := congrArg List.length h
    rwa [itL_len, itL_len] at this
  subst hl
  refine ⟨rfl, fun i hi => ?_⟩
  have a := itL_at f hi
  rw [h, itL_at g hi] at a
  exact (intS_inj3 (hg i hi).1 (hg i hi).2 (hf i hi).1 (hf i hi).2 (Option.some.inj a)).symm
theorem pcB_no {s x : ByteArray} {k : Nat} {f : Nat → Int} (h : pcB 44 s = itL f k) (hf : I64F k f) (hx : x ∈ pcB 44 s) (hn : ∀ u, -9223372036854775808 ≤ u → u ≤ 9223372036854775807 → x ≠ intS u) : False := by
  rw [h] at hx
  simp only [itL, List.mem_map, List.mem_range] at hx
  obtain ⟨i, hi, e⟩ := hx
  exact hn (f i) (hf i hi).1 (hf i hi).2 e.symm
theorem RlR.same {s : ByteArray} {k m : Nat} {f g : Nat → Int} {a b : Bool} (h : RlR s k f a) (q : RlR s m g b) : a = b ∧ k = m ∧ ∀ i, i < k → f i = g i := by
  rcases h with ⟨rfl, hf, h⟩ | ⟨rfl, rfl, h1, x, hx, hn⟩ <;> rcases q with ⟨rfl, hg, q⟩ | ⟨rfl, rfl, q1, y, hy, qn⟩
  · rcases h with ⟨h1, rfl⟩ | ⟨h1, h2⟩ <;> rcases q with ⟨q1, rfl⟩ | ⟨q1, q2⟩
    · exact ⟨rfl, rfl, fun i hi => absurd hi (by omega)⟩
    · omega
    · omega
    · exact ⟨rfl, itL_inj (h2.symm.trans q2) hf hg⟩
  · rcases h with ⟨h1, rfl⟩ | ⟨h1, h2⟩
    · omega
    · exact (pcB_no h2 hf hy qn).elim
  · rcases q with ⟨h1, rfl⟩ | ⟨h1, h2⟩
    · omega
    · exact (pcB_no h2 hg hx hn).elim
  · exact ⟨rfl, rfl, fun i hi => absurd hi (by omega)⟩
theorem jn_read {n k : Nat} {f g : Nat → Int} {ok : Bool} (hf : I64F n f) (h : RlR (jnS ⟨#[44]⟩ (itL f n)) k g ok) : ok = true ∧ k = n ∧ ∀ i, i < n → g i = f i := by
  by_cases h0 : n = 0
  · subst h0
    have e : jnS ⟨#[44]⟩ (itL f 0) = ⟨#[]⟩ := rfl
    rw [e] at h
    rcases h with ⟨rfl, _, ⟨_, rfl⟩ | ⟨h, _⟩⟩ | ⟨_, _, h, _⟩
    · exact ⟨rfl, rfl, fun i hi => absurd hi (by omega)⟩
    · exact absurd h (by decide)
    · exact absurd h (by decide)
  · have hp : pcB 44 (jnS ⟨#[44]⟩ (itL f n)) = itL f n := pcB_join (fun e => by have := congrArg List.length e; rw [itL_len] at this; exact h0 this) (fun x hx => by
      simp only [itL, List.mem_map, List.mem_range] at hx
      obtain ⟨i, _, rfl⟩ := hx
      exact no_comma _)
    rcases h with ⟨rfl, hg, ⟨h1, _⟩ | ⟨_, h1⟩⟩ | ⟨_, _, _, x, hx, hn⟩
    · exfalso
      have := congrArg List.length hp
      have e : jnS ⟨#[44]⟩ (itL f n) = ⟨#[]⟩ := by
        apply ByteArray.ext
        exact Array.eq_empty_of_size_eq_zero h1
      rw [e] at hp
      have h2 : pcB 44 ⟨#[]⟩ = [⟨#[]⟩] := rfl
      rw [h2] at hp
      have h3 := itL_at f (k := n) (j := 0) (by omega)
      rw [← hp] at h3
      have := hf 0 (by omega)
      exact intS_ne0 this.1 this.2 (Option.some.inj h3)
    · rw [hp] at h1
      obtain ⟨rfl, h2⟩ := itL_inj h1 hf hg
      exact ⟨rfl, rfl, fun i hi => (h2 i hi).symm⟩
    · exact (pcB_no hp hf hx hn).elim
theorem rl_back {s : ByteArray} {k : Nat} {f : Nat → Int} (h : RlR s k f true) : jnS ⟨#[44]⟩ (itL f k) = s ∧ I64F k f ∧ k ≤ s.size + 1 := by
  rcases h with ⟨_, hf, ⟨h1, rfl⟩ | ⟨_, h1⟩⟩ | ⟨h, _⟩
  · refine ⟨?_, hf, by omega⟩
    show (⟨#[]⟩ : ByteArray) = s
    apply ByteArray.ext
    exact (Array.eq_empty_of_size_eq_zero h1).symm
  · refine ⟨by rw [← h1, jnS_pcB], hf, ?_⟩
    have := pcB_len 44 s.size s (Nat.le_refl _)
    rw [h1, itL_len] at this
    exact this
  · cases h
set_option maxRecDepth 20000 in
set_option maxHeartbeats 3200000 in
theorem lists_walk03 (A : Option Addr) (n c : Nat) (f : Nat → Int) (s : ByteArray) (w : World) (h : Rd .i64 w A n c f) (hf : I64F n f) (hs : s.size ≤ 9223372036854775807) (hp : PowW w) : Calls Tryd.prog 10 #[.slice A n c, .string s] w (Yes8 w) := by
  have hn : n ≤ 9223372036854775807 := by have h1 := h.1; have h2 := h.2.1; simp only [maxLen] at h2; omega
  have HP := hide hp
  have HR := hide h
  have HF := hide hf
  clear hp h hf
  by_cases hbig : 100 < n
  · have t1 : decide (100 < n) = true := decide_eq_true hbig
    have t2 : decide ((100 : Int) < (n : Int)) = true := decide_eq_true (by omega)
    clear hbig
    go_enter Tryd.func10, Tryd.ntmps10
    go_wp2_with fail
    refine (alive03 _ HP.out).mono ?_
    rintro e w1 ⟨rfl, hb1⟩
    have HB := hide hb1
    clear hb1
    go_wp2_with fail
    go_ret
    exact ⟨rfl, HB.out⟩
  have t1 : decide (100 < n) = false := decide_eq_false hbig
  have t2 : decide ((100 : Int) < (n : Int)) = false := decide_eq_false (by omega)
  by_cases hbig2 : 500 < s.size
  · have t3 : decide (500 < s.size) = true := decide_eq_true hbig2
    have t4 : decide ((500 : Int) < (s.size : Int)) = true := decide_eq_true (by omega)
    clear hbig hbig2
    go_enter Tryd.func10, Tryd.ntmps10
    go_wp2_with fail
    refine (alive03 _ HP.out).mono ?_
    rintro e w1 ⟨rfl, hb1⟩
    have HB := hide hb1
    clear hb1
    go_wp2_with fail
    go_ret
    exact ⟨rfl, HB.out⟩
  have t3 : decide (500 < s.size) = false := decide_eq_false hbig2
  have t4 : decide ((500 : Int) < (s.size : Int)) = false := decide_eq_false (by omega)
  have h1 := hide (list03 A n c f w HR.out HF.out (by omega) HP.out)
  have HJ : Hid (∀ k g ok, RlR (jnS ⟨#[44]⟩ (itL f n)) k g ok → ok = true ∧ k = n ∧ ∀ i, i < n → g i = f i) := fun k g ok => jn_read HF.out
  have HZ : Hid ((jnS ⟨#[44]⟩ (itL f n)).size ≤ 2100) := by
    unfold Hid
    refine Nat.le_trans (itL_bd HF.out ⟨#[44]⟩) ?_
    show n * 21 ≤ 2100
    omega
  have HL := hide (fun (W : World) (hr : Rd .i64 W A n c f) => rlist03 A n c f W hr HF.out (by omega))
  obtain ⟨t, ht⟩ : ∃ t, jnS ⟨#[44]⟩ (itL f n) = t := ⟨_, rfl⟩
  rw [ht] at h1 HJ HZ HL
  have Hs : Hid (s.size ≤ 500) := by unfold Hid; omega
  clear ht hbig hbig2
  go_enter Tryd.func10, Tryd.ntmps10
  go_wp2_with fail
  refine h1.out.mono ?_
  rintro e w1 ⟨rfl, hb1⟩
  have HB1 := hide hb1
  have HP1 := hide (HP.out.below hb1)
  clear hb1
  go_wp2_with fail
  refine (readlist03 t _ (by have := HZ.out; omega)).mono ?_
  rintro e w2 ⟨A2, k2, c2, g2, ok2, rfl, hr2, hq, hb2⟩
  obtain ⟨rfl, rfl, he2⟩ := HJ.out _ _ _ hq
  have HR2 := hide (hr2.congr (g := f) he2)
  have HB2 := hide (HB1.out.of hb2)
  have HP2 := hide (HP1.out.below hb2)
  clear hb2 hr2 he2 hq
  go_wp2_with fail
  refine (readlist03 s _ (by have := Hs.out; omega)).mono ?_
  rintro e w3 ⟨A3, k3, c3, g3, ok3, rfl, hr3, hq3, hb3⟩
  have HQ3 := hide hq3
  have HR3 := hide hr3
  have HR32 := hide (HR2.out.below hb3)
  have HB3 := hide (HB2.out.of hb3)
  have HP3 := hide (HP2.out.below hb3)
  clear hb3 hr3 hq3
  go_wp2_with fail
  refine (rreadlist03 s _ (by have := Hs.out; omega)).mono ?_
  rintro e w4 ⟨A4, k4, c4, g4, ok4, rfl, hr4, hq4, hb4⟩
  obtain ⟨rfl, rfl, he4⟩ := HQ3.out.same hq4
  have HR4 := hide (hr4.congr (g := g3) (fun i hi => (he4 i hi).symm))
  have HR43 := hide (HR3.out.below hb4)
  have HR42 := hide (HR32.out.below hb4)
  have HB4 := hide (HB3.out.of hb4)
  have HP4 := hide (HP3.out.below hb4)
  have HW4 := hide (HR.out.below HB4.out)
  clear hb4 hr4 hq4 he4 HR3 HR32
  have q1 : (t.toList == t.toList) = true := beq_self_eq_true _
  have q2 : (ok3 == ok3) = true := beq_self_eq_true _
  go_wp2_with fail
  refine (HL.out _ HW4.out).mono ?_
  rintro e w5 ⟨rfl, hb5⟩
  have HR5 := hide (HR4.out.below hb5)
  have HR53 := hide (HR43.out.below hb5)
  have HR52 := hide (HR42.out.below hb5)
  have HW5 := hide (HW4.out.below hb5)
  have HB5 := hide (HB4.out.of hb5)
  have HP5 := hide (HP4.out.below hb5)
  clear hb5
  go_wp2_with fail
  refine (isame_yes _ _ _ _ _ f _ HR52.out HW5.out).mono ?_
  rintro e w6 ⟨rfl, hd6⟩
  have HR6 := hide (HR5.out.drawn hd6)
  have HR63 := hide (HR53.out.drawn hd6)
  have HB6 := hide (HB5.out.trans (drawn_below hd6 _))
  have HP6 := hide (HP5.out.below (drawn_below hd6 _))
  clear hd6
  go_wp2_with fail
  refine (isame_yes _ _ _ _ _ g3 _ HR63.out HR6.out).mono ?_
  rintro e w7 ⟨rfl, hd7⟩
  have HR73 := hide (HR63.out.drawn hd7)
  have HB7 := hide (HB6.out.trans (drawn_below hd7 _))
  have HP7 := hide (HP6.out.below (drawn_below hd7 _))
  clear hd7
  cases ok3 with
  | false =>
    go_wp2_with fail
    refine (alive03 _ HP7.out).mono ?_
    rintro e w9 ⟨rfl, hb9⟩
    have HB9 := hide (HB7.out.of hb9)
    clear hb9
    go_wp2_with fail
    go_ret
    exact ⟨rfl, HB9.out⟩
  | true =>
    obtain ⟨e1, e2, e3⟩ := rl_back HQ3.out
    have h8 := hide (list03 _ _ _ g3 w7 HR73.out e2 (by have := Hs.out; omega) HP7.out)
    rw [e1] at h8
    have q3 : (s.toList == s.toList) = true := beq_self_eq_true _
    clear e1 e2 e3
    go_wp2_with fail
    refine h8.out.mono ?_
    rintro e w8 ⟨rfl, hb8⟩
    have HB8 := hide (HB7.out.of hb8)
    have HP8 := hide (HP7.out.below hb8)
    clear hb8
    go_wp2_with fail
    refine (alive03 _ HP8.out).mono ?_
    rintro e w9 ⟨rfl, hb9⟩
    have HB9 := hide (HB8.out.of hb9)
    clear hb9
    go_wp2_with fail
    go_ret
    exact ⟨rfl, HB9.out⟩
end Go.Proofs.YtdlmmjnomeladaaDoor
