/- Layer 3: the examples; the laws on texts and reads. -/
import Derived.Test.YtdlmmjnomeladaaDoorDx3
import Derived.Test.YtdlmmjnomeladaaDoorMK
import Derived.Test.YtdlmmjnomeladaaDoorMN
import Derived.Test.YtdlmmjnomeladaaDoorKn7
namespace Go.Proofs.YtdlmmjnomeladaaDoor
set_option linter.unusedVariables false
set_option linter.unusedSimpArgs false
open Go.RowKit Go.PlainAid

theorem intS_inj3 {u t : Int} (h0 : -9223372036854775808 ≤ u) (h1 : u ≤ 9223372036854775807) (k0 : -9223372036854775808 ≤ t) (k1 : t ≤ 9223372036854775807) (e : intS u = intS t) : u = t := by
  by_cases h : bt (intS u) 0 = 45
  · have a := (neg_read h h0 rfl).2
    have b := (neg_read h k0 e).2
    omega
  · have a := (pos_read h h1 rfl).2
    have b := (pos_read h k1 e).2
    omega
theorem intS_ne0 {u : Int} (h0 : -9223372036854775808 ≤ u) (h1 : u ≤ 9223372036854775807) : (⟨#[]⟩ : ByteArray) ≠ intS u := fun e => by
  have := (intS_size h0 h1).1
  rw [← e] at this
  exact absurd this (by decide)
theorem ex_list {k : Nat} {f : Nat → Int} {ok : Bool} (h : RlR ⟨#[49, 44, 44, 50]⟩ k f ok) : ok = false ∧ k = 0 := by
  have hp : pcB 44 ⟨#[49, 44, 44, 50]⟩ = [⟨#[49]⟩, ⟨#[]⟩, ⟨#[50]⟩] := rfl
  rcases h with ⟨_, hb, ⟨h, _⟩ | ⟨_, h⟩⟩ | ⟨rfl, rfl, _⟩
  · exact absurd h (by decide)
  · rw [hp] at h
    have hk : k = 3 := by
      have := congrArg List.length h
      rw [itL_len] at this
      exact this.symm
    subst hk
    have h2 := itL_at f (k := 3) (j := 1) (by decide)
    rw [← h] at h2
    have := hb 1 (by decide)
    exact absurd (Option.some.inj h2) (intS_ne0 this.1 this.2)
  · exact ⟨rfl, rfl⟩
def exF : Nat → Int := fun i => if i = 0 then 1 else -2
theorem ex_rd (w : World) : Rd .i64 (w.alloc (.cells #[.int .i64 1, .int .i64 (-2)] 3)) (some ⟨w.heap.size, 0, none⟩) 2 2 exF :=
  Own.rdS (Own.lit .i64 3 0 w exF #[.int .i64 1, .int .i64 (-2)] 2 (Nat.zero_le _) (by simp [maxLen]) rfl)
theorem ex_join : jnS ⟨#[44]⟩ (itL exF 2) = ⟨#[49, 44, 45, 50]⟩ := by
  have : itL exF 2 = [intS 1, intS (-2)] := rfl
  rw [this, show [intS 1, intS (-2)] = [intS 1] ++ [intS (-2)] from rfl, jnS_snoc _ (by simp), jnS_one]
  rw [show intS 1 = ⟨#[49]⟩ from by show decS 1 = _; unfold decS; rw [decL_small (by decide)]; rfl, show intS (-2) = ⟨#[45, 50]⟩ from by show negS 2 = _; unfold negS; rw [decL_small (by decide)]; rfl]
  rfl
theorem ex_40 : intS (-40) = ⟨#[45, 52, 48]⟩ := by
  show negS 40 = _
  unfold negS
  rw [decL_more (by decide), decL_small (by decide)]
  rfl
set_option maxRecDepth 20000 in
set_option maxHeartbeats 3200000 in
theorem alive03 (w : World) (hp : PowW w) : Calls Tryd.prog 37 #[] w (Yes8 w) := by
  have HP := hide hp
  clear hp
  have n1 : natN ⟨#[48, 48, 55]⟩ 9 = 7 := by decide
  have n2 : natB ⟨#[48, 48, 55]⟩ 9 = true := by decide
  have N1 := hide n1
  have N2 := hide n2
  clear n1 n2
  go_enter Tryd.func37, Tryd.ntmps37
  go_wp2_with fail
  refine (natural_any ⟨#[48, 48, 55]⟩ 9 _ (by decide) (by decide) (by decide)).mono ?_
  rintro e w1 ⟨rfl, hb1⟩
  rw [N1.out, N2.out]
  have HB1 := hide hb1
  have HP1 := hide (HP.out.below hb1)
  clear hb1
  go_wp2_with fail
  refine (readlist03 ⟨#[49, 44, 44, 50]⟩ _ (by decide)).mono ?_
  rintro e w2 ⟨A, k, c, f, ok, rfl, _, hq, hb2⟩
  obtain ⟨rfl, rfl⟩ := ex_list hq
  have HB2 := hide (HB1.out.of hb2)
  have HP2 := hide (HP1.out.below hb2)
  clear hb2 hq
  go_wp2_with fail
  refine (dtextI (-40) (by decide) (by decide) _ HP2.out).mono ?_
  rw [ex_40]
  rintro e w3 ⟨rfl, hb3⟩
  have HB3 := hide (HB2.out.of hb3)
  have HP3 := hide (HP2.out.below hb3)
  have q1 : (((⟨#[45, 52, 48]⟩ : ByteArray).toList == [45, 52, 48]) : Bool) = true := by rw [tl_data]; rfl
  clear hb3
  go_wp2_with fail
  refine (list03 _ 2 2 exF _ (ex_rd _) (fun i hi => by unfold exF; by_cases e : i = 0 <;> simp [e]) (by decide) (HP3.out.below ((Below.refl _ _).alloc (Nat.le_refl _) _))).mono ?_
  rw [ex_join]
  rintro e w4 ⟨rfl, hb4⟩
  have HB4 := hide (HB3.out.trans (((Below.refl w3.heap.size w3).alloc (Nat.le_refl _) (.cells #[.int .i64 1, .int .i64 (-2)] 3)).mono HB3.out.size))
  have HB5 := hide (HB4.out.of hb4)
  clear hb4
  go_wp2_with fail
  go_ret
  exact ⟨rfl, HB5.out⟩
set_option maxRecDepth 20000 in
set_option maxHeartbeats 3200000 in
theorem texts_walk03 (t : Int) (w : World) (h0 : -9223372036854775808 ≤ t) (h1 : t ≤ 9223372036854775807) (hp : PowW w) : Calls Tryd.prog 7 #[.int .i64 t] w (Yes8 w) := by
  have HP := hide hp
  have HT := hide (dtextI t h0 h1 w hp)
  have HS := hide (fun W => rtextI t h0 h1 W)
  have HZ := hide (intS_size h0 h1)
  have HI : Hid (∀ u, ReadR (intS t) u true → u = t) := fun u h => by
    rcases h with ⟨_, h2, h3, h4⟩ | ⟨h, _⟩
    · exact (intS_inj3 h0 h1 h2 h3 h4).symm
    · cases h
  have HF : Hid (∀ u, ¬ ReadR (intS t) u false) := fun u h => by
    rcases h with ⟨h, _⟩ | ⟨_, _, h⟩
    · cases h
    · exact h t h0 h1 rfl
  obtain ⟨s, hs⟩ : ∃ s, intS t = s := ⟨_, rfl⟩
  rw [hs] at HT HS HZ HI HF
  clear hp h0 h1 hs
  go_enter Tryd.func7, Tryd.ntmps7
  go_wp2_with fail
  refine HT.out.mono ?_
  rintro e w1 ⟨rfl, hb1⟩
  have HB1 := hide hb1
  have HP1 := hide (HP.out.below hb1)
  clear hb1
  go_wp2_with fail
  refine (kread03 s _ (by have := HZ.out.2; omega)).mono ?_
  rintro e w2 ⟨u, ok, rfl, hq, hb2⟩
  have HB2 := hide (HB1.out.of hb2)
  have HP2 := hide (HP1.out.below hb2)
  clear hb2
  cases ok with
  | false => exact absurd hq (HF.out u)
  | true =>
    obtain rfl := HI.out u hq
    have q1 : (s.toList == s.toList) = true := beq_self_eq_true _
    have q2 : (u == u) = true := beq_self_eq_true _
    clear hq
    go_wp2_with fail
    refine (HS.out _).mono ?_
    rintro e w3 ⟨rfl, hd3⟩
    have HB3 := hide (HB2.out.trans (drawn_below hd3 _))
    have HP3 := hide (HP2.out.below (drawn_below hd3 _))
    clear hd3
    go_wp2_with fail
    refine (alive03 _ HP3.out).mono ?_
    rintro e w4 ⟨rfl, hb4⟩
    have HB4 := hide (HB3.out.of hb4)
    clear hb4
    go_wp2_with fail
    go_ret
    exact ⟨rfl, HB4.out⟩
set_option maxRecDepth 20000 in
set_option maxHeartbeats 3200000 in
theorem natural_walk03 (s : ByteArray) (most : Int) (w : World) (hs : s.size ≤ 9223372036854775807) (m0 : -9223372036854775808 ≤ most) (m1 : most ≤ 9223372036854775807) (hp : PowW w) : Calls Tryd.prog 9 #[.string s, .int .i64 most] w (Yes8 w) := by
  have HP := hide hp
  have Hs := hide hs
  clear hp hs
  by_cases hbig : 200 < s.size
  · have t1 : decide (200 < s.size) = true := decide_eq_true hbig
    have t2 : decide ((200 : Int) < (s.size : Int)) = true := decide_eq_true (by omega)
    clear hbig
    go_enter Tryd.func9, Tryd.ntmps9
    go_wp2_with fail
    refine (alive03 _ HP.out).mono ?_
    rintro e w1 ⟨rfl, hb1⟩
    have HB := hide hb1
    clear hb1
    go_wp2_with fail
    go_ret
    exact ⟨rfl, HB.out⟩
  have t1 : decide (200 < s.size) = false := decide_eq_false hbig
  have t2 : decide ((200 : Int) < (s.size : Int)) = false := decide_eq_false (by omega)
  clear hbig
  go_enter Tryd.func9, Tryd.ntmps9
  go_wp2_with fail
  refine (natural_any s most _ Hs.out m0 m1).mono ?_
  rintro e w1 ⟨rfl, hb1⟩
  have HB1 := hide hb1
  have HP1 := hide (HP.out.below hb1)
  obtain ⟨x, hx⟩ : ∃ x, natN s most = x := ⟨_, rfl⟩
  obtain ⟨y, hy⟩ : ∃ y, natB s most = y := ⟨_, rfl⟩
  have HX := hide hx
  have HY := hide hy
  rw [hx, hy]
  clear hb1 hx hy
  go_wp2_with fail
  refine (rnatural_any s most _ Hs.out m0 m1).mono ?_
  rw [HX.out, HY.out]
  rintro e w2 ⟨rfl, rfl⟩
  have q1 : (x == x) = true := beq_self_eq_true _
  have q2 : (y == y) = true := beq_self_eq_true _
  go_wp2_with fail
  refine (alive03 _ HP1.out).mono ?_
  rintro e w9 ⟨rfl, hb9⟩
  have HB9 := hide (HB1.out.of hb9)
  clear hb9
  go_wp2_with fail
  go_ret
  exact ⟨rfl, HB9.out⟩
theorem ReadR.same {s : ByteArray} {x y : Int} {a b : Bool} (h : ReadR s x a) (k : ReadR s y b) : x = y ∧ a = b := by
  rcases h with ⟨rfl, h0, h1, h2⟩ | ⟨rfl, rfl, h2⟩ <;> rcases k with ⟨rfl, k0, k1, k2⟩ | ⟨rfl, rfl, k2⟩
  · exact ⟨intS_inj3 h0 h1 k0 k1 (h2.symm.trans k2), rfl⟩
  · exact absurd h2 (k2 x h0 h1)
  · exact absurd k2 (h2 y k0 k1)
  · exact ⟨rfl, rfl⟩
set_option maxRecDepth 20000 in
set_option maxHeartbeats 3200000 in
theorem reads_walk03 (s : ByteArray) (w : World) (hs : s.size ≤ 9223372036854775807) (hp : PowW w) : Calls Tryd.prog 8 #[.string s] w (Yes8 w) := by
  have HP := hide hp
  have Hs := hide hs
  clear hp hs
  by_cases hbig : 200 < s.size
  · have t1 : decide (200 < s.size) = true := decide_eq_true hbig
    have t2 : decide ((200 : Int) < (s.size : Int)) = true := decide_eq_true (by omega)
    clear hbig
    go_enter Tryd.func8, Tryd.ntmps8
    go_wp2_with fail
    refine (alive03 _ HP.out).mono ?_
    rintro e w1 ⟨rfl, hb1⟩
    have HB := hide hb1
    clear hb1
    go_wp2_with fail
    go_ret
    exact ⟨rfl, HB.out⟩
  have t1 : decide (200 < s.size) = false := decide_eq_false hbig
  have t2 : decide ((200 : Int) < (s.size : Int)) = false := decide_eq_false (by omega)
  clear hbig
  go_enter Tryd.func8, Tryd.ntmps8
  go_wp2_with fail
  refine (kread03 s _ Hs.out).mono ?_
  rintro e w1 ⟨x, is, rfl, hq, hb1⟩
  have HQ := hide hq
  have HB1 := hide hb1
  have HP1 := hide (HP.out.below hb1)
  clear hb1 hq
  go_wp2_with fail
  refine (rread03 s _ Hs.out).mono ?_
  rintro e w2 ⟨y, was, rfl, hq, hb2⟩
  obtain ⟨rfl, rfl⟩ := HQ.out.same hq
  have HB2 := hide (HB1.out.of hb2)
  have HP2 := hide (HP1.out.below hb2)
  have q1 : (x == x) = true := beq_self_eq_true _
  clear hb2 hq
  cases is with
  | false =>
    have q2 : (false == false) = true := rfl
    go_wp2_with fail
    refine (alive03 _ HP2.out).mono ?_
    rintro e w9 ⟨rfl, hb9⟩
    have HB9 := hide (HB2.out.of hb9)
    clear hb9
    go_wp2_with fail
    go_ret
    exact ⟨rfl, HB9.out⟩
  | true =>
    have q2 : (true == true) = true := rfl
    obtain ⟨h0, h1, h2⟩ : -9223372036854775808 ≤ x ∧ x ≤ 9223372036854775807 ∧ s = intS x := by
      rcases HQ.out with ⟨_, h⟩ | ⟨h, _⟩
      · exact h
      · cases h
    have HT := hide (dtextI x h0 h1 _ HP2.out)
    rw [← h2] at HT
    have q3 : (s.toList == s.toList) = true := beq_self_eq_true _
    clear h0 h1 h2 HQ
    go_wp2_with fail
    refine HT.out.mono ?_
    rintro e w3 ⟨rfl, hb3⟩
    have HB3 := hide (HB2.out.of hb3)
    have HP3 := hide (HP2.out.below hb3)
    clear hb3
    go_wp2_with fail
    refine (alive03 _ HP3.out).mono ?_
    rintro e w9 ⟨rfl, hb9⟩
    have HB9 := hide (HB3.out.of hb9)
    clear hb9
    go_wp2_with fail
    go_ret
    exact ⟨rfl, HB9.out⟩
end Go.Proofs.YtdlmmjnomeladaaDoor
