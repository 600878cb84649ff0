/- Rt1, Rt2, Rt3, Rt4a, Rt5 in one text. -/
import Derived.Test.YtminoofghdpomaaDoorRc1
import Derived.Test.YtminoofghdpomaaDoorHea1
import Derived.Test.YtminoofghdpomaaDoorKn6
import Derived.Test.YtminoofghdpomaaDoorDx6
import Derived.Test.YtminoofghdpomaaDoorN5
import Derived.Test.YtminoofghdpomaaDoorN7
import Derived.Test.YtminoofghdpomaaDoorKn7
import Derived.Deep.RegionHeld3
namespace Go.Proofs.YtminoofghdpomaaDoor
set_option linter.unusedVariables false
set_option linter.unusedSimpArgs false
section
open Go.RowKit Go.PlainAid

def FRM : ByteArray := ⟨#[102, 114, 97, 109, 101]⟩
/-- May a record be? -/
def RcP (a t fl st le k : Int) : Prop := (a = 0 ∨ a = 1) ∧ (1 ≤ k ∧ k ≤ 4) ∧ ((t = -1 ∧ a = 0 ∧ fl = 0 ∧ st = 0 ∧ le = 24) ∨ (t ≠ -1 ∧ HdR le t fl st))
def rcW (a t fl st le k : Int) : List ByteArray := [FRM, sideS a, nameT t, intS fl, intS st, intS le, kindS k]
def rcT (a t fl st le k : Int) : ByteArray := jnS ⟨#[32]⟩ (rcW a t fl st le k)
theorem RcP.bd {a t fl st le k : Int} (h : RcP a t fl st le k) : (a = 0 ∨ a = 1) ∧ (k = 1 ∨ k = 2 ∨ k = 3 ∨ k = 4) ∧ (-1 ≤ t ∧ t ≤ 255) ∧ (0 ≤ fl ∧ fl ≤ 255) ∧ (0 ≤ st ∧ st ≤ 2147483647) ∧ (0 ≤ le ∧ le ≤ 16777215) := by
  obtain ⟨h1, h2, h3⟩ := h
  refine ⟨h1, by omega, ?_⟩
  rcases h3 with ⟨rfl, _, rfl, rfl, rfl⟩ | ⟨_, h4, h5, h6, h7⟩
  · omega
  · omega
theorem wd_of {x : ByteArray} (h0 : 0 < x.size) (h : ∀ c ∈ x.data.toList, c ≠ 32 ∧ c ≠ 10) : wdB x = true := by
  unfold wdB
  have e1 : x.data.toList.isEmpty = false := by
    cases hl : x.data.toList with
    | nil =>
      rw [Lib.size_eq, hl] at h0
      exact absurd h0 (by simp)
    | cons a l => rfl
  have e2 : spL x.data.toList = false := by
    cases hs : spL x.data.toList with
    | false => rfl
    | true =>
      unfold spL at hs
      obtain ⟨c, hc, e⟩ := List.any_eq_true.1 hs
      unfold spC at e
      have := h c hc
      simp only [Bool.or_eq_true, beq_iff_eq] at e
      rcases e with e | e
      · exact absurd e this.1
      · exact absurd e this.2
  rw [e1, e2]
  rfl
theorem wd_no {x : ByteArray} (h : wdB x = true) : (32 : UInt8) ∉ x.data.toList := fun hm => by
  unfold wdB at h
  simp only [Bool.and_eq_true, Bool.not_eq_true'] at h
  have h2 := h.2
  unfold spL at h2
  rw [List.any_eq_false] at h2
  exact h2 32 hm (by decide)
theorem dig_no {n : Nat} {c : UInt8} (h : c ∈ decL n) : c ≠ 32 ∧ c ≠ 10 := by
  have := decL_dig n c h
  constructor
  · rintro rfl
    exact absurd this.1 (by decide)
  · rintro rfl
    exact absurd this.1 (by decide)
theorem wd_int {u : Int} (h0 : -9223372036854775808 ≤ u) (h1 : u ≤ 9223372036854775807) : wdB (intS u) = true := by
  refine wd_of (intS_size h0 h1).1 (fun c hc => ?_)
  unfold intS at hc
  split at hc
  · rcases List.mem_cons.1 hc with rfl | h
    · decide
    · exact dig_no h
  · exact dig_no hc
theorem wd_name {t : Int} (h0 : -1 ≤ t) (h1 : t ≤ 255) : wdB (nameT t) = true ∧ (nameT t).size ≤ 1000 := by
  by_cases e : t = -1
  · subst e
    decide
  · by_cases e2 : t < 10
    · rw [nameT_known (by omega) e2]
      have : ∀ d, d < 10 → wdB (nmL.getD d ⟨#[]⟩) = true ∧ (nmL.getD d ⟨#[]⟩).size ≤ 1000 := by decide
      exact this _ (by omega)
    · rw [nameT_more (by omega) h1]
      have hs := decL_len 10 t.toNat (by omega) (by omega)
      have h5 : (⟨#[84, 89, 80, 69, 95]⟩ : ByteArray).size = 5 := rfl
      refine ⟨wd_of (by rw [ByteArray.size_append]; omega) (fun c hc => ?_), ?_⟩
      · rw [cat_data] at hc
        rcases List.mem_append.1 hc with h | h
        · have : ∀ c ∈ ([84, 89, 80, 69, 95] : List UInt8), c ≠ 32 ∧ c ≠ 10 := by decide
          exact this c h
        · exact dig_no h
      · rw [ByteArray.size_append, decS_size]
        omega
theorem wd_side {a : Int} (h : a = 0 ∨ a = 1) : wdB (sideS a) = true ∧ (sideS a).size ≤ 1000 := by
  rcases h with rfl | rfl <;> decide
theorem wd_kind {k : Int} (h : k = 1 ∨ k = 2 ∨ k = 3 ∨ k = 4) : wdB (kindS k) = true ∧ (kindS k).size ≤ 1000 := by
  rcases h with rfl | rfl | rfl | rfl <;> decide
theorem rc_words {a t fl st le k : Int} (h : RcP a t fl st le k) : ∀ x ∈ rcW a t fl st le k, wdB x = true ∧ x.size ≤ 1000 := by
  obtain ⟨h1, h2, ⟨h3, h4⟩, ⟨h5, h6⟩, ⟨h7, h8⟩, h9, h10⟩ := h.bd
  intro x hx
  simp only [rcW, List.mem_cons, List.not_mem_nil, or_false] at hx
  have hi : ∀ u : Int, 0 ≤ u → u ≤ 2147483647 → wdB (intS u) = true ∧ (intS u).size ≤ 1000 := fun u a b => ⟨wd_int (by omega) (by omega), by have := (intS_size (u := u) (by omega) (by omega)).2; omega⟩
  rcases hx with rfl | rfl | rfl | rfl | rfl | rfl | rfl
  · decide
  · exact wd_side h1
  · exact wd_name h3 h4
  · exact hi _ h5 (by omega)
  · exact hi _ h7 h8
  · exact hi _ h9 (by omega)
  · exact wd_kind h2
theorem rc_parts {a t fl st le k : Int} (h : RcP a t fl st le k) : pcB 32 (rcT a t fl st le k) = rcW a t fl st le k :=
  pcB_join (by simp [rcW]) (fun x hx => wd_no (rc_words h x hx).1)
theorem side_inj {a b : Int} (h : a = 0 ∨ a = 1) (k : b = 0 ∨ b = 1) (e : sideS a = sideS b) : a = b := by
  rcases h with rfl | rfl <;> rcases k with rfl | rfl
  · rfl
  · exact absurd e (by decide)
  · exact absurd e (by decide)
  · rfl
theorem kind_inj {a b : Int} (h : a = 1 ∨ a = 2 ∨ a = 3 ∨ a = 4) (k : b = 1 ∨ b = 2 ∨ b = 3 ∨ b = 4) (e : kindS a = kindS b) : a = b := by
  rcases h with rfl | rfl | rfl | rfl <;> rcases k with rfl | rfl | rfl | rfl <;> first | rfl | exact absurd e (by decide)
/-- What a line reads as: a record that may be whose line it is, or none. -/
def RcR (s : ByteArray) (a t fl st le k : Int) (ok : Bool) : Prop :=
  (ok = true ∧ RcP a t fl st le k ∧ s = rcT a t fl st le k) ∨ (ok = false ∧ (a = 0 ∧ t = 0 ∧ fl = 0 ∧ st = 0 ∧ le = 0 ∧ k = 0) ∧ ∀ a' t' fl' st' le' k', RcP a' t' fl' st' le' k' → s ≠ rcT a' t' fl' st' le' k')
theorem rc_inj {a t fl st le k a' t' fl' st' le' k' : Int} (h : RcP a t fl st le k) (q : RcP a' t' fl' st' le' k') (e : rcT a t fl st le k = rcT a' t' fl' st' le' k') : a = a' ∧ t = t' ∧ fl = fl' ∧ st = st' ∧ le = le' ∧ k = k' := by
  have e2 := congrArg (pcB 32) e
  rw [rc_parts h, rc_parts q] at e2
  simp only [rcW, List.cons.injEq, and_true, true_and] at e2
  obtain ⟨e3, e4, e5, e6, e7, e8⟩ := e2
  obtain ⟨h1, h2, ⟨h3, h4⟩, ⟨h5, h6⟩, ⟨h7, h8⟩, h9, h10⟩ := h.bd
  obtain ⟨q1, q2, ⟨q3, q4⟩, ⟨q5, q6⟩, ⟨q7, q8⟩, q9, q10⟩ := q.bd
  exact ⟨side_inj h1 q1 e3, name_inj h3 h4 q3 q4 e4, intS_inj3 (by omega) (by omega) (by omega) (by omega) e5, intS_inj3 (by omega) (by omega) (by omega) (by omega) e6, intS_inj3 (by omega) (by omega) (by omega) (by omega) e7, kind_inj h2 q2 e8⟩
theorem RcR.same {s : ByteArray} {a t fl st le k a' t' fl' st' le' k' : Int} {o o' : Bool} (h : RcR s a t fl st le k o) (q : RcR s a' t' fl' st' le' k' o') : (a = a' ∧ t = t' ∧ fl = fl' ∧ st = st' ∧ le = le' ∧ k = k') ∧ o = o' := by
  rcases h with ⟨rfl, h1, h2⟩ | ⟨rfl, ⟨rfl, rfl, rfl, rfl, rfl, rfl⟩, h2⟩ <;> rcases q with ⟨rfl, q1, q2⟩ | ⟨rfl, ⟨rfl, rfl, rfl, rfl, rfl, rfl⟩, q2⟩
  · exact ⟨rc_inj h1 q1 (h2.symm.trans q2), rfl⟩
  · exact absurd h2 (q2 _ _ _ _ _ _ h1)
  · exact absurd q2 (h2 _ _ _ _ _ _ q1)
  · exact ⟨⟨rfl, rfl, rfl, rfl, rfl, rfl⟩, rfl⟩
end

section
open Go.RowKit Go.PlainAid

instance (a t fl st le k : Int) : Decidable (RcP a t fl st le k) := by unfold RcP HdR; infer_instance
def rcB (a t fl st le k : Int) : Bool := decide (RcP a t fl st le k)
theorem rc_not1 {a t fl st le k : Int} (h : ¬ (a = 0 ∨ a = 1)) : rcB a t fl st le k = false := decide_eq_false fun q => h q.1
theorem rc_not2 {a t fl st le k : Int} (h : ¬ (1 ≤ k ∧ k ≤ 4)) : rcB a t fl st le k = false := decide_eq_false fun q => h q.2.1
theorem rc_pre {a fl st le k : Int} (h1 : a = 0 ∨ a = 1) (h2 : 1 ≤ k ∧ k ≤ 4) : rcB a (-1) fl st le k = decide (a = 0 ∧ fl = 0 ∧ st = 0 ∧ le = 24) := by
  by_cases h : a = 0 ∧ fl = 0 ∧ st = 0 ∧ le = 24
  · rw [decide_eq_true h]
    exact decide_eq_true (p := RcP a (-1) fl st le k) ⟨h1, h2, .inl ⟨rfl, h⟩⟩
  · rw [decide_eq_false h]
    refine decide_eq_false (p := RcP a (-1) fl st le k) fun q => ?_
    rcases q.2.2 with ⟨_, q⟩ | ⟨q, _⟩
    · exact h q
    · exact q rfl
theorem rc_head {a t fl st le k : Int} (h1 : a = 0 ∨ a = 1) (h2 : 1 ≤ k ∧ k ≤ 4) (h3 : t ≠ -1) (h4 : HdR le t fl st) : rcB a t fl st le k = true := decide_eq_true ⟨h1, h2, .inr ⟨h3, h4⟩⟩
theorem rc_no_head {a t fl st le k : Int} (h3 : t ≠ -1) (h4 : ¬ HdR le t fl st) : rcB a t fl st le k = false := decide_eq_false fun q => by
  rcases q.2.2 with ⟨e, _⟩ | ⟨_, e⟩
  · exact h3 e
  · exact h4 e
theorem side_size {a : Int} (h : a = 0 ∨ a = 1) : (sideS a).size ≠ 0 := by rcases h with rfl | rfl <;> decide
theorem side_none {a : Int} (h : ¬ (a = 0 ∨ a = 1)) : (sideS a).size = 0 := by
  unfold sideS
  rw [if_neg (fun e => h (.inl e)), if_neg (fun e => h (.inr e))]
  rfl
theorem kind_size {k : Int} (h : 1 ≤ k ∧ k ≤ 4) : (kindS k).size ≠ 0 := by
  have : k = 1 ∨ k = 2 ∨ k = 3 ∨ k = 4 := by omega
  rcases this with rfl | rfl | rfl | rfl <;> decide
theorem kind_none {k : Int} (h : ¬ (1 ≤ k ∧ k ≤ 4)) : (kindS k).size = 0 := by
  unfold kindS
  rw [if_neg (by omega), if_neg (by omega), if_neg (by omega), if_neg (by omega)]
  rfl
set_option maxRecDepth 20000 in
set_option maxHeartbeats 3200000 in
theorem kright41 (a t fl st le k : Int) (w : World) : Calls Tryd.prog 7 #[.agg #[.int .i64 a, .int .i64 t, .int .i64 fl, .int .i64 st, .int .i64 le, .int .i64 k]] w fun e w' => e = .returned (.bool (rcB a t fl st le k)) ∧ Below w.heap.size w w' := by
  have R0 := heap_alloc_new w (.cells #[.int .i64 a, .int .i64 t, .int .i64 fl, .int .i64 st, .int .i64 le, .int .i64 k] 23)
  have B0 : Hid (Below w.heap.size w (w.alloc (.cells #[.int .i64 a, .int .i64 t, .int .i64 fl, .int .i64 st, .int .i64 le, .int .i64 k] 23))) := (Below.refl _ _).alloc (Nat.le_refl _) _
  obtain ⟨c0, c1, c2, c3, c4, c5⟩ := row6R R0
  obtain ⟨ys, hys⟩ : ∃ y, sideS a = y := ⟨_, rfl⟩
  obtain ⟨yk, hyk⟩ : ∃ y, kindS k = y := ⟨_, rfl⟩
  have KS := hide (fun W => side41 a W)
  have KK := hide (fun W => kind41 k W)
  rw [hys] at KS
  rw [hyk] at KK
  by_cases h1 : a = 0 ∨ a = 1
  · have z1 : ys.toList.isEmpty = false := by rw [← hys]; exact isEmpty_no (side_size h1)
    by_cases h2 : 1 ≤ k ∧ k ≤ 4
    · have z2 : yk.toList.isEmpty = false := by rw [← hyk]; exact isEmpty_no (kind_size h2)
      clear hys hyk
      by_cases ht : t = -1
      · subst ht
        have HV := hide (rc_pre (fl := fl) (st := st) (le := le) h1 h2)
        clear h1 h2
        by_cases q0 : a = 0
        · have b0 : (a == 0) = true := by simpa using q0
          by_cases q1 : fl = 0
          · have b1 : (fl == 0) = true := by simpa using q1
            by_cases q2 : st = 0
            · have b2 : (st == 0) = true := by simpa using q2
              by_cases q3 : le = 24
              · have b3 : (le == 24) = true := by simpa using q3
                have HV2 : Hid (rcB a (-1) fl st le k = true) := HV.out.trans (decide_eq_true ⟨q0, q1, q2, q3⟩)
                clear HV q0 q1 q2 q3
                go_enter Tryd.func7, Tryd.ntmps7
                go_wp2_with (first | (go_at_call 15; refine (KS.out _).mono ?_; rintro e w1 ⟨rfl, rfl⟩) | (go_at_call 16; refine (KK.out _).mono ?_; rintro e w2 ⟨rfl, rfl⟩) | fail)
                go_ret
                exact ⟨by rw [HV2.out]; rfl, B0.out⟩
              · have b3 : (le == 24) = false := by simpa using q3
                have HV2 : Hid (rcB a (-1) fl st le k = false) := HV.out.trans (decide_eq_false fun h => q3 h.2.2.2)
                clear HV q0 q1 q2 q3
                go_enter Tryd.func7, Tryd.ntmps7
                go_wp2_with (first | (go_at_call 15; refine (KS.out _).mono ?_; rintro e w1 ⟨rfl, rfl⟩) | (go_at_call 16; refine (KK.out _).mono ?_; rintro e w2 ⟨rfl, rfl⟩) | fail)
                go_ret
                exact ⟨by rw [HV2.out]; rfl, B0.out⟩
            · have b2 : (st == 0) = false := by simpa using q2
              have HV2 : Hid (rcB a (-1) fl st le k = false) := HV.out.trans (decide_eq_false fun h => q2 h.2.2.1)
              clear HV q0 q1 q2
              go_enter Tryd.func7, Tryd.ntmps7
              go_wp2_with (first | (go_at_call 15; refine (KS.out _).mono ?_; rintro e w1 ⟨rfl, rfl⟩) | (go_at_call 16; refine (KK.out _).mono ?_; rintro e w2 ⟨rfl, rfl⟩) | fail)
              go_ret
              exact ⟨by rw [HV2.out]; rfl, B0.out⟩
          · have b1 : (fl == 0) = false := by simpa using q1
            have HV2 : Hid (rcB a (-1) fl st le k = false) := HV.out.trans (decide_eq_false fun h => q1 h.2.1)
            clear HV q0 q1
            go_enter Tryd.func7, Tryd.ntmps7
            go_wp2_with (first | (go_at_call 15; refine (KS.out _).mono ?_; rintro e w1 ⟨rfl, rfl⟩) | (go_at_call 16; refine (KK.out _).mono ?_; rintro e w2 ⟨rfl, rfl⟩) | fail)
            go_ret
            exact ⟨by rw [HV2.out]; rfl, B0.out⟩
        · have b0 : (a == 0) = false := by simpa using q0
          have HV2 : Hid (rcB a (-1) fl st le k = false) := HV.out.trans (decide_eq_false fun h => q0 h.1)
          clear HV q0
          go_enter Tryd.func7, Tryd.ntmps7
          go_wp2_with (first | (go_at_call 15; refine (KS.out _).mono ?_; rintro e w1 ⟨rfl, rfl⟩) | (go_at_call 16; refine (KK.out _).mono ?_; rintro e w2 ⟨rfl, rfl⟩) | fail)
          go_ret
          exact ⟨by rw [HV2.out]; rfl, B0.out⟩
      · have d1 : (t == -1) = false := by simpa using ht
        by_cases hh : HdR le t fl st
        · have HV := hide (rc_head h1 h2 ht hh)
          have KH := hide (fun W => hright_yes le t fl st false W hh)
          clear h1 h2 ht hh
          go_enter Tryd.func7, Tryd.ntmps7
          go_wp2_with (first | (go_at_call 15; refine (KS.out _).mono ?_; rintro e w1 ⟨rfl, rfl⟩) | (go_at_call 16; refine (KK.out _).mono ?_; rintro e w2 ⟨rfl, rfl⟩) | fail)
          refine (KH.out _).mono ?_
          rintro e w3 ⟨rfl, hb⟩
          have HB := hide (B0.out.of hb)
          clear hb
          go_wp2_with fail
          go_ret
          exact ⟨by rw [HV.out]; rfl, HB.out⟩
        · have HV := hide (rc_no_head (a := a) (k := k) ht hh)
          have KH := hide (fun W => hright_no le t fl st false W hh)
          clear h1 h2 ht hh
          go_enter Tryd.func7, Tryd.ntmps7
          go_wp2_with (first | (go_at_call 15; refine (KS.out _).mono ?_; rintro e w1 ⟨rfl, rfl⟩) | (go_at_call 16; refine (KK.out _).mono ?_; rintro e w2 ⟨rfl, rfl⟩) | fail)
          refine (KH.out _).mono ?_
          rintro e w3 ⟨rfl, hb⟩
          have HB := hide (B0.out.of hb)
          clear hb
          go_wp2_with fail
          go_ret
          exact ⟨by rw [HV.out]; rfl, HB.out⟩
    · have z2 : yk.toList.isEmpty = true := by rw [← hyk]; exact isEmpty_yes (kind_none h2)
      have HV := hide (rc_not2 (a := a) (t := t) (fl := fl) (st := st) (le := le) h2)
      clear hys hyk h1 h2
      go_enter Tryd.func7, Tryd.ntmps7
      go_wp2_with (first | (go_at_call 15; refine (KS.out _).mono ?_; rintro e w1 ⟨rfl, rfl⟩) | (go_at_call 16; refine (KK.out _).mono ?_; rintro e w2 ⟨rfl, rfl⟩) | fail)
      go_ret
      exact ⟨by rw [HV.out]; rfl, B0.out⟩
  · have z1 : ys.toList.isEmpty = true := by rw [← hys]; exact isEmpty_yes (side_none h1)
    have HV := hide (rc_not1 (t := t) (fl := fl) (st := st) (le := le) (k := k) h1)
    clear hys hyk h1
    go_enter Tryd.func7, Tryd.ntmps7
    go_wp2_with (first | (go_at_call 15; refine (KS.out _).mono ?_; rintro e w1 ⟨rfl, rfl⟩) | (go_at_call 16; refine (KK.out _).mono ?_; rintro e w2 ⟨rfl, rfl⟩) | fail)
    go_ret
    exact ⟨by rw [HV.out]; rfl, B0.out⟩
set_option maxRecDepth 20000 in
set_option maxHeartbeats 3200000 in
theorem rright41 (a t fl st le k : Int) (w : World) : Calls Tryd.prog 8 #[.agg #[.int .i64 a, .int .i64 t, .int .i64 fl, .int .i64 st, .int .i64 le, .int .i64 k]] w fun e w' => e = .returned (.bool (rcB a t fl st le k)) ∧ Below w.heap.size w w' := by
  have R0 := heap_alloc_new w (.cells #[.int .i64 a, .int .i64 t, .int .i64 fl, .int .i64 st, .int .i64 le, .int .i64 k] 23)
  have B0 : Hid (Below w.heap.size w (w.alloc (.cells #[.int .i64 a, .int .i64 t, .int .i64 fl, .int .i64 st, .int .i64 le, .int .i64 k] 23))) := (Below.refl _ _).alloc (Nat.le_refl _) _
  obtain ⟨c0, c1, c2, c3, c4, c5⟩ := row6R R0
  by_cases h1 : a = 0 ∨ a = 1
  · by_cases h2 : 1 ≤ k ∧ k ≤ 4
    · have m1 : decide (k < 1) = false := decide_eq_false (by omega)
      have m2 : decide (4 < k) = false := decide_eq_false (by omega)
      have ha : ((a != 0) && (a != 1)) = false := by rcases h1 with rfl | rfl <;> rfl
      by_cases ht : t = -1
      · subst ht
        have HV := hide (rc_pre (fl := fl) (st := st) (le := le) h1 h2)
        rcases h1 with rfl | rfl
        · clear h2 ha
          by_cases q0 : fl = 0
          · have b0 : (fl == 0) = true := by simpa using q0
            by_cases q1 : st = 0
            · have b1 : (st == 0) = true := by simpa using q1
              by_cases q2 : le = 24
              · have b2 : (le == 24) = true := by simpa using q2
                have HV2 : Hid (rcB 0 (-1) fl st le k = true) := HV.out.trans (decide_eq_true ⟨rfl, q0, q1, q2⟩)
                clear HV q0 q1 q2
                go_enter Tryd.func8, Tryd.ntmps8
                go_wp2_with fail
                go_ret
                exact ⟨by rw [HV2.out]; rfl, B0.out⟩
              · have b2 : (le == 24) = false := by simpa using q2
                have HV2 : Hid (rcB 0 (-1) fl st le k = false) := HV.out.trans (decide_eq_false fun h => q2 h.2.2.2)
                clear HV q0 q1 q2
                go_enter Tryd.func8, Tryd.ntmps8
                go_wp2_with fail
                go_ret
                exact ⟨by rw [HV2.out]; rfl, B0.out⟩
            · have b1 : (st == 0) = false := by simpa using q1
              have HV2 : Hid (rcB 0 (-1) fl st le k = false) := HV.out.trans (decide_eq_false fun h => q1 h.2.2.1)
              clear HV q0 q1
              go_enter Tryd.func8, Tryd.ntmps8
              go_wp2_with fail
              go_ret
              exact ⟨by rw [HV2.out]; rfl, B0.out⟩
          · have b0 : (fl == 0) = false := by simpa using q0
            have HV2 : Hid (rcB 0 (-1) fl st le k = false) := HV.out.trans (decide_eq_false fun h => q0 h.2.1)
            clear HV q0
            go_enter Tryd.func8, Tryd.ntmps8
            go_wp2_with fail
            go_ret
            exact ⟨by rw [HV2.out]; rfl, B0.out⟩
        · clear h2 ha
          have HV2 : Hid (rcB 1 (-1) fl st le k = false) := HV.out.trans (decide_eq_false fun h => absurd h.1 (by decide))
          clear HV
          go_enter Tryd.func8, Tryd.ntmps8
          go_wp2_with fail
          go_ret
          exact ⟨by rw [HV2.out]; rfl, B0.out⟩
      · have d1 : (t == -1) = false := by simpa using ht
        by_cases hh : HdR le t fl st
        · have HV := hide (rc_head h1 h2 ht hh)
          have KH := hide (fun W => rright_yes le t fl st false W hh)
          clear h2 ht hh ha
          rcases h1 with rfl | rfl
          · go_enter Tryd.func8, Tryd.ntmps8
            go_wp2_with fail
            refine (KH.out _).mono ?_
            rintro e w3 ⟨rfl, hb⟩
            have HB := hide (B0.out.of hb)
            clear hb
            go_wp2_with fail
            go_ret
            exact ⟨by rw [HV.out]; rfl, HB.out⟩
          · go_enter Tryd.func8, Tryd.ntmps8
            go_wp2_with fail
            refine (KH.out _).mono ?_
            rintro e w3 ⟨rfl, hb⟩
            have HB := hide (B0.out.of hb)
            clear hb
            go_wp2_with fail
            go_ret
            exact ⟨by rw [HV.out]; rfl, HB.out⟩
        · have HV := hide (rc_no_head (a := a) (k := k) ht hh)
          have KH := hide (fun W => rright_no le t fl st false W hh)
          clear h2 ht hh ha
          rcases h1 with rfl | rfl
          · go_enter Tryd.func8, Tryd.ntmps8
            go_wp2_with fail
            refine (KH.out _).mono ?_
            rintro e w3 ⟨rfl, hb⟩
            have HB := hide (B0.out.of hb)
            clear hb
            go_wp2_with fail
            go_ret
            exact ⟨by rw [HV.out]; rfl, HB.out⟩
          · go_enter Tryd.func8, Tryd.ntmps8
            go_wp2_with fail
            refine (KH.out _).mono ?_
            rintro e w3 ⟨rfl, hb⟩
            have HB := hide (B0.out.of hb)
            clear hb
            go_wp2_with fail
            go_ret
            exact ⟨by rw [HV.out]; rfl, HB.out⟩
    · have HV := hide (rc_not2 (a := a) (t := t) (fl := fl) (st := st) (le := le) h2)
      by_cases m : k < 1
      · have m1 : decide (k < 1) = true := decide_eq_true m
        clear h2 m
        rcases h1 with rfl | rfl
        · go_enter Tryd.func8, Tryd.ntmps8
          go_wp2_with fail
          go_ret
          exact ⟨by rw [HV.out]; rfl, B0.out⟩
        · go_enter Tryd.func8, Tryd.ntmps8
          go_wp2_with fail
          go_ret
          exact ⟨by rw [HV.out]; rfl, B0.out⟩
      · have m1 : decide (k < 1) = false := decide_eq_false m
        have m2 : decide (4 < k) = true := decide_eq_true (by omega)
        clear h2 m
        rcases h1 with rfl | rfl
        · go_enter Tryd.func8, Tryd.ntmps8
          go_wp2_with fail
          go_ret
          exact ⟨by rw [HV.out]; rfl, B0.out⟩
        · go_enter Tryd.func8, Tryd.ntmps8
          go_wp2_with fail
          go_ret
          exact ⟨by rw [HV.out]; rfl, B0.out⟩
  · have HV := hide (rc_not1 (t := t) (fl := fl) (st := st) (le := le) (k := k) h1)
    have n0 : (a != 0) = true := by simp; omega
    have n1 : (a != 1) = true := by simp; omega
    clear h1
    go_enter Tryd.func8, Tryd.ntmps8
    go_wp2_with fail
    go_ret
    exact ⟨by rw [HV.out]; rfl, B0.out⟩
end

section
open Go.RowKit Go.PlainAid

def TxS (T : TypeId) (q : Nat) (cs : Array Value) (w W : World) : Prop := W.heap[q]? = some (.cells cs T (0, 0)) ∧ Below q w W
theorem TxS.next {T : TypeId} {q : Nat} {cs : Array Value} {w W v : World} (h : TxS T q cs w W) (hv : Below W.heap.size W v) : TxS T q cs w v :=
  ⟨keepRow h.1 hv, h.2.trans (hv.mono (Nat.le_of_lt (rowLt h.1)))⟩
theorem TxS.drew {T : TypeId} {q : Nat} {cs : Array Value} {w W : World} (h : TxS T q cs w W) : TxS T q cs w W.drew := ⟨h.1, h.2.drew⟩
theorem line_yes {ps : List ByteArray} {t : ByteArray} {ok : Bool} (h : LiR ps t ok) (hw : ∀ x ∈ ps, wdB x = true) : t = jnS ⟨#[32]⟩ ps ∧ ok = true := by
  rcases h with ⟨rfl, _, rfl⟩ | ⟨rfl, _, x, hx, e⟩
  · exact ⟨rfl, rfl⟩
  · rw [hw x hx] at e
    cases e
theorem ktext41_no (a t fl st le k : Int) (w : World) (h : rcB a t fl st le k = false) : Calls Tryd.prog 6 #[.agg #[.int .i64 a, .int .i64 t, .int .i64 fl, .int .i64 st, .int .i64 le, .int .i64 k]] w fun e w' => e = .returned (.tuple #[.string ⟨#[]⟩, .int .i64 1]) ∧ Below w.heap.size w w' := by
  have R0 := heap_alloc_new w (.cells #[.int .i64 a, .int .i64 t, .int .i64 fl, .int .i64 st, .int .i64 le, .int .i64 k] 23)
  have B0 : Hid (Below w.heap.size w (w.alloc (.cells #[.int .i64 a, .int .i64 t, .int .i64 fl, .int .i64 st, .int .i64 le, .int .i64 k] 23))) := (Below.refl _ _).alloc (Nat.le_refl _) _
  obtain ⟨c0, c1, c2, c3, c4, c5⟩ := row6R R0
  have KR := hide (fun W => kright41 a t fl st le k W)
  rw [h] at KR
  clear h
  go_enter Tryd.func6, Tryd.ntmps6
  go_wp2_with fail
  refine (KR.out _).mono ?_
  rintro e w1 ⟨rfl, hb⟩
  have HB := hide (B0.out.of hb)
  clear hb
  go_wp2_with fail
  go_ret2
  exact ⟨rfl, HB.out⟩
set_option maxRecDepth 20000 in
set_option maxHeartbeats 6400000 in
theorem ktext41_yes (a t fl st le k : Int) (w : World) (h : RcP a t fl st le k) (hN : NmW w) (hP : PowW w) : Calls Tryd.prog 6 #[.agg #[.int .i64 a, .int .i64 t, .int .i64 fl, .int .i64 st, .int .i64 le, .int .i64 k]] w fun e w' => e = .returned (.tuple #[.string (rcT a t fl st le k), .int .i64 0]) ∧ Below w.heap.size w w' := by
  have R0 := heap_alloc_new w (.cells #[.int .i64 a, .int .i64 t, .int .i64 fl, .int .i64 st, .int .i64 le, .int .i64 k] 23)
  have B0 : Hid (Below w.heap.size w (w.alloc (.cells #[.int .i64 a, .int .i64 t, .int .i64 fl, .int .i64 st, .int .i64 le, .int .i64 k] 23))) := (Below.refl _ _).alloc (Nat.le_refl _) _
  have HN := hide hN
  have HP := hide hP
  have T0 : Hid (TxS 23 w.heap.size #[.int .i64 a, .int .i64 t, .int .i64 fl, .int .i64 st, .int .i64 le, .int .i64 k] w (w.alloc (.cells #[.int .i64 a, .int .i64 t, .int .i64 fl, .int .i64 st, .int .i64 le, .int .i64 k] 23))) := ⟨R0, B0.out⟩
  obtain ⟨c0, c1, c2, c3, c4, c5⟩ := row6R R0
  have KR := hide (fun W => kright41 a t fl st le k W)
  rw [show rcB a t fl st le k = true from decide_eq_true h] at KR
  obtain ⟨_, _, ⟨t0, t1⟩, ⟨x0, x1⟩, ⟨y0, y1⟩, z0, z1⟩ := h.bd
  have HW := hide (rc_words h)
  obtain ⟨ys, hys⟩ : ∃ y, sideS a = y := ⟨_, rfl⟩
  obtain ⟨yk, hyk⟩ : ∃ y, kindS k = y := ⟨_, rfl⟩
  obtain ⟨yn, hyn⟩ : ∃ y, nameT t = y := ⟨_, rfl⟩
  obtain ⟨yf, hyf⟩ : ∃ y, intS fl = y := ⟨_, rfl⟩
  obtain ⟨yt, hyt⟩ : ∃ y, intS st = y := ⟨_, rfl⟩
  obtain ⟨yl, hyl⟩ : ∃ y, intS le = y := ⟨_, rfl⟩
  obtain ⟨ps, hps⟩ : ∃ ps, rcW a t fl st le k = ps := ⟨_, rfl⟩
  have HT : Hid (rcT a t fl st le k = jnS ⟨#[32]⟩ ps) := by unfold Hid; rw [← hps]; rfl
  have HPS : Hid (ps = [FRM, ys, yn, yf, yt, yl, yk]) := by unfold Hid; rw [← hps, ← hys, ← hyk, ← hyn, ← hyf, ← hyt, ← hyl]; rfl
  rw [hps] at HW
  have KS := hide (fun W => side41 a W)
  have KK := hide (fun W => kind41 k W)
  have KN := hide (fun W hN hP => kname08 t W hN hP)
  have KF := hide (fun W hP => dtextI fl (by omega) (by omega) W hP)
  have KT := hide (fun W hP => dtextI st (by omega) (by omega) W hP)
  have KL := hide (fun W hP => dtextI le (by omega) (by omega) W hP)
  rw [hys] at KS
  rw [hyk] at KK
  rw [hyn] at KN
  rw [hyf] at KF
  rw [hyt] at KT
  rw [hyl] at KL
  clear h hys hyk hyn hyf hyt hyl hps hN hP R0 t0 t1 x0 x1 y0 y1 z0 z1
  go_enter Tryd.func6, Tryd.ntmps6
  go_wp2_with fail
  refine (KR.out _).mono ?_
  rintro e w1 ⟨rfl, hb⟩
  have T1 := hide (T0.out.next hb)
  clear hb c0 c1 c2 c3 c4 c5 T0
  go_wp2_with fail
  refine wp_region_held_drew (S := TxS 23 w.heap.size #[.int .i64 a, .int .i64 t, .int .i64 fl, .int .i64 st, .int .i64 le, .int .i64 k] w) (by kernel_rfl) T1.out.drew (fun hHeld => ?_)
  refine wpAnyH_take (i := 0) (oi := ⟨some 10, .fieldAddr _ (.tmp 1) 0, _, _, _, _⟩) (v := ?vv1) rfl (by kernel_rfl) (by kernel_rfl) (by kernel_rfl) (fun _ _ _ h => h) (Or.inl ⟨by rfl, ?hy1⟩) (by assumption) ?_
  case hy1 =>
    intro w' hSw
    obtain ⟨s0, s1, s2, s3, s4, s5⟩ := row6R hSw.1
    go_simp
    try with_reducible rfl
  try simp only [Act.put, List.setIfInBounds_toArray, List.set_cons_zero, List.set_cons_succ]
  refine wpAnyH_take (i := 1) (oi := ⟨some 11, .load _ (.tmp 10), _, _, _, _⟩) (v := ?vv2) rfl (by kernel_rfl) (by kernel_rfl) (by kernel_rfl) (fun _ _ _ h => h) (Or.inl ⟨by rfl, ?hy2⟩) (by assumption) ?_
  case hy2 =>
    intro w' hSw
    obtain ⟨s0, s1, s2, s3, s4, s5⟩ := row6R hSw.1
    go_simp
    try with_reducible rfl
  try simp only [Act.put, List.setIfInBounds_toArray, List.set_cons_zero, List.set_cons_succ]
  refine wpAnyH_take (i := 3) (oi := ⟨some 13, .fieldAddr _ (.tmp 1) 1, _, _, _, _⟩) (v := ?vv3) rfl (by kernel_rfl) (by kernel_rfl) (by kernel_rfl) (fun _ _ _ h => h) (Or.inl ⟨by rfl, ?hy3⟩) (by assumption) ?_
  case hy3 =>
    intro w' hSw
    obtain ⟨s0, s1, s2, s3, s4, s5⟩ := row6R hSw.1
    go_simp
    try with_reducible rfl
  try simp only [Act.put, List.setIfInBounds_toArray, List.set_cons_zero, List.set_cons_succ]
  refine wpAnyH_take (i := 4) (oi := ⟨some 14, .load _ (.tmp 13), _, _, _, _⟩) (v := ?vv4) rfl (by kernel_rfl) (by kernel_rfl) (by kernel_rfl) (fun _ _ _ h => h) (Or.inl ⟨by rfl, ?hy4⟩) (by assumption) ?_
  case hy4 =>
    intro w' hSw
    obtain ⟨s0, s1, s2, s3, s4, s5⟩ := row6R hSw.1
    go_simp
    try with_reducible rfl
  try simp only [Act.put, List.setIfInBounds_toArray, List.set_cons_zero, List.set_cons_succ]
  refine wpAnyH_take (i := 6) (oi := ⟨some 16, .fieldAddr _ (.tmp 1) 2, _, _, _, _⟩) (v := ?vv5) rfl (by kernel_rfl) (by kernel_rfl) (by kernel_rfl) (fun _ _ _ h => h) (Or.inl ⟨by rfl, ?hy5⟩) (by assumption) ?_
  case hy5 =>
    intro w' hSw
    obtain ⟨s0, s1, s2, s3, s4, s5⟩ := row6R hSw.1
    go_simp
    try with_reducible rfl
  try simp only [Act.put, List.setIfInBounds_toArray, List.set_cons_zero, List.set_cons_succ]
  refine wpAnyH_take (i := 7) (oi := ⟨some 17, .load _ (.tmp 16), _, _, _, _⟩) (v := ?vv6) rfl (by kernel_rfl) (by kernel_rfl) (by kernel_rfl) (fun _ _ _ h => h) (Or.inl ⟨by rfl, ?hy6⟩) (by assumption) ?_
  case hy6 =>
    intro w' hSw
    obtain ⟨s0, s1, s2, s3, s4, s5⟩ := row6R hSw.1
    go_simp
    try with_reducible rfl
  try simp only [Act.put, List.setIfInBounds_toArray, List.set_cons_zero, List.set_cons_succ]
  refine wpAnyH_take (i := 9) (oi := ⟨some 19, .fieldAddr _ (.tmp 1) 3, _, _, _, _⟩) (v := ?vv7) rfl (by kernel_rfl) (by kernel_rfl) (by kernel_rfl) (fun _ _ _ h => h) (Or.inl ⟨by rfl, ?hy7⟩) (by assumption) ?_
  case hy7 =>
    intro w' hSw
    obtain ⟨s0, s1, s2, s3, s4, s5⟩ := row6R hSw.1
    go_simp
    try with_reducible rfl
  try simp only [Act.put, List.setIfInBounds_toArray, List.set_cons_zero, List.set_cons_succ]
  refine wpAnyH_take (i := 10) (oi := ⟨some 20, .load _ (.tmp 19), _, _, _, _⟩) (v := ?vv8) rfl (by kernel_rfl) (by kernel_rfl) (by kernel_rfl) (fun _ _ _ h => h) (Or.inl ⟨by rfl, ?hy8⟩) (by assumption) ?_
  case hy8 =>
    intro w' hSw
    obtain ⟨s0, s1, s2, s3, s4, s5⟩ := row6R hSw.1
    go_simp
    try with_reducible rfl
  try simp only [Act.put, List.setIfInBounds_toArray, List.set_cons_zero, List.set_cons_succ]
  refine wpAnyH_take (i := 12) (oi := ⟨some 22, .fieldAddr _ (.tmp 1) 4, _, _, _, _⟩) (v := ?vv9) rfl (by kernel_rfl) (by kernel_rfl) (by kernel_rfl) (fun _ _ _ h => h) (Or.inl ⟨by rfl, ?hy9⟩) (by assumption) ?_
  case hy9 =>
    intro w' hSw
    obtain ⟨s0, s1, s2, s3, s4, s5⟩ := row6R hSw.1
    go_simp
    try with_reducible rfl
  try simp only [Act.put, List.setIfInBounds_toArray, List.set_cons_zero, List.set_cons_succ]
  refine wpAnyH_take (i := 13) (oi := ⟨some 23, .load _ (.tmp 22), _, _, _, _⟩) (v := ?vv10) rfl (by kernel_rfl) (by kernel_rfl) (by kernel_rfl) (fun _ _ _ h => h) (Or.inl ⟨by rfl, ?hy10⟩) (by assumption) ?_
  case hy10 =>
    intro w' hSw
    obtain ⟨s0, s1, s2, s3, s4, s5⟩ := row6R hSw.1
    go_simp
    try with_reducible rfl
  try simp only [Act.put, List.setIfInBounds_toArray, List.set_cons_zero, List.set_cons_succ]
  refine wpAnyH_take (i := 15) (oi := ⟨some 25, .fieldAddr _ (.tmp 1) 5, _, _, _, _⟩) (v := ?vv11) rfl (by kernel_rfl) (by kernel_rfl) (by kernel_rfl) (fun _ _ _ h => h) (Or.inl ⟨by rfl, ?hy11⟩) (by assumption) ?_
  case hy11 =>
    intro w' hSw
    obtain ⟨s0, s1, s2, s3, s4, s5⟩ := row6R hSw.1
    go_simp
    try with_reducible rfl
  try simp only [Act.put, List.setIfInBounds_toArray, List.set_cons_zero, List.set_cons_succ]
  refine wpAnyH_take (i := 16) (oi := ⟨some 26, .load _ (.tmp 25), _, _, _, _⟩) (v := ?vv12) rfl (by kernel_rfl) (by kernel_rfl) (by kernel_rfl) (fun _ _ _ h => h) (Or.inl ⟨by rfl, ?hy12⟩) (by assumption) ?_
  case hy12 =>
    intro w' hSw
    obtain ⟨s0, s1, s2, s3, s4, s5⟩ := row6R hSw.1
    go_simp
    try with_reducible rfl
  try simp only [Act.put, List.setIfInBounds_toArray, List.set_cons_zero, List.set_cons_succ]
  refine wpAnyH_ready (rs := [2]) (by kernel_rfl) (by simp) ?_
  refine AllReadyH.cons (o := ⟨some 12, _, _, _, _, _⟩) rfl (fun K hK => ?_) AllReadyH.nil
  go_simp
  refine (KS.out _).mono ?_
  rintro e v1 ⟨rfl, rfl⟩
  refine hK.out _ _ (by assumption) (fun hHeld2 => ?_)
  clear hK K hHeld
  have hHeld := hHeld2
  clear hHeld2
  try simp only [Act.put, List.setIfInBounds_toArray, List.set_cons_zero, List.set_cons_succ]
  refine wpAnyH_ready (rs := [5]) (by kernel_rfl) (by simp) ?_
  refine AllReadyH.cons (o := ⟨some 15, _, _, _, _, _⟩) rfl (fun K hK => ?_) AllReadyH.nil
  go_simp
  refine (KN.out _ (HN.out.below hHeld.2) (HP.out.below hHeld.2)).mono ?_
  rintro e v2 ⟨rfl, hv⟩
  refine hK.out _ _ (TxS.next (by assumption) hv) (fun hHeld2 => ?_)
  clear hK K hHeld
  have hHeld := hHeld2
  clear hHeld2
  clear hv
  try simp only [Act.put, List.setIfInBounds_toArray, List.set_cons_zero, List.set_cons_succ]
  refine wpAnyH_ready (rs := [8]) (by kernel_rfl) (by simp) ?_
  refine AllReadyH.cons (o := ⟨some 18, _, _, _, _, _⟩) rfl (fun K hK => ?_) AllReadyH.nil
  go_simp
  refine (KF.out _ (HP.out.below hHeld.2)).mono ?_
  rintro e v3 ⟨rfl, hv⟩
  refine hK.out _ _ (TxS.next (by assumption) hv) (fun hHeld2 => ?_)
  clear hK K hHeld
  have hHeld := hHeld2
  clear hHeld2
  clear hv
  try simp only [Act.put, List.setIfInBounds_toArray, List.set_cons_zero, List.set_cons_succ]
  refine wpAnyH_ready (rs := [11]) (by kernel_rfl) (by simp) ?_
  refine AllReadyH.cons (o := ⟨some 21, _, _, _, _, _⟩) rfl (fun K hK => ?_) AllReadyH.nil
  go_simp
  refine (KT.out _ (HP.out.below hHeld.2)).mono ?_
  rintro e v4 ⟨rfl, hv⟩
  refine hK.out _ _ (TxS.next (by assumption) hv) (fun hHeld2 => ?_)
  clear hK K hHeld
  have hHeld := hHeld2
  clear hHeld2
  clear hv
  try simp only [Act.put, List.setIfInBounds_toArray, List.set_cons_zero, List.set_cons_succ]
  refine wpAnyH_ready (rs := [14]) (by kernel_rfl) (by simp) ?_
  refine AllReadyH.cons (o := ⟨some 24, _, _, _, _, _⟩) rfl (fun K hK => ?_) AllReadyH.nil
  go_simp
  refine (KL.out _ (HP.out.below hHeld.2)).mono ?_
  rintro e v5 ⟨rfl, hv⟩
  refine hK.out _ _ (TxS.next (by assumption) hv) (fun hHeld2 => ?_)
  clear hK K hHeld
  have hHeld := hHeld2
  clear hHeld2
  clear hv
  try simp only [Act.put, List.setIfInBounds_toArray, List.set_cons_zero, List.set_cons_succ]
  refine wpAnyH_ready (rs := [17]) (by kernel_rfl) (by simp) ?_
  refine AllReadyH.cons (o := ⟨some 27, _, _, _, _, _⟩) rfl (fun K hK => ?_) AllReadyH.nil
  go_simp
  refine (KK.out _).mono ?_
  rintro e v6 ⟨rfl, rfl⟩
  refine hK.out _ _ (by assumption) (fun hHeld2 => ?_)
  clear hK K hHeld
  have hHeld := hHeld2
  clear hHeld2
  try simp only [Act.put, List.setIfInBounds_toArray, List.set_cons_zero, List.set_cons_succ]
  refine wpAnyH_ready (rs := [18]) (by kernel_rfl) (by simp) ?_
  refine AllReadyH.cons (o := ⟨some 28, _, _, _, _, _⟩) rfl (fun K hK => ?_) AllReadyH.nil
  go_simp
  have hv : Below v5.heap.size v5 (v5.alloc (.cells #[.string FRM, .string ys, .string yn, .string yf, .string yt, .string yl, .string yk] 9)) := (Below.refl _ _).alloc (Nat.le_refl _) _
  refine hK.out _ _ (TxS.next (by assumption) hv) (fun hHeld2 => ?_)
  clear hK K hHeld
  have hHeld := hHeld2
  clear hHeld2
  have HRD : Hid (RdV 1 (v5.alloc (.cells #[.string FRM, .string ys, .string yn, .string yf, .string yt, .string yl, .string yk] 9)) (some ⟨v5.heap.size, 0, none⟩) 7 7 (stL ps)) := by
    unfold Hid
    rw [HPS.out]
    exact (OwnV.lit 1 9 0 v5 (stL [FRM, ys, yn, yf, yt, yl, yk]) #[.string FRM, .string ys, .string yn, .string yf, .string yt, .string yl, .string yk] 7 (Nat.zero_le _) (by simp [maxLen]) rfl).rdS2
  clear hv
  try simp only [Act.put, List.setIfInBounds_toArray, List.set_cons_zero, List.set_cons_succ]
  refine wpAnyH_ready (rs := [19]) (by kernel_rfl) (by simp) ?_
  refine AllReadyH.cons (o := ⟨some 29, _, _, _, _, _⟩) rfl (fun K hK => ?_) AllReadyH.nil
  go_simp
  refine (line04 _ 7 7 ps _ HRD.out (by rw [HPS.out]; rfl) (fun x hx => (HW.out x hx).2) (by omega)).mono ?_
  rintro e v8 ⟨tt, ok, rfl, hli, hv⟩
  obtain ⟨htt, rfl⟩ := line_yes hli (fun x hx => (HW.out x hx).1)
  refine hK.out _ _ (TxS.next (by assumption) hv) (fun hHeld2 => ?_)
  clear hK K hHeld
  have hHeld := hHeld2
  clear hHeld2
  have HTT : Hid (tt = rcT a t fl st le k) := htt.trans HT.out.symm
  clear htt hli HRD
  clear hv
  try simp only [Act.put, List.setIfInBounds_toArray, List.set_cons_zero, List.set_cons_succ]
  refine wpAnyH_take (i := 20) (oi := ⟨some 9, .move (.tmp 29), _, _, _, _⟩) (v := ?vv13) rfl (by kernel_rfl) (by kernel_rfl) (by kernel_rfl) (fun _ _ _ h => h) (Or.inl ⟨by rfl, ?hy13⟩) (by assumption) ?_
  case hy13 =>
    intro w' hSw
    skip
    go_simp
    try with_reducible rfl
  try simp only [Act.put, List.setIfInBounds_toArray, List.set_cons_zero, List.set_cons_succ]
  refine wpAnyH_take (i := 21) (oi := ⟨some 30, .extract (.tmp 9) 0, _, _, _, _⟩) (v := ?vv14) rfl (by kernel_rfl) (by kernel_rfl) (by kernel_rfl) (fun _ _ _ h => h) (Or.inl ⟨by rfl, ?hy14⟩) (by assumption) ?_
  case hy14 =>
    intro w' hSw
    skip
    go_simp
    try with_reducible rfl
  try simp only [Act.put, List.setIfInBounds_toArray, List.set_cons_zero, List.set_cons_succ]
  refine wpAnyH_take (i := 22) (oi := ⟨some 31, .extract (.tmp 9) 1, _, _, _, _⟩) (v := ?vv15) rfl (by kernel_rfl) (by kernel_rfl) (by kernel_rfl) (fun _ _ _ h => h) (Or.inl ⟨by rfl, ?hy15⟩) (by assumption) ?_
  case hy15 =>
    intro w' hSw
    skip
    go_simp
    try with_reducible rfl
  try simp only [Act.put, List.setIfInBounds_toArray, List.set_cons_zero, List.set_cons_succ]
  refine wpAnyH_take (i := 23) (oi := ⟨some 4, .assign (.tmp 30), _, _, _, _⟩) (v := ?vv16) rfl (by kernel_rfl) (by kernel_rfl) (by kernel_rfl) (fun _ _ _ h => h) (Or.inl ⟨by rfl, ?hy16⟩) (by assumption) ?_
  case hy16 =>
    intro w' hSw
    skip
    go_simp
    try with_reducible rfl
  try simp only [Act.put, List.setIfInBounds_toArray, List.set_cons_zero, List.set_cons_succ]
  refine wpAnyH_take (i := 24) (oi := ⟨some 5, .assign (.tmp 31), _, _, _, _⟩) (v := ?vv17) rfl (by kernel_rfl) (by kernel_rfl) (by kernel_rfl) (fun _ _ _ h => h) (Or.inl ⟨by rfl, ?hy17⟩) (by assumption) ?_
  case hy17 =>
    intro w' hSw
    skip
    go_simp
    try with_reducible rfl
  try simp only [Act.put, List.setIfInBounds_toArray, List.set_cons_zero, List.set_cons_succ]
  refine wpAnyH_done (by kernel_rfl) ?_ _
  have HF := hide hHeld.2
  clear hHeld
  go_wp2_with fail
  go_ret2
  exact ⟨by rw [← HTT.out]; rfl, HF.out⟩
end

section
open Go.RowKit Go.PlainAid

def Yes41 (w : World) (e : Ending) (w' : World) : Prop := e = .returned (.bool true) ∧ Below w.heap.size w w'
theorem ex_rc : RcP 0 1 5 1 12 1 := by decide
theorem ex_text : rcT 0 1 5 1 12 1 = ⟨#[102, 114, 97, 109, 101, 32, 99, 108, 105, 101, 110, 116, 32, 72, 69, 65, 68, 69, 82, 83, 32, 53, 32, 49, 32, 49, 50, 32, 97, 108, 108, 111, 119, 101, 100]⟩ := by kernel_rfl
set_option maxRecDepth 20000 in
set_option maxHeartbeats 3200000 in
theorem alive41 (w : World) (hN : NmW w) (hP : PowW w) : Calls Tryd.prog 9 #[] w (Yes41 w) := by
  have K0 := hide (ktext41_yes 0 1 5 1 12 1 w ex_rc hN hP)
  rw [ex_text] at K0
  clear hN hP
  go_enter Tryd.func9, Tryd.ntmps9
  go_wp2_with fail
  refine K0.out.mono ?_
  rintro e w1 ⟨rfl, hb⟩
  have HB := hide hb
  clear hb
  have k1 := hide (fun W => side41 1 W)
  have k2 := hide (fun W => side41 2 W)
  have k3 := hide (fun W => kind41 4 W)
  have k4 := hide (fun W => kind41 0 W)
  rw [show sideS 1 = ⟨#[115, 101, 114, 118, 101, 114]⟩ by decide] at k1
  rw [show sideS 2 = ⟨#[]⟩ by decide] at k2
  rw [show kindS 4 = ⟨#[108, 105, 109, 105, 116, 101, 100]⟩ by decide] at k3
  rw [show kindS 0 = ⟨#[]⟩ by decide] at k4
  go_wp2_with (first
    | (go_at_call 15; with_reducible refine (k1.out _).mono ?_; rintro e w2 ⟨rfl, rfl⟩)
    | (go_at_call 15; with_reducible refine (k2.out _).mono ?_; rintro e w2 ⟨rfl, rfl⟩)
    | (go_at_call 16; with_reducible refine (k3.out _).mono ?_; rintro e w2 ⟨rfl, rfl⟩)
    | (go_at_call 16; with_reducible refine (k4.out _).mono ?_; rintro e w2 ⟨rfl, rfl⟩)
    | fail)
  go_ret
  exact ⟨rfl, HB.out⟩
theorem rkinds41 (w : World) : Calls Tryd.prog 14 #[] w fun e w' => e = .returned (.slice (some ⟨w.heap.size, 0, none⟩) 4 4) ∧ w' = w.alloc (.cells #[.string ⟨#[97, 108, 108, 111, 119, 101, 100]⟩, .string ⟨#[105, 103, 110, 111, 114, 101, 100]⟩, .string ⟨#[114, 101, 106, 101, 99, 116, 101, 100]⟩, .string ⟨#[108, 105, 109, 105, 116, 101, 100]⟩] 9) := by
  go_enter Tryd.func14, Tryd.ntmps14
  go_wp2_with fail
  go_ret
  exact ⟨rfl, rfl⟩
end

section
open Go.RowKit Go.PlainAid

/-- The number from lo to hi that has a name. -/
def NdR (nm : Int → ByteArray) (lo hi : Int) (s : ByteArray) (x : Int) (ok : Bool) : Prop :=
  (ok = true ∧ lo ≤ x ∧ x ≤ hi ∧ nm x = s) ∨ (ok = false ∧ x = 0 ∧ ∀ u, lo ≤ u → u ≤ hi → nm u ≠ s)
def NdE (nm : Int → ByteArray) (lo hi : Int) (s : ByteArray) (w : World) (e : Ending) (w' : World) : Prop := ∃ (x : Int) (ok : Bool), e = .returned (.tuple #[.int .i64 x, .bool ok]) ∧ NdR nm lo hi s x ok ∧ Below w.heap.size w w'
set_option maxRecDepth 20000 in
set_option maxHeartbeats 3200000 in
theorem named41 (F : Nat) (nm : Int → ByteArray) (hF : ∀ n W, Calls Tryd.prog F #[.int .i64 n] W fun e w' => e = .returned (.string (nm n)) ∧ W = w') (lo hi : Int) (h0 : 0 ≤ lo) (h1 : lo ≤ hi) (h2 : hi ≤ 1000) (s : ByteArray) (w : World)
    (he : ∀ args W, (callFunc F args).run Tryd.prog W = .ok (.enter F args) W) :
    Calls Tryd.prog 23 #[.string s, .int .i64 lo, .int .i64 hi, .func (.func F) #[] #[]] w (NdE nm lo hi s w) := by
  have HF := hide hF
  clear hF
  go_enter Tryd.func23, Tryd.ntmps23
  go_wp2_with fail
  go_loopw [10] (fun i wr => ∃ u : Int, lo ≤ u ∧ u ≤ hi + 1 ∧ i = .int .i64 u ∧ (∀ v, lo ≤ v → v < u → nm v ≠ s) ∧ wr = w) (fun i _ => (hi + 1 - intOf i).toNat)
  case atStart => exact ⟨lo, Int.le_refl _, by omega, rfl, fun v a b => absurd b (by omega), rfl⟩
  case round =>
    obtain ⟨u, hu0, hu1, rfl, hno, rfl⟩ := hrel
    have HNO := hide hno
    clear hno
    by_cases hlt : u ≤ hi
    · have d1 : decide (u ≤ hi) = true := decide_eq_true hlt
      have e1 : IntKind.i64.wrap (u + 1) = u + 1 := IntWalk.i64_in _ (by omega)
      obtain ⟨y, hy⟩ : ∃ y, nm u = y := ⟨_, rfl⟩
      have HY := hide hy
      have KF := hide (fun W => HF.out u W)
      rw [hy] at KF
      clear hy
      by_cases hys : y = s
      · have q : (y.toList == s.toList) = true := by rw [hys]; exact beq_self_eq_true _
        have HQ : Hid (nm u = s) := HY.out.trans hys
        clear hys
        go_wp2_with fail
        refine (KF.out _).mono ?_
        rintro e w2 ⟨rfl, rfl⟩
        go_wp2_with fail
        go_ret2
        exact ⟨u, true, rfl, .inl ⟨rfl, hu0, hlt, HQ.out⟩, Below.refl _ _⟩
      · have q := str_neq hys
        have HNX : Hid (∀ v, lo ≤ v → v < u + 1 → nm v ≠ s) := fun v a b => by
          by_cases e : v < u
          · exact HNO.out v a e
          · obtain rfl : v = u := by omega
            rw [HY.out]
            exact hys
        clear hys
        go_wp2_with fail
        refine (KF.out _).mono ?_
        rintro e w2 ⟨rfl, rfl⟩
        go_wp2_with fail
        exact ⟨⟨u + 1, by omega, by omega, rfl, HNX.out, by first | rfl | trivial⟩, by simp [intOf]; omega⟩
    · have d1 : decide (u ≤ hi) = false := decide_eq_false hlt
      go_wp2_with fail
      go_ret2
      exact ⟨0, false, rfl, .inr ⟨rfl, rfl, fun v a b => HNO.out v a (by omega)⟩, Below.refl _ _⟩
theorem rsides41 (w : World) : Calls Tryd.prog 27 #[] w fun e w' => e = .returned (.slice (some ⟨w.heap.size, 0, none⟩) 2 2) ∧ w' = w.alloc (.cells #[.string ⟨#[99, 108, 105, 101, 110, 116]⟩, .string ⟨#[115, 101, 114, 118, 101, 114]⟩] 9) := by
  go_enter Tryd.func27, Tryd.ntmps27
  go_wp2_with fail
  go_ret
  exact ⟨rfl, rfl⟩
/-- Where a text stands; below 0: nowhere. -/
def FdX (ps : List ByteArray) (s : ByteArray) (x : Int) : Prop := (∃ i : Nat, x = i ∧ i < ps.length ∧ ps.getD i ⟨#[]⟩ = s ∧ ∀ j, j < i → ps.getD j ⟨#[]⟩ ≠ s) ∨ (x = -1 ∧ ∀ j, j < ps.length → ps.getD j ⟨#[]⟩ ≠ s)
set_option maxRecDepth 20000 in
set_option maxHeartbeats 3200000 in
theorem rfind41 (A : Option Addr) (n c : Nat) (ps : List ByteArray) (s : ByteArray) (w : World) (h : RdV 1 w A n c (stL ps)) (hn : n = ps.length) (hb : n ≤ 1000) : Calls Tryd.prog 32 #[.slice A n c, .string s] w fun e w' => ∃ x : Int, e = .returned (.int .i64 x) ∧ FdX ps s x ∧ Below w.heap.size w w' := by
  have HR := hide h
  have HN := hide hn
  clear h hn
  go_enter Tryd.func32, Tryd.ntmps32
  go_wp2_with fail
  go_loopw [5] (fun i wr => ∃ k : Nat, k ≤ n ∧ i = .int .i64 k ∧ (∀ j, j < k → ps.getD j ⟨#[]⟩ ≠ s) ∧ Drawn w wr) (fun i _ => n - (intOf i).toNat)
  case atStart => exact ⟨0, Nat.zero_le _, rfl, fun j hj => absurd hj (by omega), Drawn.refl _⟩
  case round =>
    obtain ⟨k, hk, rfl, hno, q, rfl⟩ := hrel
    have HNO := hide hno
    clear hno
    by_cases hlt : k < n
    · obtain ⟨b, off, rfl, hc⟩ := HR.out.2.2.2 (by omega)
      have c0 := hc k (by omega)
      have d1 : decide ((k : Int) < (n : Int)) = true := decide_eq_true (by omega)
      clear hc
      obtain ⟨y, hy⟩ : ∃ y, ps.getD k ⟨#[]⟩ = y := ⟨_, rfl⟩
      have HY := hide hy
      have e0 : stL ps k = .string y := by unfold stL; rw [hy]
      rw [e0] at c0
      clear hy e0
      by_cases hys : y = s
      · have q1 : (y.toList == s.toList) = true := by rw [hys]; exact beq_self_eq_true _
        have HQ : Hid (ps.getD k ⟨#[]⟩ = s) := HY.out.trans hys
        clear hys
        go_wp2_with fail
        go_ret
        exact ⟨k, rfl, .inl ⟨k, rfl, by rw [← HN.out]; exact hlt, HQ.out, HNO.out⟩, drawn_below ⟨_, rfl⟩ _⟩
      · have q1 := str_neq hys
        have HNX : Hid (∀ j, j < k + 1 → ps.getD j ⟨#[]⟩ ≠ s) := fun j hj => by
          by_cases e : j < k
          · exact HNO.out j e
          · obtain rfl : j = k := by omega
            rw [HY.out]
            exact hys
        clear hys
        go_wp2_with fail
        exact ⟨⟨k + 1, by omega, by go_num, HNX.out, _, rfl⟩, by simp [intOf]; omega⟩
    · have d1 : decide ((k : Int) < (n : Int)) = false := decide_eq_false (by omega)
      go_wp2_with fail
      go_ret
      exact ⟨-1, rfl, .inr ⟨rfl, fun j hj => HNO.out j (by have := HN.out; omega)⟩, drawn_below ⟨_, rfl⟩ _⟩
end
end Go.Proofs.YtminoofghdpomaaDoor
