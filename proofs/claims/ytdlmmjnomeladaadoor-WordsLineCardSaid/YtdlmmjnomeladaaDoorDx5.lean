/- Layer 3: lists of numbers, the document's side; the law on them. -/
import Derived.Test.YtdlmmjnomeladaaDoorDx4
import Derived.Test.YtdlmmjnomeladaaDoorSq5
namespace Go.Proofs.YtdlmmjnomeladaaDoor
set_option linter.unusedVariables false
set_option linter.unusedSimpArgs false
open Go.RowKit Go.PlainAid

set_option maxHeartbeats 800000 in
theorem isame_yes (A C : Option Addr) (n c d : Nat) (f : Nat → Int) (w : World) (ha : Rd .i64 w A n c f) (hb : Rd .i64 w C n d f) :
    Calls Tryd.prog 45 #[.slice A n c, .slice C n d] w fun e w' => e = .returned (.bool true) ∧ Drawn w w' := by
  have hn : n ≤ 9223372036854775807 := by have h1 := ha.1; have h2 := ha.2.1; simp only [maxLen] at h2; omega
  have Ha := hide ha
  have Hb := hide hb
  clear ha hb
  go_enter Tryd.func45, Tryd.ntmps45
  go_wp2
  go_loopw [5] (fun i wr => ∃ k : Nat, k ≤ n ∧ i = .int .i64 k ∧ Drawn w wr) (fun i _ => n - (intOf i).toNat)
  case atStart => exact ⟨0, Nat.zero_le _, rfl, Drawn.refl _⟩
  case round =>
    obtain ⟨k, hk, rfl, q, rfl⟩ := hrel
    by_cases hlt : k < n
    · obtain ⟨b, off, rfl, ca⟩ := Ha.out.at_ hlt
      obtain ⟨b', off', rfl, cb⟩ := Hb.out.at_ hlt
      generalize f k = z at ca cb
      go_wp2
      go_quiet (fail)
      go_wp2
      go_roundw
      case rel => exact ⟨k + 1, by omega, by go_num, _, rfl⟩
      case measure => simp [intOf]; omega
    · obtain rfl : k = n := by omega
      go_wp2
      go_ret
      exact ⟨rfl, q, rfl⟩
def RlI (s : ByteArray) (w : World) (i a k : Nat) (f : Nat → Int) (v : Value) (wr : World) : Prop :=
  I64F k f ∧ k ≤ i ∧ Own .i64 3 w.heap.size wr v k f ∧ Below w.heap.size w wr ∧ ((i ≤ s.size ∧ a ≤ i ∧ pcB 44 s = itL f k ++ pcT 44 s a i) ∨ (i = s.size + 1 ∧ pcB 44 s = itL f k))
theorem catF_one {f : Nat → Int} {k : Nat} {x : Int} (i : Nat) : catF k f (oneF x) i = if i < k then f i else x := rfl
theorem itL_cat {f : Nat → Int} {k : Nat} {x : Int} : itL (catF k f (oneF x)) (k + 1) = itL f k ++ [intS x] := by
  rw [itL_succ, itL_cong (g := f) (fun i hi => by rw [catF_one, if_pos hi]), catF_one, if_neg (by omega)]
set_option maxRecDepth 20000 in
set_option maxHeartbeats 3200000 in
theorem rreadlist03 (s : ByteArray) (w : World) (hs : s.size ≤ 1000000) : Calls Tryd.prog 43 #[.string s] w (RlE s w) := by
  obtain ⟨i0, hi, hz0, hz1, hz2⟩ := info_parts int_info
  by_cases hz : s.size = 0
  · have t1 := isEmpty_yes hz
    have HZ := hide hz
    clear hz
    go_enter Tryd.func43, Tryd.ntmps43
    go_wp2
    go_ret2
    exact ⟨none, 0, 0, fun _ => 0, true, rfl, Rd.nil _ _ _, .inl ⟨rfl, fun i hi => absurd hi (by omega), .inl ⟨HZ.out, rfl⟩⟩, Below.refl _ _⟩
  have t1 := isEmpty_no hz
  have hz' : 0 < s.size := by omega
  clear hz
  go_enter Tryd.func43, Tryd.ntmps43
  go_wp2_with fail
  go_loopw [4, 5, 6, 7, 8] (fun v a i _ _ wr => ∃ (ii aa k : Nat) (f : Nat → Int), i = .int .i64 ii ∧ a = .int .i64 aa ∧ RlI s w ii aa k f v wr) (fun _ _ i _ _ _ => s.size + 1 - (intOf i).toNat)
  case atStart => exact ⟨0, 0, 0, fun _ => 0, rfl, rfl, fun i hi => absurd hi (by omega), Nat.le_refl _, Own.nil _ _ _ _ _, Below.refl _ _, .inl ⟨Nat.zero_le _, Nat.le_refl _, rfl⟩⟩
  case round =>
    obtain ⟨i, a, k, f, rfl, rfl, hF, hki, hO, hB, hst⟩ := hrel
    have HF := hide hF
    have HO := hide hO
    have HB := hide hB
    have hsz := hB.size
    clear hF hO hB
    rcases hst with ⟨h1, h2, hp⟩ | ⟨rfl, hp⟩
    · have HPC := hide hp
      clear hp
      have d1 : decide ((i : Int) ≤ (s.size : Int)) = true := decide_eq_true (by omega)
      have d2 : decide (i ≤ s.size) = true := decide_eq_true h1
      have read : ∀ (pl : s.extract a i ∈ pcB 44 s) (rest : List ByteArray) (hnew : ∀ x, s.extract a i = intS x → pcB 44 s = itL (catF k f (oneF x)) (k + 1) ++ rest), True := fun _ _ _ => trivial
      clear read
      by_cases hlt : i < s.size
      · have e1 : decide ((i : Int) < (s.size : Int)) = true := decide_eq_true (by omega)
        have e2 : decide (i < s.size) = true := decide_eq_true hlt
        have hb := get_bt s i hlt
        have hgo := hide (pcT_skip (c := 44) (s := s) (a := a) hlt h2)
        have hse := hide (pcT_sep (c := 44) (s := s) (a := a) hlt)
        obtain ⟨c, hc⟩ : ∃ c, bt s i = c := ⟨_, rfl⟩
        rw [hc] at hb hgo hse
        by_cases h44 : c = 44
        · subst h44
          have HS : Hid (pcB 44 s = itL f k ++ (s.extract a i :: pcT 44 s (i + 1) (i + 1))) := by unfold Hid; rw [HPC.out, hse.out rfl]
          have hxs : (s.extract a i).size ≤ 9223372036854775807 := by rw [ByteArray.size_extract]; omega
          obtain ⟨x, hx⟩ : ∃ x, s.extract a i = x := ⟨_, rfl⟩
          have HX := hide hx
          rw [hx] at HS hxs
          clear hgo hse hc HPC hx
          go_wp2_with fail
          rw [HX.out]
          refine (rread03 x _ hxs).mono ?_
          rintro e w2 ⟨t, ok, rfl, hq, hb2⟩
          have HB2 := hide (HB.out.of hb2)
          have HO2 := hide (HO.out.below hb2)
          have hs2 := HB2.out.size
          cases ok with
          | false =>
            have HN : Hid (∀ u, -9223372036854775808 ≤ u → u ≤ 9223372036854775807 → x ≠ intS u) := by
              rcases hq with ⟨h, _⟩ | ⟨_, _, h⟩
              · cases h
              · exact h
            clear hq hb2
            go_wp2_with fail
            go_ret2
            exact ⟨none, 0, 0, fun _ => 0, false, rfl, Rd.nil _ _ _, .inr ⟨rfl, rfl, hz', x, by rw [HS.out]; simp, HN.out⟩, HB2.out⟩
          | true =>
            obtain ⟨t0, t1', hx⟩ : -9223372036854775808 ≤ t ∧ t ≤ 9223372036854775807 ∧ x = intS t := by
              rcases hq with ⟨_, h⟩ | ⟨h, _⟩
              · exact h
              · cases h
            have HT : Hid (-9223372036854775808 ≤ t ∧ t ≤ 9223372036854775807 ∧ x = intS t) := ⟨t0, t1', hx⟩
            clear hq hb2 t0 t1' hx
            go_wp2_with (at_builtin; refine wp_app rfl (.tmp 37) (.tmp 39) _ rfl i0 0 8 Tryd.underlying47 hi hz0 hz1 hz2 w.heap.size _ k f rfl (HO2.out.alloc _) _ 1 1 _ rfl (Rd.one .i64 3 _ _) (by simp only [maxLen]; omega) (by omega) (by simp; omega) ?_; intro v3 w3 hown3 hg3)
            have HB3 := hide ((HB2.out.alloc hs2 (.cells #[.int .i64 t] 3)).grown hg3 (by simp; omega) (fun j e => (World.ownsRow.lt HO2.out j e).1))
            have HO3 := hide hown3
            clear hown3 hg3
            have HF3 : Hid (I64F (k + 1) (catF k f (oneF t))) := fun j hj => by
              rw [catF_one]
              by_cases e : j < k
              · rw [if_pos e]; exact HF.out j e
              · rw [if_neg e]; exact ⟨HT.out.1, HT.out.2.1⟩
            go_wp2_with fail
            exact ⟨⟨i + 1, i + 1, k + 1, catF k f (oneF t), rfl, rfl, HF3.out, by omega, HO3.out, HB3.out, .inl ⟨by omega, Nat.le_refl _, by rw [itL_cat, HS.out, HT.out.2.2]; simp⟩⟩, by simp [intOf]; omega⟩
        · have q1 : (c != 44) = true := by simpa using h44
          have HS : Hid (pcB 44 s = itL f k ++ pcT 44 s a (i + 1)) := by unfold Hid; rw [HPC.out, hgo.out h44]
          clear hgo hse hc HPC h44
          go_wp2_with fail
          exact ⟨⟨i + 1, a, k, f, rfl, rfl, HF.out, by omega, HO.out, HB.out, .inl ⟨by omega, by omega, HS.out⟩⟩, by simp [intOf]; omega⟩
      · obtain rfl : i = s.size := by omega
        have e1 : decide ((s.size : Int) < (s.size : Int)) = false := decide_eq_false (by omega)
        have e2 : decide (s.size < s.size) = false := decide_eq_false hlt
        have HS : Hid (pcB 44 s = itL f k ++ [s.extract a s.size]) := by unfold Hid; rw [HPC.out, pcT_end rfl]
        have hxs : (s.extract a s.size).size ≤ 9223372036854775807 := by rw [ByteArray.size_extract]; omega
        obtain ⟨x, hx⟩ : ∃ x, s.extract a s.size = x := ⟨_, rfl⟩
        have HX := hide hx
        rw [hx] at HS hxs
        clear HPC hx
        go_wp2_with fail
        rw [HX.out]
        refine (rread03 x _ hxs).mono ?_
        rintro e w2 ⟨t, ok, rfl, hq, hb2⟩
        have HB2 := hide (HB.out.of hb2)
        have HO2 := hide (HO.out.below hb2)
        have hs2 := HB2.out.size
        cases ok with
        | false =>
          have HN : Hid (∀ u, -9223372036854775808 ≤ u → u ≤ 9223372036854775807 → x ≠ intS u) := by
            rcases hq with ⟨h, _⟩ | ⟨_, _, h⟩
            · cases h
            · exact h
          clear hq hb2
          go_wp2_with fail
          go_ret2
          exact ⟨none, 0, 0, fun _ => 0, false, rfl, Rd.nil _ _ _, .inr ⟨rfl, rfl, hz', x, by rw [HS.out]; simp, HN.out⟩, HB2.out⟩
        | true =>
          obtain ⟨t0, t1', hx⟩ : -9223372036854775808 ≤ t ∧ t ≤ 9223372036854775807 ∧ x = intS t := by
            rcases hq with ⟨_, h⟩ | ⟨h, _⟩
            · exact h
            · cases h
          have HT : Hid (-9223372036854775808 ≤ t ∧ t ≤ 9223372036854775807 ∧ x = intS t) := ⟨t0, t1', hx⟩
          clear hq hb2 t0 t1' hx
          go_wp2_with (at_builtin; refine wp_app rfl (.tmp 37) (.tmp 39) _ rfl i0 0 8 Tryd.underlying47 hi hz0 hz1 hz2 w.heap.size _ k f rfl (HO2.out.alloc _) _ 1 1 _ rfl (Rd.one .i64 3 _ _) (by simp only [maxLen]; omega) (by omega) (by simp; omega) ?_; intro v3 w3 hown3 hg3)
          have HB3 := hide ((HB2.out.alloc hs2 (.cells #[.int .i64 t] 3)).grown hg3 (by simp; omega) (fun j e => (World.ownsRow.lt HO2.out j e).1))
          have HO3 := hide hown3
          clear hown3 hg3
          have HF3 : Hid (I64F (k + 1) (catF k f (oneF t))) := fun j hj => by
            rw [catF_one]
            by_cases e : j < k
            · rw [if_pos e]; exact HF.out j e
            · rw [if_neg e]; exact ⟨HT.out.1, HT.out.2.1⟩
          go_wp2_with fail
          exact ⟨⟨s.size + 1, s.size + 1, k + 1, catF k f (oneF t), rfl, rfl, HF3.out, by omega, HO3.out, HB3.out, .inr ⟨rfl, by rw [itL_cat, HS.out, HT.out.2.2]⟩⟩, by simp [intOf]⟩
    · have d1 : decide (((s.size + 1 : Nat) : Int) ≤ (s.size : Int)) = false := decide_eq_false (by omega)
      have d2 : decide (s.size + 1 ≤ s.size) = false := decide_eq_false (by omega)
      have d3 : decide ((s.size : Int) + 1 ≤ (s.size : Int)) = false := decide_eq_false (by omega)
      obtain ⟨L, c, rfl, hrd, _⟩ := Own.rd HO.out
      have HR := hide hrd
      clear hrd
      go_wp2_with fail
      go_ret2
      exact ⟨L, k, c, f, true, rfl, HR.out, .inl ⟨rfl, HF.out, .inr ⟨hz', hp⟩⟩, HB.out⟩
end Go.Proofs.YtdlmmjnomeladaaDoor
