/- Layer 26: the contract of the reference's Of. -/
import Derived.Test.YtkdldcmeiihbcaaLen2
namespace Go.Proofs.Ytkdldcmeiihbcaa
open Go.RowKit Go.PlainAid

def LenE3 (F : Nat → Fd) (n : Nat) (w : World) (e : Ending) (w' : World) : Prop := ∃ N T B, e = .returned (.tuple #[.int .i64 N, .bool T, .bool B]) ∧ LenR F n N T B ∧ Below w.heap.size w w'
/-- The numbers of the first k fields: m of them, v. -/
def LstR (F : Nat → Fd) (k m : Nat) (v : Nat → Int) : Prop :=
  (∀ i, i < k → (F i).name = CL → natB (F i).val MX = true ∧ ∃ j, j < m ∧ v j = natN (F i).val MX) ∧ (∀ j, j < m → ∃ i, i < k ∧ (F i).name = CL ∧ v j = natN (F i).val MX) ∧ m ≤ k
theorem LstR.zero (F : Nat → Fd) (v : Nat → Int) : LstR F 0 0 v := ⟨fun i hi => by omega, fun j hj => by omega, Nat.le_refl _⟩
theorem LstR.skip {F : Nat → Fd} {k m : Nat} {v : Nat → Int} (h : LstR F k m v) (hn : (F k).name ≠ CL) : LstR F (k + 1) m v :=
  ⟨fun i hi e => by
    by_cases hk : i = k
    · subst hk; exact absurd e hn
    · exact h.1 i (by omega) e, fun j hj => by
    obtain ⟨i, hi, e⟩ := h.2.1 j hj
    exact ⟨i, by omega, e⟩, by have := h.2.2; omega⟩
theorem LstR.add {F : Nat → Fd} {k m : Nat} {v : Nat → Int} (h : LstR F k m v) (hn : (F k).name = CL) (hb : natB (F k).val MX = true) (x : Int) (hx : natN (F k).val MX = x) : LstR F (k + 1) (m + 1) (catF m v (oneF x)) :=
  ⟨fun i hi e => by
    by_cases hk : i = k
    · subst hk
      exact ⟨hb, m, by omega, by simp [catF, oneF, hx]⟩
    · obtain ⟨h1, j, hj, h2⟩ := h.1 i (by omega) e
      exact ⟨h1, j, by omega, by simp [catF, hj, h2]⟩, fun j hj => by
    by_cases hm : j < m
    · obtain ⟨i, hi, e, h2⟩ := h.2.1 j hm
      exact ⟨i, by omega, e, by simp [catF, hm, h2]⟩
    · obtain rfl : j = m := by omega
      exact ⟨k, by omega, hn, by simp [catF, oneF, hx]⟩, by have := h.2.2; omega⟩
theorem LstR.none_ {F : Nat → Fd} {n : Nat} {v : Nat → Int} (h : LstR F n 0 v) : OkL F n none :=
  ⟨fun i hi e => by
    obtain ⟨_, j, hj, _⟩ := h.1 i hi e
    omega, fun h => absurd rfl h⟩
theorem LstR.all {F : Nat → Fd} {n m : Nat} {v : Nat → Int} (h : LstR F n m v) (hm : 0 < m) (ha : ∀ j, j < m → v j = v 0) : OkL F n (some (v 0)) :=
  ⟨fun i hi e => by
    obtain ⟨h1, j, hj, h2⟩ := h.1 i hi e
    exact ⟨h1, by rw [← h2, ha j hj]⟩, fun _ => by
    obtain ⟨i, hi, e, _⟩ := h.2.1 0 hm
    exact ⟨i, hi, e⟩⟩
theorem LstR.not {F : Nat → Fd} {n m j : Nat} {v : Nat → Int} (h : LstR F n m v) (hj : j < m) (hv : v j ≠ v 0) (t : Option Int) : ¬ OkL F n t := fun hk => by
  obtain ⟨i, hi, e, h1⟩ := h.2.1 j hj
  obtain ⟨i', hi', e', h1'⟩ := h.2.1 0 (by omega)
  have a := (hk.1 i hi e).2
  have b := (hk.1 i' hi' e').2
  rw [a] at b
  exact hv (by rw [h1, h1']; exact Option.some.inj b)
theorem iint_info : (Try.prog.info? 3).map (fun i => (i.zero, i.size, i.bytes)) = some (some (.int .i64 0), 1, 8) := by kernel_rfl
set_option maxRecDepth 20000 in
set_option maxHeartbeats 3200000 in
theorem rlenof_any (A : Option Addr) (n c : Nat) (F : Nat → Fd) (w : World) (ha : RdFd w A n c F) (hn1 : n ≤ 100000) :
    Calls Try.prog 38 #[.slice A n c] w (LenE3 F n w) := by
  obtain ⟨i0, hi, hz0, hz1, hz2⟩ := info_parts iint_info
  have Ha := hide ha
  clear ha
  go_enter Try.func38, Try.ntmps38
  go_wp2_with fail
  go_loopw [5, 6] (fun sl i wr => ∃ (k m : Nat) (v : Nat → Int), k ≤ n ∧ i = .int .i64 k ∧ LstR F k m v ∧ Own .i64 3 w.heap.size wr sl m v ∧ Below w.heap.size w wr) (fun _ i _ => n - (intOf i).toNat)
  case atStart => exact ⟨0, 0, fun _ => 0, Nat.zero_le _, rfl, LstR.zero F _, Own.nil _ _ _ _ _, Below.refl _ _⟩
  case round =>
    obtain ⟨k, m, v, hk, rfl, hL, hown, hB⟩ := hrel
    have HL := hide hL
    have Hown := hide hown
    have HB := hide hB
    have hsz := hB.size
    have hmk : m ≤ k := hL.2.2
    clear hL hown
    by_cases hlt : k < n
    · have Hr := hide (Ha.out.below hB)
      clear hB
      obtain ⟨b, off, rfl, hc0, hc1, hc2⟩ := Hr.out.at_ hlt
      have hln := Hr.out.len hlt
      have hkn : (k : Int) < (n : Int) := by omega
      obtain ⟨X, hX⟩ : ∃ X, F k = X := ⟨_, rfl⟩
      have HX := hide hX
      rw [hX] at hc0 hc1 hc2 hln
      clear hX
      obtain ⟨x0, x1, x2⟩ := X
      simp only at hc0 hc1 hc2 hln
      obtain ⟨_, hx1⟩ := hln
      by_cases hcl : x0 = CL
      · have t1 : (x0.toList == [99, 111, 110, 116, 101, 110, 116, 45, 108, 101, 110, 103, 116, 104]) = true := cl_yes hcl
        have hnm : Hid ((F k).name = CL) := by rw [HX.out]; exact hcl
        have hvl : Hid ((F k).val = x1) := by rw [HX.out]; rfl
        obtain ⟨NB, hNB⟩ : ∃ x, natB x1 MX = x := ⟨_, rfl⟩
        obtain ⟨NN, hNN⟩ : ∃ x, natN x1 MX = x := ⟨_, rfl⟩
        have HNB : Hid (natB (F k).val MX = NB) := by rw [hvl.out]; exact hNB
        have HNN : Hid (natN (F k).val MX = NN) := by rw [hvl.out]; exact hNN
        have GB := hide hNB
        have GN := hide hNN
        clear hNB hNN hcl
        cases NB with
        | false =>
          go_wp2_with fail
          refine (rnatural_any x1 MX _ hx1 (by decide) (by decide)).mono ?_
          rintro e w2 ⟨rfl, rfl⟩
          rw [GB.out, GN.out]
          go_wp2_with fail
          go_ret3
          exact ⟨_, _, _, rfl, .inr ⟨rfl, rfl, rfl, ok_bad hlt hnm.out HNB.out⟩, HB.out⟩
        | true =>
          go_wp2_with fail
          refine (rnatural_any x1 MX _ hx1 (by decide) (by decide)).mono ?_
          rintro e w2 ⟨rfl, rfl⟩
          rw [GB.out, GN.out]
          go_wp2_with (at_builtin; refine wp_app rfl (.tmp 33) (.tmp 35) _ rfl i0 0 8 Try.underlying80 hi hz0 hz1 hz2 w.heap.size _ m v rfl (Hown.out.alloc _) _ 1 1 _ rfl (Rd.one .i64 3 _ _) (by simp only [maxLen]; omega) (by omega) (by simp; omega) ?_; intro v2 w2 hown2 hg2)
          have hb2 : Below w.heap.size w w2 := (HB.out.alloc hsz _).grown hg2 (by simp; omega) (fun j e => (World.ownsRow.lt Hown.out j e).1)
          exact ⟨⟨k + 1, m + 1, _, by omega, by go_num, HL.out.add hnm.out HNB.out NN HNN.out, hown2, hb2⟩, by simp [intOf]; omega⟩
      · have t1 : (x0.toList == [99, 111, 110, 116, 101, 110, 116, 45, 108, 101, 110, 103, 116, 104]) = false := cl_no hcl
        have Hn : Hid (LstR F (k + 1) m v) := HL.out.skip (by rw [HX.out]; exact hcl)
        clear hcl
        go_wp2_with fail
        exact ⟨⟨k + 1, m, v, by omega, by go_num, Hn.out, Hown.out, HB.out⟩, by simp [intOf]; omega⟩
    · obtain rfl : k = n := by omega
      clear hB
      obtain ⟨A', c', rfl, hr, _⟩ := Hown.out.rd
      have Hr := hide hr
      clear hr
      go_wp2_with fail
      go_loopw [9] (fun i w' => ∃ j : Nat, j ≤ m ∧ i = .int .i64 j ∧ (∀ q, q < j → v q = v 0) ∧ Drawn wr w') (fun i _ => m - (intOf i).toNat)
      case atStart => exact ⟨0, Nat.zero_le _, rfl, fun q hq => absurd hq (by omega), Drawn.refl _⟩
      case round =>
        obtain ⟨j, hj, rfl, hall, q, rfl⟩ := hrel
        have Hall := hide hall
        clear hall
        by_cases hjm : j < m
        · obtain ⟨b, off, rfl, hcj⟩ := Hr.out.at_ hjm
          obtain ⟨b', off', e', hc0⟩ := Hr.out.at_ (show 0 < m by omega)
          have hm0 : 0 < m := by omega
          obtain ⟨rfl, rfl⟩ : b = b' ∧ off = off' := by
            have := Option.some.inj e'
            injection this with e1 e2
            exact ⟨e1, e2⟩
          clear e'
          simp only [Nat.add_zero] at hc0
          by_cases hv : v j = v 0
          · have t1 : (v j != v 0) = false := by simp [hv]
            have Hall' : Hid (∀ q, q < j + 1 → v q = v 0) := fun q hq => by
              by_cases e : q = j
              · subst e; exact hv
              · exact Hall.out q (by omega)
            clear hv
            go_wp2_with fail
            go_quiet (fail)
            go_wp2_with fail
            exact ⟨⟨j + 1, by omega, by go_num, Hall'.out, _, rfl⟩, by simp [intOf]; omega⟩
          · have t1 : (v j != v 0) = true := by simpa using hv
            have Hn := hide (fun t => HL.out.not hjm hv t)
            clear hv
            go_wp2_with fail
            go_quiet (fail)
            go_wp2_with fail
            go_ret3
            exact ⟨_, _, _, rfl, .inr ⟨rfl, rfl, rfl, Hn.out⟩, HB.out.of (drawn_below (Drawn.more ⟨q, rfl⟩ _) _)⟩
        · obtain rfl : j = m := by omega
          by_cases h0 : j = 0
          · subst h0
            go_wp2_with fail
            go_ret3
            exact ⟨_, _, _, rfl, .inl ⟨rfl, none, HL.out.none_, rfl, rfl⟩, HB.out.of (drawn_below ⟨_, rfl⟩ _)⟩
          · have t1 : ((j : Int) == 0) = false := by simpa using h0
            obtain ⟨b, off, rfl, hc0⟩ := Hr.out.at_ (show 0 < j by omega)
            simp only [Nat.add_zero] at hc0
            have hj0 : 0 < j := by omega
            have Hn := hide (HL.out.all hj0 Hall.out)
            clear h0
            go_wp2_with fail
            go_ret3
            exact ⟨_, _, _, rfl, .inl ⟨rfl, _, Hn.out, rfl, rfl⟩, HB.out.of (drawn_below ⟨_, rfl⟩ _)⟩
end Go.Proofs.Ytkdldcmeiihbcaa
