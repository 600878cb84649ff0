/- Layer 36: the reference's Send and Answer. -/
import Derived.Test.YteikpdolickkaaaPiA
namespace Go.Proofs.Yteikpdolickkaaa
open Go.RowKit Go.Maps Go.Deep Go.ChangeShapes Go.WideShapes

theorem Rd.apart36 {k : IntKind} {w w' : World} {A : Option Addr} {n c : Nat} {f : Nat → Int} (h : Rd k w A n c f) {row : Option Nat} (hg : w.grownBy w' row) (hne : ∀ b off, A = some ⟨b, off, none⟩ → row ≠ some b) : Rd k w' A n c f :=
  ⟨h.1, h.2.1, h.2.2.1, fun hn => by
    obtain ⟨b, off, hA, hc⟩ := h.2.2.2 hn
    exact ⟨b, off, hA, fun i hi => hg.cell (hc i hi) (by first | exact hne b off hA | (intro e; exact hne b off hA e.symm))⟩⟩
set_option maxRecDepth 20000 in
theorem rsendArg36 (v : Value) {A : Option Addr} {n c : Nat} (most : Int) (h8 : n ≠ 8) (w : World) : Calls Try.prog 90 #[v, .slice A n c, .int .i64 most] w fun e w' => e = .returned (.tuple #[v, .int .i64 1]) ∧ w = w' := by
  have hd : ((n : Int) == 8) = false := by
    simp only [beq_eq_false_iff_ne]
    omega
  go_enter Try.func90, Try.ntmps90
  go_wp2
  go_ret2
  exact ⟨rfl, rfl⟩
set_option maxRecDepth 20000 in
theorem rsendFull36 {A0 : Option Addr} {m c0 : Nat} {A : Option Addr} {c : Nat} (most : Int) (h : most ≤ m) (w : World) : Calls Try.prog 90 #[.slice A0 m c0, .slice A 8 c, .int .i64 most] w fun e w' => e = .returned (.tuple #[.slice A0 m c0, .int .i64 6]) ∧ w = w' := by
  have hd : decide (most ≤ (m : Int)) = true := decide_eq_true h
  go_enter Try.func90, Try.ntmps90
  go_wp2
  go_ret2
  exact ⟨rfl, rfl⟩
set_option maxRecDepth 20000 in
theorem rsend36 {B : Nat} {w : World} {A0 : Option Addr} {m c0 : Nat} {S C : Nat → Nat} (ho : OwnV 1 22 B w (.slice A0 m c0) m (slS S C)) (hm : m ≤ 100) (hB : B ≤ w.heap.size) {A : Option Addr} {c : Nat} {F : Nat → Int} (ha : Rd .u8 w A 8 c F) (most : Int) (h : (m : Int) < most) :
    Calls Try.prog 90 #[.slice A0 m c0, .slice A 8 c, .int .i64 most] w fun e w' => ∃ v' q c', e = .returned (.tuple #[v', .int .i64 0]) ∧ OwnV 1 22 w.heap.size w' v' (m + 1) (slS (appN m S q) (appN m C c')) ∧ Rd .u8 w' (some ⟨q, 0, none⟩) 8 c' F ∧ w.heap.size ≤ q ∧ Below w.heap.size w w' := by
  have hd : decide (most ≤ (m : Int)) = false := decide_eq_false (by omega)
  obtain ⟨i0, hi, hz0, hz1, hz2⟩ := info_parts rows36_info
  obtain ⟨j0, hj, hy0, hy1, hy2⟩ := info_parts u8_info36
  have Ho := hide ho
  have Ha := hide ha
  clear ho ha h
  go_enter Try.func90, Try.ntmps90
  go_wp2_with (first
    | (at_builtin; refine wp_appV rfl (.tmp 17) (.tmp 18) _ rfl 1 i0 _ 24 Try.underlying166 hi hz0 hz1 hz2 rfl (by omega) w.heap.size _ 0 (slS S C) rfl (OwnV.lit 1 22 w.heap.size w (slS S C) #[] 0 (Nat.le_refl _) (by simp [maxLen]) rfl) _ m c0 _ rfl (Ho.out.alloc _).rdS2 (fun _ _ => rfl) (by simp only [maxLen]; omega) (by omega) (by simp) ?_; intro v1 w1 hown1 hg1 hob1; have B1 := hide (((Below.refl w.heap.size w).alloc (Nat.le_refl _) (.cells #[] 22)).grown hg1 (by simp) (fun j e => by cases e; exact Nat.le_refl _)); rw [Nat.zero_add, slS_zero] at hown1; have O1 := hide (hown1.alloc (.cells #[] 5)); have S1 : Hid (w1.heap.size < (w1.alloc (.cells #[] 5)).heap.size) := (by show _ < _; simp))
    | (at_builtin; refine wp_app rfl (.tmp 20) (.tmp 21) _ rfl j0 0 1 Try.underlying22 hj hy0 hy1 hy2 w1.heap.size _ 0 F rfl (Own.lit .u8 5 w1.heap.size w1 F #[] 0 (Nat.le_refl _) (by simp [maxLen]) rfl) A 8 c F rfl ((Ha.out.below B1.out).alloc _) (by simp only [maxLen]; omega) (by omega) (Nat.le_of_lt S1.out) ?_; intro v2 w2 hown2 hg2; obtain ⟨A2, c2, rfl, hr2, hA2⟩ := hown2.rd; obtain ⟨q, of, rfl, hql, _⟩ := hr2.block (by omega); obtain ⟨hq1, _, hq2, _⟩ := hA2 _ rfl; simp only at hq1 hq2; subst hq2; have B2 := hide ((B1.out.alloc B1.out.size (.cells #[] 5)).grown hg2 (Nat.le_trans B1.out.size (Nat.le_of_lt S1.out)) (fun j e => by cases e; exact B1.out.size)); have O2 := hide ((O1.out.grown hg2 (fun e => Nat.lt_irrefl _ (World.ownsRow.lt hown1 w1.heap.size e).2)).alloc (.cells #[.slice (some ⟨q, 0, none⟩) (0 + 8) c2] 22)); have R2 := hide (hr2.alloc (.cells #[.slice (some ⟨q, 0, none⟩) (0 + 8) c2] 22)); have S2 : Hid (w2.heap.size < (w2.alloc (.cells #[.slice (some ⟨q, 0, none⟩) (0 + 8) c2] 22)).heap.size) := (by show _ < _; simp))
    | (at_builtin; refine wp_appV rfl (.tmp 19) (.tmp 23) _ rfl 1 i0 _ 24 Try.underlying166 hi hz0 hz1 hz2 rfl (by omega) w.heap.size _ m (slS S C) rfl O2.out _ 1 1 (fun _ => .slice (some ⟨q, 0, none⟩) 8 c2) rfl (OwnV.lit 1 22 0 w2 (fun _ => .slice (some ⟨q, 0, none⟩) 8 c2) #[.slice (some ⟨q, 0, none⟩) 8 c2] 1 (Nat.zero_le _) (by simp [maxLen]) rfl).rdS2 (fun _ _ => rfl) (by simp only [maxLen]; omega) (by omega) (Nat.le_trans B2.out.size (Nat.le_of_lt S2.out)) ?_; intro v3 w3 hown3 hg3 hob3))
  go_ret2
  rw [slS_app] at hown3
  have hne : v1.ownBlock ≠ some q := fun e => by have := (World.ownsRow.lt hown1 _ e).2; omega
  have h1 := B1.out.size
  have r3 : Rd .u8 w3 (some ⟨q, 0, none⟩) 8 c2 F := by
    have h2 := R2.out.congr (g := F) fun i hi => by simp [catF]
    rw [Nat.zero_add] at h2
    exact h2.apart36 hg3 (fun b off e => by cases e; exact hne)
  refine ⟨_, rfl, q, c2, hown3, r3, by omega, (B2.out.alloc B2.out.size (.cells #[.slice (some ⟨q, 0, none⟩) 8 c2] 22)).grown hg3 (Nat.le_trans B2.out.size (Nat.le_of_lt S2.out)) (fun j e => (World.ownsRow.lt O1.out j e).1)⟩
set_option maxRecDepth 20000 in
theorem rans36 {B : Nat} {w : World} {A0 : Option Addr} {m c0 : Nat} {S C : Nat → Nat} {L : Nat → Nat → Int} (ho : OwnV 1 22 B w (.slice A0 m c0) m (slS S C)) (hr : ∀ i, i < m → Rd .u8 w (some ⟨S i, 0, none⟩) 8 (C i) (L i)) (hm : m ≤ 100) (hB : B ≤ w.heap.size) {A : Option Addr} {n c : Nat} {F : Nat → Int} (ha : Rd .u8 w A n c F) :
    Calls Try.prog 87 #[.slice A0 m c0, .slice A n c] w fun e w' => Below w.heap.size w w' ∧ ((∃ i v', i < m ∧ n = 8 ∧ kl (L i) = kl F ∧ e = .returned (.tuple #[v', .bool true]) ∧ OwnV 1 22 w.heap.size w' v' (m - 1) (slS (delN i S) (delN i C))) ∨ ((∀ i, i < m → ¬ (n = 8 ∧ kl (L i) = kl F)) ∧ e = .returned (.tuple #[.slice A0 m c0, .bool false]))) := by
  have Ho := hide ho
  have Hr := hide hr
  have Ha := hide ha
  have hn63 : (m : Int) ≤ 9223372036854775807 := by omega
  have Hm := hide hm
  clear ho hr ha
  go_enter Try.func87, Try.ntmps87
  go_wp2_with fail
  go_loopw [6] (fun i wr => ∃ k : Nat, k ≤ m ∧ i = .int .i64 k ∧ (∀ j, j < k → ¬ (n = 8 ∧ kl (L j) = kl F)) ∧ Drawn w wr) (fun i _ => m - (intOf i).toNat)
  case atStart => exact ⟨0, Nat.zero_le _, rfl, fun j hj => absurd hj (by omega), Drawn.refl _⟩
  case round =>
    obtain ⟨k, hk, rfl, hno, hdr⟩ := hrel
    have Hno := hide hno
    have Hdr := hide hdr
    clear hno
    obtain ⟨d0, hd0⟩ := hdr
    subst hd0
    by_cases hlt : k < m
    · obtain ⟨b, off, rfl, hc⟩ := Ho.out.rdS2.2.2.2 (by omega)
      have hk1 := hc k (by omega)
      have hcm := Ho.out.rdS2.1
      clear hc
      unfold slS at hk1
      go_wp2_with fail
      refine (rsame_any _ _ _ _ _ _ _ _ _ ((Hr.out k hlt).drawn Hdr.out) (Ha.out.drawn Hdr.out)).mono ?_
      rintro e w1 ⟨rfl, hdr1⟩
      have D1 := hide (Hdr.out.trans hdr1)
      clear hdr1 hk1
      cases hs : sameB 8 n (L k) F with
      | true =>
        obtain ⟨h8, hkl⟩ := kl_of_same hs
        have H8 := hide h8
        have Hkl := hide hkl
        clear hs h8 hkl
        obtain ⟨i0, hi, hz0, hz1, hz2⟩ := info_parts rows36_info
        have hw1 : IntKind.i64.wrap ((k : Int) + 1) = (k : Int) + 1 := IntWalk.i64_in _ (by omega)
        have hb0 : (0 : Int) ≤ (k : Int) := by omega
        have hb1 : (k : Int) ≤ (c0 : Int) := by omega
        have hb2 : (0 : Int) ≤ (k : Int) + 1 := by omega
        have hb3 : (k : Int) + 1 ≤ (m : Int) := by omega
        have hb4 : (m : Int) ≤ (c0 : Int) := by omega
        have hb5 : ((k : Int) + 1).toNat = k + 1 := by omega
        have R1 := hide (Ho.out.rdS2.below36 (drawn_below D1.out w.heap.size))
        have hsz : w1.heap.size = w.heap.size := by obtain ⟨q, rfl⟩ := D1.out; rfl
        have Hsz := hide hsz
        clear hsz
        go_wp2_with fail
        go_region_held3 (fun _ => True) ((trivial)) ((first
          | (refine step_appV36 rfl (.tmp 19) (.tmp 22) _ rfl 1 i0 _ 24 Try.underlying166 hi hz0 hz1 hz2 rfl (by omega) w1.heap.size _ 0 (slS S C) rfl (OwnV.lit 1 22 w1.heap.size _ (slS S C) #[] 0 (by first | exact Nat.le_refl _ | simp) (by simp [maxLen]) rfl) _ k _ (slS S C) rfl ((R1.out.below36 ((Below.refl w1.heap.size w1).drew.alloc (Nat.le_refl _) _)).take36 (Nat.le_of_lt hlt)) (fun _ _ => rfl) (by simp only [maxLen]; omega) (by omega) (by simp) ?_; intro v1 W1 hown1 hg1 hob1; have hB1 : Below w1.heap.size w1 W1 := ((Below.refl w1.heap.size w1).drew.alloc (Nat.le_refl _) _).grown hg1 (by simp) (fun j e => by cases e; exact Nat.le_refl _); have hS1 : w1.heap.size < W1.heap.size := Nat.lt_of_lt_of_le (by simp) hg1.size)
          | (refine step_appV36 rfl (.tmp 23) (.tmp 27) _ rfl 1 i0 _ 24 Try.underlying166 hi hz0 hz1 hz2 rfl (by omega) w1.heap.size _ (0 + k) _ rfl hown1 _ (m - (k + 1)) (c0 - (k + 1)) _ rfl ((R1.out.below36 (by first | exact hB1 | exact hB1.drew)).cutOne (by omega)) (fun _ _ => rfl) (by simp only [maxLen]; omega) (by omega) (by first | exact Nat.le_of_lt hS1 | simp) ?_; intro v2 W2 hown2 hg2 hob2)))
        all_goals
          have hv1 : ∀ i, v1.ownBlock = some i → w1.heap.size ≤ i := fun i hi0 => (World.ownsRow.lt hown1 i hi0).1
          have hB2 : Below w1.heap.size w1 W2 := hB1.grown hg2 (Nat.le_of_lt hS1) hv1
          rw [slS_two, show 0 + k + (m - (k + 1)) = m - 1 by omega] at hown2
          have hsz := Hsz.out
          have hB3 : Below w.heap.size w W2 := (drawn_below D1.out w.heap.size).trans (by rw [← hsz]; exact hB2)
          rw [hsz] at hown2
          go_wp2_with fail
          all_goals
            go_ret2
            exact ⟨hB3, .inl (by first | exact ⟨k, hlt, H8.out, Hkl.out, _, rfl, hown2⟩ | exact ⟨k, _, hlt, H8.out, Hkl.out, rfl, hown2⟩)⟩
      | false =>
        have Hs := hide hs
        clear hs
        obtain ⟨d1, hd1⟩ := D1.out
        subst hd1
        go_wp2_with fail
        go_roundw
        case rel => exact ⟨k + 1, by omega, by go_num, fun j hj hj2 => (by
          by_cases hjk : j = k
          · subst hjk
            have := Hs.out
            rw [kl_same hj2.1 hj2.2] at this
            cases this
          · exact Hno.out j (by omega) hj2), D1.out⟩
        case measure => simp [intOf]; omega
    · obtain rfl : m = k := by omega
      go_wp2_with fail
      go_ret2
      exact ⟨drawn_below Hdr.out _, .inr ⟨Hno.out, rfl⟩⟩
end Go.Proofs.Yteikpdolickkaaa
