/- Layer 14: the reader's rest, its settings, what is left without the padding, a priority. -/
import Derived.Test.YtelcpfjifhobjaaFr1
namespace Go.Proofs.Ytelcpfjifhobjaa
set_option linter.unusedVariables false
set_option linter.unusedSimpArgs false
open Go.RowKit

theorem cell_same {w w' : World} {b : Nat} (h : w'.heap[b]? = w.heap[b]?) (j : Nat) : w'.cell? ⟨b, j, none⟩ = w.cell? ⟨b, j, none⟩ := by
  simp only [World.cell?, h]
def TookA (w : World) (p : Nat) (A : Option Addr) (c n t k : Nat) (f : Nat → Int) (e : Ending) (w' : World) : Prop :=
  ∃ A2 c2, e = .returned (.slice A2 k c2) ∧ Rd .u8 w' A2 k c2 (fun i => f (t + i)) ∧ (∀ a, A2 = some a → w.heap.size ≤ a.block) ∧ CurA w' p A c n f (t + k) ∧ w.grownBy w' (some p)
set_option maxHeartbeats 800000 in
theorem takeA (p n t k c : Nat) (A : Option Addr) (f : Nat → Int) (w : World) (h : CurA w p A c n f t) (hk : t + k ≤ n) :
    Calls Try.prog 137 #[.pointer (some ⟨p, 0, none⟩), .int .i64 (k : Int)] w (TookA w p A c n t k f) := by
  by_cases h0 : k = 0
  · subst h0
    exact (take_none w _).mono fun e w' ⟨h1, h2⟩ => ⟨none, 0, h1, by subst h2; exact Rd.nil _ _ _, fun a e => (by cases e), by subst h2; exact h, by subst h2; exact World.grownBy.refl _ _⟩
  · have hne : ((k : Int) == 0) = false := by simp; omega
    have hlt := h.lt
    have hn : n ≤ 100000000 := h.2.2.2.2
    have H := hide h
    have hle : k ≤ n - t := by omega
    obtain ⟨q, hq⟩ : ∃ q, q = n - t := ⟨_, rfl⟩
    have Hq := hide hq
    rw [← hq] at hle
    clear h h0 hq
    go_enter Try.func137, Try.ntmps137
    go_wp2_with fail
    refine (ahead_any p n t f _ H.out.cur).mono ?_
    rintro e w1 ⟨A1, c1, rfl, hr1, hd1⟩
    rw [← Hq.out] at hr1 ⊢
    have hcut := bytes_cut_h A1 q c1 k (by have := hr1.1; omega)
    have Hr1 := hide ((hr1.drawn hd1).front (m := k) hle)
    have Hcut := hide hcut
    have hb1 := drawn_below hd1 w.heap.size
    clear hr1 hd1
    go_wp2_with fail
    refine (clone_any _ k c1 _ _ Hr1.out (by omega)).mono ?_
    rintro e w2 ⟨v, rfl, hown, hb2⟩
    obtain ⟨A2, c2, rfl, hr2, hbl⟩ := hown.rd
    have hB2 : Below w.heap.size w w2 := hb1.of hb2
    obtain ⟨hh, hr0, ha0, ht0, hn0⟩ := H.out.below hB2
    have d1 := cell_of_row w2 p 1 _ _ _ hh
    simp at d1
    have f1 := frozen_of_row w2 p 1 _ _ hh
    have Hr2 := hide hr2
    have Hbl := hide hbl
    have Hh := hide hh
    have Hr0 := hide hr0
    have Ha0 := hide ha0
    have hs1 := hb1.size
    clear hown hr2 hbl hh hr0 ha0 hcut
    go_wp2_with fail
    go_ret
    have hg : w2.grownBy (w2.setCell ⟨p, 1, none⟩ (.int .i64 ((t : Int) + k))) (some p) := grown_cell w2 w2 (Below.refl _ _) p 1 _
    refine ⟨A2, c2, rfl, Hr2.out.other hg (fun b off e => ?_), fun a e => ?_, ⟨?_, Hr0.out.other hg (fun b off e => Ha0.out _ e), Ha0.out, by omega, hn0⟩, grown_cell w w2 hB2 p 1 _⟩
    · have := Hbl.out _ e
      simp at this
      omega
    · have := Hbl.out _ e
      omega
    · rw [heap_setCell_same w2 p 1 _ _ _ Hh.out]
      simp
theorem TookA.start {w w1 : World} {p c n t k : Nat} {A : Option Addr} {f : Nat → Int} {e : Ending} {w' : World} (hd : Below w.heap.size w w1) (h : TookA w1 p A c n t k f e w') : TookA w p A c n t k f e w' := by
  obtain ⟨A2, c2, h1, h2, h3, h4, h5⟩ := h
  exact ⟨A2, c2, h1, h2, fun a e => Nat.le_trans hd.size (h3 a e), h4, ⟨h5.os.trans hd.os, h5.tape.trans hd.tape, h5.output.trans hd.output, Nat.le_trans hd.size h5.size, fun i hi hne => (h5.block i (Nat.lt_of_lt_of_le hi hd.size) hne).trans (hd.block i hi)⟩⟩
set_option maxHeartbeats 400000 in
theorem restA (p n t c : Nat) (A : Option Addr) (f : Nat → Int) (w : World) (h : CurA w p A c n f t) :
    Calls Try.prog 122 #[.pointer (some ⟨p, 0, none⟩)] w (TookA w p A c n t (n - t) f) := by
  have H := hide h
  have htn : t ≤ n := h.2.2.2.1
  clear h
  go_enter Try.func122, Try.ntmps122
  go_wp2_with fail
  refine (left_any p n t f _ H.out.cur).mono ?_
  rintro e w1 ⟨rfl, hd1⟩
  have hb1 := drawn_below hd1 w.heap.size
  go_wp2_with fail
  refine (takeA p n t (n - t) c A f _ (H.out.below hb1) (by omega)).mono ?_
  rintro e w2 ht
  obtain ⟨A2, c2, rfl, h2⟩ := ht.start hb1
  have H2 := hide h2
  clear h2
  go_wp2_with fail
  go_ret
  exact ⟨A2, c2, rfl, H2.out⟩
theorem Rd.frs {B : Nat} {S : Nat → Prop} {k : IntKind} {w w' : World} {A : Option Addr} {n c : Nat} {F : Nat → Int} (h : Rd k w A n c F) (hf : FrS B S w w') (hne : ∀ b off, 0 < n → A = some ⟨b, off, none⟩ → ¬ S b) : Rd k w' A n c F :=
  ⟨h.1, h.2.1, h.2.2.1, fun hn => by
    obtain ⟨b, off, hA, hc⟩ := h.2.2.2 hn
    have hk := fun j => cell_same (hf.keep b (World.block_lt_of_cell? w _ (hc 0 hn)) (hne b off hn hA)) j
    exact ⟨b, off, hA, fun i hi => (hk _).trans (hc i hi)⟩⟩
set_option maxHeartbeats 3200000 in
theorem sparse_own (A : Option Addr) (n c m : Nat) (f : Nat → Int) (w : World) (ha : Rd .u8 w A n c f) (hb : Byt n f) (hn : n ≤ 100000) (hm : n = m * 6) :
    Calls Try.prog 121 #[.slice A n c] w fun e w' => ∃ A2 c2, e = .returned (.tuple #[.slice A2 m c2, .int .i64 0]) ∧ Rd2 w' A2 m c2 (sF f) (sG f) ∧ (∀ a, A2 = some a → w.heap.size ≤ a.block) ∧ Below w.heap.size w w' := by
  obtain ⟨i0, hi, hz0, hz1, hz2⟩ := info_parts set_info
  have hd : ((n : Int) % 6 != 0) = false := by simp; omega
  have hmn : m ≤ n := by omega
  have hq : (n : Int) / 6 = (m : Int) := by omega
  have Ha := hide ha
  have Hb := hide hb
  have Hm := hide hm
  have Hq := hide hq
  clear ha hb hm hq
  go_enter Try.func121, Try.ntmps121
  go_wp2_with fail
  refine (cnewA A n c f _ Ha.out (by omega)).mono ?_
  rintro e w1 ⟨p, A1, c1, rfl, hp, hcur, hA1, hb1⟩
  have Hcur := hide hcur
  have HA1 := hide hA1
  have HB1 := hide hb1
  have hp1 := hcur.lt
  have hsz := hb1.size
  clear hcur hA1 hb1
  go_wp2_with (at_make; refine wp_mkV rfl _ _ _ rfl 2 i0 _ 16 Try.underlying26 hi hz0 hz1 hz2 (pr (oneF 0) (oneF 0)) w.heap.size _ _ _ _ m rfl rfl Hq.out Hq.out (made2 m) (by omega) (by simp only [maxLen]; omega) hsz ?_; intro w2 hown2 hg2 hs2)
  have hbb : Below w1.heap.size w1 w2 := ⟨hg2.os, hg2.tape, hg2.output, hg2.size, fun i hi => hg2.block i hi (by simp)⟩
  have HB2 := hide (HB1.out.of hbb)
  have Hc2 := hide (Hcur.out.below hbb)
  have Hown2 := hide hown2
  clear hown2 hg2 hbb HB1 Hcur
  go_loopw [19] (fun i wr => ∃ k : Nat, k ≤ m ∧ i = .int .i64 k ∧ OwnV 2 170 w.heap.size wr (.slice (some ⟨w1.heap.size, 0, none⟩) m m) m (pr (upF k (sF f)) (upF k (sG f))) ∧ CurA wr p A1 c1 n f (k * 6) ∧ Below w.heap.size w wr ∧ w1.heap.size < wr.heap.size) (fun i _ => m - (intOf i).toNat)
  case atStart => exact ⟨0, Nat.zero_le _, rfl, Hown2.out.congr (fun i _ => by simp [upF, oneF, pr]), by simpa using Hc2.out, HB2.out, by omega⟩
  case round =>
    obtain ⟨k, hk, rfl, hown, hcur, hB, hlr⟩ := hrel
    have Hown := hide hown
    have Hcur := hide hcur
    have HB := hide hB
    clear hown hcur hB
    by_cases hlt : k < m
    · have hpg : p ≠ w1.heap.size := by omega
      have hAg : ∀ a, A1 = some a → a.block ≠ w1.heap.size := fun a e => by have := (HA1.out a e).2; omega
      have HAg := hide hAg
      have hnk : k * 6 + 6 ≤ n := by have := Hm.out; omega
      have hkm : (k : Int) < (m : Int) := by omega
      clear hAg
      go_wp2_with fail
      refine (numberA p n (k * 6) 2 c1 A1 _ rfl f _ Hcur.out Hb.out (by omega) (by omega) (by omega)).mono ?_
      rintro e w3 ⟨rfl, hc3, hg3⟩
      generalize hX : num (fun i => f (k * 6 + i)) 2 = x
      have HX : Hid (sF f k = x) := hX
      have Ho3 := hide (Hown.out.grown hg3 (by simp [Value.ownBlock]; omega))
      have HB3 := hide (HB.out.grown hg3 HB.out.size (fun j e => by have := Option.some.inj e; omega))
      have hl3 := Nat.lt_of_lt_of_le hlr hg3.size
      have Hc3 := hide hc3
      have hcell := Ho3.out.cell (j := k * 2) (by omega)
      have hfz := Ho3.out.frozen (k * 2)
      rw [pr_0] at hcell
      have Ho4 : Hid (OwnV 2 170 w.heap.size (w3.setCell ⟨w1.heap.size, k * 2, none⟩ (.int .i64 x)) (.slice (some ⟨w1.heap.size, 0, none⟩) m m) m (pr (upF (k + 1) (sF f)) (upF k (sG f)))) := by
        have := Ho3.out.set (k * 2) (.int .i64 x)
        rw [pr_set0, ← HX.out, upF_succ] at this
        rw [← HX.out]
        exact this
      have Hc4 := hide (Hc3.out.other (grown_set w3 w1.heap.size (k * 2) (.int .i64 x)) hpg HAg.out)
      have HB4 := hide (HB3.out.setCell (p := ⟨w1.heap.size, k * 2, none⟩) hsz (.int .i64 x))
      have hl4 : w1.heap.size < (w3.setCell ⟨w1.heap.size, k * 2, none⟩ (.int .i64 x)).heap.size := by simpa [World.setCell] using hl3
      clear hX hc3 hg3 Hcur Hown HB Hc3 HB3 Ho3
      go_wp2_with fail
      refine (numberA p n (k * 6 + 2) 4 c1 A1 _ rfl f _ Hc4.out Hb.out (by omega) (by omega) (by omega)).mono ?_
      rintro e w5 ⟨rfl, hc5, hg5⟩
      generalize hX : num (fun i => f (k * 6 + 2 + i)) 4 = y
      have HY : Hid (sG f k = y) := hX
      have Ho5 := hide (Ho4.out.grown hg5 (by simp [Value.ownBlock]; omega))
      have HB5 := hide (HB4.out.grown hg5 HB4.out.size (fun j e => by have := Option.some.inj e; omega))
      have hl5 := Nat.lt_of_lt_of_le hl4 hg5.size
      have Hc5 := hide hc5
      clear hcell hfz hl4
      have hcell := Ho5.out.cell (j := k * 2 + 1) (by omega)
      have hfz := Ho5.out.frozen (k * 2 + 1)
      rw [pr_1] at hcell
      have Ho6 : Hid (OwnV 2 170 w.heap.size (w5.setCell ⟨w1.heap.size, k * 2 + 1, none⟩ (.int .i64 y)) (.slice (some ⟨w1.heap.size, 0, none⟩) m m) m (pr (upF (k + 1) (sF f)) (upF (k + 1) (sG f)))) := by
        have := Ho5.out.set (k * 2 + 1) (.int .i64 y)
        rw [pr_set1, ← HY.out, upF_succ] at this
        rw [← HY.out]
        exact this
      have Hc6 := hide (Hc5.out.other (grown_set w5 w1.heap.size (k * 2 + 1) (.int .i64 y)) hpg HAg.out)
      have HB6 := hide (HB5.out.setCell (p := ⟨w1.heap.size, k * 2 + 1, none⟩) hsz (.int .i64 y))
      have hl6 : w1.heap.size < (w5.setCell ⟨w1.heap.size, k * 2 + 1, none⟩ (.int .i64 y)).heap.size := by simpa [World.setCell] using hl5
      clear hX hc5 hg5 Hc4 Ho4 HB4 Hc5 HB5 Ho5
      go_wp2_with fail
      go_roundw
      case rel => exact ⟨k + 1, by omega, by go_num, Ho6.out, by have := Hc6.out; rw [show k * 6 + 2 + 4 = (k + 1) * 6 by omega] at this; exact this, HB6.out, hl6⟩
      case measure => simp [intOf]; omega
    · obtain rfl : k = m := by omega
      have Hr := hide (rd2_of_rdV (Hown.out.rdS2))
      go_wp2_with fail
      go_ret2
      exact ⟨_, _, rfl, Hr.out.congr (fun i hi => by simp [upF, hi]) (fun i hi => by simp [upF, hi]), fun a e => by cases e; exact hsz, HB.out⟩
/-- Pairs of integers lie in no block that holds other values. -/
theorem rd2_ne {w : World} {A : Option Addr} {n c q : Nat} {F G : Nat → Int} {v0 v1 v2 : Value} {T : TypeId} (h : Rd2 w A n c F G) (hq : w.heap[q]? = some (.cells #[v0, v1, v2] T (0, 0))) (h0 : ∀ x, v0 ≠ .int .i64 x) (h1 : ∀ x, v1 ≠ .int .i64 x) (h2 : ∀ x, v2 ≠ .int .i64 x) : ∀ b off, 0 < n → A = some ⟨b, off, none⟩ → b ≠ q := fun b off hn hA e => by
  subst e
  obtain ⟨b', off', hA', hc⟩ := h.2.2.2 hn
  rw [hA] at hA'
  injection hA' with e1
  injection e1 with e2 e3
  subst e2
  subst e3
  have hx := (hc 0 hn).1
  rw [cell_of_row w b _ _ _ _ hq] at hx
  have h3 : off + 0 * 2 = 0 ∨ off + 0 * 2 = 1 ∨ off + 0 * 2 = 2 ∨ 3 ≤ off + 0 * 2 := by omega
  rcases h3 with e | e | e | e
  · rw [e] at hx
    exact h0 _ (Option.some.inj hx)
  · rw [e] at hx
    exact h1 _ (Option.some.inj hx)
  · rw [e] at hx
    exact h2 _ (Option.some.inj hx)
  · rw [Array.getElem?_eq_none (by simpa using e)] at hx
    cases hx
theorem Rd2.frs {B : Nat} {S : Nat → Prop} {w w' : World} {A : Option Addr} {n c : Nat} {F G : Nat → Int} (h : Rd2 w A n c F G) (hf : FrS B S w w') (hne : ∀ b off, 0 < n → A = some ⟨b, off, none⟩ → ¬ S b) : Rd2 w' A n c F G :=
  ⟨h.1, h.2.1, h.2.2.1, fun hn => by
    obtain ⟨b, off, hA, hc⟩ := h.2.2.2 hn
    have hk := fun j => cell_same (hf.keep b (World.block_lt_of_cell? w _ (hc 0 hn).1) (hne b off hn hA)) j
    exact ⟨b, off, hA, fun i hi => ⟨(hk _).trans (hc i hi).1, (hk _).trans (hc i hi).2⟩⟩⟩
/-- How many settings bytes are. -/
def nsN (m : Nat) : Nat := if m % 6 = 0 then m / 6 else 0
set_option maxHeartbeats 800000 in
theorem settings14 (q p c n t : Nat) (A : Option Addr) (f : Nat → Int) (ms ov : Bool) (hf : Byt n f) (hn : n ≤ 100000) (B : Nat) (hB : B ≤ q) (hBp : B ≤ p) (w : World) (h : Rdr w q p A c n f t ms ov) :
    Calls Try.prog 95 #[.pointer (some ⟨q, 0, none⟩)] w fun x w' => (∃ A2 c2, x = .returned (.slice A2 (nsN (n - t)) c2) ∧ Rd2 w' A2 (nsN (n - t)) c2 (sF fun i => f (t + i)) (sG fun i => f (t + i)) ∧ ∀ a, A2 = some a → w.heap.size ≤ a.block) ∧ Rdr w' q p A c n f n (ms || decide ((n - t) % 6 ≠ 0)) ov ∧ FrS B (PQ p q) w w' := by
  obtain ⟨r0, r1, r2⟩ := row3r h.2.1
  have H := hide h
  have hf2 : Byt (n - t) (fun i => f (t + i)) := fun i hi => hf (t + i) (by omega)
  have Hf2 := hide hf2
  have htn : t ≤ n := h.1.2.2.2.1
  obtain ⟨m, hm⟩ : ∃ m, m = n - t := ⟨_, rfl⟩
  have hmn : t + m = n := by omega
  have hm2 : m ≤ 100000 := by omega
  rw [← hm] at Hf2 ⊢
  have Hm := hide hm
  clear h hf hf2 hm htn hn
  go_enter Try.func95, Try.ntmps95
  go_wp2_with fail
  refine (restA p n t c A f _ H.out.1).mono ?_
  rw [← Hm.out]
  rintro e w1 ⟨A1, c1, rfl, hr1, hfr1, hc1, hg1⟩
  rw [hmn] at hc1
  have Hr1 := hide hr1
  have H1 := hide (H.out.moved hc1 hg1)
  have F1 := hide (FrS.ofGrown (S := PQ p q) hg1 hBp H.out.ltp (.inl rfl))
  have hs1 := F1.out.bel.size
  have hBw := H.out.ltq
  clear hc1 hg1 r0 r1 r2 hr1 hfr1
  by_cases h6 : m % 6 = 0
  · have hN : nsN m = m / 6 := by unfold nsN; rw [if_pos h6]
    have hD : decide (m % 6 ≠ 0) = false := decide_eq_false (fun h => h h6)
    have HN := hide hN
    have HD := hide hD
    have h66 : m = m / 6 * 6 := by omega
    obtain ⟨k, hk⟩ : ∃ k, k = m / 6 := ⟨_, rfl⟩
    rw [← hk] at h66 HN
    have Hk := hide h66
    clear hN hD hk h66 h6
    go_wp2_with fail
    refine (sparse_own A1 m c1 k _ _ Hr1.out Hf2.out hm2 Hk.out).mono ?_
    rintro e w2 ⟨A2, c2, rfl, hr2, hfr2, hb2⟩
    have Hfr2 := hide hfr2
    have H2 := hide (H1.out.below hb2)
    have Hr2 := hide hr2
    have F2 := hide (F1.out.trans (FrS.ofBelow _ hb2 (by omega)))
    have Hne := hide (rd2_ne hr2 H2.out.2.1 (fun _ => by simp) (fun _ => by simp) (fun _ => by simp))
    clear hr2 hb2 hfr2
    go_wp2_with fail
    refine (expect14 q p c n n A f ms ov false 0 rfl B hB _ H2.out).mono ?_
    rintro e w3 ⟨rfl, hc3, hg3⟩
    have H3 := hide hc3
    have Hr3 := hide (Hr2.out.frs hg3 Hne.out)
    have F3 := hide (F2.out.trans hg3.pq)
    go_wp2_with fail
    go_ret
    rw [HN.out, HD.out]
    exact ⟨⟨A2, c2, rfl, Hr3.out, fun a e => by have := Hfr2.out a e; omega⟩, H3.out, F3.out⟩
  · have hN : nsN m = 0 := by unfold nsN; rw [if_neg h6]
    have hD : decide (m % 6 ≠ 0) = true := decide_eq_true h6
    have HN := hide hN
    have HD := hide hD
    have H6 := hide h6
    clear hN hD h6
    go_wp2_with fail
    refine (sparse_bad A1 m c1 _ hm2 H6.out).mono ?_
    rintro e w2 ⟨rfl, rfl⟩
    go_wp2_with fail
    refine (expect14 q p c n n A f ms ov true 4 rfl B hB _ H1.out).mono ?_
    rintro e w3 ⟨rfl, hc3, hg3⟩
    have H3 := hide hc3
    have F3 := hide (F1.out.trans hg3.pq)
    go_wp2_with fail
    go_ret
    rw [HN.out, HD.out]
    exact ⟨⟨none, 0, rfl, Rd2.nil _ _ _, fun a e => by cases e⟩, H3.out, F3.out⟩
end Go.Proofs.Ytelcpfjifhobjaa
