/- Fr1, Fr2, Fr3, Fr4, Fr5 in one text. -/
import Derived.Test.YtpnjamomkpkkeaaFm1
import Derived.Test.YtpnjamomkpkkeaaMJ
import Derived.Deep.RegionHeld3
import Derived.Deep.Cut
namespace Go.Proofs.Ytpnjamomkpkkeaa
set_option linter.unusedVariables false
set_option linter.unusedSimpArgs false
section
open Go.RowKit

/-- What turns of a world when the blocks of S alone are written (above B). -/
structure FrS (B : Nat) (S : Nat → Prop) (w w' : World) : Prop where
  bel : Below B w w'
  keep : ∀ i, i < w.heap.size → ¬ S i → w'.heap[i]? = w.heap[i]?
def PQ (p q : Nat) : Nat → Prop := fun i => i = p ∨ i = q
def Q1 (q : Nat) : Nat → Prop := fun i => i = q
def PQR (p q r : Nat) : Nat → Prop := fun i => i = p ∨ i = q ∨ i = r
theorem FrS.refl (B : Nat) (S : Nat → Prop) (w : World) : FrS B S w w := ⟨Below.refl _ _, fun _ _ _ => rfl⟩
theorem FrS.trans {B : Nat} {S : Nat → Prop} {w w1 w2 : World} (h : FrS B S w w1) (k : FrS B S w1 w2) : FrS B S w w2 :=
  ⟨h.bel.trans k.bel, fun i hi a => (k.keep i (Nat.lt_of_lt_of_le hi h.bel.size) a).trans (h.keep i hi a)⟩
theorem FrS.wide {B : Nat} {S T : Nat → Prop} {w w1 : World} (h : FrS B S w w1) (hS : ∀ i, S i → T i) : FrS B T w w1 := ⟨h.bel, fun i hi a => h.keep i hi fun s => a (hS i s)⟩
theorem FrS.pqr {B p q : Nat} (r : Nat) {w w1 : World} (h : FrS B (PQ p q) w w1) : FrS B (PQR p q r) w w1 := h.wide fun _ s => s.elim .inl fun s => .inr (.inl s)
theorem FrS.ofBelow {B : Nat} (S : Nat → Prop) {w w' : World} (h : Below w.heap.size w w') (hB : B ≤ w.heap.size) : FrS B S w w' := ⟨h.mono hB, fun i hi _ => h.block i hi⟩
theorem FrS.ofDrawn (B : Nat) (S : Nat → Prop) {w w' : World} (h : Drawn w w') : FrS B S w w' := ⟨drawn_below h B, fun i hi _ => (drawn_below h w.heap.size).block i hi⟩
theorem FrS.ofGrown {B g : Nat} {S : Nat → Prop} {w w' : World} (h : w.grownBy w' (some g)) (hB : B ≤ g) (hg : g < w.heap.size) (hS : S g) : FrS B S w w' :=
  ⟨⟨h.os, h.tape, h.output, h.size, fun k hk => h.block k (by omega) (fun e => by have := Option.some.inj e; omega)⟩, fun i hi a => h.block i hi (fun e => a (by have := Option.some.inj e; rw [this]; exact hS))⟩
theorem FrS.row {B b : Nat} {S : Nat → Prop} {w w' : World} {o : Obj} (h : FrS B S w w') (hr : w.heap[b]? = some o) (hb : ¬ S b) : w'.heap[b]? = some o := (h.keep b (rowLt hr) hb).trans hr
theorem FrS.pq {B p q : Nat} {w w1 : World} (h : FrS B (Q1 q) w w1) : FrS B (PQ p q) w w1 := h.wide fun _ s => .inr s
theorem row3r {w : World} {b : Nat} {T : TypeId} {v0 v1 v2 : Value} (h : w.heap[b]? = some (.cells #[v0, v1, v2] T (0, 0))) : w.cell? ⟨b, 0, none⟩ = some v0 ∧ w.cell? ⟨b, 1, none⟩ = some v1 ∧ w.cell? ⟨b, 2, none⟩ = some v2 := by
  refine ⟨?_, ?_, ?_⟩
  · rw [cell_of_row w b 0 _ _ _ h]; rfl
  · rw [cell_of_row w b 1 _ _ _ h]; rfl
  · rw [cell_of_row w b 2 _ _ _ h]; rfl

/-- A reader at block q, its cursor at block p. -/
def Rdr (w : World) (q p : Nat) (A : Option Addr) (c n : Nat) (f : Nat → Int) (t : Nat) (ms ov : Bool) : Prop :=
  CurA w p A c n f t ∧ w.heap[q]? = some (.cells #[.pointer (some ⟨p, 0, none⟩), .bool ms, .bool ov] 147 (0, 0)) ∧ p ≠ q ∧ (∀ a, A = some a → a.block ≠ q)
section
variable {w w' : World} {q p c n t : Nat} {A : Option Addr} {f : Nat → Int} {ms ov : Bool}
theorem Rdr.below (h : Rdr w q p A c n f t ms ov) (hb : Below w.heap.size w w') : Rdr w' q p A c n f t ms ov := ⟨h.1.below hb, keepRow h.2.1 hb, h.2.2⟩
theorem Rdr.drawn (h : Rdr w q p A c n f t ms ov) (hd : Drawn w w') : Rdr w' q p A c n f t ms ov := h.below (drawn_below hd _)
/-- The cursor has moved on. -/
theorem Rdr.moved {t' : Nat} (h : Rdr w q p A c n f t ms ov) (hc : CurA w' p A c n f t') (hg : w.grownBy w' (some p)) : Rdr w' q p A c n f t' ms ov :=
  ⟨hc, keepOne h.2.1 hg (fun e => h.2.2.1 e.symm), h.2.2⟩
theorem Rdr.told (h : Rdr w q p A c n f t ms ov) (b : Bool) : Rdr (w.setCell ⟨q, 1, none⟩ (.bool b)) q p A c n f t b ov :=
  ⟨h.1.other (grown_set w q 1 _) h.2.2.1 h.2.2.2, by have := setRow w q 1 (.bool b) h.2.1; simpa using this, h.2.2⟩
theorem Rdr.full (h : Rdr w q p A c n f t ms ov) (b : Bool) : Rdr (w.setCell ⟨q, 2, none⟩ (.bool b)) q p A c n f t ms b :=
  ⟨h.1.other (grown_set w q 2 _) h.2.2.1 h.2.2.2, by have := setRow w q 2 (.bool b) h.2.1; simpa using this, h.2.2⟩
theorem Rdr.ltq (h : Rdr w q p A c n f t ms ov) : q < w.heap.size := rowLt h.2.1
theorem Rdr.ltp (h : Rdr w q p A c n f t ms ov) : p < w.heap.size := h.1.lt
end
theorem FrS.set {B g j : Nat} {S : Nat → Prop} {w : World} {u : Value} (hB : B ≤ g) (hg : g < w.heap.size) (hS : S g) : FrS B S w (w.setCell ⟨g, j, none⟩ u) := FrS.ofGrown (grown_set w g j u) hB hg hS

set_option maxHeartbeats 800000 in
theorem expect14 (q p c n t : Nat) (A : Option Addr) (f : Nat → Int) (ms ov b : Bool) (e : Int) (hb : (e != 0) = b) (B : Nat) (hB : B ≤ q) (w : World) (h : Rdr w q p A c n f t ms ov) :
    Calls Try.prog 149 #[.pointer (some ⟨q, 0, none⟩), .int .i64 e] w fun x w' => x = .returned (.tuple #[]) ∧ Rdr w' q p A c n f t (ms || b) ov ∧ FrS B (Q1 q) w w' := by
  obtain ⟨r0, r1, r2⟩ := row3r h.2.1
  have z1 := frozenRow h.2.1 1
  have H := hide h
  have hq := h.ltq
  clear h
  cases ms with
  | true =>
    go_enter Try.func149, Try.ntmps149
    go_wp2
    go_end0
    exact ⟨rfl, H.out.told true, FrS.set hB hq rfl⟩
  | false =>
    go_enter Try.func149, Try.ntmps149
    go_wp2
    go_end0
    exact ⟨rfl, H.out.told b, FrS.set hB hq rfl⟩
def nbV (f : Nat → Int) (n t s : Nat) : Int := if t + s ≤ n then num (fun i => f (t + i)) s else 0
def nbT (n t s : Nat) : Nat := if t + s ≤ n then t + s else t
def nbM (n t s : Nat) : Bool := !decide (t + s ≤ n)
set_option maxHeartbeats 800000 in
theorem number14 (q p c n t s : Nat) (A : Option Addr) (f : Nat → Int) (ms ov : Bool) (size : Int) (hs : size = (s : Int)) (h1 : 1 ≤ s) (h2 : s ≤ 4) (hf : Byt n f) (B : Nat) (hB : B ≤ q) (hBp : B ≤ p) (w : World) (h : Rdr w q p A c n f t ms ov) :
    Calls Try.prog 114 #[.pointer (some ⟨q, 0, none⟩), .int .i64 size] w fun x w' => x = .returned (.int .i64 (nbV f n t s)) ∧ Rdr w' q p A c n f (nbT n t s) (ms || nbM n t s) ov ∧ FrS B (PQ p q) w w' := by
  obtain ⟨r0, r1, r2⟩ := row3r h.2.1
  have H := hide h
  have Hf := hide hf
  clear h hf
  subst hs
  by_cases hl : t + s ≤ n
  · have hV : nbV f n t s = num (fun i => f (t + i)) s := by unfold nbV; rw [if_pos hl]
    have hT : nbT n t s = t + s := by unfold nbT; rw [if_pos hl]
    have hM : nbM n t s = false := by unfold nbM; rw [decide_eq_true hl]; rfl
    rw [hV, hT, hM]
    clear hV hT hM
    generalize hX : num (fun i => f (t + i)) s = X
    have HX := hide hX
    clear hX
    go_enter Try.func114, Try.ntmps114
    go_wp2_with fail
    refine (numberA p n t s c A _ rfl f _ H.out.1 Hf.out h1 h2 hl).mono ?_
    rintro e w1 ⟨rfl, hc1, hg1⟩
    rw [HX.out]
    have H1 := hide (H.out.moved hc1 hg1)
    have F1 := hide (FrS.ofGrown (S := PQ p q) hg1 hBp H.out.ltp (.inl rfl))
    clear hc1 hg1 r0 r1 r2
    go_wp2_with fail
    refine (expect14 q p c n (t + s) A f ms ov false 0 rfl B hB _ H1.out).mono ?_
    rintro e w2 ⟨rfl, hc2, hg2⟩
    have H2 := hide hc2
    have F2 := hide (F1.out.trans hg2.pq)
    clear hc2 hg2
    go_wp2_with fail
    go_ret
    exact ⟨rfl, H2.out, F2.out⟩
  · have hV : nbV f n t s = 0 := by unfold nbV; rw [if_neg hl]
    have hT : nbT n t s = t := by unfold nbT; rw [if_neg hl]
    have hM : nbM n t s = true := by unfold nbM; rw [decide_eq_false hl]; rfl
    rw [hV, hT, hM]
    clear hV hT hM
    have hE : getE (n - t) (s : Int) = 3 := by
      unfold getE
      rw [if_neg (by omega), if_pos (by omega)]
    have HE := hide hE
    clear hE
    go_enter Try.func114, Try.ntmps114
    go_wp2_with fail
    refine (number_bad p n t s f _ H.out.1.cur (by rw [HE.out]; decide)).mono ?_
    rintro e w1 ⟨rfl, hd1⟩
    rw [HE.out]
    have H1 := hide (H.out.drawn hd1)
    have F1 := hide (FrS.ofDrawn B (PQ p q) hd1)
    clear hd1 r0 r1 r2
    go_wp2_with fail
    refine (expect14 q p c n t A f ms ov true 3 rfl B hB _ H1.out).mono ?_
    rintro e w2 ⟨rfl, hc2, hg2⟩
    have H2 := hide hc2
    have F2 := hide (F1.out.trans hg2.pq)
    clear hc2 hg2
    go_wp2_with fail
    go_ret
    exact ⟨rfl, H2.out, F2.out⟩
set_option maxHeartbeats 800000 in
theorem low14 (q p c n t : Nat) (A : Option Addr) (f : Nat → Int) (ms ov : Bool) (hf : Byt n f) (B : Nat) (hB : B ≤ q) (hBp : B ≤ p) (w : World) (h : Rdr w q p A c n f t ms ov) :
    Calls Try.prog 117 #[.pointer (some ⟨q, 0, none⟩)] w fun x w' => x = .returned (.tuple #[.int .i64 (lowN (nbV f n t 4)), .bool (lowB (nbV f n t 4))]) ∧ Rdr w' q p A c n f (nbT n t 4) (ms || nbM n t 4) ov ∧ FrS B (PQ p q) w w' := by
  have H := hide h
  have Hf := hide hf
  clear h hf
  obtain ⟨X, hX⟩ : ∃ X, nbV f n t 4 = X := ⟨_, rfl⟩
  rw [hX]
  have HX := hide hX
  clear hX
  go_enter Try.func117, Try.ntmps117
  go_wp2_with fail
  refine (number14 q p c n t 4 A f ms ov 4 rfl (by omega) (by omega) Hf.out B hB hBp _ H.out).mono ?_
  rw [HX.out]
  rintro e w1 ⟨rfl, hc1, hg1⟩
  have H1 := hide hc1
  have F1 := hide hg1
  clear hc1 hg1
  go_wp2_with fail
  refine (low_any X _).mono ?_
  rintro e w2 ⟨rfl, rfl⟩
  go_wp2_with fail
  go_ret2
  exact ⟨rfl, H1.out, F1.out⟩
end

section
open Go.RowKit

theorem cell_same {w w' : World} {b : Nat} (h : w'.heap[b]? = w.heap[b]?) (j : Nat) : w'.cell? ⟨b, j, none⟩ = w.cell? ⟨b, j, none⟩ := by
  simp only [World.cell?, h]
def TookA (w : World) (p : Nat) (A : Option Addr) (c n t k : Nat) (f : Nat → Int) (e : Ending) (w' : World) : Prop :=
  ∃ A2 c2, e = .returned (.slice A2 k c2) ∧ Rd .u8 w' A2 k c2 (fun i => f (t + i)) ∧ (∀ a, A2 = some a → w.heap.size ≤ a.block) ∧ CurA w' p A c n f (t + k) ∧ w.grownBy w' (some p)
set_option maxHeartbeats 800000 in
theorem takeA (p n t k c : Nat) (A : Option Addr) (f : Nat → Int) (w : World) (h : CurA w p A c n f t) (hk : t + k ≤ n) :
    Calls Try.prog 168 #[.pointer (some ⟨p, 0, none⟩), .int .i64 (k : Int)] w (TookA w p A c n t k f) := by
  by_cases h0 : k = 0
  · subst h0
    exact (take_none w _).mono fun e w' ⟨h1, h2⟩ => ⟨none, 0, h1, by subst h2; exact Rd.nil _ _ _, fun a e => (by cases e), by subst h2; exact h, by subst h2; exact World.grownBy.refl _ _⟩
  · have hne : ((k : Int) == 0) = false := by simp; omega
    have hlt := h.lt
    have hn : n ≤ 100000000 := h.2.2.2.2
    have H := hide h
    have hle : k ≤ n - t := by omega
    obtain ⟨q, hq⟩ : ∃ q, q = n - t := ⟨_, rfl⟩
    have Hq := hide hq
    rw [← hq] at hle
    clear h h0 hq
    go_enter Try.func168, Try.ntmps168
    go_wp2_with fail
    refine (ahead_any p n t f _ H.out.cur).mono ?_
    rintro e w1 ⟨A1, c1, rfl, hr1, hd1⟩
    rw [← Hq.out] at hr1 ⊢
    have hcut := bytes_cut_h A1 q c1 k (by have := hr1.1; omega)
    have Hr1 := hide ((hr1.drawn hd1).front (m := k) hle)
    have Hcut := hide hcut
    have hb1 := drawn_below hd1 w.heap.size
    clear hr1 hd1
    go_wp2_with fail
    refine (clone_any _ k c1 _ _ Hr1.out (by omega)).mono ?_
    rintro e w2 ⟨v, rfl, hown, hb2⟩
    obtain ⟨A2, c2, rfl, hr2, hbl⟩ := hown.rd
    have hB2 : Below w.heap.size w w2 := hb1.of hb2
    obtain ⟨hh, hr0, ha0, ht0, hn0⟩ := H.out.below hB2
    have d1 := cell_of_row w2 p 1 _ _ _ hh
    simp at d1
    have f1 := frozen_of_row w2 p 1 _ _ hh
    have Hr2 := hide hr2
    have Hbl := hide hbl
    have Hh := hide hh
    have Hr0 := hide hr0
    have Ha0 := hide ha0
    have hs1 := hb1.size
    clear hown hr2 hbl hh hr0 ha0 hcut
    go_wp2_with fail
    go_ret
    have hg : w2.grownBy (w2.setCell ⟨p, 1, none⟩ (.int .i64 ((t : Int) + k))) (some p) := grown_cell w2 w2 (Below.refl _ _) p 1 _
    refine ⟨A2, c2, rfl, Hr2.out.other hg (fun b off e => ?_), fun a e => ?_, ⟨?_, Hr0.out.other hg (fun b off e => Ha0.out _ e), Ha0.out, by omega, hn0⟩, grown_cell w w2 hB2 p 1 _⟩
    · have := Hbl.out _ e
      simp at this
      omega
    · have := Hbl.out _ e
      omega
    · rw [heap_setCell_same w2 p 1 _ _ _ Hh.out]
      simp
theorem TookA.start {w w1 : World} {p c n t k : Nat} {A : Option Addr} {f : Nat → Int} {e : Ending} {w' : World} (hd : Below w.heap.size w w1) (h : TookA w1 p A c n t k f e w') : TookA w p A c n t k f e w' := by
  obtain ⟨A2, c2, h1, h2, h3, h4, h5⟩ := h
  exact ⟨A2, c2, h1, h2, fun a e => Nat.le_trans hd.size (h3 a e), h4, ⟨h5.os.trans hd.os, h5.tape.trans hd.tape, h5.output.trans hd.output, Nat.le_trans hd.size h5.size, fun i hi hne => (h5.block i (Nat.lt_of_lt_of_le hi hd.size) hne).trans (hd.block i hi)⟩⟩
set_option maxHeartbeats 400000 in
theorem restA (p n t c : Nat) (A : Option Addr) (f : Nat → Int) (w : World) (h : CurA w p A c n f t) :
    Calls Try.prog 151 #[.pointer (some ⟨p, 0, none⟩)] w (TookA w p A c n t (n - t) f) := by
  have H := hide h
  have htn : t ≤ n := h.2.2.2.1
  clear h
  go_enter Try.func151, Try.ntmps151
  go_wp2_with fail
  refine (left_any p n t f _ H.out.cur).mono ?_
  rintro e w1 ⟨rfl, hd1⟩
  have hb1 := drawn_below hd1 w.heap.size
  go_wp2_with fail
  refine (takeA p n t (n - t) c A f _ (H.out.below hb1) (by omega)).mono ?_
  rintro e w2 ht
  obtain ⟨A2, c2, rfl, h2⟩ := ht.start hb1
  have H2 := hide h2
  clear h2
  go_wp2_with fail
  go_ret
  exact ⟨A2, c2, rfl, H2.out⟩
theorem Rd.frs {B : Nat} {S : Nat → Prop} {k : IntKind} {w w' : World} {A : Option Addr} {n c : Nat} {F : Nat → Int} (h : Rd k w A n c F) (hf : FrS B S w w') (hne : ∀ b off, 0 < n → A = some ⟨b, off, none⟩ → ¬ S b) : Rd k w' A n c F :=
  ⟨h.1, h.2.1, h.2.2.1, fun hn => by
    obtain ⟨b, off, hA, hc⟩ := h.2.2.2 hn
    have hk := fun j => cell_same (hf.keep b (World.block_lt_of_cell? w _ (hc 0 hn)) (hne b off hn hA)) j
    exact ⟨b, off, hA, fun i hi => (hk _).trans (hc i hi)⟩⟩
set_option maxHeartbeats 3200000 in
theorem sparse_own (A : Option Addr) (n c m : Nat) (f : Nat → Int) (w : World) (ha : Rd .u8 w A n c f) (hb : Byt n f) (hn : n ≤ 100000) (hm : n = m * 6) :
    Calls Try.prog 150 #[.slice A n c] w fun e w' => ∃ A2 c2, e = .returned (.tuple #[.slice A2 m c2, .int .i64 0]) ∧ Rd2 w' A2 m c2 (sF f) (sG f) ∧ (∀ a, A2 = some a → w.heap.size ≤ a.block) ∧ Below w.heap.size w w' := by
  obtain ⟨i0, hi, hz0, hz1, hz2⟩ := info_parts set_info
  have hd : ((n : Int) % 6 != 0) = false := by simp; omega
  have hmn : m ≤ n := by omega
  have hq : (n : Int) / 6 = (m : Int) := by omega
  have Ha := hide ha
  have Hb := hide hb
  have Hm := hide hm
  have Hq := hide hq
  clear ha hb hm hq
  go_enter Try.func150, Try.ntmps150
  go_wp2_with fail
  refine (cnewA A n c f _ Ha.out (by omega)).mono ?_
  rintro e w1 ⟨p, A1, c1, rfl, hp, hcur, hA1, hb1⟩
  have Hcur := hide hcur
  have HA1 := hide hA1
  have HB1 := hide hb1
  have hp1 := hcur.lt
  have hsz := hb1.size
  clear hcur hA1 hb1
  go_wp2_with (at_make; refine wp_mkV rfl _ _ _ rfl 2 i0 _ 16 Try.underlying23 hi hz0 hz1 hz2 (pr (oneF 0) (oneF 0)) w.heap.size _ _ _ _ m rfl rfl Hq.out Hq.out (made2 m) (by omega) (by simp only [maxLen]; omega) hsz ?_; intro w2 hown2 hg2 hs2)
  have hbb : Below w1.heap.size w1 w2 := ⟨hg2.os, hg2.tape, hg2.output, hg2.size, fun i hi => hg2.block i hi (by simp)⟩
  have HB2 := hide (HB1.out.of hbb)
  have Hc2 := hide (Hcur.out.below hbb)
  have Hown2 := hide hown2
  clear hown2 hg2 hbb HB1 Hcur
  go_loopw [19] (fun i wr => ∃ k : Nat, k ≤ m ∧ i = .int .i64 k ∧ OwnV 2 201 w.heap.size wr (.slice (some ⟨w1.heap.size, 0, none⟩) m m) m (pr (upF k (sF f)) (upF k (sG f))) ∧ CurA wr p A1 c1 n f (k * 6) ∧ Below w.heap.size w wr ∧ w1.heap.size < wr.heap.size) (fun i _ => m - (intOf i).toNat)
  case atStart => exact ⟨0, Nat.zero_le _, rfl, Hown2.out.congr (fun i _ => by simp [upF, oneF, pr]), by simpa using Hc2.out, HB2.out, by omega⟩
  case round =>
    obtain ⟨k, hk, rfl, hown, hcur, hB, hlr⟩ := hrel
    have Hown := hide hown
    have Hcur := hide hcur
    have HB := hide hB
    clear hown hcur hB
    by_cases hlt : k < m
    · have hpg : p ≠ w1.heap.size := by omega
      have hAg : ∀ a, A1 = some a → a.block ≠ w1.heap.size := fun a e => by have := (HA1.out a e).2; omega
      have HAg := hide hAg
      have hnk : k * 6 + 6 ≤ n := by have := Hm.out; omega
      have hkm : (k : Int) < (m : Int) := by omega
      clear hAg
      go_wp2_with fail
      refine (numberA p n (k * 6) 2 c1 A1 _ rfl f _ Hcur.out Hb.out (by omega) (by omega) (by omega)).mono ?_
      rintro e w3 ⟨rfl, hc3, hg3⟩
      generalize hX : num (fun i => f (k * 6 + i)) 2 = x
      have HX : Hid (sF f k = x) := hX
      have Ho3 := hide (Hown.out.grown hg3 (by simp [Value.ownBlock]; omega))
      have HB3 := hide (HB.out.grown hg3 HB.out.size (fun j e => by have := Option.some.inj e; omega))
      have hl3 := Nat.lt_of_lt_of_le hlr hg3.size
      have Hc3 := hide hc3
      have hcell := Ho3.out.cell (j := k * 2) (by omega)
      have hfz := Ho3.out.frozen (k * 2)
      rw [pr_0] at hcell
      have Ho4 : Hid (OwnV 2 201 w.heap.size (w3.setCell ⟨w1.heap.size, k * 2, none⟩ (.int .i64 x)) (.slice (some ⟨w1.heap.size, 0, none⟩) m m) m (pr (upF (k + 1) (sF f)) (upF k (sG f)))) := by
        have := Ho3.out.set (k * 2) (.int .i64 x)
        rw [pr_set0, ← HX.out, upF_succ] at this
        rw [← HX.out]
        exact this
      have Hc4 := hide (Hc3.out.other (grown_set w3 w1.heap.size (k * 2) (.int .i64 x)) hpg HAg.out)
      have HB4 := hide (HB3.out.setCell (p := ⟨w1.heap.size, k * 2, none⟩) hsz (.int .i64 x))
      have hl4 : w1.heap.size < (w3.setCell ⟨w1.heap.size, k * 2, none⟩ (.int .i64 x)).heap.size := by simpa [World.setCell] using hl3
      clear hX hc3 hg3 Hcur Hown HB Hc3 HB3 Ho3
      go_wp2_with fail
      refine (numberA p n (k * 6 + 2) 4 c1 A1 _ rfl f _ Hc4.out Hb.out (by omega) (by omega) (by omega)).mono ?_
      rintro e w5 ⟨rfl, hc5, hg5⟩
      generalize hX : num (fun i => f (k * 6 + 2 + i)) 4 = y
      have HY : Hid (sG f k = y) := hX
      have Ho5 := hide (Ho4.out.grown hg5 (by simp [Value.ownBlock]; omega))
      have HB5 := hide (HB4.out.grown hg5 HB4.out.size (fun j e => by have := Option.some.inj e; omega))
      have hl5 := Nat.lt_of_lt_of_le hl4 hg5.size
      have Hc5 := hide hc5
      clear hcell hfz hl4
      have hcell := Ho5.out.cell (j := k * 2 + 1) (by omega)
      have hfz := Ho5.out.frozen (k * 2 + 1)
      rw [pr_1] at hcell
      have Ho6 : Hid (OwnV 2 201 w.heap.size (w5.setCell ⟨w1.heap.size, k * 2 + 1, none⟩ (.int .i64 y)) (.slice (some ⟨w1.heap.size, 0, none⟩) m m) m (pr (upF (k + 1) (sF f)) (upF (k + 1) (sG f)))) := by
        have := Ho5.out.set (k * 2 + 1) (.int .i64 y)
        rw [pr_set1, ← HY.out, upF_succ] at this
        rw [← HY.out]
        exact this
      have Hc6 := hide (Hc5.out.other (grown_set w5 w1.heap.size (k * 2 + 1) (.int .i64 y)) hpg HAg.out)
      have HB6 := hide (HB5.out.setCell (p := ⟨w1.heap.size, k * 2 + 1, none⟩) hsz (.int .i64 y))
      have hl6 : w1.heap.size < (w5.setCell ⟨w1.heap.size, k * 2 + 1, none⟩ (.int .i64 y)).heap.size := by simpa [World.setCell] using hl5
      clear hX hc5 hg5 Hc4 Ho4 HB4 Hc5 HB5 Ho5
      go_wp2_with fail
      go_roundw
      case rel => exact ⟨k + 1, by omega, by go_num, Ho6.out, by have := Hc6.out; rw [show k * 6 + 2 + 4 = (k + 1) * 6 by omega] at this; exact this, HB6.out, hl6⟩
      case measure => simp [intOf]; omega
    · obtain rfl : k = m := by omega
      have Hr := hide (rd2_of_rdV (Hown.out.rdS2))
      go_wp2_with fail
      go_ret2
      exact ⟨_, _, rfl, Hr.out.congr (fun i hi => by simp [upF, hi]) (fun i hi => by simp [upF, hi]), fun a e => by cases e; exact hsz, HB.out⟩
/-- Pairs of integers lie in no block that holds other values. -/
theorem rd2_ne {w : World} {A : Option Addr} {n c q : Nat} {F G : Nat → Int} {v0 v1 v2 : Value} {T : TypeId} (h : Rd2 w A n c F G) (hq : w.heap[q]? = some (.cells #[v0, v1, v2] T (0, 0))) (h0 : ∀ x, v0 ≠ .int .i64 x) (h1 : ∀ x, v1 ≠ .int .i64 x) (h2 : ∀ x, v2 ≠ .int .i64 x) : ∀ b off, 0 < n → A = some ⟨b, off, none⟩ → b ≠ q := fun b off hn hA e => by
  subst e
  obtain ⟨b', off', hA', hc⟩ := h.2.2.2 hn
  rw [hA] at hA'
  injection hA' with e1
  injection e1 with e2 e3
  subst e2
  subst e3
  have hx := (hc 0 hn).1
  rw [cell_of_row w b _ _ _ _ hq] at hx
  have h3 : off + 0 * 2 = 0 ∨ off + 0 * 2 = 1 ∨ off + 0 * 2 = 2 ∨ 3 ≤ off + 0 * 2 := by omega
  rcases h3 with e | e | e | e
  · rw [e] at hx
    exact h0 _ (Option.some.inj hx)
  · rw [e] at hx
    exact h1 _ (Option.some.inj hx)
  · rw [e] at hx
    exact h2 _ (Option.some.inj hx)
  · rw [Array.getElem?_eq_none (by simpa using e)] at hx
    cases hx
theorem Rd2.frs {B : Nat} {S : Nat → Prop} {w w' : World} {A : Option Addr} {n c : Nat} {F G : Nat → Int} (h : Rd2 w A n c F G) (hf : FrS B S w w') (hne : ∀ b off, 0 < n → A = some ⟨b, off, none⟩ → ¬ S b) : Rd2 w' A n c F G :=
  ⟨h.1, h.2.1, h.2.2.1, fun hn => by
    obtain ⟨b, off, hA, hc⟩ := h.2.2.2 hn
    have hk := fun j => cell_same (hf.keep b (World.block_lt_of_cell? w _ (hc 0 hn).1) (hne b off hn hA)) j
    exact ⟨b, off, hA, fun i hi => ⟨(hk _).trans (hc i hi).1, (hk _).trans (hc i hi).2⟩⟩⟩
/-- How many settings bytes are. -/
def nsN (m : Nat) : Nat := if m % 6 = 0 then m / 6 else 0
set_option maxHeartbeats 800000 in
theorem settings14 (q p c n t : Nat) (A : Option Addr) (f : Nat → Int) (ms ov : Bool) (hf : Byt n f) (hn : n ≤ 100000) (B : Nat) (hB : B ≤ q) (hBp : B ≤ p) (w : World) (h : Rdr w q p A c n f t ms ov) :
    Calls Try.prog 116 #[.pointer (some ⟨q, 0, none⟩)] w fun x w' => (∃ A2 c2, x = .returned (.slice A2 (nsN (n - t)) c2) ∧ Rd2 w' A2 (nsN (n - t)) c2 (sF fun i => f (t + i)) (sG fun i => f (t + i)) ∧ ∀ a, A2 = some a → w.heap.size ≤ a.block) ∧ Rdr w' q p A c n f n (ms || decide ((n - t) % 6 ≠ 0)) ov ∧ FrS B (PQ p q) w w' := by
  obtain ⟨r0, r1, r2⟩ := row3r h.2.1
  have H := hide h
  have hf2 : Byt (n - t) (fun i => f (t + i)) := fun i hi => hf (t + i) (by omega)
  have Hf2 := hide hf2
  have htn : t ≤ n := h.1.2.2.2.1
  obtain ⟨m, hm⟩ : ∃ m, m = n - t := ⟨_, rfl⟩
  have hmn : t + m = n := by omega
  have hm2 : m ≤ 100000 := by omega
  rw [← hm] at Hf2 ⊢
  have Hm := hide hm
  clear h hf hf2 hm htn hn
  go_enter Try.func116, Try.ntmps116
  go_wp2_with fail
  refine (restA p n t c A f _ H.out.1).mono ?_
  rw [← Hm.out]
  rintro e w1 ⟨A1, c1, rfl, hr1, hfr1, hc1, hg1⟩
  rw [hmn] at hc1
  have Hr1 := hide hr1
  have H1 := hide (H.out.moved hc1 hg1)
  have F1 := hide (FrS.ofGrown (S := PQ p q) hg1 hBp H.out.ltp (.inl rfl))
  have hs1 := F1.out.bel.size
  have hBw := H.out.ltq
  clear hc1 hg1 r0 r1 r2 hr1 hfr1
  by_cases h6 : m % 6 = 0
  · have hN : nsN m = m / 6 := by unfold nsN; rw [if_pos h6]
    have hD : decide (m % 6 ≠ 0) = false := decide_eq_false (fun h => h h6)
    have HN := hide hN
    have HD := hide hD
    have h66 : m = m / 6 * 6 := by omega
    obtain ⟨k, hk⟩ : ∃ k, k = m / 6 := ⟨_, rfl⟩
    rw [← hk] at h66 HN
    have Hk := hide h66
    clear hN hD hk h66 h6
    go_wp2_with fail
    refine (sparse_own A1 m c1 k _ _ Hr1.out Hf2.out hm2 Hk.out).mono ?_
    rintro e w2 ⟨A2, c2, rfl, hr2, hfr2, hb2⟩
    have Hfr2 := hide hfr2
    have H2 := hide (H1.out.below hb2)
    have Hr2 := hide hr2
    have F2 := hide (F1.out.trans (FrS.ofBelow _ hb2 (by omega)))
    have Hne := hide (rd2_ne hr2 H2.out.2.1 (fun _ => by simp) (fun _ => by simp) (fun _ => by simp))
    clear hr2 hb2 hfr2
    go_wp2_with fail
    refine (expect14 q p c n n A f ms ov false 0 rfl B hB _ H2.out).mono ?_
    rintro e w3 ⟨rfl, hc3, hg3⟩
    have H3 := hide hc3
    have Hr3 := hide (Hr2.out.frs hg3 Hne.out)
    have F3 := hide (F2.out.trans hg3.pq)
    go_wp2_with fail
    go_ret
    rw [HN.out, HD.out]
    exact ⟨⟨A2, c2, rfl, Hr3.out, fun a e => by have := Hfr2.out a e; omega⟩, H3.out, F3.out⟩
  · have hN : nsN m = 0 := by unfold nsN; rw [if_neg h6]
    have hD : decide (m % 6 ≠ 0) = true := decide_eq_true h6
    have HN := hide hN
    have HD := hide hD
    have H6 := hide h6
    clear hN hD h6
    go_wp2_with fail
    refine (sparse_bad A1 m c1 _ hm2 H6.out).mono ?_
    rintro e w2 ⟨rfl, rfl⟩
    go_wp2_with fail
    refine (expect14 q p c n n A f ms ov true 4 rfl B hB _ H1.out).mono ?_
    rintro e w3 ⟨rfl, hc3, hg3⟩
    have H3 := hide hc3
    have F3 := hide (F1.out.trans hg3.pq)
    go_wp2_with fail
    go_ret
    rw [HN.out, HD.out]
    exact ⟨⟨none, 0, rfl, Rd2.nil _ _ _, fun a e => by cases e⟩, H3.out, F3.out⟩
end

section
open Go.RowKit

theorem row13 {w : World} {b : Nat} {T : TypeId} {v0 v1 v2 v3 v4 v5 v6 v7 v8 v9 v10 v11 v12 : Value} (h : w.heap[b]? = some (.cells #[v0, v1, v2, v3, v4, v5, v6, v7, v8, v9, v10, v11, v12] T (0, 0))) : w.cell? ⟨b, 0, none⟩ = some v0 ∧ w.cell? ⟨b, 1, none⟩ = some v1 ∧ w.cell? ⟨b, 2, none⟩ = some v2 ∧ w.cell? ⟨b, 3, none⟩ = some v3 ∧ w.cell? ⟨b, 4, none⟩ = some v4 ∧ w.cell? ⟨b, 5, none⟩ = some v5 ∧ w.cell? ⟨b, 6, none⟩ = some v6 ∧ w.cell? ⟨b, 7, none⟩ = some v7 ∧ w.cell? ⟨b, 8, none⟩ = some v8 ∧ w.cell? ⟨b, 9, none⟩ = some v9 ∧ w.cell? ⟨b, 10, none⟩ = some v10 ∧ w.cell? ⟨b, 11, none⟩ = some v11 ∧ w.cell? ⟨b, 12, none⟩ = some v12 := by
  refine ⟨?_, ?_, ?_, ?_, ?_, ?_, ?_, ?_, ?_, ?_, ?_, ?_, ?_⟩ <;> simp [World.cell?, h]
theorem Rdr.other {w : World} {q p c n t r j : Nat} {A : Option Addr} {f : Nat → Int} {ms ov : Bool} (h : Rdr w q p A c n f t ms ov) (u : Value) (hp : p ≠ r) (hq : q ≠ r) (hA : ∀ a, A = some a → a.block ≠ r) : Rdr (w.setCell ⟨r, j, none⟩ u) q p A c n f t ms ov :=
  ⟨h.1.other (grown_set w r j u) hp hA, keepOne h.2.1 (grown_set w r j u) hq, h.2.2⟩
set_option maxRecDepth 20000 in
set_option maxHeartbeats 1600000 in
theorem prio14 (q p r c n t : Nat) (A : Option Addr) (f : Nat → Int) (ms ov : Bool) (hf : Byt n f) (B : Nat) (hB : B ≤ q) (hBp : B ≤ p) (hBr : B ≤ r) (hpr : p ≠ r) (hqr : q ≠ r) (hA : ∀ a, A = some a → a.block ≠ r) (v0 v1 v2 v3 v4 v5 v6 v7 v8 v9 v10 v11 v12 : Value) (w : World) (h : Rdr w q p A c n f t ms ov) (hr : w.heap[r]? = some (.cells #[v0, v1, v2, v3, v4, v5, v6, v7, v8, v9, v10, v11, v12] 25 (0, 0))) :
    Calls Try.prog 115 #[.pointer (some ⟨q, 0, none⟩), .pointer (some ⟨r, 0, none⟩)] w fun x w' => x = .returned (.tuple #[]) ∧ Rdr w' q p A c n f (nbT n (nbT n t 4) 1) (ms || nbM n t 4 || nbM n (nbT n t 4) 1) ov ∧
      w'.heap[r]? = some (.cells #[v0, v1, v2, v3, v4, v5, .int .i64 (nbV f n (nbT n t 4) 1), .int .i64 (lowN (nbV f n t 4)), .bool (lowB (nbV f n t 4)), v9, v10, v11, v12] 25 (0, 0)) ∧ FrS B (PQR p q r) w w' := by
  have H := hide h
  have R0 := hide hr
  have Hf := hide hf
  have HA := hide hA
  clear h hr hf hA
  obtain ⟨X, hX⟩ : ∃ X, lowN (nbV f n t 4) = X := ⟨_, rfl⟩
  obtain ⟨Y, hY⟩ : ∃ Y, lowB (nbV f n t 4) = Y := ⟨_, rfl⟩
  obtain ⟨Z, hZ⟩ : ∃ Z, nbV f n (nbT n t 4) 1 = Z := ⟨_, rfl⟩
  rw [hX, hY, hZ]
  have HX := hide hX
  have HY := hide hY
  have HZ := hide hZ
  clear hX hY hZ
  go_enter Try.func115, Try.ntmps115
  go_wp2_with fail
  refine (low14 q p c n t A f ms ov Hf.out B hB hBp _ H.out).mono ?_
  rw [HX.out, HY.out]
  rintro e w1 ⟨rfl, hc1, hg1⟩
  have H1 := hide hc1
  have F1 := hide (hg1.pqr r)
  have R1 := hide (hg1.row R0.out (fun s => s.elim (fun e => hpr e.symm) (fun e => hqr e.symm)))
  clear hc1 hg1 H R0
  have z7 := frozenRow R1.out 7
  have s7 := setRow w1 r 7 (.int .i64 X) R1.out
  simp only [List.setIfInBounds_toArray, List.set_cons_zero, List.set_cons_succ] at s7
  have z8 := frozenRow s7 8
  have s8 := setRow _ r 8 (.bool Y) s7
  simp only [List.setIfInBounds_toArray, List.set_cons_zero, List.set_cons_succ] at s8
  have R2 := hide s8
  have H2 := hide ((H1.out.other (j := 7) (.int .i64 X) hpr hqr HA.out).other (j := 8) (.bool Y) hpr hqr HA.out)
  have F2 := hide (F1.out.trans ((FrS.set (j := 7) (u := .int .i64 X) hBr (rowLt R1.out) (.inr (.inr rfl))).trans (FrS.set (j := 8) (u := .bool Y) hBr (rowLt s7) (.inr (.inr rfl)))))
  obtain ⟨c0, c1, c2, c3, c4, c5, c6, c7, c8, c9, c10, c11, c12⟩ := row13 R1.out
  obtain ⟨d0, d1, d2, d3, d4, d5, d6, d7, d8, d9, d10, d11, d12⟩ := row13 s7
  clear s7 s8
  go_wp2_with fail
  clear z7 z8 c0 c1 c2 c3 c4 c5 c6 c7 c8 c9 c10 c11 c12 d0 d1 d2 d3 d4 d5 d6 d7 d8 d9 d10 d11 d12 H1 F1 R1
  generalize (w1.setCell ⟨r, 7, none⟩ (.int .i64 X)).setCell ⟨r, 8, none⟩ (.bool Y) = w2 at *
  refine (number14 q p c n (nbT n t 4) 1 A f (ms || nbM n t 4) ov 1 rfl (by omega) (by omega) Hf.out B hB hBp _ H2.out).mono ?_
  rw [HZ.out]
  rintro e w3 ⟨rfl, hc3, hg3⟩
  have H3 := hide hc3
  have F3 := hide (F2.out.trans (hg3.pqr r))
  have R3 := hide (hg3.row R2.out (fun s => s.elim (fun e => hpr e.symm) (fun e => hqr e.symm)))
  clear hc3 hg3 H2 R2
  have z6 := frozenRow R3.out 6
  have s6 := setRow w3 r 6 (.int .i64 Z) R3.out
  simp only [List.setIfInBounds_toArray, List.set_cons_zero, List.set_cons_succ] at s6
  have R4 := hide s6
  have H4 := hide (H3.out.other (j := 6) (.int .i64 Z) hpr hqr HA.out)
  have F4 := hide (F3.out.trans (FrS.set (j := 6) (u := .int .i64 Z) hBr (rowLt R3.out) (.inr (.inr rfl))))
  obtain ⟨c0, c1, c2, c3, c4, c5, c6, c7, c8, c9, c10, c11, c12⟩ := row13 R3.out
  clear s6
  go_wp2_with fail
  go_end0
  exact ⟨rfl, H4.out, R4.out, F4.out⟩
/-- How many bytes are left without the padding. -/
def upN (n t : Nat) (pad : Int) : Nat := if pad ≤ ((n - t : Nat) : Int) then n - t - pad.toNat else 0
set_option maxRecDepth 20000 in
set_option maxHeartbeats 1600000 in
theorem unpadded14 (q p c n t : Nat) (A : Option Addr) (f : Nat → Int) (ms ov : Bool) (pad : Int) (h0 : 0 ≤ pad) (B : Nat) (hB : B ≤ q) (hBp : B ≤ p) (w : World) (h : Rdr w q p A c n f t ms ov) :
    Calls Try.prog 118 #[.pointer (some ⟨q, 0, none⟩), .int .i64 pad] w fun x w' => (∃ A2 c2, x = .returned (.slice A2 (upN n t pad) c2) ∧ Rd .u8 w' A2 (upN n t pad) c2 (fun i => f (t + i)) ∧ ∀ a, A2 = some a → w.heap.size ≤ a.block) ∧
      w'.heap[q]? = some (.cells #[.pointer (some ⟨p, 0, none⟩), .bool ms, .bool (ov || decide (((n - t : Nat) : Int) < pad))] 147 (0, 0)) ∧ FrS B (PQ p q) w w' := by
  have htn : t ≤ n := h.1.2.2.2.1
  have hn : n ≤ 100000000 := h.1.2.2.2.2
  obtain ⟨r0, r1, r2⟩ := row3r h.2.1
  have H := hide h
  obtain ⟨m, hm⟩ : ∃ m, m = n - t := ⟨_, rfl⟩
  have Hm := hide hm
  rw [← hm]
  obtain ⟨pp, rfl⟩ := Int.eq_ofNat_of_zero_le h0
  have hpq := h.2.2.1
  clear h
  by_cases hl : m < pp
  · have hu : upN n t (pp : Int) = 0 := by unfold upN; rw [if_neg (by omega)]
    have hd : decide ((m : Int) < (pp : Int)) = true := decide_eq_true (by omega)
    have hdN : decide (m < pp) = true := decide_eq_true hl
    rw [hu, hd]
    clear hu
    go_enter Try.func118, Try.ntmps118
    go_wp2_with fail
    refine (left_any p n t f _ H.out.1.cur).mono ?_
    rw [← Hm.out]
    rintro e w1 ⟨rfl, hd1⟩
    have H1 := hide (H.out.drawn hd1)
    have F1 := hide (FrS.ofDrawn B (PQ p q) hd1)
    clear hd1 r0 r1 r2
    obtain ⟨r0, r1, r2⟩ := row3r H1.out.2.1
    have z2 := frozenRow H1.out.2.1 2
    go_wp2_with fail
    go_ret
    refine ⟨⟨none, 0, rfl, Rd.nil _ _ _, fun a e => by cases e⟩, ?_, F1.out.trans (FrS.set hB H1.out.ltq (.inr rfl))⟩
    have := (H1.out.full true).2.1
    simpa using this
  · have hu : upN n t (pp : Int) = m - pp := by unfold upN; rw [if_pos (by omega), Int.toNat_natCast]; omega
    have hd : decide ((m : Int) < (pp : Int)) = false := decide_eq_false (by omega)
    have hdN : decide (m < pp) = false := decide_eq_false hl
    obtain ⟨k, hk⟩ : ∃ k, k = m - pp := ⟨_, rfl⟩
    have hw : IntKind.i64.wrap ((m : Int) - (pp : Int)) = (k : Int) := by rw [IntWalk.i64_in _ (by omega)]; omega
    have htk : t + k ≤ n := by omega
    rw [hu, hd, ← hk, Bool.or_false]
    clear hu hk hm
    go_enter Try.func118, Try.ntmps118
    go_wp2_with fail
    refine (left_any p n t f _ H.out.1.cur).mono ?_
    rw [← Hm.out]
    rintro e w1 ⟨rfl, hd1⟩
    have H1 := hide (H.out.drawn hd1)
    have F1 := hide (FrS.ofDrawn B (PQ p q) hd1)
    clear hd1 r0 r1 r2
    obtain ⟨r0, r1, r2⟩ := row3r H1.out.2.1
    have Hc : Hid (Cur w1.drew p n f t) := H1.out.1.cur
    have Hl : Hid (∀ W, Cur W p n f t → Calls Try.prog 153 #[.pointer (some ⟨p, 0, none⟩)] W fun e w' => e = .returned (.int .i64 (m : Int)) ∧ Drawn W w') := fun W hW => by
      have := left_any p n t f W hW
      rw [← Hm.out] at this
      exact this
    go_wp2_with fail
    go_region_held3 (fun W : World => W.cell? ⟨q, 0, none⟩ = some (.pointer (some ⟨p, 0, none⟩)))
      ((first | exact ((drawn_below hd5 _).cell (World.block_lt_of_cell? _ _ (by assumption))).trans (by assumption) | exact hg6.cell (by assumption) (fun e => hpq (Option.some.inj e).symm) | exact hg6.cell (by assumption) (fun e => hpq (Option.some.inj e)) | (go_keep; done)))
      ((first
        | (go_at_call 153; (with_reducible refine (Hl.out _ Hc.out).mono ?_); rintro e w5 ⟨rfl, hd5⟩)
        | (go_at_call 154; (with_reducible refine (bytes_ok p n t k f _ (Hc.out.drawn hd5) htk).mono ?_); rintro e w6 ⟨A6, c6, rfl, hr6, hf6, hc6, hg6, ho6, hl6⟩)))
    all_goals
      have Hr6 := hide hr6
      have Hf6 := hide hf6
      have F5 : Hid (FrS B (PQ p q) w w5) := F1.out.trans (FrS.ofDrawn B (PQ p q) (Drawn.trans (Drawn.of w1 1) hd5))
      have H5 : Hid (Rdr w5 q p A c n f t ms ov) := H1.out.drawn (Drawn.trans (Drawn.of w1 1) hd5)
      have F6 := hide (F5.out.trans (FrS.ofGrown (S := PQ p q) hg6 hBp H5.out.ltp (.inl rfl)))
      have R6 := hide (keepOne H5.out.2.1 hg6 (fun e => hpq e.symm))
      clear hr6 hf6 hc6 hg6 ho6 hl6 hd5
      go_wp2_with fail
      go_ret
      have hs5 := F5.out.bel.size
      exact ⟨⟨A6, c6, rfl, Hr6.out, fun a e => by have := (Hf6.out a e).1; omega⟩, R6.out, F6.out⟩
end

section
open Go.RowKit

set_option maxRecDepth 20000 in
theorem store13w {w w1 w2 w3 w4 w5 w6 w7 w8 w9 w10 w11 w12 w13 : World} {p : Nat} {T : TypeId} {a0 a1 a2 a3 a4 a5 a6 a7 a8 a9 a10 a11 a12 b0 b1 b2 b3 b4 b5 b6 b7 b8 b9 b10 b11 b12 : Value} (e1 : w1 = w.setCell ⟨p, 0, none⟩ b0) (e2 : w2 = w1.setCell ⟨p, 1, none⟩ b1) (e3 : w3 = w2.setCell ⟨p, 2, none⟩ b2) (e4 : w4 = w3.setCell ⟨p, 3, none⟩ b3) (e5 : w5 = w4.setCell ⟨p, 4, none⟩ b4) (e6 : w6 = w5.setCell ⟨p, 5, none⟩ b5) (e7 : w7 = w6.setCell ⟨p, 6, none⟩ b6) (e8 : w8 = w7.setCell ⟨p, 7, none⟩ b7) (e9 : w9 = w8.setCell ⟨p, 8, none⟩ b8) (e10 : w10 = w9.setCell ⟨p, 9, none⟩ b9) (e11 : w11 = w10.setCell ⟨p, 10, none⟩ b10) (e12 : w12 = w11.setCell ⟨p, 11, none⟩ b11) (e13 : w13 = w12.setCell ⟨p, 12, none⟩ b12) (h : w.heap[p]? = some (.cells #[a0, a1, a2, a3, a4, a5, a6, a7, a8, a9, a10, a11, a12] T (0, 0))) :
    (w.cell? ⟨p, 0, none⟩ = some a0 ∧ w.frozen? ⟨p, 0, none⟩ = false) ∧
    (w1.cell? ⟨p, 1, none⟩ = some a1 ∧ w1.frozen? ⟨p, 1, none⟩ = false) ∧
    (w2.cell? ⟨p, 2, none⟩ = some a2 ∧ w2.frozen? ⟨p, 2, none⟩ = false) ∧
    (w3.cell? ⟨p, 3, none⟩ = some a3 ∧ w3.frozen? ⟨p, 3, none⟩ = false) ∧
    (w4.cell? ⟨p, 4, none⟩ = some a4 ∧ w4.frozen? ⟨p, 4, none⟩ = false) ∧
    (w5.cell? ⟨p, 5, none⟩ = some a5 ∧ w5.frozen? ⟨p, 5, none⟩ = false) ∧
    (w6.cell? ⟨p, 6, none⟩ = some a6 ∧ w6.frozen? ⟨p, 6, none⟩ = false) ∧
    (w7.cell? ⟨p, 7, none⟩ = some a7 ∧ w7.frozen? ⟨p, 7, none⟩ = false) ∧
    (w8.cell? ⟨p, 8, none⟩ = some a8 ∧ w8.frozen? ⟨p, 8, none⟩ = false) ∧
    (w9.cell? ⟨p, 9, none⟩ = some a9 ∧ w9.frozen? ⟨p, 9, none⟩ = false) ∧
    (w10.cell? ⟨p, 10, none⟩ = some a10 ∧ w10.frozen? ⟨p, 10, none⟩ = false) ∧
    (w11.cell? ⟨p, 11, none⟩ = some a11 ∧ w11.frozen? ⟨p, 11, none⟩ = false) ∧
    (w12.cell? ⟨p, 12, none⟩ = some a12 ∧ w12.frozen? ⟨p, 12, none⟩ = false) ∧
    w13.heap[p]? = some (.cells #[b0, b1, b2, b3, b4, b5, b6, b7, b8, b9, b10, b11, b12] T (0, 0)) := by
  have h1 := setRow w p 0 b0 h
  simp only [List.setIfInBounds_toArray, List.set_cons_zero, List.set_cons_succ] at h1
  rw [← e1] at h1
  have h2 := setRow w1 p 1 b1 h1
  simp only [List.setIfInBounds_toArray, List.set_cons_zero, List.set_cons_succ] at h2
  rw [← e2] at h2
  have h3 := setRow w2 p 2 b2 h2
  simp only [List.setIfInBounds_toArray, List.set_cons_zero, List.set_cons_succ] at h3
  rw [← e3] at h3
  have h4 := setRow w3 p 3 b3 h3
  simp only [List.setIfInBounds_toArray, List.set_cons_zero, List.set_cons_succ] at h4
  rw [← e4] at h4
  have h5 := setRow w4 p 4 b4 h4
  simp only [List.setIfInBounds_toArray, List.set_cons_zero, List.set_cons_succ] at h5
  rw [← e5] at h5
  have h6 := setRow w5 p 5 b5 h5
  simp only [List.setIfInBounds_toArray, List.set_cons_zero, List.set_cons_succ] at h6
  rw [← e6] at h6
  have h7 := setRow w6 p 6 b6 h6
  simp only [List.setIfInBounds_toArray, List.set_cons_zero, List.set_cons_succ] at h7
  rw [← e7] at h7
  have h8 := setRow w7 p 7 b7 h7
  simp only [List.setIfInBounds_toArray, List.set_cons_zero, List.set_cons_succ] at h8
  rw [← e8] at h8
  have h9 := setRow w8 p 8 b8 h8
  simp only [List.setIfInBounds_toArray, List.set_cons_zero, List.set_cons_succ] at h9
  rw [← e9] at h9
  have h10 := setRow w9 p 9 b9 h9
  simp only [List.setIfInBounds_toArray, List.set_cons_zero, List.set_cons_succ] at h10
  rw [← e10] at h10
  have h11 := setRow w10 p 10 b10 h10
  simp only [List.setIfInBounds_toArray, List.set_cons_zero, List.set_cons_succ] at h11
  rw [← e11] at h11
  have h12 := setRow w11 p 11 b11 h11
  simp only [List.setIfInBounds_toArray, List.set_cons_zero, List.set_cons_succ] at h12
  rw [← e12] at h12
  have h13 := setRow w12 p 12 b12 h12
  simp only [List.setIfInBounds_toArray, List.set_cons_zero, List.set_cons_succ] at h13
  rw [← e13] at h13
  exact ⟨⟨(row13 h).1, frozenRow h 0⟩, ⟨(row13 h1).2.1, frozenRow h1 1⟩, ⟨(row13 h2).2.2.1, frozenRow h2 2⟩, ⟨(row13 h3).2.2.2.1, frozenRow h3 3⟩, ⟨(row13 h4).2.2.2.2.1, frozenRow h4 4⟩, ⟨(row13 h5).2.2.2.2.2.1, frozenRow h5 5⟩, ⟨(row13 h6).2.2.2.2.2.2.1, frozenRow h6 6⟩, ⟨(row13 h7).2.2.2.2.2.2.2.1, frozenRow h7 7⟩, ⟨(row13 h8).2.2.2.2.2.2.2.2.1, frozenRow h8 8⟩, ⟨(row13 h9).2.2.2.2.2.2.2.2.2.1, frozenRow h9 9⟩, ⟨(row13 h10).2.2.2.2.2.2.2.2.2.2.1, frozenRow h10 10⟩, ⟨(row13 h11).2.2.2.2.2.2.2.2.2.2.2.1, frozenRow h11 11⟩, ⟨(row13 h12).2.2.2.2.2.2.2.2.2.2.2.2, frozenRow h12 12⟩, h13⟩
theorem store13 {w : World} {p : Nat} {T : TypeId} {a0 a1 a2 a3 a4 a5 a6 a7 a8 a9 a10 a11 a12 : Value} (h : w.heap[p]? = some (.cells #[a0, a1, a2, a3, a4, a5, a6, a7, a8, a9, a10, a11, a12] T (0, 0))) (b0 b1 b2 b3 b4 b5 b6 b7 b8 b9 b10 b11 b12 : Value) :
    (w.cell? ⟨p, 0, none⟩ = some a0 ∧ w.frozen? ⟨p, 0, none⟩ = false) ∧
    ((w.setCell ⟨p, 0, none⟩ b0).cell? ⟨p, 1, none⟩ = some a1 ∧ (w.setCell ⟨p, 0, none⟩ b0).frozen? ⟨p, 1, none⟩ = false) ∧
    (((w.setCell ⟨p, 0, none⟩ b0).setCell ⟨p, 1, none⟩ b1).cell? ⟨p, 2, none⟩ = some a2 ∧ ((w.setCell ⟨p, 0, none⟩ b0).setCell ⟨p, 1, none⟩ b1).frozen? ⟨p, 2, none⟩ = false) ∧
    ((((w.setCell ⟨p, 0, none⟩ b0).setCell ⟨p, 1, none⟩ b1).setCell ⟨p, 2, none⟩ b2).cell? ⟨p, 3, none⟩ = some a3 ∧ (((w.setCell ⟨p, 0, none⟩ b0).setCell ⟨p, 1, none⟩ b1).setCell ⟨p, 2, none⟩ b2).frozen? ⟨p, 3, none⟩ = false) ∧
    (((((w.setCell ⟨p, 0, none⟩ b0).setCell ⟨p, 1, none⟩ b1).setCell ⟨p, 2, none⟩ b2).setCell ⟨p, 3, none⟩ b3).cell? ⟨p, 4, none⟩ = some a4 ∧ ((((w.setCell ⟨p, 0, none⟩ b0).setCell ⟨p, 1, none⟩ b1).setCell ⟨p, 2, none⟩ b2).setCell ⟨p, 3, none⟩ b3).frozen? ⟨p, 4, none⟩ = false) ∧
    ((((((w.setCell ⟨p, 0, none⟩ b0).setCell ⟨p, 1, none⟩ b1).setCell ⟨p, 2, none⟩ b2).setCell ⟨p, 3, none⟩ b3).setCell ⟨p, 4, none⟩ b4).cell? ⟨p, 5, none⟩ = some a5 ∧ (((((w.setCell ⟨p, 0, none⟩ b0).setCell ⟨p, 1, none⟩ b1).setCell ⟨p, 2, none⟩ b2).setCell ⟨p, 3, none⟩ b3).setCell ⟨p, 4, none⟩ b4).frozen? ⟨p, 5, none⟩ = false) ∧
    (((((((w.setCell ⟨p, 0, none⟩ b0).setCell ⟨p, 1, none⟩ b1).setCell ⟨p, 2, none⟩ b2).setCell ⟨p, 3, none⟩ b3).setCell ⟨p, 4, none⟩ b4).setCell ⟨p, 5, none⟩ b5).cell? ⟨p, 6, none⟩ = some a6 ∧ ((((((w.setCell ⟨p, 0, none⟩ b0).setCell ⟨p, 1, none⟩ b1).setCell ⟨p, 2, none⟩ b2).setCell ⟨p, 3, none⟩ b3).setCell ⟨p, 4, none⟩ b4).setCell ⟨p, 5, none⟩ b5).frozen? ⟨p, 6, none⟩ = false) ∧
    ((((((((w.setCell ⟨p, 0, none⟩ b0).setCell ⟨p, 1, none⟩ b1).setCell ⟨p, 2, none⟩ b2).setCell ⟨p, 3, none⟩ b3).setCell ⟨p, 4, none⟩ b4).setCell ⟨p, 5, none⟩ b5).setCell ⟨p, 6, none⟩ b6).cell? ⟨p, 7, none⟩ = some a7 ∧ (((((((w.setCell ⟨p, 0, none⟩ b0).setCell ⟨p, 1, none⟩ b1).setCell ⟨p, 2, none⟩ b2).setCell ⟨p, 3, none⟩ b3).setCell ⟨p, 4, none⟩ b4).setCell ⟨p, 5, none⟩ b5).setCell ⟨p, 6, none⟩ b6).frozen? ⟨p, 7, none⟩ = false) ∧
    (((((((((w.setCell ⟨p, 0, none⟩ b0).setCell ⟨p, 1, none⟩ b1).setCell ⟨p, 2, none⟩ b2).setCell ⟨p, 3, none⟩ b3).setCell ⟨p, 4, none⟩ b4).setCell ⟨p, 5, none⟩ b5).setCell ⟨p, 6, none⟩ b6).setCell ⟨p, 7, none⟩ b7).cell? ⟨p, 8, none⟩ = some a8 ∧ ((((((((w.setCell ⟨p, 0, none⟩ b0).setCell ⟨p, 1, none⟩ b1).setCell ⟨p, 2, none⟩ b2).setCell ⟨p, 3, none⟩ b3).setCell ⟨p, 4, none⟩ b4).setCell ⟨p, 5, none⟩ b5).setCell ⟨p, 6, none⟩ b6).setCell ⟨p, 7, none⟩ b7).frozen? ⟨p, 8, none⟩ = false) ∧
    ((((((((((w.setCell ⟨p, 0, none⟩ b0).setCell ⟨p, 1, none⟩ b1).setCell ⟨p, 2, none⟩ b2).setCell ⟨p, 3, none⟩ b3).setCell ⟨p, 4, none⟩ b4).setCell ⟨p, 5, none⟩ b5).setCell ⟨p, 6, none⟩ b6).setCell ⟨p, 7, none⟩ b7).setCell ⟨p, 8, none⟩ b8).cell? ⟨p, 9, none⟩ = some a9 ∧ (((((((((w.setCell ⟨p, 0, none⟩ b0).setCell ⟨p, 1, none⟩ b1).setCell ⟨p, 2, none⟩ b2).setCell ⟨p, 3, none⟩ b3).setCell ⟨p, 4, none⟩ b4).setCell ⟨p, 5, none⟩ b5).setCell ⟨p, 6, none⟩ b6).setCell ⟨p, 7, none⟩ b7).setCell ⟨p, 8, none⟩ b8).frozen? ⟨p, 9, none⟩ = false) ∧
    (((((((((((w.setCell ⟨p, 0, none⟩ b0).setCell ⟨p, 1, none⟩ b1).setCell ⟨p, 2, none⟩ b2).setCell ⟨p, 3, none⟩ b3).setCell ⟨p, 4, none⟩ b4).setCell ⟨p, 5, none⟩ b5).setCell ⟨p, 6, none⟩ b6).setCell ⟨p, 7, none⟩ b7).setCell ⟨p, 8, none⟩ b8).setCell ⟨p, 9, none⟩ b9).cell? ⟨p, 10, none⟩ = some a10 ∧ ((((((((((w.setCell ⟨p, 0, none⟩ b0).setCell ⟨p, 1, none⟩ b1).setCell ⟨p, 2, none⟩ b2).setCell ⟨p, 3, none⟩ b3).setCell ⟨p, 4, none⟩ b4).setCell ⟨p, 5, none⟩ b5).setCell ⟨p, 6, none⟩ b6).setCell ⟨p, 7, none⟩ b7).setCell ⟨p, 8, none⟩ b8).setCell ⟨p, 9, none⟩ b9).frozen? ⟨p, 10, none⟩ = false) ∧
    ((((((((((((w.setCell ⟨p, 0, none⟩ b0).setCell ⟨p, 1, none⟩ b1).setCell ⟨p, 2, none⟩ b2).setCell ⟨p, 3, none⟩ b3).setCell ⟨p, 4, none⟩ b4).setCell ⟨p, 5, none⟩ b5).setCell ⟨p, 6, none⟩ b6).setCell ⟨p, 7, none⟩ b7).setCell ⟨p, 8, none⟩ b8).setCell ⟨p, 9, none⟩ b9).setCell ⟨p, 10, none⟩ b10).cell? ⟨p, 11, none⟩ = some a11 ∧ (((((((((((w.setCell ⟨p, 0, none⟩ b0).setCell ⟨p, 1, none⟩ b1).setCell ⟨p, 2, none⟩ b2).setCell ⟨p, 3, none⟩ b3).setCell ⟨p, 4, none⟩ b4).setCell ⟨p, 5, none⟩ b5).setCell ⟨p, 6, none⟩ b6).setCell ⟨p, 7, none⟩ b7).setCell ⟨p, 8, none⟩ b8).setCell ⟨p, 9, none⟩ b9).setCell ⟨p, 10, none⟩ b10).frozen? ⟨p, 11, none⟩ = false) ∧
    (((((((((((((w.setCell ⟨p, 0, none⟩ b0).setCell ⟨p, 1, none⟩ b1).setCell ⟨p, 2, none⟩ b2).setCell ⟨p, 3, none⟩ b3).setCell ⟨p, 4, none⟩ b4).setCell ⟨p, 5, none⟩ b5).setCell ⟨p, 6, none⟩ b6).setCell ⟨p, 7, none⟩ b7).setCell ⟨p, 8, none⟩ b8).setCell ⟨p, 9, none⟩ b9).setCell ⟨p, 10, none⟩ b10).setCell ⟨p, 11, none⟩ b11).cell? ⟨p, 12, none⟩ = some a12 ∧ ((((((((((((w.setCell ⟨p, 0, none⟩ b0).setCell ⟨p, 1, none⟩ b1).setCell ⟨p, 2, none⟩ b2).setCell ⟨p, 3, none⟩ b3).setCell ⟨p, 4, none⟩ b4).setCell ⟨p, 5, none⟩ b5).setCell ⟨p, 6, none⟩ b6).setCell ⟨p, 7, none⟩ b7).setCell ⟨p, 8, none⟩ b8).setCell ⟨p, 9, none⟩ b9).setCell ⟨p, 10, none⟩ b10).setCell ⟨p, 11, none⟩ b11).frozen? ⟨p, 12, none⟩ = false) ∧
    (((((((((((((w.setCell ⟨p, 0, none⟩ b0).setCell ⟨p, 1, none⟩ b1).setCell ⟨p, 2, none⟩ b2).setCell ⟨p, 3, none⟩ b3).setCell ⟨p, 4, none⟩ b4).setCell ⟨p, 5, none⟩ b5).setCell ⟨p, 6, none⟩ b6).setCell ⟨p, 7, none⟩ b7).setCell ⟨p, 8, none⟩ b8).setCell ⟨p, 9, none⟩ b9).setCell ⟨p, 10, none⟩ b10).setCell ⟨p, 11, none⟩ b11).setCell ⟨p, 12, none⟩ b12).heap[p]? = some (.cells #[b0, b1, b2, b3, b4, b5, b6, b7, b8, b9, b10, b11, b12] T (0, 0)) := store13w rfl rfl rfl rfl rfl rfl rfl rfl rfl rfl rfl rfl rfl h
theorem FrS.set13w {B p : Nat} {S : Nat → Prop} {w w1 w2 w3 w4 w5 w6 w7 w8 w9 w10 w11 w12 w13 : World} {b0 b1 b2 b3 b4 b5 b6 b7 b8 b9 b10 b11 b12 : Value} (e1 : w1 = w.setCell ⟨p, 0, none⟩ b0) (e2 : w2 = w1.setCell ⟨p, 1, none⟩ b1) (e3 : w3 = w2.setCell ⟨p, 2, none⟩ b2) (e4 : w4 = w3.setCell ⟨p, 3, none⟩ b3) (e5 : w5 = w4.setCell ⟨p, 4, none⟩ b4) (e6 : w6 = w5.setCell ⟨p, 5, none⟩ b5) (e7 : w7 = w6.setCell ⟨p, 6, none⟩ b6) (e8 : w8 = w7.setCell ⟨p, 7, none⟩ b7) (e9 : w9 = w8.setCell ⟨p, 8, none⟩ b8) (e10 : w10 = w9.setCell ⟨p, 9, none⟩ b9) (e11 : w11 = w10.setCell ⟨p, 10, none⟩ b10) (e12 : w12 = w11.setCell ⟨p, 11, none⟩ b11) (e13 : w13 = w12.setCell ⟨p, 12, none⟩ b12) (hB : B ≤ p) (hg : p < w.heap.size) (hS : S p) : FrS B S w w13 := by
  have g0 : p < w.heap.size := by exact hg
  have k0 : FrS B S w w1 := by rw [e1]; exact FrS.set hB g0 hS
  have g1 : p < w1.heap.size := by rw [e1]; simpa using g0
  have k1 : FrS B S w1 w2 := by rw [e2]; exact FrS.set hB g1 hS
  have g2 : p < w2.heap.size := by rw [e2]; simpa using g1
  have k2 : FrS B S w2 w3 := by rw [e3]; exact FrS.set hB g2 hS
  have g3 : p < w3.heap.size := by rw [e3]; simpa using g2
  have k3 : FrS B S w3 w4 := by rw [e4]; exact FrS.set hB g3 hS
  have g4 : p < w4.heap.size := by rw [e4]; simpa using g3
  have k4 : FrS B S w4 w5 := by rw [e5]; exact FrS.set hB g4 hS
  have g5 : p < w5.heap.size := by rw [e5]; simpa using g4
  have k5 : FrS B S w5 w6 := by rw [e6]; exact FrS.set hB g5 hS
  have g6 : p < w6.heap.size := by rw [e6]; simpa using g5
  have k6 : FrS B S w6 w7 := by rw [e7]; exact FrS.set hB g6 hS
  have g7 : p < w7.heap.size := by rw [e7]; simpa using g6
  have k7 : FrS B S w7 w8 := by rw [e8]; exact FrS.set hB g7 hS
  have g8 : p < w8.heap.size := by rw [e8]; simpa using g7
  have k8 : FrS B S w8 w9 := by rw [e9]; exact FrS.set hB g8 hS
  have g9 : p < w9.heap.size := by rw [e9]; simpa using g8
  have k9 : FrS B S w9 w10 := by rw [e10]; exact FrS.set hB g9 hS
  have g10 : p < w10.heap.size := by rw [e10]; simpa using g9
  have k10 : FrS B S w10 w11 := by rw [e11]; exact FrS.set hB g10 hS
  have g11 : p < w11.heap.size := by rw [e11]; simpa using g10
  have k11 : FrS B S w11 w12 := by rw [e12]; exact FrS.set hB g11 hS
  have g12 : p < w12.heap.size := by rw [e12]; simpa using g11
  have k12 : FrS B S w12 w13 := by rw [e13]; exact FrS.set hB g12 hS
  exact ((((((((((((k0.trans k1).trans k2).trans k3).trans k4).trans k5).trans k6).trans k7).trans k8).trans k9).trans k10).trans k11).trans k12)
theorem FrS.set13 {B p : Nat} {S : Nat → Prop} {w : World} (hB : B ≤ p) (hg : p < w.heap.size) (hS : S p) (b0 b1 b2 b3 b4 b5 b6 b7 b8 b9 b10 b11 b12 : Value) : FrS B S w (((((((((((((w.setCell ⟨p, 0, none⟩ b0).setCell ⟨p, 1, none⟩ b1).setCell ⟨p, 2, none⟩ b2).setCell ⟨p, 3, none⟩ b3).setCell ⟨p, 4, none⟩ b4).setCell ⟨p, 5, none⟩ b5).setCell ⟨p, 6, none⟩ b6).setCell ⟨p, 7, none⟩ b7).setCell ⟨p, 8, none⟩ b8).setCell ⟨p, 9, none⟩ b9).setCell ⟨p, 10, none⟩ b10).setCell ⟨p, 11, none⟩ b11).setCell ⟨p, 12, none⟩ b12) := FrS.set13w rfl rfl rfl rfl rfl rfl rfl rfl rfl rfl rfl rfl rfl hB hg hS
theorem FrS.rows {B p q r : Nat} {w W W' : World} (h : FrS B (PQ p q) w W) (k : FrS B (PQR p q r) W W') (hr : w.heap.size ≤ r) : FrS B (PQ p q) w W' :=
  ⟨h.bel.trans k.bel, fun i hi a => (k.keep i (Nat.lt_of_lt_of_le hi h.bel.size) (fun s => s.elim (fun e => a (.inl e)) (fun s => s.elim (fun e => a (.inr e)) (fun e => by omega)))).trans (h.keep i hi a)⟩
end

section
open Go.RowKit

theorem heap3f (w : World) (a1 a2 a3 : Array Value) (T1 T2 T3 : TypeId) : (((w.alloc (.cells a1 T1)).alloc (.cells a2 T2)).alloc (.cells a3 T3)).heap[w.heap.size]? = some (.cells a1 T1 (0, 0)) ∧ (((w.alloc (.cells a1 T1)).alloc (.cells a2 T2)).alloc (.cells a3 T3)).heap[w.heap.size + 1]? = some (.cells a2 T2 (0, 0)) ∧ (((w.alloc (.cells a1 T1)).alloc (.cells a2 T2)).alloc (.cells a3 T3)).heap[w.heap.size + 1 + 1]? = some (.cells a3 T3 (0, 0)) ∧ Below w.heap.size w (((w.alloc (.cells a1 T1)).alloc (.cells a2 T2)).alloc (.cells a3 T3)) := by
  refine ⟨keepRow (keepRow (heap_alloc_new w (.cells a1 T1)) ((Below.refl _ _).alloc (Nat.le_refl _) (.cells a2 T2))) ((Below.refl _ _).alloc (Nat.le_refl _) (.cells a3 T3)), ?_, ?_, (((Below.refl w.heap.size w).alloc (Nat.le_refl _) _).alloc (by simp) _).alloc (by simp; omega) _⟩
  · have h := keepRow (heap_alloc_new (w.alloc (.cells a1 T1)) (.cells a2 T2)) ((Below.refl _ _).alloc (Nat.le_refl _) (.cells a3 T3))
    have e : (w.alloc (.cells a1 T1)).heap.size = w.heap.size + 1 := by simp
    rw [e] at h
    exact h
  · have h := heap_alloc_new ((w.alloc (.cells a1 T1)).alloc (.cells a2 T2)) (.cells a3 T3)
    have e : ((w.alloc (.cells a1 T1)).alloc (.cells a2 T2)).heap.size = w.heap.size + 1 + 1 := by simp
    rw [e] at h
    exact h
def m0 (pad : Int) : Int := if pad < 0 then 0 else pad
theorem m0_of {pad : Int} (h : 0 ≤ pad) : m0 pad = pad := by unfold m0; rw [if_neg (by omega)]
theorem num_nonneg {n t s : Nat} {f : Nat → Int} (hf : Byt n f) (h : t + s ≤ n) (h4 : s ≤ 4) : 0 ≤ num (fun i => f (t + i)) s := (num_bd (n := n - t) (f := fun i => f (t + i)) (fun i hi => hf (t + i) (by omega)) s (by omega) h4).1
theorem nbV_nonneg {n t s : Nat} {f : Nat → Int} (hf : Byt n f) (h4 : s ≤ 4 := by omega) : 0 ≤ nbV f n t s := by
  unfold nbV
  split
  · exact num_nonneg hf (by assumption) h4
  · exact Int.le_refl _
/-- What a frame says: its fields; where its data begin; how many settings; whether something lacks. -/
structure FD where
  pad : Int := -1
  wt : Int := 0
  pa : Int := 0
  al : Bool := false
  pm : Int := 0
  la : Int := 0
  co : Int := 0
  sp : Int := 0
  off : Nat := 0
  sn : Nat := 0
  ms : Bool := false
def FPost (T fl st : Int) (D : FD) (q p n : Nat) (f : Nat → Int) (B : Nat) (w : World) (x : Ending) (w' : World) : Prop :=
  ∃ A2 c2 A3 c3, x = .returned (.agg #[.int .i64 T, .int .i64 fl, .int .i64 st, .int .i64 D.pad, .slice A2 (upN n D.off (m0 D.pad)) c2, .slice A3 D.sn c3, .int .i64 D.wt, .int .i64 D.pa, .bool D.al, .int .i64 D.pm, .int .i64 D.la, .int .i64 D.co, .int .i64 D.sp]) ∧
    Rd .u8 w' A2 (upN n D.off (m0 D.pad)) c2 (fun i => f (D.off + i)) ∧ Rd2 w' A3 D.sn c3 (sF f) (sG f) ∧
    w'.heap[q]? = some (.cells #[.pointer (some ⟨p, 0, none⟩), .bool D.ms, .bool (decide (((n - D.off : Nat) : Int) < m0 D.pad))] 147 (0, 0)) ∧ FrS B (PQ p q) w w' ∧ (∀ a, A2 = some a → w.heap.size ≤ a.block) ∧ (∀ a, A3 = some a → w.heap.size ≤ a.block)
end
end Go.Proofs.Ytpnjamomkpkkeaa
