/- Set1, Set2, Set3 in one text. -/
import Derived.Test.YtpnjamomkpkkeaaMA
import Derived.Test.YtpnjamomkpkkeaaVal
namespace Go.Proofs.Ytpnjamomkpkkeaa
set_option linter.unusedVariables false
set_option linter.unusedSimpArgs false
section
open Go.RowKit

section
variable {P : Program} {e : TypeId} {w : World} {ops : Array Oper} {rest : List Oper} {o : Oper} {a : Act} {Q : Exit → Act → World → Prop}
/-- make([]T, n). -/
theorem wp_mkV (hgd : o.guard = none) (l c : Operand) (t : TypeId) (hop : o.op = Op.makeSlice t l c) (s : Nat)
    (i : TypeInfo) (z : Value) (bytes : Nat) (ht : P.underlying t = some (.slice e)) (hi : P.info? e = some i) (hz : i.zero = some z) (hsize : i.size = s) (hby : i.bytes = bytes) (F : Nat → Value)
    (B : Nat) (kl kc : IntKind) (L C : Int) (n : Nat) (hl : a.eval l = .int kl L) (hc : a.eval c = .int kc C) (hL : L = (n : Int)) (hC : C = (n : Int)) (hrow : (madeCells z.cells (n * s)).toList = rowV (n * s) F) (b2 : bytes * n ≤ 281474976710656) (b3 : n ≤ maxLen) (b4 : B ≤ w.heap.size)
    (hK : ∀ w', OwnV s e B w' (.slice (some ⟨w.heap.size, 0, none⟩) n n) n F → w.grownBy w' none → w'.heap.size = w.heap.size + 1 → wpList P ops Q rest (a.put o.dst (.slice (some ⟨w.heap.size, 0, none⟩) n n)) w') :
    wpList P ops Q (o :: rest) a w := by
  refine wpList_plain hgd fun K hK' => ?_
  subst hL
  subst hC
  have hb : (i.bytes : Int) * (n : Int) ≤ 281474976710656 := by
    rw [hby]
    have h : ((bytes * n : Nat) : Int) ≤ 281474976710656 := by omega
    rwa [Int.natCast_mul] at h
  have hr := run_make (P := P) w t e i z ht hi hz kl kc n n (by omega) (by omega) hb (by simp only [maxLen] at b3; omega)
  simp only [Int.toNat_natCast] at hr
  rw [hsize] at hr
  have h1 := OwnV.lit s e B w F (madeCells z.cells (n * s)) n b4 b3 hrow
  unfold Oper.wp
  simp [execOp, hop, hl, hc, hr, Result.andThen]
  exact hK' _ _ (hK _ h1 (World.grownBy_alloc w _ none) (by simp))
end
theorem made2 (n : Nat) : (madeCells (Value.agg #[.int .i64 0, .int .i64 0]).cells (n * 2)).toList = rowV (n * 2) (pr (oneF 0) (oneF 0)) := by
  simp only [madeCells, rowV, Array.toList_map, Array.toList_range, Value.cells]
  refine List.map_congr_left fun i _ => ?_
  rcases Nat.mod_two_eq_zero_or_one i with h | h <;> simp [h, pr, oneF]

theorem set_info : (Try.prog.info? 201).map (fun i => (i.zero, i.size, i.bytes)) = some (some (.agg #[.int .i64 0, .int .i64 0]), 2, 16) := by kernel_rfl
/-- The settings that bytes are. -/
def sF (f : Nat → Int) (i : Nat) : Int := num (fun j => f (i * 6 + j)) 2
def sG (f : Nat → Int) (i : Nat) : Int := num (fun j => f (i * 6 + 2 + j)) 4
/-- Those of the first k. -/
def upF (k : Nat) (F : Nat → Int) (i : Nat) : Int := if i < k then F i else 0
theorem upF_succ (k : Nat) (F : Nat → Int) : setF (upF k F) k (F k) = upF (k + 1) F := by
  funext i
  unfold setF upF
  by_cases h : i = k
  · subst h
    simp
  · by_cases h2 : i < k
    · have : i < k + 1 := by omega
      simp [h, h2, this]
    · have : ¬ i < k + 1 := by omega
      simp [h, h2, this]
/-- What a parse hands back. -/
def Sets (w : World) (m : Nat) (F G : Nat → Int) (v2 : Value) (e : Ending) (w' : World) : Prop :=
  ∃ A c, e = .returned (.tuple #[.slice A m c, v2]) ∧ Rd2 w' A m c F G ∧ Below w.heap.size w w'

theorem sparse_bad (A : Option Addr) (n c : Nat) (w : World) (hn : n ≤ 100000) (h : n % 6 ≠ 0) : Calls Try.prog 150 #[.slice A n c] w fun e w' => e = .returned (.tuple #[.slice none 0 0, .int .i64 4]) ∧ w = w' := by
  have hd : ((n : Int) % 6 != 0) = true := by simp; omega
  go_enter Try.func150, Try.ntmps150
  go_wp2
  go_ret2
  exact ⟨rfl, rfl⟩

set_option maxHeartbeats 3200000 in
theorem sparse_ok (A : Option Addr) (n c m : Nat) (f : Nat → Int) (w : World) (ha : Rd .u8 w A n c f) (hb : Byt n f) (hn : n ≤ 100000) (hm : n = m * 6) :
    Calls Try.prog 150 #[.slice A n c] w (Sets w m (sF f) (sG f) (.int .i64 0)) := by
  obtain ⟨i0, hi, hz0, hz1, hz2⟩ := info_parts set_info
  have hd : ((n : Int) % 6 != 0) = false := by simp; omega
  have hmn : m ≤ n := by omega
  have hq : (n : Int) / 6 = (m : Int) := by omega
  have Ha := hide ha
  have Hb := hide hb
  have Hm := hide hm
  have Hq := hide hq
  clear ha hb hm hq
  go_enter Try.func150, Try.ntmps150
  go_wp2_with fail
  refine (cnewA A n c f _ Ha.out (by omega)).mono ?_
  rintro e w1 ⟨p, A1, c1, rfl, hp, hcur, hA1, hb1⟩
  have Hcur := hide hcur
  have HA1 := hide hA1
  have HB1 := hide hb1
  have hp1 := hcur.lt
  have hsz := hb1.size
  clear hcur hA1 hb1
  go_wp2_with (at_make; refine wp_mkV rfl _ _ _ rfl 2 i0 _ 16 Try.underlying23 hi hz0 hz1 hz2 (pr (oneF 0) (oneF 0)) w.heap.size _ _ _ _ m rfl rfl Hq.out Hq.out (made2 m) (by omega) (by simp only [maxLen]; omega) hsz ?_; intro w2 hown2 hg2 hs2)
  have hbb : Below w1.heap.size w1 w2 := ⟨hg2.os, hg2.tape, hg2.output, hg2.size, fun i hi => hg2.block i hi (by simp)⟩
  have HB2 := hide (HB1.out.of hbb)
  have Hc2 := hide (Hcur.out.below hbb)
  have Hown2 := hide hown2
  clear hown2 hg2 hbb HB1 Hcur
  go_loopw [19] (fun i wr => ∃ k : Nat, k ≤ m ∧ i = .int .i64 k ∧ OwnV 2 201 w.heap.size wr (.slice (some ⟨w1.heap.size, 0, none⟩) m m) m (pr (upF k (sF f)) (upF k (sG f))) ∧ CurA wr p A1 c1 n f (k * 6) ∧ Below w.heap.size w wr ∧ w1.heap.size < wr.heap.size) (fun i _ => m - (intOf i).toNat)
  case atStart => exact ⟨0, Nat.zero_le _, rfl, Hown2.out.congr (fun i _ => by simp [upF, oneF, pr]), by simpa using Hc2.out, HB2.out, by omega⟩
  case round =>
    obtain ⟨k, hk, rfl, hown, hcur, hB, hlr⟩ := hrel
    have Hown := hide hown
    have Hcur := hide hcur
    have HB := hide hB
    clear hown hcur hB
    by_cases hlt : k < m
    · have hpg : p ≠ w1.heap.size := by omega
      have hAg : ∀ a, A1 = some a → a.block ≠ w1.heap.size := fun a e => by have := (HA1.out a e).2; omega
      have HAg := hide hAg
      have hnk : k * 6 + 6 ≤ n := by have := Hm.out; omega
      have hkm : (k : Int) < (m : Int) := by omega
      clear hAg
      go_wp2_with fail
      refine (numberA p n (k * 6) 2 c1 A1 _ rfl f _ Hcur.out Hb.out (by omega) (by omega) (by omega)).mono ?_
      rintro e w3 ⟨rfl, hc3, hg3⟩
      generalize hX : num (fun i => f (k * 6 + i)) 2 = x
      have HX : Hid (sF f k = x) := hX
      have Ho3 := hide (Hown.out.grown hg3 (by simp [Value.ownBlock]; omega))
      have HB3 := hide (HB.out.grown hg3 HB.out.size (fun j e => by have := Option.some.inj e; omega))
      have hl3 := Nat.lt_of_lt_of_le hlr hg3.size
      have Hc3 := hide hc3
      have hcell := Ho3.out.cell (j := k * 2) (by omega)
      have hfz := Ho3.out.frozen (k * 2)
      rw [pr_0] at hcell
      have Ho4 : Hid (OwnV 2 201 w.heap.size (w3.setCell ⟨w1.heap.size, k * 2, none⟩ (.int .i64 x)) (.slice (some ⟨w1.heap.size, 0, none⟩) m m) m (pr (upF (k + 1) (sF f)) (upF k (sG f)))) := by
        have := Ho3.out.set (k * 2) (.int .i64 x)
        rw [pr_set0, ← HX.out, upF_succ] at this
        rw [← HX.out]
        exact this
      have Hc4 := hide (Hc3.out.other (grown_set w3 w1.heap.size (k * 2) (.int .i64 x)) hpg HAg.out)
      have HB4 := hide (HB3.out.setCell (p := ⟨w1.heap.size, k * 2, none⟩) hsz (.int .i64 x))
      have hl4 : w1.heap.size < (w3.setCell ⟨w1.heap.size, k * 2, none⟩ (.int .i64 x)).heap.size := by simpa [World.setCell] using hl3
      clear hX hc3 hg3 Hcur Hown HB Hc3 HB3 Ho3
      go_wp2_with fail
      refine (numberA p n (k * 6 + 2) 4 c1 A1 _ rfl f _ Hc4.out Hb.out (by omega) (by omega) (by omega)).mono ?_
      rintro e w5 ⟨rfl, hc5, hg5⟩
      generalize hX : num (fun i => f (k * 6 + 2 + i)) 4 = y
      have HY : Hid (sG f k = y) := hX
      have Ho5 := hide (Ho4.out.grown hg5 (by simp [Value.ownBlock]; omega))
      have HB5 := hide (HB4.out.grown hg5 HB4.out.size (fun j e => by have := Option.some.inj e; omega))
      have hl5 := Nat.lt_of_lt_of_le hl4 hg5.size
      have Hc5 := hide hc5
      clear hcell hfz hl4
      have hcell := Ho5.out.cell (j := k * 2 + 1) (by omega)
      have hfz := Ho5.out.frozen (k * 2 + 1)
      rw [pr_1] at hcell
      have Ho6 : Hid (OwnV 2 201 w.heap.size (w5.setCell ⟨w1.heap.size, k * 2 + 1, none⟩ (.int .i64 y)) (.slice (some ⟨w1.heap.size, 0, none⟩) m m) m (pr (upF (k + 1) (sF f)) (upF (k + 1) (sG f)))) := by
        have := Ho5.out.set (k * 2 + 1) (.int .i64 y)
        rw [pr_set1, ← HY.out, upF_succ] at this
        rw [← HY.out]
        exact this
      have Hc6 := hide (Hc5.out.other (grown_set w5 w1.heap.size (k * 2 + 1) (.int .i64 y)) hpg HAg.out)
      have HB6 := hide (HB5.out.setCell (p := ⟨w1.heap.size, k * 2 + 1, none⟩) hsz (.int .i64 y))
      have hl6 : w1.heap.size < (w5.setCell ⟨w1.heap.size, k * 2 + 1, none⟩ (.int .i64 y)).heap.size := by simpa [World.setCell] using hl5
      clear hX hc5 hg5 Hc4 Ho4 HB4 Hc5 HB5 Ho5
      go_wp2_with fail
      go_roundw
      case rel => exact ⟨k + 1, by omega, by go_num, Ho6.out, by have := Hc6.out; rw [show k * 6 + 2 + 4 = (k + 1) * 6 by omega] at this; exact this, HB6.out, hl6⟩
      case measure => simp [intOf]; omega
    · obtain rfl : k = m := by omega
      have Hr := hide (rd2_of_rdV (Hown.out.rdS2))
      go_wp2_with fail
      go_ret2
      exact ⟨_, _, rfl, Hr.out.congr (fun i hi => by simp [upF, hi]) (fun i hi => by simp [upF, hi]), HB.out⟩
end

section
open Go.RowKit

theorem rgetS (A : Option Addr) (n c s : Nat) (size : Int) (hs : size = (s : Int)) (f : Nat → Int) (w : World) (ha : Rd .u8 w A n c f) (hb : Byt n f) (h1 : 1 ≤ s) (h2 : s ≤ 4) (h3 : s ≤ n) :
    Calls Try.prog 146 #[.slice A n c, .int .i64 size] w fun e w' => e = .returned (.tuple #[.int .i64 (num f s), .int .i64 0]) ∧ Drawn w w' := by
  subst hs
  exact rget_ok A n c s f w ha hb h1 h2 h3
theorem numS_congr {f g : Nat → Int} {k : Nat} (h : ∀ j, f j = g j) : num f k = num g k := by rw [funext h]
theorem RdV.lit2 (w : World) (x y : Int) : RdV 2 (w.alloc (.cells #[.int .i64 x, .int .i64 y] 201)) (some ⟨w.heap.size, 0, none⟩) 1 1 (pr (oneF x) (oneF y)) :=
  (OwnV.lit 2 201 0 w (pr (oneF x) (oneF y)) #[.int .i64 x, .int .i64 y] 1 (Nat.zero_le _) (by simp [maxLen]) rfl).rdS2
theorem OwnV.ltB {s : Nat} {e : TypeId} {B : Nat} {w : World} {v : Value} {n : Nat} {F : Nat → Value} (h : OwnV s e B w v n F) : ∀ j, v.ownBlock = some j → B ≤ j := fun j e => (World.ownsRow.lt h j e).1
def RSets (w : World) (n : Nat) (f : Nat → Int) (e : Ending) (w' : World) : Prop :=
  (∃ m, n = m * 6 ∧ Sets w m (sF f) (sG f) (.bool true) e w') ∨ (n % 6 ≠ 0 ∧ e = .returned (.tuple #[.slice none 0 0, .bool false]) ∧ Below w.heap.size w w')
theorem app_set {f : Nat → Int} {k : Nat} {x y : Int} (hx : sF f k = x) (hy : sG f k = y) : ∀ i, i < (k + 1) * 2 → catV (k * 2) (pr (sF f) (sG f)) (pr (oneF x) (oneF y)) i = pr (sF f) (sG f) i := by
  intro i hi
  rw [pr_cat]
  refine pr_congr (n := k + 1) (fun j hj => ?_) (fun j hj => ?_) i hi
  · by_cases h : j < k
    · simp [catF, h]
    · obtain rfl : j = k := by omega
      simp [catF, oneF, hx]
  · by_cases h : j < k
    · simp [catF, h]
    · obtain rfl : j = k := by omega
      simp [catF, oneF, hy]

set_option maxHeartbeats 3200000 in
theorem rsparse (A : Option Addr) (n c : Nat) (f : Nat → Int) (w : World) (ha : Rd .u8 w A n c f) (hb : Byt n f) (hn : n ≤ 100000) :
    Calls Try.prog 110 #[.slice A n c] w (RSets w n f) := by
  obtain ⟨i0, hi, hz0, hz1, hz2⟩ := info_parts set_info
  have Ha := hide ha
  have Hb := hide hb
  clear ha hb
  go_enter Try.func110, Try.ntmps110
  go_wp2
  go_loopw [0, 4] (fun b out wr => ∃ (k q : Nat) (A' : Option Addr) (c' : Nat), k * 6 + q = n ∧ b = .slice A' q c' ∧ Rd .u8 w A' q c' (fun i => f (k * 6 + i)) ∧ OwnV 2 201 w.heap.size wr out k (pr (sF f) (sG f)) ∧ Below w.heap.size w wr) (fun b _ _ => match b with | .slice _ n _ => n | _ => 0)
  case atStart => exact ⟨0, n, A, c, by omega, rfl, Ha.out.congr (fun i _ => by simp), OwnV.nil _ _ _ _ _, Below.refl _ _⟩
  case round =>
    obtain ⟨k, q, A', c', hkq, rfl, hr, hown, hB⟩ := hrel
    have Hr := hide hr
    have Hown := hide hown
    have HB := hide hB
    have Hkq := hide hkq
    have hkn : k * 6 + q ≤ n := by omega
    have hsz := hB.size
    clear hr hown hB hkq
    by_cases h6 : 6 ≤ q
    · have hd : decide ((6 : Int) ≤ (q : Int)) = true := by simp; omega
      have hqc : q ≤ c' := Hr.out.1
      have hcut2 : ∀ W, (Instr.slice 22 (.slice A' q c') (some (.int .i64 2)) none none).run Try.prog W = .ok (.slice (cutA A' c' 2) (q - 2) (c' - 2)) W := fun W => bytes_cut A' q c' 2 (by omega) W
      have hcut6 : ∀ W, (Instr.slice 22 (.slice A' q c') (some (.int .i64 6)) none none).run Try.prog W = .ok (.slice (cutA A' c' 6) (q - 6) (c' - 6)) W := fun W => bytes_cut A' q c' 6 (by omega) W
      have Hb1 : Hid (Byt q (fun i => f (k * 6 + i))) := fun i hi => Hb.out (k * 6 + i) (by omega)
      have Hb2 : Hid (Byt (q - 2) (fun i => f (k * 6 + (2 + i)))) := fun i hi => Hb.out (k * 6 + (2 + i)) (by omega)
      go_wp2_with fail
      refine (rgetS A' q c' 2 _ rfl _ _ (Hr.out.below HB.out) Hb1.out (by omega) (by omega) (by omega)).mono ?_
      rintro e w1 ⟨rfl, hd1⟩
      generalize hX : num (fun i => f (k * 6 + i)) 2 = x
      have HX : Hid (sF f k = x) := hX
      have HB1 := hide (HB.out.trans (drawn_below hd1 _))
      have Ho1 := hide (Hown.out.below (drawn_below hd1 _))
      have Hr1 := hide ((Hr.out.below HB1.out).cutR (lo := 2) (hi := q) (by omega) (Nat.le_refl _))
      have hs1 := HB1.out.size
      clear hX hd1 HB Hown
      go_wp2_with fail
      refine (rgetS _ _ _ 4 _ rfl _ _ Hr1.out Hb2.out (by omega) (by omega) (by omega)).mono ?_
      rintro e w2 ⟨rfl, hd2⟩
      generalize hX : num (fun i => f (k * 6 + (2 + i))) 4 = y
      have HY : Hid (sG f k = y) := (numS_congr (fun j => by rw [Nat.add_assoc])).trans hX
      have HB2 := hide (HB1.out.trans (drawn_below hd2 _))
      have Ho2 := hide (Ho1.out.below (drawn_below hd2 _))
      have hs2 := HB2.out.size
      clear hX hd2 HB1 Ho1 Hr1
      set_option maxRecDepth 20000 in
      go_wp2_with (at_builtin; refine wp_appV rfl (.tmp 23) (.tmp 27) _ rfl 2 i0 _ 16 Try.underlying23 hi hz0 hz1 hz2 rfl (by omega) w.heap.size _ k _ rfl (Ho2.out.alloc _) _ 1 1 _ rfl (RdV.lit2 _ x y) (pr_one _ _ _) (by simp only [maxLen]; omega) (by omega) (by simp; omega) ?_; intro v3 w3 hown3 hg3 _)
      have HB3 := hide ((HB2.out.alloc hs2 _).grown hg3 (by simp; omega) Ho2.out.ltB)
      have Ho3 := hide (hown3.congr (app_set HX.out HY.out))
      have Hr3 : Hid (Rd .u8 w (cutA A' c' 6) (q - 6) (c' - 6) (fun i => f ((k + 1) * 6 + i))) := (Hr.out.cutR (lo := 6) (hi := q) (by omega) (Nat.le_refl _)).congr (fun i _ => by rw [show k * 6 + (6 + i) = (k + 1) * 6 + i by omega])
      clear hown3 hg3
      go_roundw
      case rel => exact ⟨k + 1, q - 6, _, _, by have := Hkq.out; omega, rfl, Hr3.out, Ho3.out, HB3.out⟩
      case measure => simp; omega
    · have hd : decide ((6 : Int) ≤ (q : Int)) = false := by simp; omega
      by_cases h0 : 0 < q
      · have hd0 : decide ((0 : Int) < (q : Int)) = true := by simp; omega
        have hmod : n % 6 ≠ 0 := by have := Hkq.out; omega
        have Hmod := hide hmod
        clear hmod
        go_wp2_with fail
        go_ret2
        exact .inr ⟨Hmod.out, rfl, HB.out⟩
      · obtain rfl : q = 0 := by omega
        obtain ⟨A2, c2, rfl, hr2, _⟩ := Hown.out.rd
        have Hr2 := hide (rd2_of_rdV hr2)
        clear hr2
        go_wp2_with fail
        go_ret2
        exact .inl ⟨k, by have := Hkq.out; omega, A2, c2, rfl, Hr2.out, HB.out⟩

/-! ### the reference's comparing -/
def same2B (n m : Nat) (f g f' g' : Nat → Int) : Bool := decide (n = m ∧ ∀ i, i < n → f i = f' i ∧ g i = g' i)
set_option maxHeartbeats 800000 in
theorem rsame2_any (A C : Option Addr) (n m c d : Nat) (f g f' g' : Nat → Int) (w : World) (ha : Rd2 w A n c f g) (hb : Rd2 w C m d f' g') :
    Calls Try.prog 71 #[.slice A n c, .slice C m d] w fun e w' => e = .returned (.bool (same2B n m f g f' g')) ∧ Drawn w w' := by
  have hn : n ≤ 9223372036854775807 := by have h1 := ha.1; have h2 := ha.2.1; simp only [maxLen] at h2; omega
  by_cases hnm : n = m
  · subst hnm
    have Ha := hide ha
    have Hb := hide hb
    clear ha hb
    go_enter Try.func71, Try.ntmps71
    go_wp2
    go_loopw [5] (fun i wr => ∃ k : Nat, k ≤ n ∧ i = .int .i64 k ∧ (∀ j, j < k → f j = f' j ∧ g j = g' j) ∧ Drawn w wr) (fun i _ => n - (intOf i).toNat)
    case atStart => exact ⟨0, Nat.zero_le _, rfl, fun j hj => absurd hj (by omega), Drawn.refl _⟩
    case round =>
      obtain ⟨k, hk, rfl, hfg, q, rfl⟩ := hrel
      have Hfg := hide hfg
      clear hfg
      by_cases hlt : k < n
      · obtain ⟨b, off, rfl, hc0, hc1⟩ := Ha.out.at_ hlt
        obtain ⟨b', off', rfl, hd0, hd1⟩ := Hb.out.at_ hlt
        by_cases he : f k = f' k ∧ g k = g' k
        · have He := hide he
          rw [← he.1] at hd0
          rw [← he.2] at hd1
          clear he
          go_wp2
          go_quiet (fail)
          go_wp2
          go_roundw
          case rel => exact ⟨k + 1, by omega, by go_num, fun j hj => (by
            by_cases hjk : j = k
            · subst hjk; exact He.out
            · exact Hfg.out j (by omega)), _, rfl⟩
          case measure => simp [intOf]; omega
        · have Hs : Hid (same2B n n f g f' g' = false) := decide_eq_false fun h => he (h.2 k hlt)
          by_cases h0 : f k = f' k
          · have t1 : (g k == g' k) = false := by simpa using fun h => he ⟨h0, h⟩
            rw [← h0] at hd0
            clear he h0
            go_wp2
            go_quiet (fail)
            go_wp2
            go_ret
            exact ⟨by rw [Hs.out]; rfl, Drawn.more ⟨q, rfl⟩ _⟩
          · have t1 : (f k == f' k) = false := by simpa using h0
            clear he h0
            go_wp2
            go_quiet (fail)
            go_wp2
            go_ret
            exact ⟨by rw [Hs.out]; rfl, Drawn.more ⟨q, rfl⟩ _⟩
      · obtain rfl : k = n := by omega
        have Hs : Hid (same2B k k f g f' g' = true) := decide_eq_true ⟨rfl, Hfg.out⟩
        go_wp2
        go_ret
        exact ⟨by rw [Hs.out]; rfl, _, rfl⟩
  · have Hs : Hid (same2B n m f g f' g' = false) := decide_eq_false fun h => hnm h.1
    have h1 : ((n : Int) != (m : Int)) = true := by simp; omega
    clear hnm
    go_enter Try.func71, Try.ntmps71
    go_wp2
    go_ret
    exact ⟨by rw [Hs.out]; rfl, Drawn.refl _⟩
theorem rsame2_yes (A C : Option Addr) (n c d : Nat) (f g f' g' : Nat → Int) (w : World) (ha : Rd2 w A n c f g) (hb : Rd2 w C n d f' g') (hf : ∀ i, i < n → f i = f' i) (hg : ∀ i, i < n → g i = g' i) :
    Calls Try.prog 71 #[.slice A n c, .slice C n d] w fun e w' => e = .returned (.bool true) ∧ Drawn w w' := by
  have h1 := rsame2_any A C n n c d f g f' g' w ha hb
  rw [show same2B n n f g f' g' = true from decide_eq_true ⟨rfl, fun i hi => ⟨hf i hi, hg i hi⟩⟩] at h1
  exact h1
end

section
open Go.RowKit

theorem results_cellS {fn : Func} {p : Tmp} {ty : TypeId} (h : fn.results = #[.cell p ty]) (tmps : Array Value) (P : Program) (w : World) :
    (results fn tmps).run P w = ((asAddr (tmps.getD p undef)).run P w).andThen fun a w' => (loadVar ty a).run P w' := by
  simp [results, h]
abbrev ini : Value := .agg #[.int .i64 4096, .int .i64 1, .int .i64 4294967296, .int .i64 65535, .int .i64 16384, .int .i64 4294967296]
def lit6 : Nat → Int := fun i => if i = 1 then 5 else if i = 4 then 64 else 0
theorem lit6_byt : Byt 6 lit6 := by intro i _; unfold lit6; repeat' split <;> omega
theorem Rd.litS (w : World) (cs : Array Value) (n : Nat) (f : Nat → Int) (hn : n ≤ maxLen) (h : cs.toList = row .u8 n f) {b : Nat} (hb : b = w.heap.size) : Rd .u8 (w.alloc (.cells cs 5)) (some ⟨b, 0, none⟩) n n f := by
  subst hb
  exact (Own.lit .u8 5 0 w f cs n (Nat.zero_le _) hn h).rdS
/-! ### Put -/
def okS (F G : Nat → Int) (i : Nat) : Prop := (0 ≤ F i ∧ F i < 65536) ∧ (0 ≤ G i ∧ G i < 4294967296)
instance okS_dec (F G : Nat → Int) (i : Nat) : Decidable (okS F G i) := by unfold okS; infer_instance
/-- The bytes of settings. -/
def sB (F G : Nat → Int) (j : Nat) : Int := if j % 6 < 2 then byteAt (F (j / 6)) 2 (j % 6) else byteAt (G (j / 6)) 4 (j % 6 - 2)
theorem sB_app (F G : Nat → Int) (k : Nat) : ∀ i, i < k * 6 + 6 → catF (k * 6) (sB F G) (putF 2 (putF 0 (oneF 0) 2 (F k)) 4 (G k)) i = sB F G i := by
  intro i hi
  by_cases h : i < k * 6
  · simp [catF, h]
  · have e1 : i / 6 = k := by omega
    have e2 : i % 6 = i - k * 6 := by omega
    have e3 : catF (k * 6) (sB F G) (putF 2 (putF 0 (oneF 0) 2 (F k)) 4 (G k)) i = putF 2 (putF 0 (oneF 0) 2 (F k)) 4 (G k) (i - k * 6) := by simp [catF, h]
    rw [e3]
    unfold sB
    rw [e1, e2]
    by_cases h2 : i - k * 6 < 2
    · simp [putF, catF, h2]
    · simp [putF, catF, h2]
theorem sB_app2 (F G : Nat → Int) (k : Nat) : ∀ i, i < k * 6 + 2 + 4 → catF (k * 6 + 2) (catF (k * 6) (sB F G) (putF 0 (oneF 0) 2 (F k))) (putF 0 (oneF 0) 4 (G k)) i = sB F G i := by
  intro i hi
  rw [← sB_app F G k i (by omega)]
  by_cases h : i < k * 6
  · have h2 : i < k * 6 + 2 := by omega
    simp [catF, h, h2]
  · by_cases h2 : i < k * 6 + 2
    · have h3 : i - k * 6 < 2 := by omega
      simp [catF, putF, h, h2, h3]
    · have h3 : ¬ i - k * 6 < 2 := by omega
      have e : i - (k * 6 + 2) = i - k * 6 - 2 := by omega
      simp [catF, putF, h, h2, h3, e]
def SPut (w : World) (n : Nat) (F G : Nat → Int) (no : Value) (yes : Value) (e : Ending) (w' : World) : Prop :=
  ((∀ i, i < n → okS F G i) ∧ ∃ A c, e = .returned (.tuple #[.slice A (n * 6) c, yes]) ∧ Rd .u8 w' A (n * 6) c (sB F G) ∧ Below w.heap.size w w') ∨
  (¬ (∀ i, i < n → okS F G i) ∧ e = .returned (.tuple #[.slice none 0 0, no]) ∧ Below w.heap.size w w')
theorem putR (A : Option Addr) (n c s : Nat) (v size : Int) (hs : size = (s : Int)) (w : World) (h1 : 1 ≤ s) (h2 : s ≤ 4) (h : v < 0 ∨ pw s ≤ v) :
    Calls Try.prog 156 #[.slice A n c, .int .i64 v, .int .i64 size] w fun e w' => e = .returned (.tuple #[.slice none 0 0, .int .i64 5]) ∧ w = w' := by
  subst hs
  have e : putE v s = 5 := by unfold putE; rw [if_neg (by omega), if_pos h]
  have := put_bad A n c v s w (by rw [e]; decide)
  rw [e] at this
  exact this
theorem rputR (A : Option Addr) (n c s : Nat) (v size : Int) (hs : size = (s : Int)) (w : World) (h1 : 1 ≤ s) (h2 : s ≤ 4) (h : v < 0 ∨ pw s ≤ v) :
    Calls Try.prog 105 #[.slice A n c, .int .i64 v, .int .i64 size] w fun e w' => e = .returned (.tuple #[.slice none 0 0, .int .i64 5]) ∧ w = w' := by
  subst hs
  have e : putE v s = 5 := by unfold putE; rw [if_neg (by omega), if_pos h]
  have := rput_bad A n c v s w (by rw [e]; decide)
  rw [e] at this
  exact this
theorem putS (A : Option Addr) (n c s m : Nat) (size v : Int) (hs : size = (s : Int)) (hm : m = n + s) (f : Nat → Int) (w : World) (ha : Rd .u8 w A n c f) (hn : n ≤ 140737488350000) (h1 : 1 ≤ s) (h2 : s ≤ 4) (h3 : 0 ≤ v) (h4 : v < pw s) :
    Calls Try.prog 156 #[.slice A n c, .int .i64 v, .int .i64 size] w (GaveO w m (putF n f s v)) := by
  subst hs
  subst hm
  exact put_own A n c s v f w ha hn h1 h2 h3 h4
theorem rputS (A : Option Addr) (n c s m : Nat) (size v : Int) (hs : size = (s : Int)) (hm : m = n + s) (f : Nat → Int) (w : World) (ha : Rd .u8 w A n c f) (hn : n ≤ 140737488350000) (h1 : 1 ≤ s) (h2 : s ≤ 4) (h3 : 0 ≤ v) (h4 : v < pw s) :
    Calls Try.prog 105 #[.slice A n c, .int .i64 v, .int .i64 size] w (GaveO w m (putF n f s v)) := by
  subst hs
  subst hm
  exact rput_own A n c s v f w ha hn h1 h2 h3 h4
theorem pw2 : pw ((2 : Nat) : Int) = 65536 := by decide
theorem pw4 : pw ((4 : Nat) : Int) = 4294967296 := by decide

set_option maxHeartbeats 3200000 in
theorem sput_any (A : Option Addr) (n c : Nat) (F G : Nat → Int) (w : World) (ha : Rd2 w A n c F G) (hn : n ≤ 100000) :
    Calls Try.prog 139 #[.slice A n c] w (SPut w n F G (.int .i64 5) (.int .i64 0)) := by
  obtain ⟨i0, hi, hz0, hz1, hz2⟩ := info_parts u8_info
  have Ha := hide ha
  clear ha
  go_enter Try.func139, Try.ntmps139
  go_wp2
  go_loopw [4, 11] (fun b i wr => ∃ k : Nat, k ≤ n ∧ i = .int .i64 k ∧ (∀ j, j < k → okS F G j) ∧ Own .u8 5 w.heap.size wr b (k * 6) (sB F G) ∧ Below w.heap.size w wr) (fun _ i _ => n - (intOf i).toNat)
  case atStart => exact ⟨0, Nat.zero_le _, rfl, fun j hj => absurd hj (by omega), Own.nil _ _ _ _ _, Below.refl _ _⟩
  case round =>
    obtain ⟨k, hk, rfl, hok, hown, hB⟩ := hrel
    have Hok := hide hok
    have Hown := hide hown
    have HB := hide hB
    have hsz := hB.size
    clear hok hown hB
    by_cases hlt : k < n
    · obtain ⟨b0, off, rfl, hc0, hc1⟩ := (Ha.out.below HB.out).at_ hlt
      have hkn : (k : Int) < (n : Int) := by omega
      have R0 := hide (heap_alloc_new wr (.cells #[.int .i64 (F k), .int .i64 (G k)] 201))
      have HBb := hide (HB.out.alloc hsz (.cells #[.int .i64 (F k), .int .i64 (G k)] 201))
      have Hob := hide (Hown.out.alloc (.cells #[.int .i64 (F k), .int .i64 (G k)] 201))
      by_cases hf : 0 ≤ F k ∧ F k < 65536
      · obtain ⟨f0, f1⟩ := hf
        go_wp2_with fail
        refine (putS none 0 0 2 2 _ (F k) rfl rfl (oneF 0) _ (Rd.nil _ _ _) (by omega) (by omega) (by omega) f0 (by rw [pw2]; exact f1)).mono ?_
        rintro e w1 ⟨A1, k1, rfl, ho1, hb1⟩
        have R1 := hide (keepRow R0.out hb1)
        have HB1 := hide (HBb.out.of hb1)
        have Hob1 := hide (Hob.out.below hb1)
        have Hr1 := hide ho1.rdS
        clear ho1 hb1 R0 HBb Hob hc0 hc1
        obtain ⟨q0, q1⟩ := row2 R1.out
        by_cases hg : 0 ≤ G k ∧ G k < 4294967296
        · obtain ⟨g0, g1⟩ := hg
          have Hk : Hid (okS F G k) := ⟨⟨f0, f1⟩, g0, g1⟩
          go_wp2_with fail
          refine (putS A1 2 k1 4 6 _ (G k) rfl rfl _ _ Hr1.out (by omega) (by omega) (by omega) g0 (by rw [pw4]; exact g1)).mono ?_
          rintro e w2 ⟨A2, k2, rfl, ho2, hb2⟩
          have HB2 := hide (HB1.out.of hb2)
          have Hob2 := hide (Hob1.out.below hb2)
          have Hr2 := hide ho2.rdS
          have hs2 := HB2.out.size
          clear ho2 hb2 R1 HB1 Hob1 Hr1 q0 q1
          go_wp2_with (at_builtin; refine wp_app rfl (.tmp 34) (.tmp 35) _ rfl i0 0 1 Try.underlying22 hi hz0 hz1 hz2 w.heap.size _ (k * 6) _ rfl Hob2.out A2 6 k2 _ rfl Hr2.out (by simp only [maxLen]; omega) (by omega) hs2 ?_; intro v3 w3 hown3 hg3)
          have HB3 := hide (HB2.out.grown hg3 hs2 (fun j e => (World.ownsRow.lt Hob2.out j e).1))
          have Ho3 := hide (hown3.congr (sB_app F G k))
          clear hown3 hg3
          go_roundw
          case rel => exact ⟨k + 1, by omega, by go_num, fun j hj => (by
            by_cases h : j = k
            · subst h; exact Hk.out
            · exact Hok.out j (by omega)), by rw [show (k + 1) * 6 = k * 6 + 6 by omega]; exact Ho3.out, HB3.out⟩
          case measure => simp [intOf]; omega
        · have hg' : G k < 0 ∨ pw ((4 : Nat) : Int) ≤ G k := by rw [pw4]; omega
          have Hno : Hid (¬ ∀ i, i < n → okS F G i) := fun h => hg (h k hlt).2
          have Hg := hide hg'
          clear hg hg'
          go_wp2_with fail
          refine (putR A1 2 k1 4 (G k) _ rfl _ (by omega) (by omega) Hg.out).mono ?_
          rintro e w2 ⟨rfl, rfl⟩
          go_wp2_with fail
          go_ret2
          exact .inr ⟨Hno.out, rfl, HB1.out⟩
      · have hf' : F k < 0 ∨ pw ((2 : Nat) : Int) ≤ F k := by rw [pw2]; omega
        have Hno : Hid (¬ ∀ i, i < n → okS F G i) := fun h => hf (h k hlt).1
        have Hf := hide hf'
        clear hf hf'
        go_wp2_with fail
        refine (putR none 0 0 2 (F k) _ rfl _ (by omega) (by omega) Hf.out).mono ?_
        rintro e w2 ⟨rfl, rfl⟩
        go_wp2_with fail
        go_ret2
        exact .inr ⟨Hno.out, rfl, HBb.out⟩
    · obtain rfl : k = n := by omega
      obtain ⟨A2, c2, rfl, hr2, _⟩ := Hown.out.rd
      have Hr2 := hide hr2
      clear hr2
      go_wp2_with fail
      go_ret2
      exact .inl ⟨Hok.out, A2, c2, rfl, Hr2.out, HB.out⟩
end
end Go.Proofs.Ytpnjamomkpkkeaa
