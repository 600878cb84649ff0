/- Layer 29: data have just the length that was told. -/
import Derived.Test.YtpohgehojmeodaaDoorTs1
import Derived.Test.YtpohgehojmeodaaDoorTs2
import Derived.Test.YtpohgehojmeodaaDoorMg6
import Derived.Test.YtpohgehojmeodaaDoorTa6
import Derived.Deep.Cut
namespace Go.Proofs.YtpohgehojmeodaaDoor
set_option linter.unusedVariables false
set_option linter.unusedSimpArgs false
open Go.RowKit Go.PlainAid

def sm29 (y : ByteArray) : Nat → Fd := fun i => [(⟨⟨#[58, 115, 116, 97, 116, 117, 115]⟩, ⟨#[50, 48, 48]⟩, false⟩ : Fd), ⟨⟨#[99, 111, 110, 116, 101, 110, 116, 45, 108, 101, 110, 103, 116, 104]⟩, y, false⟩].getD i default
theorem anyB_two (p : Fd → Bool) (F : Nat → Fd) : anyB p F 2 = (p (F 0) || p (F 1)) := by
  unfold anyB
  cases h0 : p (F 0) with
  | true => exact decide_eq_true ⟨0, by omega, h0⟩
  | false =>
    cases h1 : p (F 1) with
    | true => exact decide_eq_true ⟨1, by omega, h1⟩
    | false =>
      exact decide_eq_false fun ⟨i, hi, e⟩ => by
        have : i = 0 ∨ i = 1 := by omega
        rcases this with rfl | rfl
        · rw [h0] at e; cases e
        · rw [h1] at e; cases e
theorem sm29_l {n : Nat} (h : (n : Int) ≤ MX) : LenR (sm29 (decS n)) 2 n true true := .inl ⟨rfl, some (n : Int), ⟨fun i hi e => by
    have : i = 0 ∨ i = 1 := by omega
    rcases this with rfl | rfl
    · exact absurd e (by show ¬ ((⟨#[58, 115, 116, 97, 116, 117, 115]⟩ : ByteArray) = CL); decide +kernel)
    · show natB (decS n) MX = true ∧ some (n : Int) = some (natN (decS n) MX)
      rw [(dec_nat h).1]
      exact ⟨(dec_nat h).2, rfl⟩, fun _ => ⟨1, by omega, rfl⟩⟩, rfl, rfl⟩
theorem sm29_r {n : Nat} (h : (n : Int) ≤ MX) : ChkR 1 (sm29 (decS n)) 2 ⟨#[]⟩ 200 n true 0 := by
  obtain ⟨e1, e2, e3⟩ := hd_more (F := an200n) (K := sm29 (decS n)) (n := 1) (c := 1) (fun i hi => by
    obtain rfl : i = 0 := by omega
    rfl) (fun i hi hj => by
    obtain rfl : i = 1 := by omega
    show colB ⟨#[99, 111, 110, 116, 101, 110, 116, 45, 108, 101, 110, 103, 116, 104]⟩ = false
    decide +kernel) 1
  have w1 : wrgB (sm29 (decS n) 1) = false := by
    show (!((nameB ⟨#[99, 111, 110, 116, 101, 110, 116, 45, 108, 101, 110, 103, 116, 104]⟩ || pseB ⟨#[99, 111, 110, 116, 101, 110, 116, 45, 108, 101, 110, 103, 116, 104]⟩) && valB (decS n))) = false
    rw [dec_val n, Bool.and_true]
    decide +kernel
  have b1 : brdB (sm29 (decS n) 1) = false := by
    show (barB ⟨#[99, 111, 110, 116, 101, 110, 116, 45, 108, 101, 110, 103, 116, 104]⟩ || ((⟨#[99, 111, 110, 116, 101, 110, 116, 45, 108, 101, 110, 103, 116, 104]⟩ : ByteArray).toList == [116, 101] && !(smallB (decS n)).toList == [116, 114, 97, 105, 108, 101, 114, 115])) = false
    rw [show ((⟨#[99, 111, 110, 116, 101, 110, 116, 45, 108, 101, 110, 103, 116, 104]⟩ : ByteArray).toList == [116, 101]) = false by decide +kernel, Bool.false_and, Bool.or_false]
    decide +kernel
  refine .inr (.inr (.inr (.inr (.inr ⟨?_, ?_, ?_, sm29_l h, fun h => absurd h (by decide), rfl, ?_, ?_⟩))))
  · rw [anyB_two, w1, show wrgB (sm29 (decS n) 0) = wrgB (an200n 0) from rfl]
    decide +kernel
  · rw [anyB_two, b1, show brdB (sm29 (decS n) 0) = brdB (an200n 0) from rfl]
    decide +kernel
  · rw [e1]; decide +kernel
  · rw [e2]; decide +kernel
  · rw [e3]; decide +kernel
theorem sm29_s {n : Nat} (h : (n : Int) ≤ MX) : Sm28 (sm29 (decS n)) 2 := fun i hi => by
  have : i = 0 ∨ i = 1 := by omega
  rcases this with rfl | rfl
  · exact an200n_r_s 0 (by omega)
  · refine ⟨?_, ?_⟩
    · show (⟨#[99, 111, 110, 116, 101, 110, 116, 45, 108, 101, 110, 103, 116, 104]⟩ : ByteArray).size ≤ 1000
      decide +kernel
    · have := dec_small h
      show (decS n).size ≤ 1000
      omega
theorem dt_go29 {l n : Int} (h : n ≤ l) : dtO 0 1 2 l n false = (.agg #[.int .i64 0, .int .i64 1, .int .i64 2, .int .i64 (l - n)], 0) := by
  unfold dtO
  rw [show decide (l < n) = false from decide_eq_false (by omega)]
  rfl
theorem dt_long29 {l n : Int} (h : l < n) : dtO 0 1 2 l n false = (.agg #[.int .i64 0, .int .i64 0, .int .i64 0, .int .i64 0], 31) := by
  unfold dtO
  rw [show decide (l < n) = true from decide_eq_true h]
  rfl
theorem dt_end29 : dtO 0 1 2 0 0 true = (.agg #[.int .i64 0, .int .i64 2, .int .i64 0, .int .i64 0], 0) := rfl
theorem dt_short29 {l : Int} (h : 0 < l) : dtO 0 1 2 l 0 true = (.agg #[.int .i64 0, .int .i64 0, .int .i64 0, .int .i64 0], 31) := by
  have e : endB 2 (l - 0) = true := by
    unfold endB
    rw [decide_eq_true (show 0 < l - 0 by omega)]
    rfl
  unfold dtO
  rw [show decide (l < 0) = false from decide_eq_false (by omega)]
  show (Value.agg #[.int .i64 0, .int .i64 (if endB 2 (l - 0) = true then 0 else 2), .int .i64 0, .int .i64 0], if endB 2 (l - 0) = true then (31 : Int) else 0) = _
  rw [e]
  rfl
def sumU (f : Nat → Int) : Nat → Int
  | 0 => 0
  | k + 1 => sumU f k + f k
set_option maxRecDepth 100000 in
set_option maxHeartbeats 6400000 in
theorem sums_big29 (told : Int) (A : Option Addr) (n c : Nat) (w : World) (hb : told < 0 ∨ 4503599627370496 < told ∨ 60 < n) (T : TypeId) (fr : Nat × Nat) (hg : w.heap[6]? = some (.cells barV T fr)) :
    Calls Tryd.prog 14 #[.int .i64 told, .slice A n c] w (Yes w) := by
  have Hg := hide hg
  clear hg
  go_enter Tryd.func14, Tryd.ntmps14
  rcases hb with h | h | h
  · have t1 : decide (told < 0) = true := decide_eq_true h
    go_wp2_with fail
    refine (alive29 _ T fr Hg.out).mono ?_
    rintro e w7 ⟨rfl, hb7⟩
    have B7 := hide hb7
    clear hb7
    go_wp2_with fail
    go_ret
    exact ⟨rfl, B7.out⟩
  · have t1 : decide (told < 0) = false := decide_eq_false (by omega)
    have t2 : decide (4503599627370496 < told) = true := decide_eq_true h
    go_wp2_with fail
    refine (alive29 _ T fr Hg.out).mono ?_
    rintro e w7 ⟨rfl, hb7⟩
    have B7 := hide hb7
    clear hb7
    go_wp2_with fail
    go_ret
    exact ⟨rfl, B7.out⟩
  · by_cases h2 : told < 0 ∨ 4503599627370496 < told
    · rcases h2 with h2 | h2
      · have t1 : decide (told < 0) = true := decide_eq_true h2
        go_wp2_with fail
        refine (alive29 _ T fr Hg.out).mono ?_
        rintro e w7 ⟨rfl, hb7⟩
        have B7 := hide hb7
        clear hb7
        go_wp2_with fail
        go_ret
        exact ⟨rfl, B7.out⟩
      · have t1 : decide (told < 0) = false := decide_eq_false (by omega)
        have t2 : decide (4503599627370496 < told) = true := decide_eq_true h2
        go_wp2_with fail
        refine (alive29 _ T fr Hg.out).mono ?_
        rintro e w7 ⟨rfl, hb7⟩
        have B7 := hide hb7
        clear hb7
        go_wp2_with fail
        go_ret
        exact ⟨rfl, B7.out⟩
    · have t1 : decide (told < 0) = false := decide_eq_false (by omega)
      have t2 : decide (4503599627370496 < told) = false := decide_eq_false (by omega)
      have t3 : decide (60 < n) = true := decide_eq_true h
      have t4 : decide ((60 : Int) < (n : Int)) = true := decide_eq_true (by omega)
      go_wp2_with fail
      refine (alive29 _ T fr Hg.out).mono ?_
      rintro e w7 ⟨rfl, hb7⟩
      have B7 := hide hb7
      clear hb7
      go_wp2_with fail
      go_ret
      exact ⟨rfl, B7.out⟩
theorem Drawn.below29 {w w' : World} (h : Drawn w w') : Below w.heap.size w w' := by
  obtain ⟨m, rfl⟩ := h
  exact ⟨rfl, rfl, rfl, Nat.le_refl _, fun _ _ => rfl⟩
set_option maxRecDepth 100000 in
set_option maxHeartbeats 6400000 in
theorem sums_walk29 (told : Int) (A : Option Addr) (n c : Nat) (f : Nat → Int) (w : World) (ha : Rd .u16 w A n c f) (hby : ∀ i, i < n → 0 ≤ f i ∧ f i ≤ 65535) (T : TypeId) (fr : Nat × Nat) (hg : w.heap[6]? = some (.cells barV T fr)) :
    Calls Tryd.prog 14 #[.int .i64 told, .slice A n c] w (Yes w) := by
  by_cases hbig : told < 0 ∨ 4503599627370496 < told ∨ 60 < n
  · exact sums_big29 told A n c w hbig T fr hg
  obtain ⟨m, rfl⟩ : ∃ m : Nat, told = (m : Int) := ⟨told.toNat, by omega⟩
  have hmx : (m : Int) ≤ MX := by unfold MX; omega
  have htx := fun W => text29 m (by omega) W
  have hkr := sm29_r hmx
  have hks := sm29_s hmx
  obtain ⟨y, hy⟩ : ∃ y, decS m = y := ⟨_, rfl⟩
  have hysz : y.size ≤ 19 := by rw [← hy]; exact decS_19 (by omega)
  rw [hy] at hkr hks
  simp only [hy] at htx
  clear hy
  obtain ⟨told, htold⟩ : ∃ t : Int, (m : Int) = t := ⟨_, rfl⟩
  rw [htold] at hkr hmx hbig ⊢
  simp only [htold] at htx
  have hn60 : n ≤ 60 := by omega
  have ht0 : 0 ≤ told := by omega
  have ht1 : told ≤ 4503599627370496 := by omega
  have t1 : decide (told < 0) = false := decide_eq_false (by omega)
  have t2 : decide (4503599627370496 < told) = false := decide_eq_false (by omega)
  have t3 : decide (60 < n) = false := decide_eq_false (by omega)
  have t4 : decide ((60 : Int) < (n : Int)) = false := decide_eq_false (by omega)
  have Hkr := hide hkr
  have Hks := hide hks
  have Htx := hide htx
  have Ha := hide ha
  have Hby := hide hby
  have Hg := hide hg
  clear hkr hks htx ha hby hg hmx hbig htold
  go_enter Tryd.func14, Tryd.ntmps14
  go_wp2_with fail
  refine (Htx.out _).mono ?_
  rintro e w1 ⟨rfl, hd1⟩
  have hb1 := hd1.below29
  clear hd1
  have al := (Below.refl w1.heap.size w1).alloc (Nat.le_refl _) (.cells #[.string ⟨#[58, 115, 116, 97, 116, 117, 115]⟩, .string ⟨#[50, 48, 48]⟩, .bool false, .string ⟨#[99, 111, 110, 116, 101, 110, 116, 45, 108, 101, 110, 103, 116, 104]⟩, .string y, .bool false] 60)
  have a1 := (OwnV.lit 3 60 0 w1 (fdV (sm29 y)) #[.string ⟨#[58, 115, 116, 97, 116, 117, 115]⟩, .string ⟨#[50, 48, 48]⟩, .bool false, .string ⟨#[99, 111, 110, 116, 101, 110, 116, 45, 108, 101, 110, 103, 116, 104]⟩, .string y, .bool false] 2 (Nat.zero_le _) (by simp [maxLen]) rfl).rdS2
  have A1 := hide (rdFd_of_rdV a1 (fun i hi => by have := Hks.out i hi; simp only [maxLen]; omega))
  have B1 := hide (hb1.of al)
  have G1 := hide (((hb1.of al).block _ (rowLt Hg.out)).trans Hg.out)
  clear hb1 al a1 t1 t2 t3 t4
  go_wp2_with fail
  refine (answers29 ⟨#[71, 69, 84]⟩ _).mono ?_
  rw [show ansF ⟨#[71, 69, 84]⟩ = 1 by decide +kernel]
  rintro e w2a ⟨rfl, hb2a⟩
  have A2a := hide (A1.out.below hb2a)
  have G2a := hide ((hb2a.block _ (rowLt G1.out)).trans G1.out)
  have B2a := hide (B1.out.of hb2a)
  clear hb2a A1 G1 B1
  go_wp2_with fail
  refine (head29 1 0 0 _ 2 _ (sm29 y) false _ A2a.out Hks.out T fr G2a.out (mm := ⟨#[]⟩) (st := 200) (N := told) (T' := true) Hkr.out (by decide) (fun h => by cases h)).mono ?_
  rw [show behM 1 ⟨#[]⟩ 200 true = 2 by decide +kernel, show behL 1 ⟨#[]⟩ 200 told true = told by unfold behL; rw [if_neg (by decide +kernel), if_pos (by decide +kernel)]]
  rintro e w2 ⟨rfl, hb2⟩
  have al1 := (Below.refl w2.heap.size w2).alloc (Nat.le_refl _) (.cells #[.int .i64 0, .int .i64 1, .int .i64 2, .int .i64 told] 63)
  have al2 := (Below.refl (w2.alloc (.cells #[.int .i64 0, .int .i64 1, .int .i64 2, .int .i64 told] 63)).heap.size (w2.alloc (.cells #[.int .i64 0, .int .i64 1, .int .i64 2, .int .i64 told] 63))).alloc (Nat.le_refl _) (.cells #[.string ⟨#[]⟩, .int .i64 200, .int .i64 told, .bool true] 67)
  have B2 := hide (B2a.out.of (hb2.of (al1.of al2)))
  have G2 := hide (((hb2.of (al1.of al2)).block _ (rowLt G2a.out)).trans G2a.out)
  have R2 := hide (keepRow (heap_alloc_new w2 (.cells #[.int .i64 0, .int .i64 1, .int .i64 2, .int .i64 told] 63)) al2)
  have Q2 : Hid (((w2.alloc (.cells #[.int .i64 0, .int .i64 1, .int .i64 2, .int .i64 told] 63)).alloc (.cells #[.string ⟨#[]⟩, .int .i64 200, .int .i64 told, .bool true] 67)).heap[w2.heap.size + 1]? = some (.cells #[.string ⟨#[]⟩, .int .i64 200, .int .i64 told, .bool true] 67 (0, 0))) := by
    have h := heap_alloc_new (w2.alloc (.cells #[.int .i64 0, .int .i64 1, .int .i64 2, .int .i64 told] 63)) (.cells #[.string ⟨#[]⟩, .int .i64 200, .int .i64 told, .bool true] 67)
    have e : (w2.alloc (.cells #[.int .i64 0, .int .i64 1, .int .i64 2, .int .i64 told] 63)).heap.size = w2.heap.size + 1 := by simp
    rw [e] at h
    exact h
  have hp2 := (B2a.out.of hb2).size
  clear hb2 al1 al2 A2a G2a B2a
  obtain ⟨c0, c1, c2, c3⟩ := row4m R2.out
  obtain ⟨d0, d1, d2, d3⟩ := row4m Q2.out
  have m1 : (told != told) = false := by simp
  go_upto_region 5 with (fail)
  generalize hW2 : (w2.alloc (.cells #[.int .i64 0, .int .i64 1, .int .i64 2, .int .i64 told] 63)).alloc (.cells #[.string ⟨#[]⟩, .int .i64 200, .int .i64 told, .bool true] 67) = W2 at *
  have hps : w2.heap.size < W2.heap.size := rowLt R2.out
  clear hW2
  generalize w2.heap.size = p at *
  go_wp2_with fail
  clear c0 c1 c2 c3 d0 d1 d2 d3 m1 Q2
  have tt : (true != true) = false := rfl
  have ff : (false != false) = false := rfl
  go_loopw [9, 57] (fun s i wr => ∃ k : Nat, k ≤ n ∧ s = .int .i64 (sumU f k) ∧ i = .int .i64 k ∧ 0 ≤ sumU f k ∧ sumU f k ≤ told ∧ wr.heap[p]? = some (.cells #[.int .i64 0, .int .i64 1, .int .i64 2, .int .i64 (told - sumU f k)] 63 (0, 0)) ∧ Below w.heap.size w wr) (fun _ i _ => n - (intOf i).toNat)
  case atStart => exact ⟨0, Nat.zero_le _, rfl, rfl, Int.le_refl _, ht0, by show _ = some (Obj.cells #[.int .i64 0, .int .i64 1, .int .i64 2, .int .i64 (told - 0)] _ _); rw [Int.sub_zero]; exact R2.out, B2.out⟩
  case round =>
    obtain ⟨k, hk, rfl, rfl, hz0, hz1, hrow, hbl⟩ := hrel
    have hby := Hby.out
    by_cases hkn : k < n
    · obtain ⟨b, off, hA, hcell⟩ := (Ha.out.below hbl).at_ hkn
      subst hA
      have hfk := hby k hkn
      have hS : sumU f (k + 1) = sumU f k + f k := rfl
      obtain ⟨z, hz⟩ : ∃ z, sumU f k = z := ⟨_, rfl⟩
      obtain ⟨v, hv⟩ : ∃ v, f k = v := ⟨_, rfl⟩
      rw [hz, hv] at hS
      rw [hz] at hz0 hz1 hrow ⊢
      rw [hv] at hfk hcell
      have HS := hide hS
      have HR := hide hrow
      have HB := hide hbl
      clear hz hv hS hrow hbl hby
      have hv0 := hfk.1
      have hv1 := hfk.2
      clear hfk
      have t6 : decide ((k : Int) < (n : Int)) = true := decide_eq_true (by omega)
      have t7 : decide (k < n) = true := decide_eq_true hkn
      obtain ⟨c0, c1, c2, c3⟩ := row4m HR.out
      by_cases hle : z + v ≤ told
      · have q1 : decide (z + v ≤ told) = true := decide_eq_true hle
        go_wp2_with fail
        refine (data29 0 1 2 (told - z) v v false _ (by omega) (by omega) (by omega)).mono ?_
        rw [dt_go29 (l := told - z) (n := v) (by omega)]
        rintro e w4 ⟨rfl, hb4⟩
        have al4 := (Below.refl w4.heap.size w4).alloc (Nat.le_refl _) (.cells #[.int .i64 0, .int .i64 1, .int .i64 2, .int .i64 (told - z - v)] 63)
        have hps4 : p < w4.heap.size := Nat.lt_of_lt_of_le (rowLt HR.out) hb4.size
        have B4 := hide (HB.out.of (hb4.of al4))
        have R4 := hide (keepRow HR.out (hb4.of al4))
        have Q4 := hide (heap_alloc_new w4 (.cells #[.int .i64 0, .int .i64 1, .int .i64 2, .int .i64 (told - z - v)] 63))
        have hne : Hid (w4.heap.size ≠ p) := by show _ ≠ _; omega
        clear hb4 al4 c0 c1 c2 c3 hcell
        go_upto_region 13 with (fail)
        generalize hq4 : w4.heap.size = q4 at *
        generalize w4.alloc (.cells #[.int .i64 0, .int .i64 1, .int .i64 2, .int .i64 (told - z - v)] 63) = W4 at *
        clear hq4
        obtain ⟨d0, d1, d2, d3⟩ := row4m Q4.out
        obtain ⟨⟨k0, f0⟩, ⟨k1, f1⟩, ⟨k2, f2⟩, ⟨k3, f3⟩, rp⟩ := store4m R4.out (.int .i64 0) (.int .i64 1) (.int .i64 2) (.int .i64 (told - z - v))
        have RP := hide rp
        have EE := hide (below4m B4.out hp2 (.int .i64 0) (.int .i64 1) (.int .i64 2) (.int .i64 (told - z - v)))
        clear rp
        go_wp2_with fail
        go_roundw
        case rel => exact ⟨k + 1, by omega, by rw [HS.out], by go_num, by rw [HS.out]; omega, by rw [HS.out]; exact hle, by rw [HS.out, show told - (z + v) = told - z - v by omega]; exact RP.out, EE.out⟩
        case measure => simp [intOf]; omega
      · have q1 : decide (z + v ≤ told) = false := decide_eq_false hle
        go_wp2_with fail
        refine (data29 0 1 2 (told - z) v v false _ (by omega) (by omega) (by omega)).mono ?_
        rw [dt_long29 (l := told - z) (n := v) (by omega)]
        rintro e w4 ⟨rfl, hb4⟩
        have al4 := (Below.refl w4.heap.size w4).alloc (Nat.le_refl _) (.cells #[.int .i64 0, .int .i64 0, .int .i64 0, .int .i64 0] 63)
        have B4 := hide (HB.out.of (hb4.of al4))
        have G4 := hide (((HB.out.of (hb4.of al4)).block _ (rowLt Hg.out)).trans Hg.out)
        clear hb4 al4 c0 c1 c2 c3 hcell
        go_wp2_with fail
        refine (alive29 _ T fr G4.out).mono ?_
        rintro e w7 ⟨rfl, hb7⟩
        have B7 := hide (B4.out.of hb7)
        clear hb7
        go_wp2_with fail
        go_ret
        exact ⟨rfl, B7.out⟩
    · obtain rfl : k = n := by omega
      obtain ⟨z, hz⟩ : ∃ z, sumU f k = z := ⟨_, rfl⟩
      rw [hz] at hz0 hz1 hrow ⊢
      have HR := hide hrow
      have HB := hide hbl
      clear hz hrow hbl hby
      obtain ⟨c0, c1, c2, c3⟩ := row4m HR.out
      have ttt : (true == true) = true := rfl
      have fff : (false == false) = true := rfl
      by_cases heq : z = told
      · subst heq
        rw [Int.sub_self] at c3
        have q1 : (z == z) = true := by simp
        go_wp2_with fail
        refine (data29 0 1 2 0 0 0 true _ (by omega) (by omega) (by omega)).mono ?_
        rw [dt_end29]
        rintro e w4 ⟨rfl, hb4⟩
        have al4 := (Below.refl w4.heap.size w4).alloc (Nat.le_refl _) (.cells #[.int .i64 0, .int .i64 2, .int .i64 0, .int .i64 0] 63)
        have B4 := hide (HB.out.of (hb4.of al4))
        have G4 := hide (((HB.out.of (hb4.of al4)).block _ (rowLt Hg.out)).trans Hg.out)
        have Q4 := hide (heap_alloc_new w4 (.cells #[.int .i64 0, .int .i64 2, .int .i64 0, .int .i64 0] 63))
        clear hb4 al4 c0 c1 c2 c3
        obtain ⟨d0, d1, d2, d3⟩ := row4m Q4.out
        go_wp2_with fail
        refine (over29 0 2 0 0 _).mono ?_
        rw [show ((2 : Int) == 2) = true by rfl]
        rintro e w5 ⟨rfl, hb5⟩
        have B5 := hide (B4.out.of hb5)
        have G5 := hide ((hb5.block _ (rowLt G4.out)).trans G4.out)
        clear hb5 d0 d1 d2 d3
        go_wp2_with fail
        refine (alive29 _ T fr G5.out).mono ?_
        rintro e w7 ⟨rfl, hb7⟩
        have B7 := hide (B5.out.of hb7)
        clear hb7
        go_wp2_with fail
        go_ret
        exact ⟨rfl, B7.out⟩
      · have q1 : (z == told) = false := by simpa using heq
        go_wp2_with fail
        refine (data29 0 1 2 (told - z) 0 0 true _ (by omega) (by omega) (by omega)).mono ?_
        rw [dt_short29 (l := told - z) (by omega)]
        rintro e w4 ⟨rfl, hb4⟩
        have al4 := (Below.refl w4.heap.size w4).alloc (Nat.le_refl _) (.cells #[.int .i64 0, .int .i64 0, .int .i64 0, .int .i64 0] 63)
        have B4 := hide (HB.out.of (hb4.of al4))
        have G4 := hide (((HB.out.of (hb4.of al4)).block _ (rowLt Hg.out)).trans Hg.out)
        have Q4 := hide (heap_alloc_new w4 (.cells #[.int .i64 0, .int .i64 0, .int .i64 0, .int .i64 0] 63))
        clear hb4 al4 c0 c1 c2 c3
        obtain ⟨d0, d1, d2, d3⟩ := row4m Q4.out
        go_wp2_with fail
        refine (over29 0 0 0 0 _).mono ?_
        rw [show ((0 : Int) == 2) = false by rfl]
        rintro e w5 ⟨rfl, hb5⟩
        have B5 := hide (B4.out.of hb5)
        have G5 := hide ((hb5.block _ (rowLt G4.out)).trans G4.out)
        clear hb5 d0 d1 d2 d3
        go_wp2_with fail
        refine (alive29 _ T fr G5.out).mono ?_
        rintro e w7 ⟨rfl, hb7⟩
        have B7 := hide (B5.out.of hb7)
        clear hb7
        go_wp2_with fail
        go_ret
        exact ⟨rfl, B7.out⟩
end Go.Proofs.YtpohgehojmeodaaDoor
