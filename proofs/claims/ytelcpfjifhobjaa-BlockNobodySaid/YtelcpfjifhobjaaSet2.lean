/- Layer 13: the reference's Parse and Same; the first values; alive. -/
import Derived.Test.YtelcpfjifhobjaaSet1
namespace Go.Proofs.Ytelcpfjifhobjaa
set_option linter.unusedVariables false
set_option linter.unusedSimpArgs false
open Go.RowKit

theorem rgetS (A : Option Addr) (n c s : Nat) (size : Int) (hs : size = (s : Int)) (f : Nat → Int) (w : World) (ha : Rd .u8 w A n c f) (hb : Byt n f) (h1 : 1 ≤ s) (h2 : s ≤ 4) (h3 : s ≤ n) :
    Calls Try.prog 102 #[.slice A n c, .int .i64 size] w fun e w' => e = .returned (.tuple #[.int .i64 (num f s), .int .i64 0]) ∧ Drawn w w' := by
  subst hs
  exact rget_ok A n c s f w ha hb h1 h2 h3
theorem numS_congr {f g : Nat → Int} {k : Nat} (h : ∀ j, f j = g j) : num f k = num g k := by rw [funext h]
theorem RdV.lit2 (w : World) (x y : Int) : RdV 2 (w.alloc (.cells #[.int .i64 x, .int .i64 y] 170)) (some ⟨w.heap.size, 0, none⟩) 1 1 (pr (oneF x) (oneF y)) :=
  (OwnV.lit 2 170 0 w (pr (oneF x) (oneF y)) #[.int .i64 x, .int .i64 y] 1 (Nat.zero_le _) (by simp [maxLen]) rfl).rdS2
theorem OwnV.ltB {s : Nat} {e : TypeId} {B : Nat} {w : World} {v : Value} {n : Nat} {F : Nat → Value} (h : OwnV s e B w v n F) : ∀ j, v.ownBlock = some j → B ≤ j := fun j e => (World.ownsRow.lt h j e).1
def RSets (w : World) (n : Nat) (f : Nat → Int) (e : Ending) (w' : World) : Prop :=
  (∃ m, n = m * 6 ∧ Sets w m (sF f) (sG f) (.bool true) e w') ∨ (n % 6 ≠ 0 ∧ e = .returned (.tuple #[.slice none 0 0, .bool false]) ∧ Below w.heap.size w w')
theorem app_set {f : Nat → Int} {k : Nat} {x y : Int} (hx : sF f k = x) (hy : sG f k = y) : ∀ i, i < (k + 1) * 2 → catV (k * 2) (pr (sF f) (sG f)) (pr (oneF x) (oneF y)) i = pr (sF f) (sG f) i := by
  intro i hi
  rw [pr_cat]
  refine pr_congr (n := k + 1) (fun j hj => ?_) (fun j hj => ?_) i hi
  · by_cases h : j < k
    · simp [catF, h]
    · obtain rfl : j = k := by omega
      simp [catF, oneF, hx]
  · by_cases h : j < k
    · simp [catF, h]
    · obtain rfl : j = k := by omega
      simp [catF, oneF, hy]

set_option maxHeartbeats 3200000 in
theorem rsparse (A : Option Addr) (n c : Nat) (f : Nat → Int) (w : World) (ha : Rd .u8 w A n c f) (hb : Byt n f) (hn : n ≤ 100000) :
    Calls Try.prog 63 #[.slice A n c] w (RSets w n f) := by
  obtain ⟨i0, hi, hz0, hz1, hz2⟩ := info_parts set_info
  have Ha := hide ha
  have Hb := hide hb
  clear ha hb
  go_enter Try.func63, Try.ntmps63
  go_wp2
  go_loopw [0, 4] (fun b out wr => ∃ (k q : Nat) (A' : Option Addr) (c' : Nat), k * 6 + q = n ∧ b = .slice A' q c' ∧ Rd .u8 w A' q c' (fun i => f (k * 6 + i)) ∧ OwnV 2 170 w.heap.size wr out k (pr (sF f) (sG f)) ∧ Below w.heap.size w wr) (fun b _ _ => match b with | .slice _ n _ => n | _ => 0)
  case atStart => exact ⟨0, n, A, c, by omega, rfl, Ha.out.congr (fun i _ => by simp), OwnV.nil _ _ _ _ _, Below.refl _ _⟩
  case round =>
    obtain ⟨k, q, A', c', hkq, rfl, hr, hown, hB⟩ := hrel
    have Hr := hide hr
    have Hown := hide hown
    have HB := hide hB
    have Hkq := hide hkq
    have hkn : k * 6 + q ≤ n := by omega
    have hsz := hB.size
    clear hr hown hB hkq
    by_cases h6 : 6 ≤ q
    · have hd : decide ((6 : Int) ≤ (q : Int)) = true := by simp; omega
      have hqc : q ≤ c' := Hr.out.1
      have hcut2 : ∀ W, (Instr.slice 22 (.slice A' q c') (some (.int .i64 2)) none none).run Try.prog W = .ok (.slice (cutA A' c' 2) (q - 2) (c' - 2)) W := fun W => bytes_cut A' q c' 2 (by omega) W
      have hcut6 : ∀ W, (Instr.slice 22 (.slice A' q c') (some (.int .i64 6)) none none).run Try.prog W = .ok (.slice (cutA A' c' 6) (q - 6) (c' - 6)) W := fun W => bytes_cut A' q c' 6 (by omega) W
      have Hb1 : Hid (Byt q (fun i => f (k * 6 + i))) := fun i hi => Hb.out (k * 6 + i) (by omega)
      have Hb2 : Hid (Byt (q - 2) (fun i => f (k * 6 + (2 + i)))) := fun i hi => Hb.out (k * 6 + (2 + i)) (by omega)
      go_wp2_with fail
      refine (rgetS A' q c' 2 _ rfl _ _ (Hr.out.below HB.out) Hb1.out (by omega) (by omega) (by omega)).mono ?_
      rintro e w1 ⟨rfl, hd1⟩
      generalize hX : num (fun i => f (k * 6 + i)) 2 = x
      have HX : Hid (sF f k = x) := hX
      have HB1 := hide (HB.out.trans (drawn_below hd1 _))
      have Ho1 := hide (Hown.out.below (drawn_below hd1 _))
      have Hr1 := hide ((Hr.out.below HB1.out).cutR (lo := 2) (hi := q) (by omega) (Nat.le_refl _))
      have hs1 := HB1.out.size
      clear hX hd1 HB Hown
      go_wp2_with fail
      refine (rgetS _ _ _ 4 _ rfl _ _ Hr1.out Hb2.out (by omega) (by omega) (by omega)).mono ?_
      rintro e w2 ⟨rfl, hd2⟩
      generalize hX : num (fun i => f (k * 6 + (2 + i))) 4 = y
      have HY : Hid (sG f k = y) := (numS_congr (fun j => by rw [Nat.add_assoc])).trans hX
      have HB2 := hide (HB1.out.trans (drawn_below hd2 _))
      have Ho2 := hide (Ho1.out.below (drawn_below hd2 _))
      have hs2 := HB2.out.size
      clear hX hd2 HB1 Ho1 Hr1
      set_option maxRecDepth 20000 in
      go_wp2_with (at_builtin; refine wp_appV rfl (.tmp 23) (.tmp 27) _ rfl 2 i0 _ 16 Try.underlying26 hi hz0 hz1 hz2 rfl (by omega) w.heap.size _ k _ rfl (Ho2.out.alloc _) _ 1 1 _ rfl (RdV.lit2 _ x y) (pr_one _ _ _) (by simp only [maxLen]; omega) (by omega) (by simp; omega) ?_; intro v3 w3 hown3 hg3 _)
      have HB3 := hide ((HB2.out.alloc hs2 _).grown hg3 (by simp; omega) Ho2.out.ltB)
      have Ho3 := hide (hown3.congr (app_set HX.out HY.out))
      have Hr3 : Hid (Rd .u8 w (cutA A' c' 6) (q - 6) (c' - 6) (fun i => f ((k + 1) * 6 + i))) := (Hr.out.cutR (lo := 6) (hi := q) (by omega) (Nat.le_refl _)).congr (fun i _ => by rw [show k * 6 + (6 + i) = (k + 1) * 6 + i by omega])
      clear hown3 hg3
      go_roundw
      case rel => exact ⟨k + 1, q - 6, _, _, by have := Hkq.out; omega, rfl, Hr3.out, Ho3.out, HB3.out⟩
      case measure => simp; omega
    · have hd : decide ((6 : Int) ≤ (q : Int)) = false := by simp; omega
      by_cases h0 : 0 < q
      · have hd0 : decide ((0 : Int) < (q : Int)) = true := by simp; omega
        have hmod : n % 6 ≠ 0 := by have := Hkq.out; omega
        have Hmod := hide hmod
        clear hmod
        go_wp2_with fail
        go_ret2
        exact .inr ⟨Hmod.out, rfl, HB.out⟩
      · obtain rfl : q = 0 := by omega
        obtain ⟨A2, c2, rfl, hr2, _⟩ := Hown.out.rd
        have Hr2 := hide (rd2_of_rdV hr2)
        clear hr2
        go_wp2_with fail
        go_ret2
        exact .inl ⟨k, by have := Hkq.out; omega, A2, c2, rfl, Hr2.out, HB.out⟩

/-! ### the reference's comparing -/
def same2B (n m : Nat) (f g f' g' : Nat → Int) : Bool := decide (n = m ∧ ∀ i, i < n → f i = f' i ∧ g i = g' i)
set_option maxHeartbeats 800000 in
theorem rsame2_any (A C : Option Addr) (n m c d : Nat) (f g f' g' : Nat → Int) (w : World) (ha : Rd2 w A n c f g) (hb : Rd2 w C m d f' g') :
    Calls Try.prog 58 #[.slice A n c, .slice C m d] w fun e w' => e = .returned (.bool (same2B n m f g f' g')) ∧ Drawn w w' := by
  have hn : n ≤ 9223372036854775807 := by have h1 := ha.1; have h2 := ha.2.1; simp only [maxLen] at h2; omega
  by_cases hnm : n = m
  · subst hnm
    have Ha := hide ha
    have Hb := hide hb
    clear ha hb
    go_enter Try.func58, Try.ntmps58
    go_wp2
    go_loopw [5] (fun i wr => ∃ k : Nat, k ≤ n ∧ i = .int .i64 k ∧ (∀ j, j < k → f j = f' j ∧ g j = g' j) ∧ Drawn w wr) (fun i _ => n - (intOf i).toNat)
    case atStart => exact ⟨0, Nat.zero_le _, rfl, fun j hj => absurd hj (by omega), Drawn.refl _⟩
    case round =>
      obtain ⟨k, hk, rfl, hfg, q, rfl⟩ := hrel
      have Hfg := hide hfg
      clear hfg
      by_cases hlt : k < n
      · obtain ⟨b, off, rfl, hc0, hc1⟩ := Ha.out.at_ hlt
        obtain ⟨b', off', rfl, hd0, hd1⟩ := Hb.out.at_ hlt
        by_cases he : f k = f' k ∧ g k = g' k
        · have He := hide he
          rw [← he.1] at hd0
          rw [← he.2] at hd1
          clear he
          go_wp2
          go_quiet (fail)
          go_wp2
          go_roundw
          case rel => exact ⟨k + 1, by omega, by go_num, fun j hj => (by
            by_cases hjk : j = k
            · subst hjk; exact He.out
            · exact Hfg.out j (by omega)), _, rfl⟩
          case measure => simp [intOf]; omega
        · have Hs : Hid (same2B n n f g f' g' = false) := decide_eq_false fun h => he (h.2 k hlt)
          by_cases h0 : f k = f' k
          · have t1 : (g k == g' k) = false := by simpa using fun h => he ⟨h0, h⟩
            rw [← h0] at hd0
            clear he h0
            go_wp2
            go_quiet (fail)
            go_wp2
            go_ret
            exact ⟨by rw [Hs.out]; rfl, Drawn.more ⟨q, rfl⟩ _⟩
          · have t1 : (f k == f' k) = false := by simpa using h0
            clear he h0
            go_wp2
            go_quiet (fail)
            go_wp2
            go_ret
            exact ⟨by rw [Hs.out]; rfl, Drawn.more ⟨q, rfl⟩ _⟩
      · obtain rfl : k = n := by omega
        have Hs : Hid (same2B k k f g f' g' = true) := decide_eq_true ⟨rfl, Hfg.out⟩
        go_wp2
        go_ret
        exact ⟨by rw [Hs.out]; rfl, _, rfl⟩
  · have Hs : Hid (same2B n m f g f' g' = false) := decide_eq_false fun h => hnm h.1
    have h1 : ((n : Int) != (m : Int)) = true := by simp; omega
    clear hnm
    go_enter Try.func58, Try.ntmps58
    go_wp2
    go_ret
    exact ⟨by rw [Hs.out]; rfl, Drawn.refl _⟩
theorem rsame2_yes (A C : Option Addr) (n c d : Nat) (f g f' g' : Nat → Int) (w : World) (ha : Rd2 w A n c f g) (hb : Rd2 w C n d f' g') (hf : ∀ i, i < n → f i = f' i) (hg : ∀ i, i < n → g i = g' i) :
    Calls Try.prog 58 #[.slice A n c, .slice C n d] w fun e w' => e = .returned (.bool true) ∧ Drawn w w' := by
  have h1 := rsame2_any A C n n c d f g f' g' w ha hb
  rw [show same2B n n f g f' g' = true from decide_eq_true ⟨rfl, fun i hi => ⟨hf i hi, hg i hi⟩⟩] at h1
  exact h1
end Go.Proofs.Ytelcpfjifhobjaa
