/- Layer 7: the walks of HeadPuts and HeadGets. -/
import Derived.Test.YtfgifdgbhikegaaHea3
namespace Go.Proofs.Ytfgifdgbhikegaa
open Go.RowKit

/-! ### numbers there and back -/
theorem num_congr {f g : Nat → Int} {k : Nat} (h : ∀ i, i < k → f i = g i) : num f k = num g k := by
  induction k with
  | zero => rfl
  | succ k ih => simp only [num]; rw [ih (fun i hi => h i (by omega)), h k (by omega)]
theorem hdF_lo (l t f x : Int) (i : Nat) (h : i < 3) : hdF l t f x i = putF 0 (oneF 0) 3 l i := by
  have h4 : i < 4 := by omega
  have h5 : i < 5 := by omega
  simp [hdF, putF, catF, h, h4, h5]
theorem hdF_3 (l t f x : Int) : hdF l t f x 3 = t % 256 := by simp [hdF, putF, catF, byteAt]
theorem hdF_4 (l t f x : Int) : hdF l t f x 4 = f % 256 := by simp [hdF, putF, catF, byteAt]
theorem hdF_hi (l t f x : Int) (i : Nat) : hdF l t f x (5 + i) = putF 0 (oneF 0) 4 x i := by
  have h : ¬ (5 + i < 5) := by omega
  have e : 5 + i - 5 = i := by omega
  simp [hdF, putF, catF, h, e]
theorem hdF_byt (l t f x : Int) : Byt 9 (hdF l t f x) := by
  intro i hi
  have : i < 3 ∨ i = 3 ∨ i = 4 ∨ ∃ j, i = 5 + j := by
    by_cases h : i < 3
    · exact .inl h
    · by_cases h3 : i = 3
      · exact .inr (.inl h3)
      · by_cases h4 : i = 4
        · exact .inr (.inr (.inl h4))
        · exact .inr (.inr (.inr ⟨i - 5, by omega⟩))
  rcases this with h | rfl | rfl | ⟨j, rfl⟩
  · rw [hdF_lo _ _ _ _ _ h]; exact byteAt_byt l 3 0 (oneF 0) i (by omega)
  · rw [hdF_3]; omega
  · rw [hdF_4]; omega
  · rw [hdF_hi]; exact byteAt_byt x 4 0 (oneF 0) j (by omega)
theorem gL_hd (l t f x : Int) (h0 : 0 ≤ l) (h1 : l ≤ 16777215) : gL (hdF l t f x) = l := by
  unfold gL
  rw [num_congr (g := putF 0 (oneF 0) 3 l) (fun i hi => hdF_lo _ _ _ _ _ hi)]
  exact num_putN l 3 _ (by omega) (by omega) h0 (by have : pw (3 : Nat) = 16777216 := by decide
                                                    omega)
theorem gT_hd (l t f x : Int) (h0 : 0 ≤ t) (h1 : t ≤ 255) : gT (hdF l t f x) = t := by rw [gT_eq, hdF_3]; omega
theorem gF_hd (l t f x : Int) (h0 : 0 ≤ f) (h1 : f ≤ 255) : gF (hdF l t f x) = f := by rw [gF_eq, hdF_4]; omega
theorem gX_hd (l t f x : Int) (h0 : 0 ≤ x) (h1 : x < pw 4) : gX (hdF l t f x) = x := by
  unfold gX
  rw [num_congr (g := putF 0 (oneF 0) 4 x) (fun i _ => hdF_hi _ _ _ _ i)]
  exact num_putN x 4 _ (by omega) (by omega) h0 h1
theorem low_hd (s : Int) (r : Bool) (h0 : 0 ≤ s) (h1 : s ≤ 2147483647) : lowN (hdX s r) = s ∧ lowB (hdX s r) = r := by
  unfold hdX lowN lowB
  cases r
  · simp; omega
  · simp; omega
theorem hd_back {n : Nat} {f : Nat → Int} (hb : Byt n f) (h : 9 ≤ n) : ∀ i, i < 9 → hdF (gL f) (f 3) (f 4) (gX f) i = f i := by
  intro i hi
  have : i < 3 ∨ i = 3 ∨ i = 4 ∨ ∃ j, i = 5 + j := by
    by_cases h : i < 3
    · exact .inl h
    · by_cases h3 : i = 3
      · exact .inr (.inl h3)
      · by_cases h4 : i = 4
        · exact .inr (.inr (.inl h4))
        · exact .inr (.inr (.inr ⟨i - 5, by omega⟩))
  rcases this with h | rfl | rfl | ⟨j, rfl⟩
  · rw [hdF_lo _ _ _ _ _ h]
    exact put_num 3 n f (oneF 0) hb (by omega) (by omega) (by omega) i (by simpa using h)
  · rw [hdF_3]; have := hb 3 (by omega); omega
  · rw [hdF_4]; have := hb 4 (by omega); omega
  · rw [hdF_hi]
    have hb5 : Byt (n - 5) (fun i => f (5 + i)) := fun i hi => hb (5 + i) (by omega)
    exact put_num 4 (n - 5) (fun i => f (5 + i)) (oneF 0) hb5 (by omega) (by omega) (by omega) j (by simp; omega)
theorem gX_bd {n : Nat} {f : Nat → Int} (hb : Byt n f) (h : 9 ≤ n) : 0 ≤ gX f ∧ gX f < 4294967296 := by
  have hb5 : Byt (n - 5) (fun i => f (5 + i)) := fun i hi => hb (5 + i) (by omega)
  have := num_bd hb5 4 (by omega) (by omega)
  exact ⟨this.1, by have := this.2; simpa [gX] using this⟩
theorem hdR_get {n : Nat} {f : Nat → Int} (hb : Byt n f) (h : 9 ≤ n) : HdR (gL f) (f 3) (f 4) (lowN (gX f)) := by
  have h3 := num_bd hb 3 (by omega) (by omega)
  have e3 := hb 3 (by omega)
  have e4 := hb 4 (by omega)
  have l := low_bd (gX f)
  have h32 := h3.2
  simp at h32
  refine ⟨⟨h3.1, ?_⟩, e3, e4, l.1, by omega⟩
  show num f 3 ≤ 16777215
  omega
theorem hdX_low {x : Int} (h0 : 0 ≤ x) (h1 : x < 4294967296) : hdX (lowN x) (lowB x) = x := low_back x h0 h1

abbrev cs5 (l t f s : Int) (r : Bool) : Array Value := #[.int .i64 l, .int .i64 t, .int .i64 f, .int .i64 s, .bool r]

set_option maxHeartbeats 3200000 in
theorem hputs_no (l t f s : Int) (r : Bool) (w : World) (h : ¬ HdR l t f s) : Calls Try.prog 5 #[.agg #[.int .i64 l, .int .i64 t, .int .i64 f, .int .i64 s, .bool r]] w (Yes w) := by
  have H := hide h
  clear h
  have Ra := hide (keepRow (heap_alloc_new w (.cells #[.int .i64 l, .int .i64 t, .int .i64 f, .int .i64 s, .bool r] 47)) ((Below.refl _ _).alloc (Nat.le_refl _) (.cells #[.int .i64 l, .int .i64 t, .int .i64 f, .int .i64 s, .bool r] 48)))
  have Rb := hide (heap_alloc_new (w.alloc (.cells #[.int .i64 l, .int .i64 t, .int .i64 f, .int .i64 s, .bool r] 47)) (.cells #[.int .i64 l, .int .i64 t, .int .i64 f, .int .i64 s, .bool r] 48))
  go_enter Try.func5, Try.ntmps5
  go_wp2_with fail
  refine (hput_no l t f s r _ H.out).mono ?_
  rintro e w1 ⟨rfl, hb1⟩
  have Ra1 := hide (keepRow Ra.out hb1)
  have Rb1 := hide (keepRow Rb.out hb1)
  have hB1 := hide ((((Below.refl w.heap.size w).alloc (Nat.le_refl _) _).alloc (by simp) _).of hb1)
  clear hb1 Ra Rb
  obtain ⟨a0, a1, a2, a3, a4⟩ := row5 Ra1.out
  have hlb := rowLt Rb1.out
  have hsz : (w.alloc (.cells #[.int .i64 l, .int .i64 t, .int .i64 f, .int .i64 s, .bool r] 47)).heap.size = w.heap.size + 1 := by simp
  rw [hsz] at Rb1 hlb
  clear hsz
  obtain ⟨b0, b1, b2, b3, b4⟩ := row5 Rb1.out
  have na : w1.heap.size ≠ w.heap.size := by omega
  have nb : w1.heap.size ≠ w.heap.size + 1 := by omega
  have na' : w1.heap.size + 1 ≠ w.heap.size := by omega
  have nb' : w1.heap.size + 1 ≠ w.heap.size + 1 := by omega
  go_wp2_with fail
  go_region_held3 (fun w' : World => w'.cell? ⟨w.heap.size, 0, none⟩ = some (.int .i64 l) ∧ w'.cell? ⟨w.heap.size, 1, none⟩ = some (.int .i64 t) ∧ w'.cell? ⟨w.heap.size, 2, none⟩ = some (.int .i64 f) ∧ w'.cell? ⟨w.heap.size, 3, none⟩ = some (.int .i64 s) ∧ w'.cell? ⟨w.heap.size, 4, none⟩ = some (.bool r) ∧ w'.cell? ⟨w.heap.size + 1, 0, none⟩ = some (.int .i64 l) ∧ w'.cell? ⟨w.heap.size + 1, 1, none⟩ = some (.int .i64 t) ∧ w'.cell? ⟨w.heap.size + 1, 2, none⟩ = some (.int .i64 f) ∧ w'.cell? ⟨w.heap.size + 1, 3, none⟩ = some (.int .i64 s) ∧ w'.cell? ⟨w.heap.size + 1, 4, none⟩ = some (.bool r)) (go_keep)
    (first | (go_at_call 25; refine (hright_noX l t f s r _ H.out).mono ?_; rintro e w' ⟨rfl, rfl⟩) | (go_at_call 26; refine (rright_noX l t f s r _ H.out).mono ?_; rintro e w' ⟨rfl, rfl⟩))
  all_goals
    go_wp2_with fail
    refine (rright_noX l t f s r _ H.out).mono ?_
    rintro e w' ⟨rfl, rfl⟩
    go_wp2_with fail
    refine (alive7 _).mono ?_
    rintro e w4 ⟨rfl, hb4⟩
    go_wp2_with fail
    go_ret
    refine ⟨rfl, Below.of ?_ hb4⟩
    repeat (first | exact hB1.out | refine Below.drew ?_ | refine Below.alloc ?_ (by first | omega | (simp; omega)) _)

set_option maxHeartbeats 6400000 in
theorem hputs_yes (l t f s : Int) (r : Bool) (w : World) (h : HdR l t f s) : Calls Try.prog 5 #[.agg #[.int .i64 l, .int .i64 t, .int .i64 f, .int .i64 s, .bool r]] w (Yes w) := by
  have H := hide h
  have Hx := hide (hdX_bd r h.2.2.2.1 h.2.2.2.2)
  have E := hide (And.intro (gL_hd l t f (hdX s r) h.1.1 h.1.2) (And.intro (gT_hd l t f (hdX s r) h.2.1.1 h.2.1.2) (And.intro (gF_hd l t f (hdX s r) h.2.2.1.1 h.2.2.1.2) (And.intro (gX_hd l t f (hdX s r) Hx.out.1 Hx.out.2) (low_hd s r h.2.2.2.1 h.2.2.2.2)))))
  have Hby := hide (hdF_byt l t f (hdX s r))
  clear h
  have Ra := hide (keepRow (heap_alloc_new w (.cells #[.int .i64 l, .int .i64 t, .int .i64 f, .int .i64 s, .bool r] 47)) ((Below.refl _ _).alloc (Nat.le_refl _) (.cells #[.int .i64 l, .int .i64 t, .int .i64 f, .int .i64 s, .bool r] 48)))
  have Rb := hide (heap_alloc_new (w.alloc (.cells #[.int .i64 l, .int .i64 t, .int .i64 f, .int .i64 s, .bool r] 47)) (.cells #[.int .i64 l, .int .i64 t, .int .i64 f, .int .i64 s, .bool r] 48))
  go_enter Try.func5, Try.ntmps5
  go_wp2_with fail
  refine (hput_yes l t f s r _ H.out).mono ?_
  rintro e w1 ⟨A1, k1, rfl, ho1, hb1⟩
  have Ho1 := hide ho1.rdS
  have Ra1 := hide (keepRow Ra.out hb1)
  have Rb1 := hide (keepRow Rb.out hb1)
  have hB1 := hide ((((Below.refl w.heap.size w).alloc (Nat.le_refl _) _).alloc (by simp) _).of hb1)
  clear hb1 Ra Rb ho1
  obtain ⟨a0, a1, a2, a3, a4⟩ := row5 Ra1.out
  have hlb := rowLt Rb1.out
  have hsz : (w.alloc (.cells #[.int .i64 l, .int .i64 t, .int .i64 f, .int .i64 s, .bool r] 47)).heap.size = w.heap.size + 1 := by simp
  rw [hsz] at Rb1 hlb
  clear hsz
  obtain ⟨b0, b1, b2, b3, b4⟩ := row5 Rb1.out
  have na : w1.heap.size ≠ w.heap.size := by omega
  have nb : w1.heap.size ≠ w.heap.size + 1 := by omega
  have na' : w1.heap.size + 1 ≠ w.heap.size := by omega
  have nb' : w1.heap.size + 1 ≠ w.heap.size + 1 := by omega
  go_wp2_with fail
  go_region_held3 (fun w' : World => w'.cell? ⟨w.heap.size, 0, none⟩ = some (.int .i64 l) ∧ w'.cell? ⟨w.heap.size, 1, none⟩ = some (.int .i64 t) ∧ w'.cell? ⟨w.heap.size, 2, none⟩ = some (.int .i64 f) ∧ w'.cell? ⟨w.heap.size, 3, none⟩ = some (.int .i64 s) ∧ w'.cell? ⟨w.heap.size, 4, none⟩ = some (.bool r) ∧ w'.cell? ⟨w.heap.size + 1, 0, none⟩ = some (.int .i64 l) ∧ w'.cell? ⟨w.heap.size + 1, 1, none⟩ = some (.int .i64 t) ∧ w'.cell? ⟨w.heap.size + 1, 2, none⟩ = some (.int .i64 f) ∧ w'.cell? ⟨w.heap.size + 1, 3, none⟩ = some (.int .i64 s) ∧ w'.cell? ⟨w.heap.size + 1, 4, none⟩ = some (.bool r)) (go_keep)
    (first | (go_at_call 25; refine (hright_yesX l t f s r _ H.out).mono ?_; rintro e w' ⟨rfl, rfl⟩) | (go_at_call 26; refine (rright_yesX l t f s r _ H.out).mono ?_; rintro e w' ⟨rfl, rfl⟩))
  all_goals
    go_wp2_with fail
    refine (rright_yesX l t f s r _ H.out).mono ?_
    rintro e w' ⟨rfl, rfl⟩
    generalize hw2 : World.alloc _ _ = w2
    have hb2 : Hid (Below w1.heap.size w1 w2) := by
      subst hw2
      repeat (first | exact Below.refl _ _ | refine Below.drew ?_ | refine Below.alloc ?_ (by first | omega | (simp; omega) | simp) _)
    clear hw2
    have Ra2 := hide (keepRow Ra1.out hb2.out)
    have Rb2 := hide (keepRow Rb1.out hb2.out)
    have hB2 := hide (hB1.out.of hb2.out)
    have Ho2 := hide (Ho1.out.below hb2.out)
    have hs2 := hb2.out.size
    clear hb2 a0 a1 a2 a3 a4 b0 b1 b2 b3 b4 na nb na' nb'
    go_wp2_with fail
    refine (hget_ok A1 9 k1 _ _ Ho2.out Hby.out (Nat.le_refl _)).mono ?_
    rintro e w3 ⟨rfl, hb3⟩
    rw [E.out.1, E.out.2.1, E.out.2.2.1, E.out.2.2.2.1, E.out.2.2.2.2.1, E.out.2.2.2.2.2]
    have Ra3 := hide (keepRow Ra2.out hb3)
    have Rb3 := hide (keepRow Rb2.out hb3)
    have hB3 := hide (hB2.out.of hb3)
    have Ho3 := hide (Ho2.out.below hb3)
    have hs3 := hb3.size
    clear hb3 Ra2 Rb2 hB2
    obtain ⟨a0, a1, a2, a3, a4⟩ := row5 Ra3.out
    obtain ⟨b0, b1, b2, b3, b4⟩ := row5 Rb3.out
    have na : w.heap.size ≠ w3.heap.size := by omega
    have nb : w.heap.size + 1 ≠ w3.heap.size := by omega
    obtain ⟨d0, d1, d2, d3, d4⟩ := row5 (keepRow Ra3.out ((Below.refl w3.heap.size w3).alloc (Nat.le_refl _) (.cells #[.int .i64 l, .int .i64 t, .int .i64 f, .int .i64 s, .bool r] 48)))
    go_wp2_with fail
    refine (hrput l t f s r _ H.out).mono ?_
    rintro e w4 ⟨A4, k4, rfl, ho4, hb4⟩
    have Ho4 := hide ho4.rdS
    have R3 := hide (keepRow (heap_alloc_new w3 (.cells #[.int .i64 l, .int .i64 t, .int .i64 f, .int .i64 s, .bool r] 48)) hb4)
    have hbb := hide (Below.of ((Below.refl w3.heap.size w3).alloc (Nat.le_refl _) (.cells #[.int .i64 l, .int .i64 t, .int .i64 f, .int .i64 s, .bool r] 48)) hb4)
    have Rb4 := hide (keepRow Rb3.out hbb.out)
    have hB4 := hide (hB3.out.of hbb.out)
    have Ho5 := hide (Ho3.out.below hbb.out)
    clear hb4 ho4 a0 a1 a2 a3 a4 b0 b1 b2 b3 b4 d0 d1 d2 d3 d4
    go_wp2_with fail
    refine (rsame_yes A1 A4 9 k1 k4 _ _ _ Ho5.out Ho4.out (fun _ _ => rfl)).mono ?_
    rintro e w5 ⟨rfl, hd5⟩
    have hb5 := hide (drawn_below hd5 w4.heap.size)
    obtain ⟨b0, b1, b2, b3, b4⟩ := row5 (keepRow Rb4.out hb5.out)
    obtain ⟨c0, c1, c2, c3, c4⟩ := row5 (keepRow R3.out hb5.out)
    have hB5 := hide (hB4.out.of hb5.out)
    clear hd5
    go_wp2_with fail
    refine (alive7 _).mono ?_
    rintro e w6 ⟨rfl, hb6⟩
    go_wp2_with fail
    go_ret
    exact ⟨rfl, hB5.out.of hb6⟩
end Go.Proofs.Ytfgifdgbhikegaa
