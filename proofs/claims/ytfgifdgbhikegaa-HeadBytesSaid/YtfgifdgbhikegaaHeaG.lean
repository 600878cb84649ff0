/- Layer 7: the walk of HeadGets; HeadPuts together. -/
import Derived.Test.YtfgifdgbhikegaaHeaW
namespace Go.Proofs.Ytfgifdgbhikegaa
open Go.RowKit

theorem hputs_walk (l t f s : Int) (r : Bool) (w : World) : Calls Try.prog 5 #[.agg #[.int .i64 l, .int .i64 t, .int .i64 f, .int .i64 s, .bool r]] w (Yes w) := by
  by_cases h : HdR l t f s
  · exact hputs_yes l t f s r w h
  · exact hputs_no l t f s r w h

set_option maxHeartbeats 3200000 in
theorem hgets_long (A : Option Addr) (n c : Nat) (w : World) (h : 500 < n) : Calls Try.prog 6 #[.slice A n c] w (Yes w) := by
  have hd : decide ((500 : Int) < (n : Int)) = true := by simp; omega
  go_enter Try.func6, Try.ntmps6
  go_wp2_with fail
  refine (alive7 _).mono ?_
  rintro e w4 ⟨rfl, hb4⟩
  go_wp2_with fail
  go_ret
  exact ⟨rfl, hb4⟩
set_option maxHeartbeats 3200000 in
theorem hgets_short (A : Option Addr) (n c : Nat) (w : World) (h : n < 9) : Calls Try.prog 6 #[.slice A n c] w (Yes w) := by
  have hd : decide ((500 : Int) < (n : Int)) = false := by simp; omega
  go_enter Try.func6, Try.ntmps6
  go_wp2_with fail
  refine (hget_short A n c _ h).mono ?_
  rintro e w1 ⟨rfl, hb1⟩
  have hB1 := hide hb1
  clear hb1
  have R1 := hide (heap_alloc_new w1 (.cells #[.int .i64 0, .int .i64 0, .int .i64 0, .int .i64 0, .bool false] 48))
  go_wp2_with fail
  refine (rhget_short A n c _ h).mono ?_
  rintro e w2 ⟨rfl, hb2⟩
  have R2 := hide (keepRow R1.out hb2)
  have hB2 := hide ((hB1.out.alloc hB1.out.size (.cells #[.int .i64 0, .int .i64 0, .int .i64 0, .int .i64 0, .bool false] 48)).of hb2)
  have hs := rowLt R2.out
  have hs0 := hB1.out.size
  clear hb2 R1
  obtain ⟨a0, a1, a2, a3, a4⟩ := row5 R2.out
  have na : w2.heap.size ≠ w1.heap.size := by omega
  have na1 : w2.heap.size + 1 ≠ w1.heap.size := by omega
  have na2 : w2.heap.size + 2 ≠ w1.heap.size := by omega
  obtain ⟨d0, d1, d2, d3, d4⟩ := row5 (keepRow R2.out ((Below.refl w2.heap.size w2).alloc (Nat.le_refl _) (.cells #[.int .i64 0, .int .i64 0, .int .i64 0, .int .i64 0, .bool false] 47)))
  go_wp2_with fail
  go_region_held3 (fun w' : World => w'.cell? ⟨w1.heap.size, 0, none⟩ = some (.int .i64 0) ∧ w'.cell? ⟨w1.heap.size, 1, none⟩ = some (.int .i64 0) ∧ w'.cell? ⟨w1.heap.size, 2, none⟩ = some (.int .i64 0) ∧ w'.cell? ⟨w1.heap.size, 3, none⟩ = some (.int .i64 0) ∧ w'.cell? ⟨w1.heap.size, 4, none⟩ = some (.bool false) ∧ w'.cell? ⟨w2.heap.size, 0, none⟩ = some (.int .i64 0) ∧ w'.cell? ⟨w2.heap.size, 1, none⟩ = some (.int .i64 0) ∧ w'.cell? ⟨w2.heap.size, 2, none⟩ = some (.int .i64 0) ∧ w'.cell? ⟨w2.heap.size, 3, none⟩ = some (.int .i64 0) ∧ w'.cell? ⟨w2.heap.size, 4, none⟩ = some (.bool false)) (go_keep)
    ((go_at_call 32; refine (hown _ _ _ _ _ _).mono ?_; rintro e w' ⟨rfl, rfl⟩))
  all_goals
    go_wp2_with fail
    refine (alive7 _).mono ?_
    rintro e w4 ⟨rfl, hb4⟩
    go_wp2_with fail
    go_ret
    refine ⟨rfl, Below.of ?_ hb4⟩
    repeat (first | exact hB2.out | refine Below.drew ?_ | refine Below.alloc ?_ (by first | omega | (simp; omega)) _)

set_option maxHeartbeats 6400000 in
theorem hgets_ok (A : Option Addr) (n c : Nat) (f : Nat → Int) (w : World) (ha : Rd .u8 w A n c f) (hb : Byt n f) (h9 : 9 ≤ n) (h : n ≤ 500) : Calls Try.prog 6 #[.slice A n c] w (Yes w) := by
  have hd : decide ((500 : Int) < (n : Int)) = false := by simp; omega
  have hnc := ha.1
  have Ha := hide ha
  have Hb := hide hb
  have hcut : ∀ W, (Instr.slice 49 (.slice A n c) none (some (.int .i64 9)) none).run Try.prog W = .ok (.slice (cutA A c 0) 9 c) W := fun W => bytes_cut_h A n c 9 (by omega) W
  obtain ⟨l, hl⟩ : ∃ l, gL f = l := ⟨_, rfl⟩
  obtain ⟨t, ht⟩ : ∃ t, f 3 = t := ⟨_, rfl⟩
  obtain ⟨u, hu⟩ : ∃ u, f 4 = u := ⟨_, rfl⟩
  obtain ⟨s, hs⟩ : ∃ s, lowN (gX f) = s := ⟨_, rfl⟩
  obtain ⟨r, hr⟩ : ∃ r, lowB (gX f) = r := ⟨_, rfl⟩
  have H : Hid (HdR l t u s) := by
    have := hdR_get hb h9
    rw [hl, ht, hu, hs] at this
    exact this
  have Hk : Hid (∀ i, i < 9 → hdF l t u (hdX s r) i = f i) := by
    have e := hdX_low (gX_bd hb h9).1 (gX_bd hb h9).2
    have h2 := hd_back hb h9
    rw [hs, hr] at e
    rw [hl, ht, hu, ← e] at h2
    exact h2
  have E := hide (And.intro hl (And.intro ht (And.intro hu (And.intro hs hr))))
  clear ha hb hl ht hu hs hr
  go_enter Try.func6, Try.ntmps6
  go_wp2_with fail
  refine (hget_ok A n c f _ Ha.out Hb.out h9).mono ?_
  rintro e w1 ⟨rfl, hb1⟩
  rw [gT_eq, gF_eq, E.out.1, E.out.2.1, E.out.2.2.1, E.out.2.2.2.1, E.out.2.2.2.2]
  have hB1 := hide hb1
  clear hb1
  have R1 := hide (heap_alloc_new w1 (.cells #[.int .i64 l, .int .i64 t, .int .i64 u, .int .i64 s, .bool r] 48))
  go_wp2_with fail
  refine (rhget_ok A n c f _ ((Ha.out.below hB1.out).alloc _) Hb.out h9).mono ?_
  rintro e w2 ⟨rfl, hb2⟩
  rw [E.out.1, E.out.2.1, E.out.2.2.1, E.out.2.2.2.1, E.out.2.2.2.2]
  have R2 := hide (keepRow R1.out hb2)
  have hB2 := hide ((hB1.out.alloc hB1.out.size (.cells #[.int .i64 l, .int .i64 t, .int .i64 u, .int .i64 s, .bool r] 48)).of hb2)
  have hs := rowLt R2.out
  have hs0 := hB1.out.size
  clear hb2 R1 hB1
  obtain ⟨a0, a1, a2, a3, a4⟩ := row5 R2.out
  have na : w2.heap.size ≠ w1.heap.size := by omega
  have na1 : w2.heap.size + 1 ≠ w1.heap.size := by omega
  have na2 : w2.heap.size + 2 ≠ w1.heap.size := by omega
  obtain ⟨d0, d1, d2, d3, d4⟩ := row5 (keepRow R2.out ((Below.refl w2.heap.size w2).alloc (Nat.le_refl _) (.cells #[.int .i64 l, .int .i64 t, .int .i64 u, .int .i64 s, .bool r] 47)))
  go_wp2_with fail
  go_region_held3 (fun w' : World => w'.cell? ⟨w1.heap.size, 0, none⟩ = some (.int .i64 l) ∧ w'.cell? ⟨w1.heap.size, 1, none⟩ = some (.int .i64 t) ∧ w'.cell? ⟨w1.heap.size, 2, none⟩ = some (.int .i64 u) ∧ w'.cell? ⟨w1.heap.size, 3, none⟩ = some (.int .i64 s) ∧ w'.cell? ⟨w1.heap.size, 4, none⟩ = some (.bool r) ∧ w'.cell? ⟨w2.heap.size, 0, none⟩ = some (.int .i64 l) ∧ w'.cell? ⟨w2.heap.size, 1, none⟩ = some (.int .i64 t) ∧ w'.cell? ⟨w2.heap.size, 2, none⟩ = some (.int .i64 u) ∧ w'.cell? ⟨w2.heap.size, 3, none⟩ = some (.int .i64 s) ∧ w'.cell? ⟨w2.heap.size, 4, none⟩ = some (.bool r)) (go_keep)
    ((go_at_call 32; refine (hown _ _ _ _ _ _).mono ?_; rintro e w' ⟨rfl, rfl⟩))
  all_goals
    go_wp2_with fail
    refine (hput_yes l t u s r _ H.out).mono ?_
    rintro e w3 ⟨A3, k3, rfl, ho3, hb3⟩
    generalize hW : World.drew _ = W at *
    have hb2 : Hid (Below w2.heap.size w2 W) := by
      subst hW
      repeat (first | exact Below.refl _ _ | refine Below.drew ?_ | refine Below.alloc ?_ (by first | omega | (simp; omega) | simp) _)
    clear hW
    have hB3 := hide (hB2.out.of (hb2.out.of hb3))
    have Ho3 := hide ho3.rdS
    have Ha3 := hide ((Ha.out.below hB3.out).front h9)
    clear hb3 ho3 hb2 a0 a1 a2 a3 a4 d0 d1 d2 d3 d4
    go_wp2_with fail
    refine (rsame_yes A3 _ 9 k3 _ _ _ _ Ho3.out Ha3.out Hk.out).mono ?_
    rintro e w5 ⟨rfl, hd5⟩
    have hb5 := hide (drawn_below hd5 w3.heap.size)
    have hB5 := hide (hB3.out.of hb5.out)
    clear hd5
    go_wp2_with fail
    refine (alive7 _).mono ?_
    rintro e w6 ⟨rfl, hb6⟩
    go_wp2_with fail
    go_ret
    exact ⟨rfl, hB5.out.of hb6⟩
theorem hgets_walk (A : Option Addr) (n c : Nat) (f : Nat → Int) (w : World) (ha : Rd .u8 w A n c f) (hb : Byt n f) : Calls Try.prog 6 #[.slice A n c] w (Yes w) := by
  by_cases h : 500 < n
  · exact hgets_long A n c w h
  · by_cases h9 : n < 9
    · exact hgets_short A n c w h9
    · exact hgets_ok A n c f w ha hb (by omega) (by omega)
end Go.Proofs.Ytfgifdgbhikegaa
