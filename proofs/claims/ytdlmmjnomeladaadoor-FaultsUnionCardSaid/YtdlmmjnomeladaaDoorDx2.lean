/- Layer 3: the texts of many numbers, both sides. -/
import Derived.Test.YtdlmmjnomeladaaDoorDx1
import Derived.Test.YtdlmmjnomeladaaDoorMK
import Derived.Test.YtdlmmjnomeladaaDoorMJ
namespace Go.Proofs.YtdlmmjnomeladaaDoor
set_option linter.unusedVariables false
set_option linter.unusedSimpArgs false
open Go.RowKit Go.PlainAid

def upS (k : Nat) (f : Nat → Int) (i : Nat) : Value := .string (if i < k then intS (f i) else ⟨#[]⟩)
theorem madeS (n : Nat) (f : Nat → Int) : (madeCells (Value.string ⟨#[]⟩).cells (n * 1)).toList = rowV (n * 1) (upS 0 f) := by
  simp only [madeCells, rowV, Array.toList_map, Array.toList_range, Value.cells]
  refine List.map_congr_left fun i _ => ?_
  simp [upS, Nat.mod_one]
def I64F (n : Nat) (f : Nat → Int) : Prop := ∀ i, i < n → -9223372036854775808 ≤ f i ∧ f i ≤ 9223372036854775807
set_option maxRecDepth 20000 in
set_option maxHeartbeats 3200000 in
theorem list03 (A : Option Addr) (n c : Nat) (f : Nat → Int) (w : World) (h : Rd .i64 w A n c f) (hb : I64F n f) (hn : n ≤ 1000) (hp : PowW w) :
    Calls Tryd.prog 41 #[.slice A n c] w fun e w' => e = .returned (.string (jnS ⟨#[44]⟩ (itL f n))) ∧ Below w.heap.size w w' := by
  obtain ⟨i0, hi, hz0, hz1, hz2⟩ := info_parts str_info
  have HR := hide h
  have HP := hide hp
  have HB := hide hb
  have Hn := hide hn
  have Hm : Hid (n ≤ maxLen) := by unfold Hid; simp only [maxLen]; omega
  have h63 : n ≤ 9223372036854775807 := by omega
  clear h hp hb hn
  go_enter Tryd.func41, Tryd.ntmps41
  go_wp2_with (at_make; refine wp_mkV rfl _ _ _ rfl 1 i0 _ 16 Tryd.underlying33 hi hz0 hz1 hz2 (upS 0 f) w.heap.size _ _ _ _ n rfl rfl rfl rfl (madeS n f) (by have := Hn.out; omega) Hm.out (Nat.le_refl _) ?_; intro w2 hown2 hg2 hs2)
  have HO2 := hide hown2
  have HB2 := hide ((Below.refl w.heap.size w).grown hg2 (Nat.le_refl _) (fun k e => by cases e))
  clear hown2 hg2 hs2
  go_wp2_with fail
  go_loopw [4, 5, 11] (fun _ _ i wr => ∃ k : Nat, k ≤ n ∧ i = .int .i64 k ∧ OwnV 1 9 w.heap.size wr (.slice (some ⟨w.heap.size, 0, none⟩) n n) n (upS k f) ∧ Below w.heap.size w wr) (fun _ _ i _ => n - (intOf i).toNat)
  case atStart => exact ⟨0, Nat.zero_le _, rfl, HO2.out, HB2.out⟩
  case round =>
    obtain ⟨k, hk, rfl, hO, hB⟩ := hrel
    have HO := hide hO
    have HBk := hide hB
    clear hO hB HO2 HB2
    by_cases hlt : k < n
    · obtain ⟨b, off, rfl, hc0⟩ := (HR.out.below HBk.out).at_ hlt
      obtain ⟨t0, t1⟩ := HB.out k hlt
      have HT := hide (dtextI (f k) t0 t1 wr (HP.out.below HBk.out))
      obtain ⟨t, ht⟩ : ∃ t, f k = t := ⟨_, rfl⟩
      have Ht := hide ht
      rw [ht] at hc0 HT
      clear ht t0 t1
      go_wp2_with fail
      refine HT.out.mono ?_
      rintro e w3 ⟨rfl, hb3⟩
      have HB3 := hide (HBk.out.of hb3)
      have HO3 := hide (HO.out.below hb3)
      have c1 := HO3.out.cell (j := k) (by omega)
      have c2 := HO3.out.frozen k
      have HO4 : Hid (OwnV 1 9 w.heap.size (w3.setCell ⟨w.heap.size, k, none⟩ (.string (intS t))) (.slice (some ⟨w.heap.size, 0, none⟩) n n) n (upS (k + 1) f)) := (HO3.out.set k _).congr (fun i hi => by
        unfold setV upS
        by_cases e : i = k
        · subst e
          rw [if_pos rfl, if_pos (by omega), Ht.out]
        · rw [if_neg e]
          by_cases e2 : i < k
          · rw [if_pos e2, if_pos (by omega)]
          · rw [if_neg e2, if_neg (by omega)])
      have HB4 : Hid (Below w.heap.size w (w3.setCell ⟨w.heap.size, k, none⟩ (.string (intS t)))) := HB3.out.setCell (p := ⟨w.heap.size, k, none⟩) (Nat.le_refl _) _
      clear hb3
      go_wp2_with fail
      exact ⟨⟨k + 1, by omega, rfl, HO4.out, HB4.out⟩, by simp [intOf]; omega⟩
    · obtain rfl : k = n := by omega
      have hj := hide (Tryd.strings_Join w.heap.size 0 k (itL f k) ⟨#[44]⟩ wr (fun j x hx => by
        have hj : j < k := by
          have := (List.getElem?_eq_some_iff.1 hx).1
          rwa [itL_len] at this
        rw [itL_at f hj] at hx
        cases hx
        have := HO.out.cell (j := j) (by omega)
        rw [Nat.zero_add, this]
        unfold upS
        rw [if_pos hj]) (by have := (World.ownsRow.lt HO.out w.heap.size rfl).2; exact this) (by rw [itL_len]; have := Hn.out; omega) (by rw [itL_len]; exact Nat.le_refl _)
        (by
          have h1 := itL_bd HB.out ⟨#[44]⟩
          have h2 : (jnS ⟨#[44]⟩ (itL f k)).size = (Lib.join ((itL f k).map (·.data.toList)) [44]).length := by
            unfold jnS
            show (Lib.join _ _).toArray.size = _
            rw [List.size_toArray]
          rw [h2] at h1
          have h3 : (⟨#[44]⟩ : ByteArray).size = 1 := rfl
          rw [h3] at h1
          have := Hn.out
          refine Nat.le_trans h1 ?_
          omega))
      rw [itL_len] at hj
      have hj2 : Hid (Calls Tryd.prog 88 #[.slice (some ⟨w.heap.size, 0, none⟩) k k, .string ⟨#[44]⟩] wr fun e w' => e = .returned (.string (jnS ⟨#[44]⟩ (itL f k))) ∧ Below wr.heap.size wr w') := hj
      clear hj
      obtain ⟨y, hy⟩ : ∃ y, jnS ⟨#[44]⟩ (itL f k) = y := ⟨_, rfl⟩
      rw [hy] at hj2
      have HY := hide hy
      clear hy
      go_wp2_with fail
      refine hj2.out.mono ?_
      rintro e w3 ⟨rfl, hb3⟩
      go_wp2_with fail
      go_ret
      exact ⟨by rw [HY.out]; rfl, HBk.out.of hb3⟩
theorem catR {a b y : ByteArray} (hc : a ++ b = y) (hs : a.size + b.size ≤ 9223372036854775807) : ∀ W, (Op.stringOp .add a b).run Tryd.prog W = .ok (.string y) W := fun W => by
  rw [run_string_add_sum W a b hs, hc]
theorem jn_first (f : Nat → Int) : jnS ⟨#[44]⟩ (itL f 1) = intS (f 0) := by
  show jnS _ [intS (f 0)] = _
  rw [jnS_one]
theorem jn_next {f : Nat → Int} {k : Nat} (h : 0 < k) : jnS ⟨#[44]⟩ (itL f (k + 1)) = jnS ⟨#[44]⟩ (itL f k) ++ ⟨#[44]⟩ ++ intS (f k) := by
  rw [itL_succ, jnS_snoc _ (fun e => by have := congrArg List.length e; rw [itL_len] at this; simp at this; omega)]
set_option maxRecDepth 20000 in
set_option maxHeartbeats 1600000 in
theorem rlist03 (A : Option Addr) (n c : Nat) (f : Nat → Int) (w : World) (h : Rd .i64 w A n c f) (hb : I64F n f) (hn : n ≤ 1000) :
    Calls Tryd.prog 44 #[.slice A n c] w fun e w' => e = .returned (.string (jnS ⟨#[44]⟩ (itL f n))) ∧ Below w.heap.size w w' := by
  have HR := hide h
  have HB := hide hb
  have Hn := hide hn
  have h63 : n ≤ 9223372036854775807 := by omega
  clear h hb hn
  go_enter Tryd.func44, Tryd.ntmps44
  go_wp2_with fail
  go_loopw [3, 4] (fun s i wr => ∃ (k : Nat) (y : ByteArray), k ≤ n ∧ i = .int .i64 k ∧ s = .string y ∧ jnS ⟨#[44]⟩ (itL f k) = y ∧ Below w.heap.size w wr) (fun _ i _ => n - (intOf i).toNat)
  case atStart => exact ⟨0, ⟨#[]⟩, Nat.zero_le _, rfl, rfl, rfl, Below.refl _ _⟩
  case round =>
    obtain ⟨k, y, hk, rfl, rfl, hy, hB⟩ := hrel
    have HBk := hide hB
    have HY := hide hy
    clear hB hy
    by_cases hlt : k < n
    · obtain ⟨b, off, rfl, hc0⟩ := (HR.out.below HBk.out).at_ hlt
      obtain ⟨t0, t1⟩ := HB.out k hlt
      obtain ⟨t, ht⟩ : ∃ t, f k = t := ⟨_, rfl⟩
      have Ht := hide ht
      rw [ht] at hc0 t0 t1
      have HT := hide (rtextI t t0 t1)
      clear ht
      obtain ⟨z, hz⟩ : ∃ z, intS t = z := ⟨_, rfl⟩
      have Hz := hide hz
      have HT2 : Hid (∀ W, Calls Tryd.prog 36 #[.int .i64 t] W fun e w' => e = .returned (.string z) ∧ Drawn W w') := fun W => by
        rw [← Hz.out]
        exact HT.out W
      have z0 : y.size ≤ 21000 := by
        rw [← HY.out]
        have h2 := itL_bd (f := f) (k := k) (fun i hi => HB.out i (by omega)) ⟨#[44]⟩
        have h3 := Hn.out
        refine Nat.le_trans h2 ?_
        show k * 21 ≤ 21000
        omega
      have z2 : z.size ≤ 20 := by
        rw [← Hz.out]
        exact (intS_size t0 t1).2
      clear HT hz t0 t1
      by_cases h0 : 0 < k
      · have d1 : decide ((0 : Int) < (k : Int)) = true := decide_eq_true (by omega)
        have d2 : decide (0 < k) = true := decide_eq_true h0
        obtain ⟨y1, hy1⟩ : ∃ y1, y ++ ⟨#[44]⟩ = y1 := ⟨_, rfl⟩
        obtain ⟨y2, hy2⟩ : ∃ y2, y1 ++ z = y2 := ⟨_, rfl⟩
        have hcat : Hid (jnS ⟨#[44]⟩ (itL f (k + 1)) = y2) := by
          unfold Hid
          rw [jn_next h0, HY.out, Ht.out, Hz.out, hy1, hy2]
        have z1 : y1.size = y.size + 1 := by rw [← hy1]; simp; rfl
        have u1 := catR hy1 (by have h1 : (⟨#[44]⟩ : ByteArray).size = 1 := rfl; omega)
        have u2 := catR hy2 (by omega)
        have u3 : ¬ (y.size + 1 > 9223372036854775807) := by omega
        have u4 : ¬ (y1.size + z.size > 9223372036854775807) := by omega
        clear hy1 hy2 z1
        clear h0
        go_wp2_with fail
        refine (HT2.out _).mono ?_
        rintro e w3 ⟨rfl, q3, rfl⟩
        go_wp2_with fail
        exact ⟨⟨k + 1, y2, by omega, rfl, rfl, hcat.out, HBk.out.trans (drawn_below ⟨q3, rfl⟩ _)⟩, by simp [intOf]; omega⟩
      · obtain rfl : k = 0 := by omega
        obtain ⟨y2, hy2⟩ : ∃ y2, y ++ z = y2 := ⟨_, rfl⟩
        have hcat : Hid (jnS ⟨#[44]⟩ (itL f (0 + 1)) = y2) := by
          unfold Hid
          rw [jn_first, Ht.out, Hz.out, ← hy2, ← HY.out]
          apply data_eq
          rw [cat_data]
          rfl
        have u2 := catR hy2 (by omega)
        have u4 : ¬ (y.size + z.size > 9223372036854775807) := by omega
        rw [Nat.add_zero] at hc0
        clear hy2
        clear h0
        go_wp2_with fail
        refine (HT2.out _).mono ?_
        rintro e w3 ⟨rfl, q3, rfl⟩
        go_wp2_with fail
        exact ⟨⟨0 + 1, y2, by omega, rfl, rfl, hcat.out, HBk.out.trans (drawn_below ⟨q3, rfl⟩ _)⟩, by simp [intOf]; omega⟩
    · obtain rfl : k = n := by omega
      go_wp2_with fail
      go_ret
      exact ⟨by rw [HY.out]; rfl, HBk.out⟩
end Go.Proofs.YtdlmmjnomeladaaDoor
