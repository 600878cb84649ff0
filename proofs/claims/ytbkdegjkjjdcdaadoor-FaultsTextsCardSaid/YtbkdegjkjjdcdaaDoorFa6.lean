/- Layer 9: the text of a set. -/
import Derived.Test.YtbkdegjkjjdcdaaDoorFa5
namespace Go.Proofs.YtbkdegjkjjdcdaaDoor
set_option linter.unusedVariables false
set_option linter.unusedSimpArgs false
open Go.RowKit Go.PlainAid

/-- The text of a set. -/
def shT (L : List (Int × Int)) : ByteArray := if L = [] then ⟨#[45]⟩ else jnS ⟨#[44]⟩ (L.map fltT)
theorem fltT_size (p : Int × Int) : (fltT p).size ≤ 31 := by
  unfold fltT
  have := codeT_size p.2
  split
  · split <;> (simp only [ByteArray.size_append]; (have h2 : (⟨#[115, 116, 114, 101, 97, 109, 58]⟩ : ByteArray).size = 7 := rfl); (have h3 : (⟨#[99, 111, 110, 110, 101, 99, 116, 105, 111, 110, 58]⟩ : ByteArray).size = 11 := rfl); omega)
  · decide
theorem litS9 (w : World) (x : ByteArray) : RdV 1 (w.alloc (.cells #[.string x] 9)) (some ⟨w.heap.size, 0, none⟩) 1 1 (fun _ => .string x) :=
  (OwnV.lit 1 9 0 w (fun _ => .string x) #[.string x] 1 (Nat.zero_le _) (by simp [maxLen]) rfl).rdS2
theorem shT_len (m : Nat) (f g : Nat → Int) (hm : m ≤ 100000) : (Lib.join (((lsF m f g).map fltT).map (·.data.toList)) [44]).length ≤ 140737488355328 := by
  have h1 := join_len [44] 31 (((lsF m f g).map fltT).map (·.data.toList)) (by
    intro x hx
    simp only [List.map_map, List.mem_map] at hx
    obtain ⟨p, _, rfl⟩ := hx
    have := fltT_size p
    rw [Lib.size_eq] at this
    exact this)
  rw [List.length_map, List.length_map, lsF_len] at h1
  refine Nat.le_trans h1 ?_
  show m * 32 ≤ _
  omega
set_option maxRecDepth 20000 in
set_option maxHeartbeats 3200000 in
theorem show09 (A : Option Addr) (n c : Nat) (f g : Nat → Int) (w : World) (h : Rd2 w A n c f g) (hn : n ≤ 100000) (hd : ((lsF n f g).filter rP).Nodup) (hN : CdW w) (hP : PowW w) :
    Calls Tryd.prog 31 #[.slice A n c] w fun e w' => ∃ m f' g', e = .returned (.string (shT (lsF m f' g'))) ∧ (lsF m f' g').Perm ((lsF n f g).filter rP) ∧ (∀ i j, i < j → j < m → LtP (f' i, g' i) (f' j, g' j)) ∧ Below w.heap.size w w' := by
  obtain ⟨i0, hi, hz0, hz1, hz2⟩ := info_parts str_info
  have H1 := hide (of09 A n c f g w h hn hd)
  have HN := hide hN
  have HP := hide hP
  clear h hd hN hP
  go_enter Tryd.func31, Tryd.ntmps31
  go_wp2_with fail
  refine H1.out.mono ?_
  rintro e w1 ⟨A', m, c', f', g', rfl, hr1, hp1, hs1, _, hb1⟩
  have hm : m ≤ 100000 := by
    have h3 := hp1.length_eq
    have h4 := List.length_filter_le rP (lsF n f g)
    rw [lsF_len] at h3 h4
    omega
  have HR := hide hr1
  have HQ := hide hp1
  have HS := hide hs1
  have HB := hide hb1
  have hsz := hb1.size
  clear hr1 hp1 hs1 hb1
  go_wp2_with fail
  go_loopw [3, 9] (fun v i wr => ∃ k : Nat, k ≤ m ∧ i = .int .i64 k ∧ OwnV 1 9 w1.heap.size wr v k (fun i => .string (fltT (f' i, g' i))) ∧ Below w.heap.size w wr ∧ Below w1.heap.size w1 wr) (fun _ i _ => m - (intOf i).toNat)
  case atStart => exact ⟨0, Nat.zero_le _, rfl, OwnV.nil _ _ _ _ _, HB.out, Below.refl _ _⟩
  case round =>
    obtain ⟨k, hk, rfl, hown, hB2, hB3⟩ := hrel
    have HO := hide hown
    have HB2 := hide hB2
    have HB3 := hide hB3
    have hs2 := hB2.size
    have hs3 := hB3.size
    clear hown hB2 hB3
    by_cases hlt : k < m
    · obtain ⟨b, off, rfl, hc0, hc1⟩ := (HR.out.below HB3.out).at_ hlt
      have d1 : decide ((k : Int) < (m : Int)) = true := decide_eq_true (by omega)
      obtain ⟨x, hx⟩ : ∃ x, f' k = x := ⟨_, rfl⟩
      obtain ⟨y, hy⟩ : ∃ y, g' k = y := ⟨_, rfl⟩
      rw [hx] at hc0
      rw [hy] at hc1
      have HX := hide hx
      have HY := hide hy
      clear hx hy
      go_wp2_with fail
      have B0 := hide (HB2.out.alloc hs2 (.cells #[.int .i64 x, .int .i64 y] 31))
      have B1 := hide (HB3.out.alloc hs3 (.cells #[.int .i64 x, .int .i64 y] 31))
      have Ho0 := hide (HO.out.alloc (.cells #[.int .i64 x, .int .i64 y] 31))
      generalize wr.alloc (.cells #[.int .i64 x, .int .i64 y] 31) = W0 at *
      refine (text09 x y _ (HN.out.below B0.out) (HP.out.below B0.out)).mono ?_
      rintro e w2 ⟨rfl, hb2⟩
      obtain ⟨z, hz⟩ : ∃ z, fltT (x, y) = z := ⟨_, rfl⟩
      rw [hz]
      have HZ := hide hz
      have HB4 := hide (B0.out.of hb2)
      have HB5 := hide (B1.out.of hb2)
      have HO4 := hide (Ho0.out.below hb2)
      have hs4 := HB4.out.size
      have hs5 := HB5.out.size
      clear hb2 B0 B1 Ho0 HO HB2 HB3 hz
      go_wp2_with (at_builtin; refine wp_appV rfl (.tmp 13) (.tmp 16) _ rfl 1 i0 _ 16 Tryd.underlying26 hi hz0 hz1 hz2 rfl (by omega) w1.heap.size _ k _ rfl (HO4.out.alloc _) _ 1 1 _ rfl (litS9 _ z) (fun _ _ => rfl) (by simp only [maxLen]; omega) (by omega) (by simp; omega) ?_; intro v3 w3 hown3 hg3 _)
      have HB6 := hide ((HB4.out.alloc hs4 _).grown hg3 (by simp; omega) (fun j hj => Nat.le_trans hsz (ownB09 HO4.out j hj)))
      have HB7 := hide ((HB5.out.alloc hs5 _).grown hg3 (by simp; omega) (ownB09 HO4.out))
      have HO7 := hide (hown3.congr (G := fun i => .string (fltT (f' i, g' i))) (fun i hi => by
        unfold catV
        by_cases e : i < k * 1
        · rw [if_pos e]
        · rw [if_neg e]
          obtain rfl : i = k := by omega
          rw [HX.out, HY.out, HZ.out]))
      clear hown3 hg3
      go_wp2_with fail
      exact ⟨⟨k + 1, by omega, by simp, HO7.out, HB6.out, HB7.out⟩, by simp [intOf]; omega⟩
    · obtain rfl : k = m := by omega
      obtain ⟨A0, c0, rfl, hr0, ha0⟩ := HO.out.rd
      by_cases h0 : k = 0
      · subst h0
        go_wp2_with fail
        go_ret
        exact ⟨0, f', g', rfl, HQ.out, HS.out, HB2.out⟩
      · obtain ⟨b, off, rfl, hc⟩ := hr0.2.2.2 (by omega)
        have hb := (ha0 _ rfl).2.1
        have d0 : ((k : Int) == 0) = false := by simp; omega
        have hj := hide (Tryd.strings_Join b off c0 ((lsF k f' g').map fltT) ⟨#[44]⟩ wr (fun j x hx => by
          have hj : j < k := by
            have := (List.getElem?_eq_some_iff.1 hx).1
            rwa [List.length_map, lsF_len] at this
          rw [List.getElem?_map, lsF_get _ _ _ _ hj] at hx
          cases hx
          exact hc j (by omega)) hb (by rw [List.length_map, lsF_len]; omega) (by rw [List.length_map, lsF_len]; exact hr0.1) (shT_len k f' g' hm))
        rw [List.length_map, lsF_len] at hj
        have hsh : Hid (shT (lsF k f' g') = jnS ⟨#[44]⟩ ((lsF k f' g').map fltT)) := by
          show _ = _
          unfold shT
          rw [if_neg (fun e => by have := congrArg List.length e; rw [lsF_len] at this; simp at this; omega)]
        have hj2 : Hid (Calls Tryd.prog 56 #[.slice (some ⟨b, off, none⟩) k c0, .string ⟨#[44]⟩] wr fun e w' => e = .returned (.string (jnS ⟨#[44]⟩ ((lsF k f' g').map fltT))) ∧ Below wr.heap.size wr w') := hj
        clear hj hc hr0 ha0 hb h0
        obtain ⟨y, hy⟩ : ∃ y, jnS ⟨#[44]⟩ ((lsF k f' g').map fltT) = y := ⟨_, rfl⟩
        rw [hy] at hj2 hsh
        clear hy
        go_wp2_with fail
        refine hj2.out.mono ?_
        rintro e w3 ⟨rfl, hb3⟩
        go_wp2_with fail
        go_ret
        exact ⟨k, f', g', by rw [hsh.out]; rfl, HQ.out, HS.out, HB2.out.of hb3⟩
end Go.Proofs.YtbkdegjkjjdcdaaDoor
