/- The walk of the law on a cursor's own bytes. -/
import Derived.Test.YtgjnmjakpiceiaaCurN
import Derived.Deep.RegionHeld3
namespace Go.Proofs.Ytgjnmjakpiceiaa
open Go.RowKit

theorem c3_lit : ∀ (w : World), Rd .u8 (w.alloc (.cells #[.int .u8 1, .int .u8 2, .int .u8 3] 5)) (some ⟨w.heap.size, 0, none⟩) 3 3 lit3 := Rd.three

theorem gtrans {a b c : World} {row : Option Nat} (h : a.grownBy b row) (k : b.grownBy c row) : a.grownBy c row :=
  ⟨k.os.trans h.os, k.tape.trans h.tape, k.output.trans h.output, Nat.le_trans h.size k.size, fun i hi hne => (k.block i (Nat.lt_of_lt_of_le hi h.size) hne).trans (h.block i hi hne)⟩
theorem later_any {w w1 w2 : World} {p n t : Nat} {f : Nat → Int} {row : Option Nat} (h : Later w p n t f w1) (hg : w1.grownBy w2 row) (hr : ∀ g, row = some g → w.heap.size ≤ g) : Cur w2 p n f t := by
  cases row with
  | none => exact h w.heap.size w2 (Nat.le_refl _) ⟨hg.os, hg.tape, hg.output, hg.size, fun i hi _ => hg.block i hi (by simp)⟩
  | some g => exact h g w2 (hr g rfl) hg
theorem Own.form' {k : IntKind} {e : TypeId} {B : Nat} {w : World} {v : Value} {n : Nat} {f : Nat → Int} (h : Own k e B w v n f) (hn : 0 < n) :
    ∃ g c cur, v = .slice (some ⟨g, 0, none⟩) n c ∧ B ≤ g ∧ w.heap[g]? = some (.cells cur e (0, 0)) ∧ n ≤ c := by
  rcases h.2 with ⟨_, h0⟩ | ⟨g, cap, cur, hv, hB, hh, hnc, _⟩
  · omega
  · exact ⟨g, cap, cur, hv, hB, hh, hnc⟩
set_option maxRecDepth 100000 in
set_option maxHeartbeats 4000000 in
theorem own_walk (A : Option Addr) (n c : Nat) (v : Int) (f : Nat → Int) (w : World) (ha : Rd .u8 w A n c f) :
    Calls Try.prog 8 #[.slice A n c, .int .i64 v] w (Yes w) := by
  have Ha := hide ha
  have hnc := ha.1
  clear ha
  by_cases hn : (2000 : Int) < (n : Int)
  · have hd : decide ((2000 : Int) < (n : Int)) = true := by simpa using hn
    go_enter Try.func8, Try.ntmps8
    go_wp2_with (go_at_call 20; refine (alive2 _).mono ?_; rintro e w' ⟨rfl, hb⟩)
    go_ret
    exact ⟨rfl, hb⟩
  have hdn : decide ((2000 : Int) < (n : Int)) = false := by simpa using hn
  by_cases h0 : v < 0
  · have hd : decide (v < 0) = true := by simpa using h0
    go_enter Try.func8, Try.ntmps8
    go_wp2_with (go_at_call 20; refine (alive2 _).mono ?_; rintro e w' ⟨rfl, hb⟩)
    go_ret
    exact ⟨rfl, hb⟩
  have hd0 : decide (v < 0) = false := by simpa using h0
  by_cases h1 : (n : Int) < v
  · have hd : decide ((n : Int) < v) = true := by simpa using h1
    go_enter Try.func8, Try.ntmps8
    go_wp2_with (go_at_call 20; refine (alive2 _).mono ?_; rintro e w' ⟨rfl, hb⟩)
    go_ret
    exact ⟨rfl, hb⟩
  obtain ⟨s, rfl⟩ := Int.eq_ofNat_of_zero_le (show 0 ≤ v by omega)
  have hd1 : decide (n < s) = false := by simp; omega
  have hsn : s ≤ n := by omega
  obtain ⟨i0, hi, hz0, hz1, hz2⟩ := info_parts c8_info
  have hcut1 := bytes_cut_h A n c s (by omega)
  have hcut2 := bytes_cut A n c s hsn
  have Hcut1 := hide hcut1
  have Hcut2 := hide hcut2
  clear hcut1 hcut2 h0 h1
  go_enter Try.func8, Try.ntmps8
  go_wp2_with (first
    | (go_at_call 21; fail)
    | (at_builtin; refine wp_app rfl (.tmp 24) (.tmp 25) _ rfl i0 0 1 Try.underlying22 hi hz0 hz1 hz2 w.heap.size _ 0 (oneF 0) rfl (Own.lit .u8 5 w.heap.size w (oneF 0) #[] 0 (Nat.le_refl _) (by simp [maxLen]) rfl) A n c f rfl (Ha.out.alloc _) (by simp only [maxLen]; omega) (by omega) (by simp) ?_; intro v1 w1 hown1 hg1; have hs1 : w.heap.size < w1.heap.size := (by have := hg1.size; simp at this; omega); have hb1 : Below w.heap.size w w1 := ((Below.refl _ _).alloc (Nat.le_refl _) _).grown hg1 (by simp) (fun _ e => by cases e; exact Nat.le_refl _); have hown2 : Own .u8 5 w.heap.size w1 v1 n f := Own.congr (n := n) (f := catF 0 (oneF 0) f) (by simpa using hown1) (fun i _ => by simp [catF]); obtain ⟨A1, c1, rfl, hr1, hbl1⟩ := hown2.rd; have Hown2 := hide hown2; have Hr1 := hide hr1; have Hbl1 := hide hbl1; clear hown1 hg1 hown2 hr1 hbl1))
  obtain ⟨gb, hgA, hgl, hgB⟩ : ∃ gb, (0 < n → A1 = some ⟨gb, 0, none⟩) ∧ gb < w1.heap.size ∧ w.heap.size ≤ gb := by
    by_cases hz : 0 < n
    · obtain ⟨g, c', cur, e, hB, hh, _⟩ := Hown2.out.form' hz
      simp at e
      exact ⟨g, fun _ => e.1, (Array.getElem?_eq_some_iff.1 hh).1, hB⟩
    · exact ⟨w.heap.size, fun h => absurd h hz, hs1, Nat.le_refl _⟩
  refine (cnew_own A1 n c1 f _ Hr1.out (by omega)).mono ?_
  rintro e w2 ⟨p, rfl, hp, hb2, hK⟩
  have HK := hide hK
  have HgA := hide hgA
  have Hown3 := hide (Hown2.out.below hb2)
  have hs2 := hb2.size
  clear hK hgA
  go_wp2_with fail
  go_loopw [7] (fun i wr => ∃ k : Nat, ∃ h, k ≤ n ∧ i = .int .i64 k ∧ Own .u8 5 w.heap.size wr (.slice A1 n c1) n h ∧ w2.grownBy wr (some gb)) (fun i _ => n - (intOf i).toNat)
  case atStart => exact ⟨0, f, Nat.zero_le _, rfl, Hown3.out, World.grownBy.refl _ _⟩
  case round =>
    obtain ⟨k, h, hk, rfl, hown, hgr⟩ := hrel
    by_cases hlt : k < n
    · obtain rfl := HgA.out (by omega)
      have hcell := hown.cell hlt
      have hfz := hown.frozen k
      have Hown := hide (fun x => hown.set k x)
      have hgs : ∀ u, w2.grownBy (wr.setCell ⟨gb, k, none⟩ u) (some gb) := fun u => ⟨hgr.os, hgr.tape, hgr.output, by have := hgr.size; simpa [World.setCell] using this, fun i hi hne => (Below.heap_setCell wr ⟨gb, k, none⟩ u i (fun e => hne (by simp [e]))).trans (hgr.block i hi hne)⟩
      have Hgs := hide hgs
      clear hown hgs hgr
      go_wp2_with fail
      go_roundw
      case rel => exact ⟨k + 1, _, by omega, by go_num, Hown.out _, Hgs.out _⟩
      case measure => simp [intOf]; omega
    · have hkn : k = n := by omega
      subst hkn
      have Hcur := hide (HK.out gb wr hgl hgr)
      have hB3 : Below w.heap.size w wr := (hb1.of hb2).grown hgr (by have := hb1.size; omega) (fun j e => by cases e; exact hgB)
      clear hown hgr
      go_wp2_with fail
      refine (bytes_ok p k 0 s f _ Hcur.out (by omega)).mono ?_
      rintro e w4 ⟨A2, c2, rfl, hr2, hbl2, hcur, hg4, hown4, hlat⟩
      rw [Nat.zero_add] at hcur hlat
      have Hlat := hide hlat
      have hB4 : Below w.heap.size w w4 := hB3.grown hg4 hB3.size (fun j e => by cases e; omega)
      have Hr2 := hide hr2
      have Hcur4 := hide hcur
      have Hown4 := hide hown4
      have hs3 := hB3.size
      have hs4 := hg4.size
      have hcut := Hcut1.out
      clear hr2 hbl2 hcur hg4 hown4 hlat
      go_wp2_with fail
      refine (rsame_yes _ _ _ _ _ _ _ _ Hr2.out ((Ha.out.below hB4).front hsn) (fun i _ => by simp)).mono ?_
      rintro e w5 ⟨rfl, hd5⟩
      have hb5 := drawn_below hd5 w4.heap.size
      have Hown5 := hide (Hown4.out.below hb5)
      have Hcur5 := hide (Hcur4.out.below hb5)
      have hB5 : Below w.heap.size w w5 := hB4.of hb5
      have hs5 := hb5.size
      have Hd5 := hide hd5
      clear hcut hd5
      go_wp2_with (at_builtin; refine wp_app rfl (.tmp 61) (.tmp 62) _ rfl i0 0 1 Try.underlying22 hi hz0 hz1 hz2 wr.heap.size _ s _ rfl (Hown5.out.alloc _) _ 3 3 lit3 rfl (Rd.three _) (by simp only [maxLen]; omega) (by omega) (by simp; omega) ?_; intro v6 w6 hown6 hg6; obtain ⟨A6, c6, rfl, _, _⟩ := hown6.rd; have hB6 : Below w.heap.size w w6 := (hB5.alloc hB5.size _).grown hg6 (by simp; omega) (fun j e => by have := (World.ownsRow.lt Hown5.out j e).1; omega); have Hg6 := hide hg6; clear hown6 hg6)
      have hg46 : w4.grownBy w6 (Value.slice A2 s c2).ownBlock := gtrans (gtrans (drawn_grown Hd5.out _) (World.grownBy_alloc _ _ _)) Hg6.out
      have hcur6 : Cur w6 p k f s := later_any Hlat.out hg46 (fun g e => (World.ownsRow.lt Hown4.out g e).1)
      have Hcur6 := hide hcur6
      have hs6 := hB6.size
      clear hg46 hcur6
      have Hcur6d : Hid (Cur w6.drew p k f s) := Hcur6.out
      have hB6d : Below w.heap.size w w6.drew := hB6.drew
      have hs6d : w.heap.size ≤ w6.drew.heap.size := hs6
      have hw : IntKind.i64.wrap ((s : Int) + 3) = (s : Int) + 3 := IntWalk.i64_in _ (by omega)
      have hcut := Hcut2.out
      go_region_held3 (fun _ : World => True) (exact trivial) (first
        | (go_at_call 27; refine (rest_any p k s f w6.drew Hcur6d.out).mono ?_; rintro e w7 ⟨A7, c7, rfl, hr7, _, _, hg7, _⟩; have Hr7 := hide hr7; have hB7 : Below w.heap.size w w7 := hB6d.grown hg7 hs6d (fun j e => by cases e; omega); clear hr7 hg7)
        | (go_at_call 13; refine (rsame_yes _ _ _ _ _ _ _ _ Hr7.out ((Ha.out.below hB7).cutR (hi := k) hsn (Nat.le_refl _)) (fun _ _ => rfl)).mono ?_; rintro e w8 ⟨rfl, hd8⟩; have hB8 : Below w.heap.size w w8 := hB7.trans (drawn_below hd8 _); clear hd8)
        | (go_at_call 20; refine (alive2 _).mono ?_; rintro e w9 ⟨rfl, hb9⟩; have hB9 : Below w.heap.size w w9 := hB8.of hb9; clear hb9))
      go_wp2_with fail
      go_ret
      exact ⟨rfl, hB9⟩
end Go.Proofs.Ytgjnmjakpiceiaa
