/- Layer 11: whether bytes are the preface; alive; the walk of PrefaceOne. -/
import Derived.Test.YtcoofiepoacmbaaPre
namespace Go.Proofs.Ytcoofiepoacmbaa
open Go.RowKit Go.Joins

theorem rtextA (w : World) : Calls Try.prog 10 #[] w fun e w' => ∃ g, e = .returned (.slice (some ⟨g, 0, none⟩) 24 24) ∧ Own .u8 5 w.heap.size w' (.slice (some ⟨g, 0, none⟩) 24 24) 24 pt ∧ Below w.heap.size w w' :=
  (rtext_any w).mono fun e w' ⟨h1, h2⟩ => ⟨w.heap.size, h1, by subst h2; exact Own.lit .u8 5 w.heap.size w pt ptC 24 (Nat.le_refl _) (by simp [maxLen]) ptC_row, by subst h2; exact (Below.refl _ _).alloc (Nat.le_refl _) _⟩

/-! ### Is -/
def ptB : List UInt8 := [80, 82, 73, 32, 42, 32, 72, 84, 84, 80, 47, 50, 46, 48, 13, 10, 13, 10, 83, 77, 13, 10, 13, 10]
theorem bts_pt : bts 24 pt = ptB := by decide
/-- Are the bytes just the preface? -/
def isB (n : Nat) (f : Nat → Int) : Bool := bts n f == ptB
theorem isB_iff {n : Nat} {f : Nat → Int} (hb : Byt n f) : isB n f = true ↔ (n = 24 ∧ likeN n f 24 = 24) := by
  unfold isB
  rw [beq_iff_eq, ← bts_pt, bts_eq hb pt_byt]
  constructor
  · intro h
    obtain ⟨h1, h2⟩ := sameB_of h
    have hl := like_is n f
    refine ⟨h1, ?_⟩
    rcases hl.2.2.2 with e | e | e
    · exact e
    · omega
    · by_cases h3 : likeN n f 24 < n
      · exact absurd (h2 _ h3) e
      · have := hl.2.1; omega
  · rintro ⟨h, h2⟩
    have := (like_is n f).2.2.1
    rw [h2] at this
    exact sameB_yes h (fun i hi => this i (by omega))
theorem is_any (A : Option Addr) (n c : Nat) (f : Nat → Int) (w : World) (ha : Rd .u8 w A n c f) (hb : Byt n f) :
    Calls Try.prog 7 #[.slice A n c] w fun e w' => e = .returned (.bool (isB n f)) ∧ w = w' := by
  have h1 := run_str w A n c f ha hb
  clear ha hb
  go_enter Try.func7, Try.ntmps7
  go_wp2
  go_ret
  exact ⟨rfl, rfl⟩

/-! ### alive -/
def lit3 : Nat → Int := fun i => if i = 0 then 80 else if i = 1 then 82 else 74
theorem like_lit3 : likeN 3 lit3 24 = 2 := by
  have h : IsLike 3 lit3 2 := by
    refine ⟨by omega, by omega, fun j hj => ?_, .inr (.inr (by decide))⟩
    have : j = 0 ∨ j = 1 := by omega
    rcases this with rfl | rfl <;> decide
  exact (like_is 3 lit3).one h
set_option maxRecDepth 20000 in
set_option maxHeartbeats 1600000 in
theorem alive11 (w : World) : Calls Try.prog 4 #[] w (Yes w) := by
  have hc := run_convert_bytes_const_at (P := Try.prog) w 22 5 #[.int .u8 80, .int .u8 82, .int .u8 74] 3 3 w.heap.size rfl Try.underlying22 Try.underlying5
  have Hr := hide (Rd.mark w #[.int .u8 80, .int .u8 82, .int .u8 74] 3 lit3 (3, 4) (by simp [maxLen]) rfl)
  have HB0 : Hid (Below w.heap.size w (w.alloc (.cells #[.int .u8 80, .int .u8 82, .int .u8 74] 5 (3, 4)))) := (Below.refl _ _).alloc (Nat.le_refl _) _
  simp at hc
  go_enter Try.func4, Try.ntmps4
  go_wp2_with fail
  refine (plike_any _ 3 3 lit3 _ Hr.out).mono ?_
  rintro e w1 ⟨rfl, hd1⟩
  rw [like_lit3]
  have HB1 := hide (HB0.out.trans (drawn_below hd1 _))
  have hs1 := HB1.out.size
  clear hd1 hc
  go_wp2_with fail
  refine (ptext_any _).mono ?_
  rintro e w2 ⟨rfl, rfl⟩
  have Hr1 := hide (Rd.mark w1 ptC 24 pt (24, 25) (by simp [maxLen]) ptC_row)
  have HB2 := hide (HB1.out.alloc hs1 (.cells ptC 5 (24, 25)))
  generalize w1.alloc (.cells ptC 5 (24, 25)) = w2 at *
  have hs2 := HB2.out.size
  go_wp2_with fail
  refine (rtextA _).mono ?_
  rintro e w3 ⟨g, rfl, ho3, hb3⟩
  have Hr3 := hide ho3.rdK
  have Hr2 := hide (Hr1.out.below hb3)
  have HB3 := hide (HB2.out.of hb3)
  clear ho3 hb3
  go_wp2_with fail
  refine (rsame_yes _ _ _ _ _ _ _ _ Hr2.out Hr3.out (fun _ _ => rfl)).mono ?_
  rintro e w4 ⟨rfl, hd4⟩
  have HB4 := hide (HB3.out.trans (drawn_below hd4 _))
  clear hd4
  go_wp2_with fail
  go_ret
  exact ⟨rfl, HB4.out⟩

theorem like_one {k : Nat} {x : Int} (hk : k < 24) (h : x ≠ pt k) : likeN 24 (setF pt k x) 24 = k := by
  refine (like_is 24 _).one ⟨by omega, by omega, fun j hj => ?_, .inr (.inr ?_)⟩
  · have : j ≠ k := by omega
    simp [setF, this]
  · simpa [setF] using h
theorem like_same {k : Nat} : likeN 24 (setF pt k (pt k)) 24 = 24 := by
  refine (like_is 24 _).one ⟨by omega, by omega, fun j hj => ?_, .inl rfl⟩
  unfold setF
  split
  · next h => rw [h]
  · rfl
theorem set_byt {k : Nat} {x : Int} (h0 : 0 ≤ x) (h1 : x ≤ 255) : Byt 24 (setF pt k x) := by
  intro i hi
  unfold setF
  split
  · exact ⟨h0, h1⟩
  · exact pt_byt i hi
end Go.Proofs.Ytcoofiepoacmbaa
