/- Layer 32: Push. -/
import Derived.Test.YteikpdolickkaaaPe3
namespace Go.Proofs.Yteikpdolickkaaa
open Go.RowKit Go.Deep

/-- The values in which settings have put theirs. -/
def apv (F G : Nat → Int) (m : Nat) (v : Nat → Int) : Nat → Int := fun j => lsv F G ((j : Int) + 1) (v j) m
def pushV (n : Nat) (V : Nat → Nat → Int) (x : Nat → Int) : Nat → Nat → Int := fun i => if i < n then V i else x
theorem vlF_push (n : Nat) (V : Nat → Nat → Int) (x : Nat → Int) : ∀ i, i < (n + 1) * 6 → catV (n * 6) (vlF V) (fun j => .int .i64 (x j)) i = vlF (pushV n V x) i := by
  intro i hi
  unfold catV vlF pushV
  by_cases h : i < n * 6
  · rw [if_pos h, if_pos (by omega)]
  · rw [if_neg h, if_neg (by omega), show i % 6 = i - n * 6 by omega]
set_option maxRecDepth 20000 in
set_option maxHeartbeats 1600000 in
theorem push32 {B : Nat} {w : World} {p : Nat} {g : Option Nat} {a l n : Nat} {V : Nat → Nat → Int} (h : QOk B w p g a l n V) (hB : B ≤ w.heap.size) (hl : l + n ≤ 900) {A : Option Addr} {m c : Nat} {F G : Nat → Int} (ha : Rd2 w A m c F G) (hm : m ≤ 1000) :
    Calls Try.prog 49 #[.pointer (some ⟨p, 0, none⟩), .slice A m c] w fun e w' => ∃ g', e = .returned (.tuple #[]) ∧ QOk B w' p g' a l (n + 1) (pushV n V (apv F G m (V (n - 1)))) ∧ FrO B (qfp p g) w w' ∧ (g' = g ∨ ∀ b, g' = some b → w.heap.size ≤ b) := by
  have H := hide h
  have HB : Hid (B ≤ w.heap.size) := hB
  have hpos := h.pos
  have Ha := hide ha
  have Hlt := hide h.lt
  have hne0 := h.ne
  obtain ⟨u0, k0⟩ := h.row
  have Hr := hide k0
  clear k0
  clear h ha
  obtain ⟨i0, hi, hz0, hz1, hz2⟩ := info_parts vals_info
  obtain ⟨X, hX⟩ : ∃ X, X = apv F G m (V (n - 1)) := ⟨_, rfl⟩
  rw [← hX]
  have HX := hide hX
  clear hX
  go_enter Try.func49, Try.ntmps49
  go_wp2_with fail
  refine (poss32 H.out HB.out).mono ?_
  rintro e w1 ⟨b, off, cp, rfl, ho, hgb, hb1⟩
  have O1 := hide ho
  have Hgb := hide hgb
  have Hbp : Hid (Value.ownBlock (.slice (some ⟨b, off, none⟩) n cp) ≠ some p) := fun e => by
    obtain rfl : b = p := by simpa [Value.ownBlock] using e
    rcases hgb with e | e
    · exact hne0 e
    · have := rowLt Hr.out
      omega
  have E1 := hide hb1
  clear ho hgb hb1
  go_wp2_with fail
  refine (newest32 (H.out.below E1.out) (Nat.le_trans HB.out E1.out.size) (by omega)).mono ?_
  rintro e w2 ⟨rfl, hb2⟩
  have O2 := hide (O1.out.below hb2)
  have E2 := hide (E1.out.of hb2)
  clear hb2 O1
  unfold vA
  go_wp2_with fail
  refine (apply_any A m c F G _ _ _ _ _ _ _ (Ha.out.below E2.out) (by omega)).mono ?_
  rintro e w3 ⟨rfl, hb3⟩
  have hap : ∀ j : Nat, lsv F G ((j : Int) + 1) (V (n - 1) j) m = X j := fun j => by rw [HX.out]; rfl
  have h0 := hap 0
  have h1 := hap 1
  have h2 := hap 2
  have h3 := hap 3
  have h4 := hap 4
  have h5 := hap 5
  simp only [Int.ofNat_zero, Int.natCast_zero, Int.zero_add] at h0
  rw [show ((1 : Nat) : Int) + 1 = 2 from rfl] at h1
  rw [show ((2 : Nat) : Int) + 1 = 3 from rfl] at h2
  rw [show ((3 : Nat) : Int) + 1 = 4 from rfl] at h3
  rw [show ((4 : Nat) : Int) + 1 = 5 from rfl] at h4
  rw [show ((5 : Nat) : Int) + 1 = 6 from rfl] at h5
  rw [h0, h1, h2, h3, h4, h5]
  have O3 := hide ((O2.out.below hb3).alloc (.cells #[.int .i64 (X 0), .int .i64 (X 1), .int .i64 (X 2), .int .i64 (X 3), .int .i64 (X 4), .int .i64 (X 5)] 113))
  have E3 := hide (E2.out.of hb3)
  clear hb3 O2 h0 h1 h2 h3 h4 h5 hap
  have hsz : w3.heap.size < (w3.alloc (.cells #[.int .i64 (X 0), .int .i64 (X 1), .int .i64 (X 2), .int .i64 (X 3), .int .i64 (X 4), .int .i64 (X 5)] 113)).heap.size := by simp
  have Hsz := hide hsz
  clear hsz
  have E4 := hide (E3.out.alloc E3.out.size (.cells #[.int .i64 (X 0), .int .i64 (X 1), .int .i64 (X 2), .int .i64 (X 3), .int .i64 (X 4), .int .i64 (X 5)] 113))
  go_wp2_with (at_builtin; refine wp_appO rfl (.tmp 8) (.tmp 13) _ rfl 6 i0 _ 48 Try.underlying108 hi hz0 hz1 hz2 rfl (by omega) B _ n (vlF V) rfl O3.out w3.heap.size 0 1 1 (fun j => .int .i64 (X j)) rfl (OwnV.lit 6 113 0 w3 (fun j => .int .i64 (X j)) #[.int .i64 (X 0), .int .i64 (X 1), .int .i64 (X 2), .int .i64 (X 3), .int .i64 (X 4), .int .i64 (X 5)] 1 (Nat.zero_le _) (by simp [maxLen]) rfl).rdS2 (by omega) (fun _ _ => rfl) (by simp only [maxLen]; omega) (by omega) (Nat.le_trans HB.out E4.out.size) ?_; intro v4 w4 hown4 hg4 hob4; obtain ⟨A4, c4, rfl, _, _⟩ := hown4.rd; have K4 := keepGrown (keepRow Hr.out E4.out) hg4 Hbp.out; obtain ⟨x0, x1, x2⟩ := rowQ K4; have fz := frozenRow K4 2)
  first | go_end0 | (refine bodyPost_ret (results_none rfl _ _ _) rfl ?_) | (trace_state; fail)
  have hb4 : ∀ i, (Value.slice A4 (n + 1) c4).ownBlock = some i → i = b ∨ (w3.alloc (.cells #[.int .i64 (X 0), .int .i64 (X 1), .int .i64 (X 2), .int .i64 (X 3), .int .i64 (X 4), .int .i64 (X 5)] 113)).heap.size ≤ i := fun i hi => by
    rcases hob4 with e | e
    · rw [e] at hi; cases hi; exact .inl rfl
    · exact .inr (e i hi)
  have hp4 : (Value.slice A4 (n + 1) c4).ownBlock ≠ some p := fun e => by
    rcases hb4 p e with e | e
    · exact Hbp.out (by rw [e]; rfl)
    · have h1 := rowLt Hr.out
      have h2 := E4.out.size
      omega
  refine ⟨(Value.slice A4 (n + 1) c4).ownBlock, rfl, ⟨⟨.slice A4 (n + 1) c4, by have := setRow w4 p 2 (.slice A4 (n + 1) c4) K4; simpa using this, rfl, .inl ((hown4.congr (vlF_push n V X)).setCell hp4 2 _)⟩, H.out.hp, by omega, hp4⟩, ?_, ?_⟩
  · refine ((FrO.of E4.out HB.out).step (FrO.grown (S := fun i => i = b) hg4 (Nat.le_trans HB.out E4.out.size) (fun i hi => by cases hi; exact ⟨(O3.out.lt b rfl).1, rfl⟩)) (fun i hi => ?_)).step (FrO.set (S := fun i => i = p) w4 p 2 (.slice A4 (n + 1) c4) H.out.hp rfl) (fun i hi => .inl (.inl hi))
    subst hi
    rcases Hgb.out with e | e
    · exact .inl (.inr e)
    · exact .inr e
  · rcases hob4 with e | e
    · rcases Hgb.out with e2 | e2
      · exact .inl (e.trans e2.symm)
      · refine .inr fun i hi => ?_
        rw [e] at hi
        cases hi
        exact e2
    · exact .inr fun i hi => Nat.le_trans E4.out.size (e i hi)
end Go.Proofs.Yteikpdolickkaaa
