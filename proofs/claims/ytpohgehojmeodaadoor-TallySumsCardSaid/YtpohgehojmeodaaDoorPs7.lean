/- Layer 27: Response, on both sides. -/
import Derived.Test.YtpohgehojmeodaaDoorPs5
import Derived.Test.YtpohgehojmeodaaDoorPs3a
namespace Go.Proofs.YtpohgehojmeodaaDoor
set_option linter.unusedVariables false
set_option linter.unusedSimpArgs false
open Go.RowKit Go.PlainAid

def resB (F : Nat → Fd) (n : Nat) : Bool := okF rsN F n && decide ((txt (valF F nStatus n)).size = 3) && natB (txt (valF F nStatus n)) 999 && decide (100 ≤ natN (txt (valF F nStatus n)) 999) && !decide (natN (txt (valF F nStatus n)) 999 = 101)
def resN (F : Nat → Fd) (n : Nat) : Int := if resB F n then natN (txt (valF F nStatus n)) 999 else 0
def resV (F : Nat → Fd) (n : Nat) : Value := .tuple #[.agg #[.string ⟨#[]⟩, .string ⟨#[]⟩, .string ⟨#[]⟩, .string ⟨#[]⟩, .int .i64 (resN F n)], .bool (resB F n)]
theorem txt_size (o : Option ByteArray) (h : ∀ v, o = some v → v.size ≤ maxLen) : (txt o).size ≤ maxLen := by
  cases o with
  | none => simp [txt, sE, ByteArray.size]
  | some v => exact h v rfl
theorem valF_len {F : Nat → Fd} {x : ByteArray} {n : Nat} (h : ∀ i, i < n → (F i).val.size ≤ maxLen) : (txt (valF F x n)).size ≤ maxLen := by
  induction n with
  | zero => simp [valF, txt, sE, ByteArray.size]
  | succ k ih =>
    have h1 := ih (fun i hi => h i (by omega))
    cases hv : valF F x k with
    | some v => rw [valF_stay hv (by omega)]; rw [hv] at h1; exact h1
    | none =>
      rw [valF_succ_none hv]
      split
      · exact h k (by omega)
      · simp [txt, sE, ByteArray.size]
set_option maxRecDepth 100000 in
set_option maxHeartbeats 6400000 in
theorem response_any (A : Option Addr) (n c : Nat) (F : Nat → Fd) (w : World) (ha : RdFd w A n c F) : Calls Tryd.prog 187 #[.slice A n c] w fun e w' => e = .returned (resV F n) ∧ Below w.heap.size w w' := by
  have hlen : (txt (valF F nStatus n)).size ≤ maxLen := valF_len fun i hi => (ha.2.2.2.2 i hi).2
  simp only [maxLen] at hlen
  have R0 := hide (heap_alloc_new w (.cells #[.string ⟨#[]⟩, .string ⟨#[]⟩, .string ⟨#[]⟩, .string ⟨#[]⟩, .int .i64 0] 160))
  have B0 := hide ((Below.refl w.heap.size w).alloc (Nat.le_refl _) (.cells #[.string ⟨#[]⟩, .string ⟨#[]⟩, .string ⟨#[]⟩, .string ⟨#[]⟩, .int .i64 0] 160))
  have A1 := hide ((ha.below ((Below.refl _ _).alloc (Nat.le_refl _) (.cells #[.string ⟨#[]⟩, .string ⟨#[]⟩, .string ⟨#[]⟩, .string ⟨#[]⟩, .int .i64 0] 160))).below ((Below.refl _ _).alloc (Nat.le_refl _) (.cells #[.string ⟨#[58, 115, 116, 97, 116, 117, 115]⟩] 9)))
  have hN := (OwnV.lit 1 9 0 (w.alloc (.cells #[.string ⟨#[]⟩, .string ⟨#[]⟩, .string ⟨#[]⟩, .string ⟨#[]⟩, .int .i64 0] 160)) (fun i => .string (rsN.getD i sE)) #[.string nStatus] 1 (Nat.zero_le _) (by simp [maxLen]) rfl).rdS2
  rw [show (w.alloc (.cells #[.string ⟨#[]⟩, .string ⟨#[]⟩, .string ⟨#[]⟩, .string ⟨#[]⟩, .int .i64 0] 160)).heap.size = w.heap.size + 1 by simp] at hN
  unfold nStatus at hN
  have HN := hide hN
  have B1 := hide (B0.out.alloc B0.out.size (.cells #[.string ⟨#[58, 115, 116, 97, 116, 117, 115]⟩] 9))
  have R1 := hide (keepRow R0.out ((Below.refl _ _).alloc (Nat.le_refl _) (.cells #[.string ⟨#[58, 115, 116, 97, 116, 117, 115]⟩] 9)))
  clear ha R0 B0 hN
  have hread := fun (W : World) (h1 : RdFd W A n c F) (h2 : RdV 1 W (some ⟨w.heap.size + 1, 0, none⟩) 1 1 (fun i => .string (rsN.getD i sE))) => read_any A (some ⟨w.heap.size + 1, 0, none⟩) n c 1 F rsN W h1 h2 (by decide) rs_apart rs_col
  rw [show rsN.length = 1 from rfl] at hread
  go_enter Tryd.func187, Tryd.ntmps187
  go_wp2_with fail
  refine (hread _ A1.out HN.out).mono ?_
  rintro e w3 ⟨h1 | h1, hb⟩
  · obtain ⟨ho, rfl⟩ := h1
    have R3 := hide (keepRow R1.out hb)
    have B3 := hide (B1.out.of hb)
    clear hb
    have hres : resB F n = false := by
      unfold resB
      rw [ho]
      rfl
    obtain ⟨⟨c0, f0⟩, ⟨c1, f1⟩, ⟨c2, f2⟩, ⟨c3, f3⟩, ⟨c4, f4⟩, r5⟩ := store5p R3.out (.string ⟨#[]⟩) (.string ⟨#[]⟩) (.string ⟨#[]⟩) (.string ⟨#[]⟩) (.int .i64 0)
    have R4 := hide r5
    have B4 := hide (below5p B3.out (p := w.heap.size) (Nat.le_refl _) (.string ⟨#[]⟩) (.string ⟨#[]⟩) (.string ⟨#[]⟩) (.string ⟨#[]⟩) (.int .i64 0))
    clear r5
    go_wp2_with fail
    obtain ⟨d0, d1, d2, d3, d4⟩ := row5 R4.out
    refine bodyPost_ret (v := .tuple #[.agg #[.string ⟨#[]⟩, .string ⟨#[]⟩, .string ⟨#[]⟩, .string ⟨#[]⟩, .int .i64 0], .bool false]) ?_ rfl ⟨?_, B4.out⟩
    · rw [results_cell_tmp rfl]
      go_simp
    · unfold resV resN
      rw [hres]
      rfl
  · obtain ⟨ho, he, hown⟩ := h1
    have R3 := hide (keepRow R1.out hb)
    have B3 := hide (B1.out.of hb)
    have hz : ((w.alloc (.cells #[.string ⟨#[]⟩, .string ⟨#[]⟩, .string ⟨#[]⟩, .string ⟨#[]⟩, .int .i64 0] 160)).alloc (.cells #[.string ⟨#[58, 115, 116, 97, 116, 117, 115]⟩] 9)).heap.size = w.heap.size + 2 := by simp
    rw [hz] at he hown
    simp only [show rsN.length = 1 from rfl] at he hown
    obtain ⟨gb, hgb⟩ : ∃ gb, gb = w.heap.size + 2 := ⟨_, rfl⟩
    rw [← hgb] at he hown
    subst he
    obtain ⟨st, hst⟩ : ∃ x, x = txt (valF F nStatus n) := ⟨_, rfl⟩
    have g0 : w3.cell? ⟨gb, 0, none⟩ = some (.string st) := by rw [hst]; exact hown.cell (j := 0) (by decide)
    rw [← hst] at hlen
    have Hst := hide hst
    clear hb hown hz hgb hst hread HN
    by_cases h3 : st.size = 3
    · have t3 : ((st.size : Int) != 3) = false := by simp; omega
      have H3 := hide h3
      clear h3
      go_wp2_with fail
      refine (natural_any st 999 _ (by omega) (by omega) (by omega)).mono ?_
      rintro e w4 ⟨rfl, hb4⟩
      have R5 := hide (keepRow R3.out hb4)
      have B5 := hide (B3.out.of hb4)
      clear hb4 g0
      obtain ⟨m, hm⟩ : ∃ m, m = natN st 999 := ⟨_, rfl⟩
      obtain ⟨bb, hbb⟩ : ∃ bb, bb = natB st 999 := ⟨_, rfl⟩
      rw [← hm, ← hbb]
      have Hm := hide hm
      have Hbb := hide hbb
      clear hm hbb
      cases bb with
      | false =>
        have hres : resB F n = false := by
          unfold resB
          rw [ho, ← Hst.out]
          rw [← Hbb.out]
          simp
        obtain ⟨⟨c0, f0⟩, ⟨c1, f1⟩, ⟨c2, f2⟩, ⟨c3, f3⟩, ⟨c4, f4⟩, r5⟩ := store5p R5.out (.string ⟨#[]⟩) (.string ⟨#[]⟩) (.string ⟨#[]⟩) (.string ⟨#[]⟩) (.int .i64 0)
        have R4 := hide r5
        have B4 := hide (below5p B5.out (p := w.heap.size) (Nat.le_refl _) (.string ⟨#[]⟩) (.string ⟨#[]⟩) (.string ⟨#[]⟩) (.string ⟨#[]⟩) (.int .i64 0))
        clear r5
        go_wp2_with fail
        obtain ⟨d0, d1, d2, d3, d4⟩ := row5 R4.out
        refine bodyPost_ret (v := .tuple #[.agg #[.string ⟨#[]⟩, .string ⟨#[]⟩, .string ⟨#[]⟩, .string ⟨#[]⟩, .int .i64 0], .bool false]) ?_ rfl ⟨?_, B4.out⟩
        · rw [results_cell_tmp rfl]
          go_simp
        · unfold resV resN
          rw [hres]
          rfl
      | true =>
        by_cases h100 : m < 100
        · have t4 : decide (m < 100) = true := by simpa using h100
          have H100 := hide h100
          clear h100
          have hres : resB F n = false := by
            unfold resB
            rw [ho, ← Hst.out]
            rw [← Hbb.out, ← Hm.out]
            have := H100.out
            rw [decide_eq_false (show ¬ 100 ≤ m by omega)]
            simp
          obtain ⟨⟨c0, f0⟩, ⟨c1, f1⟩, ⟨c2, f2⟩, ⟨c3, f3⟩, ⟨c4, f4⟩, r5⟩ := store5p R5.out (.string ⟨#[]⟩) (.string ⟨#[]⟩) (.string ⟨#[]⟩) (.string ⟨#[]⟩) (.int .i64 0)
          have R4 := hide r5
          have B4 := hide (below5p B5.out (p := w.heap.size) (Nat.le_refl _) (.string ⟨#[]⟩) (.string ⟨#[]⟩) (.string ⟨#[]⟩) (.string ⟨#[]⟩) (.int .i64 0))
          clear r5
          go_wp2_with fail
          obtain ⟨d0, d1, d2, d3, d4⟩ := row5 R4.out
          refine bodyPost_ret (v := .tuple #[.agg #[.string ⟨#[]⟩, .string ⟨#[]⟩, .string ⟨#[]⟩, .string ⟨#[]⟩, .int .i64 0], .bool false]) ?_ rfl ⟨?_, B4.out⟩
          · rw [results_cell_tmp rfl]
            go_simp
          · unfold resV resN
            rw [hres]
            rfl
        · have t4 : decide (m < 100) = false := by simpa using h100
          have H100 := hide h100
          clear h100
          by_cases h101 : m = 101
          · have t5 : (m == 101) = true := by simpa using h101
            have H101 := hide h101
            clear h101
            have hres : resB F n = false := by
              unfold resB
              rw [ho, ← Hst.out]
              rw [← Hbb.out, ← Hm.out]
              rw [decide_eq_true H101.out]
              simp
            obtain ⟨⟨c0, f0⟩, ⟨c1, f1⟩, ⟨c2, f2⟩, ⟨c3, f3⟩, ⟨c4, f4⟩, r5⟩ := store5p R5.out (.string ⟨#[]⟩) (.string ⟨#[]⟩) (.string ⟨#[]⟩) (.string ⟨#[]⟩) (.int .i64 0)
            have R4 := hide r5
            have B4 := hide (below5p B5.out (p := w.heap.size) (Nat.le_refl _) (.string ⟨#[]⟩) (.string ⟨#[]⟩) (.string ⟨#[]⟩) (.string ⟨#[]⟩) (.int .i64 0))
            clear r5
            go_wp2_with fail
            obtain ⟨d0, d1, d2, d3, d4⟩ := row5 R4.out
            refine bodyPost_ret (v := .tuple #[.agg #[.string ⟨#[]⟩, .string ⟨#[]⟩, .string ⟨#[]⟩, .string ⟨#[]⟩, .int .i64 0], .bool false]) ?_ rfl ⟨?_, B4.out⟩
            · rw [results_cell_tmp rfl]
              go_simp
            · unfold resV resN
              rw [hres]
              rfl
          · have t5 : (m == 101) = false := by simpa using h101
            have H101 := hide h101
            clear h101
            have hres : resB F n = true := by
              unfold resB
              rw [ho, ← Hst.out]
              rw [← Hbb.out, ← Hm.out]
              have := H100.out
              rw [decide_eq_true H3.out, decide_eq_true (show 100 ≤ m by omega), decide_eq_false H101.out]
              rfl
            obtain ⟨⟨c0, f0⟩, ⟨c1, f1⟩, ⟨c2, f2⟩, ⟨c3, f3⟩, ⟨c4, f4⟩, r5⟩ := store5p R5.out (.string ⟨#[]⟩) (.string ⟨#[]⟩) (.string ⟨#[]⟩) (.string ⟨#[]⟩) (.int .i64 m)
            have R4 := hide r5
            have B4 := hide (below5p B5.out (p := w.heap.size) (Nat.le_refl _) (.string ⟨#[]⟩) (.string ⟨#[]⟩) (.string ⟨#[]⟩) (.string ⟨#[]⟩) (.int .i64 m))
            clear r5
            go_wp2_with fail
            obtain ⟨d0, d1, d2, d3, d4⟩ := row5 R4.out
            refine bodyPost_ret (v := .tuple #[.agg #[.string ⟨#[]⟩, .string ⟨#[]⟩, .string ⟨#[]⟩, .string ⟨#[]⟩, .int .i64 m], .bool true]) ?_ rfl ⟨?_, B4.out⟩
            · rw [results_cell_tmp rfl]
              go_simp
            · unfold resV resN
              rw [hres]
              rw [if_pos rfl, ← Hst.out, Hm.out]
    · have t3 : ((st.size : Int) != 3) = true := by simp; omega
      have H3 := hide h3
      clear h3
      have hres : resB F n = false := by
        unfold resB
        rw [ho, ← Hst.out]
        simp [H3.out]
      obtain ⟨⟨c0, f0⟩, ⟨c1, f1⟩, ⟨c2, f2⟩, ⟨c3, f3⟩, ⟨c4, f4⟩, r5⟩ := store5p R3.out (.string ⟨#[]⟩) (.string ⟨#[]⟩) (.string ⟨#[]⟩) (.string ⟨#[]⟩) (.int .i64 0)
      have R4 := hide r5
      have B4 := hide (below5p B3.out (p := w.heap.size) (Nat.le_refl _) (.string ⟨#[]⟩) (.string ⟨#[]⟩) (.string ⟨#[]⟩) (.string ⟨#[]⟩) (.int .i64 0))
      clear r5
      go_wp2_with fail
      obtain ⟨d0, d1, d2, d3, d4⟩ := row5 R4.out
      refine bodyPost_ret (v := .tuple #[.agg #[.string ⟨#[]⟩, .string ⟨#[]⟩, .string ⟨#[]⟩, .string ⟨#[]⟩, .int .i64 0], .bool false]) ?_ rfl ⟨?_, B4.out⟩
      · rw [results_cell_tmp rfl]
        go_simp
      · unfold resV resN
        rw [hres]
        rfl
end Go.Proofs.YtpohgehojmeodaaDoor
