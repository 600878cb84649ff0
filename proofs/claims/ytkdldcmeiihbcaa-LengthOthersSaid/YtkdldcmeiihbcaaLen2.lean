/- Layer 26: the contract of 'length.Of'. -/
import Derived.Test.YtkdldcmeiihbcaaLen1
namespace Go.Proofs.Ytkdldcmeiihbcaa
open Go.RowKit Go.PlainAid

def LenE (F : Nat → Fd) (n : Nat) (w : World) (e : Ending) (w' : World) : Prop := ∃ N T B, e = .returned (.tuple #[.agg #[.int .i64 N, .bool T], .bool B]) ∧ LenR F n N T B ∧ Below w.heap.size w w'
/-- The two blocks: what is answered, and what was told. -/
def LenS (F : Nat → Fd) (w : World) (k : Nat) (t : Option Int) (wr : World) : Prop :=
  OkL F k t ∧ wr.heap[w.heap.size]? = some (.cells #[.int .i64 0, .bool false] 41 (0, 0)) ∧ wr.heap[w.heap.size + 1]? = some (.cells #[.int .i64 (t.getD 0), .bool t.isSome] 41 (0, 0)) ∧ Below w.heap.size w wr
theorem zero_again {w2 : World} {p : Nat} {T : TypeId} (h : w2.heap[p]? = some (.cells #[.int .i64 0, .bool false] T (0, 0))) :
    (w2.setCell ⟨p, 0, none⟩ (.int .i64 0)).heap[p]? = some (.cells #[.int .i64 0, .bool false] T (0, 0)) ∧ ((w2.setCell ⟨p, 0, none⟩ (.int .i64 0)).setCell ⟨p, 1, none⟩ (.bool false)).heap[p]? = some (.cells #[.int .i64 0, .bool false] T (0, 0)) := by
  have S1 := setRow w2 p 0 (.int .i64 0) h
  simp only [List.setIfInBounds_toArray, List.set_cons_zero, List.set_cons_succ] at S1
  have S2 := setRow _ p 1 (.bool false) S1
  simp only [List.setIfInBounds_toArray, List.set_cons_zero, List.set_cons_succ] at S2
  exact ⟨S1, S2⟩
set_option maxRecDepth 20000 in
set_option maxHeartbeats 3200000 in
theorem lenof_any (A : Option Addr) (n c : Nat) (F : Nat → Fd) (w : World) (ha : RdFd w A n c F) :
    Calls Try.prog 37 #[.slice A n c] w (LenE F n w) := by
  have Ha := hide ha
  have Hm := hide ha.le
  clear ha
  obtain ⟨W, hW⟩ : ∃ W, W = (w.alloc (.cells #[.int .i64 0, .bool false] 41)).alloc (.cells #[.int .i64 0, .bool false] 41) := ⟨_, rfl⟩
  have HS : Hid (LenS F w 0 none W) := by
    rw [hW]
    have r0 := heap_alloc_new w (.cells #[.int .i64 0, .bool false] 41)
    have r1 := heap_alloc_new (w.alloc (.cells #[.int .i64 0, .bool false] 41)) (.cells #[.int .i64 0, .bool false] 41)
    have hs : (w.alloc (.cells #[.int .i64 0, .bool false] 41)).heap.size = w.heap.size + 1 := by simp
    rw [hs] at r1
    exact ⟨OkL.zero F, keepRow r0 ((Below.refl _ _).alloc (Nat.le_refl _) _), r1, ((Below.refl _ _).alloc (Nat.le_refl _) _).alloc (by simp) _⟩
  have HW := hide hW
  clear hW
  go_enter Try.func37, Try.ntmps37
  go_wp2_with fail
  go_loopw [11] (fun i wr => ∃ (k : Nat) (t : Option Int), k ≤ n ∧ i = .int .i64 k ∧ LenS F w k t wr) (fun i _ => n - (intOf i).toNat)
  case atStart => exact ⟨0, none, Nat.zero_le _, rfl, by rw [← HW.out]; exact HS.out⟩
  case round =>
    obtain ⟨k, t, hk, rfl, hS⟩ := hrel
    obtain ⟨hok, r0, r1, hB⟩ := hS
    have Hok := hide hok
    have R0 := hide r0
    have R1 := hide r1
    have HB := hide hB
    have hsz := hB.size
    have hl0 := rowLt r0
    have hl1 := rowLt r1
    clear hok r0 r1
    by_cases hlt : k < n
    · have Hr := hide (Ha.out.below hB)
      clear hB
      obtain ⟨b, off, rfl, hc0, hc1, hc2⟩ := Hr.out.at_ hlt
      have hln := Hr.out.len hlt
      have hkn : (k : Int) < (n : Int) := by omega
      have hn := Hm.out
      obtain ⟨X, hX⟩ : ∃ X, F k = X := ⟨_, rfl⟩
      have HX := hide hX
      rw [hX] at hc0 hc1 hc2 hln
      clear hX
      obtain ⟨x0, x1, x2⟩ := X
      simp only at hc0 hc1 hc2 hln
      obtain ⟨_, hx1⟩ := hln
      have RF := hide (heap_alloc_new wr (.cells #[.string x0, .string x1, .bool x2] 36))
      have BA : Hid (Below wr.heap.size wr (wr.alloc (.cells #[.string x0, .string x1, .bool x2] 36))) := (Below.refl _ _).alloc (Nat.le_refl _) _
      have A0 := hide (keepRow R0.out BA.out)
      have A1 := hide (keepRow R1.out BA.out)
      have HBA := hide (HB.out.of BA.out)
      obtain ⟨d0, d1, d2⟩ := row3 RF.out
      by_cases hcl : x0 = CL
      · have t1 : (!(x0.toList == [99, 111, 110, 116, 101, 110, 116, 45, 108, 101, 110, 103, 116, 104])) = false := by rw [cl_yes hcl]; rfl
        have hnm : Hid ((F k).name = CL) := by rw [HX.out]; exact hcl
        have hvl : Hid ((F k).val = x1) := by rw [HX.out]; rfl
        clear hcl
        go_wp2_with fail
        refine (natural_any x1 MX _ hx1 (by decide) (by decide)).mono ?_
        rintro e w2 ⟨rfl, hb2⟩
        have Q0 := hide (keepRow A0.out hb2)
        have Q1 := hide (keepRow A1.out hb2)
        have HB2 := hide (HBA.out.of hb2)
        have hs2 := HB2.out.size
        have l0 := rowLt Q0.out
        have l1 := rowLt Q1.out
        clear hb2
        obtain ⟨NB, hNB⟩ : ∃ x, natB x1 MX = x := ⟨_, rfl⟩
        obtain ⟨NN, hNN⟩ : ∃ x, natN x1 MX = x := ⟨_, rfl⟩
        rw [hNB, hNN]
        have HNB : Hid (natB (F k).val MX = NB) := by rw [hvl.out]; exact hNB
        have HNN : Hid (natN (F k).val MX = NN) := by rw [hvl.out]; exact hNN
        clear hNB hNN
        obtain ⟨z1, z2⟩ := zero_again Q0.out
        have Z2 := hide z2
        obtain ⟨c00, c01⟩ := row2 Q0.out
        obtain ⟨c10, c11⟩ := row2 z1
        have y00 := frozenRow Q0.out 0
        have y11 := frozenRow z1 1
        obtain ⟨b00, b01⟩ := row2 Q1.out
        clear z1 z2
        cases NB with
        | false =>
          go_wp2_with fail
          obtain ⟨e0, e1⟩ := row2 Z2.out
          refine bodyPost_ret (v := .tuple #[.agg #[.int .i64 0, .bool false], .bool false]) ?_ rfl ⟨_, _, _, rfl, .inr ⟨rfl, rfl, rfl, ok_bad hlt hnm.out HNB.out⟩, ?_⟩
          · rw [results_cell_tmp rfl]
            go_simp
          · exact (HB2.out.setCell (Nat.le_refl _) _).setCell (Nat.le_refl _) _
        | true =>
          have S1 := setRow w2 (w.heap.size + 1) 0 (.int .i64 NN) Q1.out
          simp only [List.setIfInBounds_toArray, List.set_cons_zero, List.set_cons_succ] at S1
          have S2 := setRow _ (w.heap.size + 1) 1 (.bool true) S1
          simp only [List.setIfInBounds_toArray, List.set_cons_zero, List.set_cons_succ] at S2
          have HS2 := hide S2
          have P0 : Hid (((w2.setCell ⟨w.heap.size + 1, 0, none⟩ (.int .i64 NN)).setCell ⟨w.heap.size + 1, 1, none⟩ (.bool true)).heap[w.heap.size]? = some (.cells #[.int .i64 0, .bool false] 41 (0, 0))) :=
            keepOne (keepOne Q0.out (grown_set _ _ _ _) (by omega)) (grown_set _ _ _ _) (by omega)
          have HBS : Hid (Below w.heap.size w ((w2.setCell ⟨w.heap.size + 1, 0, none⟩ (.int .i64 NN)).setCell ⟨w.heap.size + 1, 1, none⟩ (.bool true))) := (HB2.out.setCell (by simp) _).setCell (by simp) _
          obtain ⟨f00, f01⟩ := row2 S1
          have g00 := frozenRow Q1.out 0
          have g11 := frozenRow S1 1
          clear S1 S2
          cases t with
          | none =>
            simp only [Option.getD, Option.isSome] at b00 b01
            have Hn : Hid (OkL F (k + 1) (some NN)) := by have := Hok.out.first hnm.out HNB.out; rw [HNN.out] at this; exact this
            go_wp2_with fail
            exact ⟨⟨k + 1, some NN, by omega, by go_num, ⟨Hn.out, P0.out, HS2.out, HBS.out⟩⟩, by simp [intOf]; omega⟩
          | some m =>
            simp only [Option.getD, Option.isSome] at b00 b01
            by_cases hm : NN = m
            · have t3 : (NN != m) = false := by simp [hm]
              have Hn : Hid (OkL F (k + 1) (some NN)) := by have := Hok.out.again hnm.out HNB.out (HNN.out.trans hm); rw [hm]; exact this
              clear hm
              go_wp2_with fail
              exact ⟨⟨k + 1, some NN, by omega, by go_num, ⟨Hn.out, P0.out, HS2.out, HBS.out⟩⟩, by simp [intOf]; omega⟩
            · have t3 : (NN != m) = true := by simpa using hm
              have Hn : Hid (∀ t, ¬ OkL F n t) := ok_differ Hok.out hlt hnm.out (by rw [HNN.out]; exact hm)
              clear hm
              go_wp2_with fail
              obtain ⟨e0, e1⟩ := row2 Z2.out
              refine bodyPost_ret (v := .tuple #[.agg #[.int .i64 0, .bool false], .bool false]) ?_ rfl ⟨_, _, _, rfl, .inr ⟨rfl, rfl, rfl, Hn.out⟩, ?_⟩
              · rw [results_cell_tmp rfl]
                go_simp
              · exact (HB2.out.setCell (Nat.le_refl _) _).setCell (Nat.le_refl _) _
      · have t1 : (!(x0.toList == [99, 111, 110, 116, 101, 110, 116, 45, 108, 101, 110, 103, 116, 104])) = true := by rw [cl_no hcl]; rfl
        have Hn : Hid (OkL F (k + 1) t) := Hok.out.skip (by rw [HX.out]; exact hcl)
        clear hcl
        go_wp2_with fail
        exact ⟨⟨k + 1, t, by omega, by go_num, ⟨Hn.out, A0.out, A1.out, HBA.out⟩⟩, by simp [intOf]; omega⟩
    · obtain rfl : k = n := by omega
      clear hB
      obtain ⟨N, hN⟩ : ∃ x, t.getD 0 = x := ⟨_, rfl⟩
      obtain ⟨T, hT⟩ : ∃ x, t.isSome = x := ⟨_, rfl⟩
      have hR : LenR F k N T true := .inl ⟨rfl, t, Hok.out, hN.symm, hT.symm⟩
      have HR := hide hR
      have q1 := R1.out
      rw [hN, hT] at q1
      obtain ⟨b00, b01⟩ := row2 q1
      have S1 := setRow wr w.heap.size 0 (.int .i64 N) R0.out
      simp only [List.setIfInBounds_toArray, List.set_cons_zero, List.set_cons_succ] at S1
      have S2 := setRow _ w.heap.size 1 (.bool T) S1
      simp only [List.setIfInBounds_toArray, List.set_cons_zero, List.set_cons_succ] at S2
      have HS2 := hide S2
      obtain ⟨c00, c01⟩ := row2 R0.out
      obtain ⟨f00, f01⟩ := row2 S1
      have g00 := frozenRow R0.out 0
      have g11 := frozenRow S1 1
      clear S1 S2 hR hN hT q1
      go_wp2_with fail
      obtain ⟨e0, e1⟩ := row2 HS2.out
      refine bodyPost_ret (v := .tuple #[.agg #[.int .i64 N, .bool T], .bool true]) ?_ rfl ⟨_, _, _, rfl, HR.out, ?_⟩
      · rw [results_cell_tmp rfl]
        go_simp
      · exact (HB.out.setCell (Nat.le_refl _) _).setCell (Nat.le_refl _) _
end Go.Proofs.Ytkdldcmeiihbcaa
