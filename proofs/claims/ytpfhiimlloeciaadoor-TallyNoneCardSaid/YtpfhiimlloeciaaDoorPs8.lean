/- Layer 27: the reference's Response. -/
import Derived.Test.YtpfhiimlloeciaaDoorPs7
namespace Go.Proofs.YtpfhiimlloeciaaDoor
open Go.RowKit Go.PlainAid

set_option maxRecDepth 100000 in
set_option maxHeartbeats 6400000 in
theorem rresponse_any (A : Option Addr) (n c : Nat) (F : Nat → Fd) (w : World) (ha : RdFd w A n c F) (hnn : n ≤ 1000000) : Calls Tryd.prog 70 #[.slice A n c] w fun e w' => e = .returned (resV F n) ∧ Below w.heap.size w w' := by
  have hlen : (txt (valF F nStatus n)).size ≤ maxLen := valF_len fun i hi => (ha.2.2.2.2 i hi).2
  simp only [maxLen] at hlen
  have R0 := hide (heap_alloc_new w (.cells #[.string ⟨#[]⟩, .string ⟨#[]⟩, .string ⟨#[]⟩, .string ⟨#[]⟩, .int .i64 0] 118))
  have B0 := hide ((Below.refl w.heap.size w).alloc (Nat.le_refl _) (.cells #[.string ⟨#[]⟩, .string ⟨#[]⟩, .string ⟨#[]⟩, .string ⟨#[]⟩, .int .i64 0] 118))
  have A0 := hide (ha.below ((Below.refl _ _).alloc (Nat.le_refl _) (.cells #[.string ⟨#[]⟩, .string ⟨#[]⟩, .string ⟨#[]⟩, .string ⟨#[]⟩, .int .i64 0] 118)))
  have hord := fun (p : Nat) (W : World) (h1 : RdFd W A n c F) (h2 : RdV 1 W (some ⟨p, 0, none⟩) 1 1 (fun i => .string (rsN.getD i sE))) => rordered_any A (some ⟨p, 0, none⟩) n c 1 F rsN W h1 h2 (by decide) hnn
  rw [show rsN.length = 1 from rfl] at hord
  clear ha
  go_enter Tryd.func70, Tryd.ntmps70
  go_wp2_with fail
  refine (rvalF_any _ n c F nStatus _ A0.out).mono ?_
  rintro e w1 ⟨rfl, hd1⟩
  have B1 := hide (B0.out.trans (drawn_below hd1 _))
  have R1 := hide (keepRow R0.out (drawn_below hd1 _))
  have A1 := hide ((A0.out.below (drawn_below hd1 _)).below ((Below.refl _ _).alloc (Nat.le_refl _) (.cells #[.string ⟨#[58, 115, 116, 97, 116, 117, 115]⟩] 9)))
  clear hd1 B0 R0 A0
  have hN := (OwnV.lit 1 9 0 w1 (fun i => .string (rsN.getD i sE)) #[.string nStatus] 1 (Nat.zero_le _) (by simp [maxLen]) rfl).rdS2
  unfold nStatus at hN
  have HN := hide hN
  have B2 := hide (B1.out.alloc B1.out.size (.cells #[.string ⟨#[58, 115, 116, 97, 116, 117, 115]⟩] 9))
  have R2 := hide (keepRow R1.out ((Below.refl _ _).alloc (Nat.le_refl _) (.cells #[.string ⟨#[58, 115, 116, 97, 116, 117, 115]⟩] 9)))
  clear hN B1 R1
  obtain ⟨st, hst⟩ : ∃ x, x = txt (valF F nStatus n) := ⟨_, rfl⟩
  rw [← hst] at hlen ⊢
  have Hst := hide hst
  clear hst
  go_wp2_with fail
  refine (hord _ _ A1.out HN.out).mono ?_
  rintro e w3 ⟨rfl, hb⟩
  have R3 := hide (keepRow R2.out hb)
  have B3 := hide (B2.out.of hb)
  clear hb R2 B2 A1 HN hord
  obtain ⟨ok, hok⟩ : ∃ ok, ok = okF rsN F n := ⟨_, rfl⟩
  rw [← hok]
  cases ok with
  | false =>
    have ho := hok.symm
    clear hok
    have hres : resB F n = false := by
      unfold resB
      rw [ho]
      rfl
    obtain ⟨⟨c0, f0⟩, ⟨c1, f1⟩, ⟨c2, f2⟩, ⟨c3, f3⟩, ⟨c4, f4⟩, r5⟩ := store5p R3.out (.string ⟨#[]⟩) (.string ⟨#[]⟩) (.string ⟨#[]⟩) (.string ⟨#[]⟩) (.int .i64 0)
    have R4 := hide r5
    have B4 := hide (below5p B3.out (p := w.heap.size) (Nat.le_refl _) (.string ⟨#[]⟩) (.string ⟨#[]⟩) (.string ⟨#[]⟩) (.string ⟨#[]⟩) (.int .i64 0))
    clear r5
    go_wp2_with fail
    obtain ⟨d0, d1, d2, d3, d4⟩ := row5 R4.out
    refine bodyPost_ret (v := .tuple #[.agg #[.string ⟨#[]⟩, .string ⟨#[]⟩, .string ⟨#[]⟩, .string ⟨#[]⟩, .int .i64 0], .bool false]) ?_ rfl ⟨?_, B4.out⟩
    · rw [results_cell_tmp rfl]
      go_simp
    · unfold resV resN
      rw [hres]
      rfl
  | true =>
    have ho := hok.symm
    clear hok
    by_cases h3 : st.size = 3
    · have t3 : ((st.size : Int) != 3) = false := by simp; omega
      have H3 := hide h3
      clear h3
      go_wp2_with fail
      go_loopw [5, 6] (fun t i wr => ∃ (k : Nat) (m : Int), k ≤ 3 ∧ i = .int .i64 k ∧ t = .int .i64 m ∧ natG (bt st) 999 k = some m ∧ m < 10 ^ k ∧ 0 ≤ m ∧ w3 = wr) (fun _ i _ => 3 - (intOf i).toNat)
      case atStart => exact ⟨0, 0, by omega, rfl, rfl, rfl, by decide, by omega, rfl⟩
      case round =>
        obtain ⟨k, m, hk, rfl, rfl, hg, hm, hm0, rfl⟩ := hrel
        have Hg := hide hg
        clear hg
        by_cases hlt : k < 3
        · have hd : decide ((k : Int) < 3) = true := decide_eq_true (by omega)
          have hm99 : m ≤ 99 := by
            have : k = 0 ∨ k = 1 ∨ k = 2 := by omega
            rcases this with rfl | rfl | rfl <;> simp at hm <;> omega
          have hkk : k < st.size := by have := H3.out; omega
          have hgb := get_bt st k hkk
          have hks : (k : Int) < (st.size : Int) := by omega
          obtain ⟨c, hc⟩ : ∃ c, bt st k = c := ⟨_, rfl⟩
          rw [hc] at hgb
          have HC := hide hc
          clear hc
          by_cases hdig : 48 ≤ c ∧ c ≤ 57
          · have u1 : decide (c < 48) = false := decide_eq_false (by omega)
            have u2 : decide (57 < c) = false := decide_eq_false (by omega)
            have u3 : 0 ≤ c - 48 := by omega
            have u4 : c - 48 ≤ 9 := by omega
            have HG : Hid (natG (bt st) 999 (k + 1) = some (10 * m + (c - 48))) := by
              have h := natG_yes Hg.out (by rw [HC.out]; omega) (by rw [HC.out]; omega) (by rw [HC.out]; omega)
              rw [HC.out] at h
              exact h
            have HM : Hid (10 * m + (c - 48) < 10 ^ (k + 1)) := by
              have : k = 0 ∨ k = 1 ∨ k = 2 := by omega
              rcases this with rfl | rfl | rfl <;> simp at hm ⊢ <;> show _ < _ <;> omega
            have g0 : 0 ≤ 10 * m := by omega
            have g1 : 10 * m ≤ 990 := by omega
            have g2 : 10 * m + (c - 48) ≤ 999 := by omega
            have g3 : 0 ≤ 10 * m + (c - 48) := by omega
            have u5 : 48 ≤ c := hdig.1
            have u6 : c ≤ 57 := hdig.2
            clear hdig hm
            go_wp2_with fail
            go_roundw
            case rel => exact ⟨k + 1, 10 * m + (c - 48), by omega, by go_num, rfl, HG.out, HM.out, g3, by first | rfl | trivial⟩
            case measure => simp [intOf]; omega
          · have HB : Hid (natB st 999 = false) := (nat_no (k := k + 1) (by have := H3.out; omega) (natG_no Hg.out (by rw [HC.out]; omega))).2
            have hcb := bt_nonneg st k
            rw [HC.out] at hcb
            by_cases hlo : c < 48
            · have u1 : decide (c < 48) = true := decide_eq_true hlo
              clear hdig hlo hm
              have hres : resB F n = false := by
                unfold resB
                rw [ho, ← Hst.out]
                rw [HB.out]
                simp
              obtain ⟨⟨c0, f0⟩, ⟨c1, f1⟩, ⟨c2, f2⟩, ⟨c3, f3⟩, ⟨c4, f4⟩, r5⟩ := store5p R3.out (.string ⟨#[]⟩) (.string ⟨#[]⟩) (.string ⟨#[]⟩) (.string ⟨#[]⟩) (.int .i64 0)
              have R4 := hide r5
              have B4 := hide (below5p B3.out (p := w.heap.size) (Nat.le_refl _) (.string ⟨#[]⟩) (.string ⟨#[]⟩) (.string ⟨#[]⟩) (.string ⟨#[]⟩) (.int .i64 0))
              clear r5
              go_wp2_with fail
              obtain ⟨d0, d1, d2, d3, d4⟩ := row5 R4.out
              refine bodyPost_ret (v := .tuple #[.agg #[.string ⟨#[]⟩, .string ⟨#[]⟩, .string ⟨#[]⟩, .string ⟨#[]⟩, .int .i64 0], .bool false]) ?_ rfl ⟨?_, B4.out⟩
              · rw [results_cell_tmp rfl]
                go_simp
              · unfold resV resN
                rw [hres]
                rfl
            · have u1 : decide (c < 48) = false := decide_eq_false hlo
              have u2 : decide (57 < c) = true := decide_eq_true (by omega)
              clear hdig hlo hm
              have hres : resB F n = false := by
                unfold resB
                rw [ho, ← Hst.out]
                rw [HB.out]
                simp
              obtain ⟨⟨c0, f0⟩, ⟨c1, f1⟩, ⟨c2, f2⟩, ⟨c3, f3⟩, ⟨c4, f4⟩, r5⟩ := store5p R3.out (.string ⟨#[]⟩) (.string ⟨#[]⟩) (.string ⟨#[]⟩) (.string ⟨#[]⟩) (.int .i64 0)
              have R4 := hide r5
              have B4 := hide (below5p B3.out (p := w.heap.size) (Nat.le_refl _) (.string ⟨#[]⟩) (.string ⟨#[]⟩) (.string ⟨#[]⟩) (.string ⟨#[]⟩) (.int .i64 0))
              clear r5
              go_wp2_with fail
              obtain ⟨d0, d1, d2, d3, d4⟩ := row5 R4.out
              refine bodyPost_ret (v := .tuple #[.agg #[.string ⟨#[]⟩, .string ⟨#[]⟩, .string ⟨#[]⟩, .string ⟨#[]⟩, .int .i64 0], .bool false]) ?_ rfl ⟨?_, B4.out⟩
              · rw [results_cell_tmp rfl]
                go_simp
              · unfold resV resN
                rw [hres]
                rfl
        · obtain rfl : k = 3 := by omega
          have hyes := nat_yes (s := st) (most := 999) (n := m) (by have := H3.out; omega) (by rw [H3.out]; exact Hg.out)
          have Hm : Hid (m = natN st 999) := hyes.1.symm
          have Hbb : Hid (true = natB st 999) := hyes.2.symm
          clear hyes
          by_cases h100 : m < 100
          · have t4 : decide (m < 100) = true := by simpa using h100
            have H100 := hide h100
            clear h100 hm hm0
            have hres : resB F n = false := by
              unfold resB
              rw [ho, ← Hst.out]
              rw [← Hbb.out, ← Hm.out]
              have := H100.out
              rw [decide_eq_false (show ¬ 100 ≤ m by omega)]
              simp
            obtain ⟨⟨c0, f0⟩, ⟨c1, f1⟩, ⟨c2, f2⟩, ⟨c3, f3⟩, ⟨c4, f4⟩, r5⟩ := store5p R3.out (.string ⟨#[]⟩) (.string ⟨#[]⟩) (.string ⟨#[]⟩) (.string ⟨#[]⟩) (.int .i64 0)
            have R4 := hide r5
            have B4 := hide (below5p B3.out (p := w.heap.size) (Nat.le_refl _) (.string ⟨#[]⟩) (.string ⟨#[]⟩) (.string ⟨#[]⟩) (.string ⟨#[]⟩) (.int .i64 0))
            clear r5
            go_wp2_with fail
            obtain ⟨d0, d1, d2, d3, d4⟩ := row5 R4.out
            refine bodyPost_ret (v := .tuple #[.agg #[.string ⟨#[]⟩, .string ⟨#[]⟩, .string ⟨#[]⟩, .string ⟨#[]⟩, .int .i64 0], .bool false]) ?_ rfl ⟨?_, B4.out⟩
            · rw [results_cell_tmp rfl]
              go_simp
            · unfold resV resN
              rw [hres]
              rfl
          · have t4 : decide (m < 100) = false := by simpa using h100
            have H100 := hide h100
            clear h100 hm hm0
            by_cases h101 : m = 101
            · have t5 : (m == 101) = true := by simpa using h101
              have H101 := hide h101
              clear h101
              have hres : resB F n = false := by
                unfold resB
                rw [ho, ← Hst.out]
                rw [← Hbb.out, ← Hm.out]
                rw [decide_eq_true H101.out]
                simp
              obtain ⟨⟨c0, f0⟩, ⟨c1, f1⟩, ⟨c2, f2⟩, ⟨c3, f3⟩, ⟨c4, f4⟩, r5⟩ := store5p R3.out (.string ⟨#[]⟩) (.string ⟨#[]⟩) (.string ⟨#[]⟩) (.string ⟨#[]⟩) (.int .i64 0)
              have R4 := hide r5
              have B4 := hide (below5p B3.out (p := w.heap.size) (Nat.le_refl _) (.string ⟨#[]⟩) (.string ⟨#[]⟩) (.string ⟨#[]⟩) (.string ⟨#[]⟩) (.int .i64 0))
              clear r5
              go_wp2_with fail
              obtain ⟨d0, d1, d2, d3, d4⟩ := row5 R4.out
              refine bodyPost_ret (v := .tuple #[.agg #[.string ⟨#[]⟩, .string ⟨#[]⟩, .string ⟨#[]⟩, .string ⟨#[]⟩, .int .i64 0], .bool false]) ?_ rfl ⟨?_, B4.out⟩
              · rw [results_cell_tmp rfl]
                go_simp
              · unfold resV resN
                rw [hres]
                rfl
            · have t5 : (m == 101) = false := by simpa using h101
              have H101 := hide h101
              clear h101
              have hres : resB F n = true := by
                unfold resB
                rw [ho, ← Hst.out]
                rw [← Hbb.out, ← Hm.out]
                have := H100.out
                rw [decide_eq_true H3.out, decide_eq_true (show 100 ≤ m by omega), decide_eq_false H101.out]
                rfl
              obtain ⟨⟨c0, f0⟩, ⟨c1, f1⟩, ⟨c2, f2⟩, ⟨c3, f3⟩, ⟨c4, f4⟩, r5⟩ := store5p R3.out (.string ⟨#[]⟩) (.string ⟨#[]⟩) (.string ⟨#[]⟩) (.string ⟨#[]⟩) (.int .i64 m)
              have R4 := hide r5
              have B4 := hide (below5p B3.out (p := w.heap.size) (Nat.le_refl _) (.string ⟨#[]⟩) (.string ⟨#[]⟩) (.string ⟨#[]⟩) (.string ⟨#[]⟩) (.int .i64 m))
              clear r5
              go_wp2_with fail
              obtain ⟨d0, d1, d2, d3, d4⟩ := row5 R4.out
              refine bodyPost_ret (v := .tuple #[.agg #[.string ⟨#[]⟩, .string ⟨#[]⟩, .string ⟨#[]⟩, .string ⟨#[]⟩, .int .i64 m], .bool true]) ?_ rfl ⟨?_, B4.out⟩
              · rw [results_cell_tmp rfl]
                go_simp
              · unfold resV resN
                rw [hres]
                rw [if_pos rfl, ← Hst.out, Hm.out]
    · have t3 : ((st.size : Int) != 3) = true := by simp; omega
      have H3 := hide h3
      clear h3
      have hres : resB F n = false := by
        unfold resB
        rw [ho, ← Hst.out]
        simp [H3.out]
      obtain ⟨⟨c0, f0⟩, ⟨c1, f1⟩, ⟨c2, f2⟩, ⟨c3, f3⟩, ⟨c4, f4⟩, r5⟩ := store5p R3.out (.string ⟨#[]⟩) (.string ⟨#[]⟩) (.string ⟨#[]⟩) (.string ⟨#[]⟩) (.int .i64 0)
      have R4 := hide r5
      have B4 := hide (below5p B3.out (p := w.heap.size) (Nat.le_refl _) (.string ⟨#[]⟩) (.string ⟨#[]⟩) (.string ⟨#[]⟩) (.string ⟨#[]⟩) (.int .i64 0))
      clear r5
      go_wp2_with fail
      obtain ⟨d0, d1, d2, d3, d4⟩ := row5 R4.out
      refine bodyPost_ret (v := .tuple #[.agg #[.string ⟨#[]⟩, .string ⟨#[]⟩, .string ⟨#[]⟩, .string ⟨#[]⟩, .int .i64 0], .bool false]) ?_ rfl ⟨?_, B4.out⟩
      · rw [results_cell_tmp rfl]
        go_simp
      · unfold resV resN
        rw [hres]
        rfl
end Go.Proofs.YtpfhiimlloeciaaDoor
