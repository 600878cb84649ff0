/- Layer 10: the reference's Cut. -/
import Derived.Test.YtpnjamomkpkkeaaCu2
namespace Go.Proofs.Ytpnjamomkpkkeaa
set_option linter.unusedVariables false
set_option linter.unusedSimpArgs false
open Go.RowKit

def CuR (w : World) (s : CtS) (v : Value) (W : World) : Prop := (∃ V, PcD w.heap.size W v s.p.m s.p.X V s.p.N s.p.G) ∧ Below w.heap.size w W
set_option maxRecDepth 100000 in
set_option maxHeartbeats 12800000 in
theorem rcut_any (A S : Option Addr) (n c d dc : Nat) (F : Nat → Ck) (g : Nat → Int) (w : World) (ha : RdC w A n c F) (hS : Rd .i64 w S d dc g) (hn : n ≤ 1000) (hs : sumC F n ≤ 20000) (hd : 0 < d) (hd' : d ≤ 100) (hg : ∀ i, i < d → -9223372036854775808 ≤ g i ∧ g i ≤ 9223372036854775807) :
    Calls Try.prog 32 #[.slice A n c, .slice S d dc] w fun e w' => ∃ v V, e = .returned v ∧ PcD w.heap.size w' v (cts g d F n).p.m (cts g d F n).p.X V (cts g d F n).p.N (cts g d F n).p.G ∧ Below w.heap.size w w' := by
  have Ha := hide ha
  have HS0 := hide hS
  have Hn := hide hn
  have Hs := hide hs
  have Hg := hide hg
  have Hgu := hide (fun i hi => (hg i hi).2 : ∀ i, i < d → g i ≤ 9223372036854775807)
  have d0 : ((d : Int) == 0) = false := by simp; omega
  clear ha hS hn hs hg
  obtain ⟨i0, hi, hz0, hz1, hz2⟩ := info_parts chunk_info
  obtain ⟨iu, hiu, hu0, hu1, hu2⟩ := info_parts u8_info
  go_enter Try.func32, Try.ntmps32
  go_wp2_with fail
  go_loopw [5, 6, 7] (fun v a i wr => ∃ k : Nat, k ≤ n ∧ i = .int .i64 k ∧ a = .int .i64 (cts g d F k).a ∧ CuR w (cts g d F k) v wr) (fun _ _ i _ => n - (intOf i).toNat)
  case atStart => exact ⟨0, Nat.zero_le _, rfl, rfl, ⟨fun _ => .int .i64 0, PcD.nil _ _ _ _ _ _⟩, Below.refl _ _⟩
  case round =>
    obtain ⟨k, hk, rfl, rfl, hJ⟩ := hrel
    by_cases hlt : k < n
    · have HJ0 := hide hJ
      clear hJ
      have hkn : (k : Int) < (n : Int) := by omega
      have hle := Nat.le_trans (sumC_mono F (show k + 1 ≤ n by omega)) Hs.out
      have e2 : sumC F (k + 1) = sumC F k + (F k).n := rfl
      rw [e2] at hle
      have hcb := cts_b F Hgu.out hd k (F k).from_
      have hr0 := cts_r (g := g) (d := d) F k
      have hsucc : cts g d F (k + 1) = ⟨((cts g d F k).bytes g d (F k).from_ (F k).b (F k).n).p, ((cts g d F k).bytes g d (F k).from_ (F k).b (F k).n).a, 0⟩ := rfl
      have hby := (Ha.out.2.2.2.2 k hlt).1
      obtain ⟨b0, o0, hA, hc0, hc1⟩ := Ha.out.at_ hlt
      obtain ⟨X, hX⟩ : ∃ X, F k = X := ⟨_, rfl⟩
      rw [hX] at hle hsucc hcb hby hc0 hc1
      obtain ⟨x, A1, q, c1, f1⟩ := X
      simp only at hle hsucc hcb hby hc0 hc1
      have Hsucc := hide hsucc
      have Hcb := hide hcb
      have Hby := hide hby
      have Hle := hide hle
      have Hc := hide (And.intro hc0 hc1)
      have hn' := Hn.out
      subst hA
      obtain ⟨s0, hs0⟩ : ∃ s0, s0 = cts g d F k := ⟨_, rfl⟩
      rw [← hs0] at HJ0 Hcb Hsucc hr0 ⊢
      have Hr0 := hide hr0
      clear hX e2 hsucc hle hby hc0 hc1 hs0 hcb hr0
      go_wp2_with fail
      go_loopw [5, 6, 8, 9] (fun v a r i wr => ∃ j : Nat, j ≤ q ∧ i = .int .i64 j ∧ a = .int .i64 (s0.bytes g d x f1 j).a ∧ r = .int .i64 (s0.bytes g d x f1 j).r ∧ CuR w (s0.bytes g d x f1 j) v wr) (fun _ _ _ i _ => q - (intOf i).toNat)
      case atStart => exact ⟨0, Nat.zero_le _, rfl, rfl, by rw [show (s0.bytes g d x f1 0).r = 0 from Hr0.out], HJ0.out⟩
      case round =>
        obtain ⟨j, hj, rfl, rfl, rfl, hJ⟩ := hrel
        clear HJ0
        have HB := hide hJ.2
        have hq63 : (q : Int) ≤ 9223372036854775807 := by have := Hle.out; omega
        obtain ⟨hc0, hc1⟩ := Hc.out
        have c0 := cellKeepC HB.out hc0
        have c1' := cellKeepC HB.out hc1
        clear hc0 hc1
        have hcb := Hcb.out.bytes Hgu.out hd f1 j
        by_cases hjq : j < q
        · have hjq' : (j : Int) < (q : Int) := by omega
          have hs1 : s0.bytes g d x f1 (j + 1) = (s0.bytes g d x f1 j).byte g d x (f1 j) := rfl
          obtain ⟨s, hs⟩ : ∃ s, s = s0.bytes g d x f1 j := ⟨_, rfl⟩
          rw [← hs] at hJ hcb hs1 ⊢
          clear hs
          obtain ⟨⟨m, X', N', G'⟩, a, r⟩ := s
          obtain ⟨m1, m2, m3, m4, m5, m6⟩ := hcb
          obtain ⟨⟨V, hV⟩, _⟩ := hJ
          simp only at m1 m2 m3 m4 m5 m6 hV ⊢
          have hT := Hle.out
          have hmb : m ≤ 20000 := by omega
          have hab : a ≤ 20000 := by omega
          have Hm2 : Hid (∀ i, i < m → N' i ≤ 20000) := fun i hi => by have := m3 i hi; omega
          have HV := hide hV
          have Hm6 := hide m6
          clear hV m3 m6 hT m1 m2
          obtain ⟨Av, cv, rfl, hrv, hav⟩ := HV.out.pcs.row.rd
          clear hrv hav
          obtain ⟨bb, bo, hA1, hbc⟩ := Hby.out.at_ hjq
          subst hA1
          have Hbc := hide hbc
          clear hbc
          have c2 := cellKeepC HB.out Hbc.out
          by_cases hr : r = 0
          · subst hr
            have HSs := hide hs1
            unfold CtS.byte at HSs
            simp only [if_true] at HSs
            clear hs1
            obtain ⟨z, hz⟩ : ∃ z, z = a % d := ⟨_, rfl⟩
            have hzd : z < d := by rw [hz]; exact Nat.mod_lt _ hd
            have hmod : (a : Int) % (d : Int) = (z : Int) := by rw [hz]; rfl
            have hzd' : (z : Int) < (d : Int) := by omega
            obtain ⟨bs, so, hSS, hcs⟩ := (HS0.out.below HB.out).at_ hzd
            subst hSS
            have hgz := Hg.out z hzd
            have Hzz : Hid (szF g d a = max 1 (g z)) := by rw [hz]; rfl
            obtain ⟨y, hy⟩ : ∃ y, y = g z := ⟨_, rfl⟩
            rw [← hy] at hgz hcs Hzz
            clear hy hz
            by_cases hy1 : y < 1
            · have dy : decide (y < 1) = true := by simpa using hy1
              have HS : Hid (s0.bytes g d x f1 (j + 1) = ⟨pushJ ⟨m, X', N', G'⟩ x 1 (fun _ => f1 j), a + 1, 0⟩) := by
                show _ = _
                rw [HSs.out, Hzz.out, show max 1 y - 1 = 0 by omega]
              clear hy1 HSs Hzz
              have HV3 := hide (HV.out.below ((Below.refl _ _).alloc (Nat.le_refl _) (.cells #[.int .i64 x, .slice none 0 0] 52)))
              have HB3 := hide (HB.out.alloc HB.out.size (.cells #[.int .i64 x, .slice none 0 0] 52))
              go_wp2_with (at_builtin; refine wp_appV rfl _ _ _ rfl 2 i0 _ 32 Try.underlying69 hi hz0 hz1 hz2 rfl (by omega) w.heap.size _ m _ rfl HV3.out.pcs.row _ 1 1 _ rfl (RdV.litK _ x _) (fun i _ => by unfold litC2; split <;> rfl) (by simp only [maxLen]; omega) (by omega) HB3.out.size ?_; intro v4 W4 hown4 hg4 _)
              have HB4 := hide (HB3.out.grown hg4 HB3.out.size (fun j e => (World.ownsRow.lt HV3.out.pcs.row j e).1))
              have HV4 := hide (PcD.push (w0 := wr) (x := x) (m := 0) (g := fun _ => 0) HV3.out HV.out.pcs (Own.nil _ _ _ _ _) (Own.nil _ _ _ _ _) hown4 hg4)
              clear hown4 hg4 HV HV3 HB HB3 c0 c1' c2
              obtain ⟨bw, cw, rfl⟩ := HV4.out.pcs.row.form
              have c1 := cellKeepC HB4.out Hc.out.2
              have c2 := cellKeepC HB4.out Hbc.out
              obtain ⟨V1, hV1⟩ : ∃ V1, V1 = upd V m (.slice none 0 0) := ⟨_, rfl⟩
              obtain ⟨N1, hN1⟩ : ∃ N1, N1 = upd N' m 0 := ⟨_, rfl⟩
              obtain ⟨G1, hG1⟩ : ∃ G1, G1 = upd G' m (fun _ => 0) := ⟨_, rfl⟩
              obtain ⟨X1, hX1⟩ : ∃ X1, X1 = upd X' m x := ⟨_, rfl⟩
              have HE : Hid (JEq ⟨m + 1, X1, upd N1 (m) (N1 (m) + 1), upd G1 (m) (catF (N1 (m)) (G1 (m)) (fun _ => f1 j))⟩ (pushJ ⟨m, X', N', G'⟩ x 1 (fun _ => f1 j)) ∧ N1 (m) ≤ 1000000) := by
                refine ⟨?_, ?_⟩
                · rw [hN1, hG1, hX1]
                  refine ⟨rfl, fun i hi => ?_⟩
                  simp only [pushJ] at hi ⊢
                  unfold upd catF
                  by_cases e : i = m
                  · simp [e]
                  · simp [e]
                · rw [hN1]
                  simp [upd]
              rw [← hV1, ← hN1, ← hG1, ← hX1] at HV4
              clear hV1 hN1 hG1 hX1
              obtain ⟨Ap, cp, hVp, _, _⟩ := (HV4.out.pcs.bytes (m) (by omega)).rd
              have HOp := hide (HV4.out.pcs.bytes (m) (by omega))
              have hx1 := HV4.out.pcs.row.cell (j := m * 2 + 1) (by omega)
              rw [show pcF X1 V1 (m * 2 + 1) = V1 (m) by unfold pcF; rw [if_neg (by omega)]; rw [show (m * 2 + 1) / 2 = m by omega]] at hx1
              rw [hVp] at hx1 HOp
              have HW := hide hx1
              have hbz := HE.out.2
              have hal := (Below.refl W4.heap.size W4).alloc (Nat.le_refl _) (.cells #[.int .u8 (f1 j)] 5)
              have HOa := hide (HOp.out.below hal)
              have HBa := hide (HB4.out.of hal)
              have HVa := hide (HV4.out.below hal)
              have HWa := hide (cellKeepC hal hx1)
              have ca0 := HWa.out
              have ca1 := cellKeepC hal c1
              have ca2 := cellKeepC hal c2
              clear hal
              have hw1 : IntKind.i64.wrap (m : Int) = (m : Int) := IntWalk.i64_in _ (by omega)
              have hip : (m : Int) < (m : Int) + 1 := by omega
              go_wp2_with fail
              go_region_law (refine step_appV rfl _ _ _ rfl 1 iu _ 1 Try.underlying22 hiu hu0 hu1 hu2 rfl (by omega) w.heap.size (.slice Ap (N1 (m)) cp) (N1 (m)) (fun i => .int .u8 (G1 (m) i)) rfl (own_v HOa.out) _ 1 1 (fun i => .int .u8 (oneF (f1 j) i)) rfl (rd_v (Rd.one .u8 5 _ (f1 j))) (fun _ _ => rfl) (by simp only [maxLen]; omega) (by omega) HBa.out.size ?_; intro v5 W5 hown5 hg5 hob5; have hx5 : W5.cell? ⟨bw, m * 2 + 1, none⟩ = some (.slice Ap (N1 (m)) cp) := hg5.cell HWa.out (fun e => (pieces_ne HOa.out HVa.out.pcs.row) e.symm); have hk5 : OwnV 2 52 w.heap.size W5 (.slice (some ⟨bw, 0, none⟩) (m + 1) cw) (m + 1) (pcF X1 V1) := World.ownsRow.kept (show (World.drew (W4.alloc (.cells #[.int .u8 (f1 j)] 5))).ownsRow _ _ _ _ _ _ from HVa.out.pcs.row) hg5 (.inr (fun e => (pieces_ne HOa.out HVa.out.pcs.row) (e.symm.trans rfl))); have hfz := OwnV.frozen hk5 (m * 2 + 1); obtain ⟨A5, c5, rfl, _, _⟩ := OwnV.rd hown5)
              all_goals
                have HB5 := hide (HBa.out.drew.grown hg5 HBa.out.size (fun j e => (World.ownsRow.lt HOa.out j e).1))
                have HB6 := hide (HB5.out.setCell (show w.heap.size ≤ (⟨bw, m * 2 + 1, none⟩ : Addr).block from (World.ownsRow.lt HVa.out.pcs.row bw rfl).1) (.slice A5 (N1 (m) + 1) c5))
                have HV6 := hide (PcD.extend (q := 1) (g := oneF (f1 j)) HVa.out (v_own (hown5.congr (cat_v _ _ _ _))) (by rw [hVp]; exact hg5) (by rw [hVp]; exact hob5))
                clear hown5 hg5 hob5 hx5 hk5 hfz
                go_wp2_with fail
                go_roundw
                case rel => exact ⟨j + 1, by omega, by go_num, by rw [HS.out]; go_num, by rw [HS.out], by rw [HS.out]; exact ⟨⟨_, PcD.eq (s := ⟨_, _, _, _⟩) HV6.out HE.out.1⟩, HB6.out⟩⟩
                case measure => simp [intOf]; omega
            · have dy : decide (y < 1) = false := by simpa using hy1
              have HS : Hid (s0.bytes g d x f1 (j + 1) = ⟨pushJ ⟨m, X', N', G'⟩ x 1 (fun _ => f1 j), a + 1, y - 1⟩) := by
                show _ = _
                rw [HSs.out, Hzz.out, show max 1 y = y by omega]
              clear HSs Hzz
              have HV3 := hide (HV.out.below ((Below.refl _ _).alloc (Nat.le_refl _) (.cells #[.int .i64 x, .slice none 0 0] 52)))
              have HB3 := hide (HB.out.alloc HB.out.size (.cells #[.int .i64 x, .slice none 0 0] 52))
              go_wp2_with (at_builtin; refine wp_appV rfl _ _ _ rfl 2 i0 _ 32 Try.underlying69 hi hz0 hz1 hz2 rfl (by omega) w.heap.size _ m _ rfl HV3.out.pcs.row _ 1 1 _ rfl (RdV.litK _ x _) (fun i _ => by unfold litC2; split <;> rfl) (by simp only [maxLen]; omega) (by omega) HB3.out.size ?_; intro v4 W4 hown4 hg4 _)
              have HB4 := hide (HB3.out.grown hg4 HB3.out.size (fun j e => (World.ownsRow.lt HV3.out.pcs.row j e).1))
              have HV4 := hide (PcD.push (w0 := wr) (x := x) (m := 0) (g := fun _ => 0) HV3.out HV.out.pcs (Own.nil _ _ _ _ _) (Own.nil _ _ _ _ _) hown4 hg4)
              clear hown4 hg4 HV HV3 HB HB3 c0 c1' c2
              obtain ⟨bw, cw, rfl⟩ := HV4.out.pcs.row.form
              have c1 := cellKeepC HB4.out Hc.out.2
              have c2 := cellKeepC HB4.out Hbc.out
              obtain ⟨V1, hV1⟩ : ∃ V1, V1 = upd V m (.slice none 0 0) := ⟨_, rfl⟩
              obtain ⟨N1, hN1⟩ : ∃ N1, N1 = upd N' m 0 := ⟨_, rfl⟩
              obtain ⟨G1, hG1⟩ : ∃ G1, G1 = upd G' m (fun _ => 0) := ⟨_, rfl⟩
              obtain ⟨X1, hX1⟩ : ∃ X1, X1 = upd X' m x := ⟨_, rfl⟩
              have HE : Hid (JEq ⟨m + 1, X1, upd N1 (m) (N1 (m) + 1), upd G1 (m) (catF (N1 (m)) (G1 (m)) (fun _ => f1 j))⟩ (pushJ ⟨m, X', N', G'⟩ x 1 (fun _ => f1 j)) ∧ N1 (m) ≤ 1000000) := by
                refine ⟨?_, ?_⟩
                · rw [hN1, hG1, hX1]
                  refine ⟨rfl, fun i hi => ?_⟩
                  simp only [pushJ] at hi ⊢
                  unfold upd catF
                  by_cases e : i = m
                  · simp [e]
                  · simp [e]
                · rw [hN1]
                  simp [upd]
              rw [← hV1, ← hN1, ← hG1, ← hX1] at HV4
              clear hV1 hN1 hG1 hX1
              obtain ⟨Ap, cp, hVp, _, _⟩ := (HV4.out.pcs.bytes (m) (by omega)).rd
              have HOp := hide (HV4.out.pcs.bytes (m) (by omega))
              have hx1 := HV4.out.pcs.row.cell (j := m * 2 + 1) (by omega)
              rw [show pcF X1 V1 (m * 2 + 1) = V1 (m) by unfold pcF; rw [if_neg (by omega)]; rw [show (m * 2 + 1) / 2 = m by omega]] at hx1
              rw [hVp] at hx1 HOp
              have HW := hide hx1
              have hbz := HE.out.2
              have hal := (Below.refl W4.heap.size W4).alloc (Nat.le_refl _) (.cells #[.int .u8 (f1 j)] 5)
              have HOa := hide (HOp.out.below hal)
              have HBa := hide (HB4.out.of hal)
              have HVa := hide (HV4.out.below hal)
              have HWa := hide (cellKeepC hal hx1)
              have ca0 := HWa.out
              have ca1 := cellKeepC hal c1
              have ca2 := cellKeepC hal c2
              clear hal
              have hw1 : IntKind.i64.wrap (m : Int) = (m : Int) := IntWalk.i64_in _ (by omega)
              have hip : (m : Int) < (m : Int) + 1 := by omega
              go_wp2_with fail
              go_region_law (refine step_appV rfl _ _ _ rfl 1 iu _ 1 Try.underlying22 hiu hu0 hu1 hu2 rfl (by omega) w.heap.size (.slice Ap (N1 (m)) cp) (N1 (m)) (fun i => .int .u8 (G1 (m) i)) rfl (own_v HOa.out) _ 1 1 (fun i => .int .u8 (oneF (f1 j) i)) rfl (rd_v (Rd.one .u8 5 _ (f1 j))) (fun _ _ => rfl) (by simp only [maxLen]; omega) (by omega) HBa.out.size ?_; intro v5 W5 hown5 hg5 hob5; have hx5 : W5.cell? ⟨bw, m * 2 + 1, none⟩ = some (.slice Ap (N1 (m)) cp) := hg5.cell HWa.out (fun e => (pieces_ne HOa.out HVa.out.pcs.row) e.symm); have hk5 : OwnV 2 52 w.heap.size W5 (.slice (some ⟨bw, 0, none⟩) (m + 1) cw) (m + 1) (pcF X1 V1) := World.ownsRow.kept (show (World.drew (W4.alloc (.cells #[.int .u8 (f1 j)] 5))).ownsRow _ _ _ _ _ _ from HVa.out.pcs.row) hg5 (.inr (fun e => (pieces_ne HOa.out HVa.out.pcs.row) (e.symm.trans rfl))); have hfz := OwnV.frozen hk5 (m * 2 + 1); obtain ⟨A5, c5, rfl, _, _⟩ := OwnV.rd hown5)
              all_goals
                have HB5 := hide (HBa.out.drew.grown hg5 HBa.out.size (fun j e => (World.ownsRow.lt HOa.out j e).1))
                have HB6 := hide (HB5.out.setCell (show w.heap.size ≤ (⟨bw, m * 2 + 1, none⟩ : Addr).block from (World.ownsRow.lt HVa.out.pcs.row bw rfl).1) (.slice A5 (N1 (m) + 1) c5))
                have HV6 := hide (PcD.extend (q := 1) (g := oneF (f1 j)) HVa.out (v_own (hown5.congr (cat_v _ _ _ _))) (by rw [hVp]; exact hg5) (by rw [hVp]; exact hob5))
                clear hown5 hg5 hob5 hx5 hk5 hfz
                go_wp2_with fail
                go_roundw
                case rel => exact ⟨j + 1, by omega, by go_num, by rw [HS.out]; go_num, by rw [HS.out], by rw [HS.out]; exact ⟨⟨_, PcD.eq (s := ⟨_, _, _, _⟩) HV6.out HE.out.1⟩, HB6.out⟩⟩
                case measure => simp [intOf]; omega
          · have HS : Hid (s0.bytes g d x f1 (j + 1) = ⟨extJ ⟨m, X', N', G'⟩ 1 (fun _ => f1 j), a, r - 1⟩) := by
              show _ = _
              rw [hs1]
              unfold CtS.byte
              rw [if_neg hr]
            have hm0 := (Hm6.out hr).1
            have dr : (r == 0) = false := by simpa using hr
            clear hs1
            obtain ⟨p, rfl⟩ : ∃ p, m = p + 1 := ⟨m - 1, by omega⟩
            obtain ⟨bv, cv', hv'⟩ := HV.out.pcs.row.form
            injection hv' with h1 _ h3
            subst h1
            subst h3
            have c1 := cellKeepC HB.out Hc.out.2
            have c2 := cellKeepC HB.out Hbc.out
            obtain ⟨V1, hV1⟩ : ∃ V1, V1 = V := ⟨_, rfl⟩
            obtain ⟨N1, hN1⟩ : ∃ N1, N1 = N' := ⟨_, rfl⟩
            obtain ⟨G1, hG1⟩ : ∃ G1, G1 = G' := ⟨_, rfl⟩
            obtain ⟨X1, hX1⟩ : ∃ X1, X1 = X' := ⟨_, rfl⟩
            have HE : Hid (JEq ⟨p + 1, X1, upd N1 (p) (N1 (p) + 1), upd G1 (p) (catF (N1 (p)) (G1 (p)) (fun _ => f1 j))⟩ (extJ ⟨p + 1, X', N', G'⟩ 1 (fun _ => f1 j)) ∧ N1 (p) ≤ 1000000) := by
              refine ⟨?_, ?_⟩
              · rw [hN1, hG1, hX1]
                exact JEq.refl _
              · rw [hN1]
                have := Hm2.out p (by omega); omega
            rw [← hV1, ← hN1, ← hG1, ← hX1] at HV
            clear hV1 hN1 hG1 hX1
            obtain ⟨Ap, cp, hVp, _, _⟩ := (HV.out.pcs.bytes (p) (by omega)).rd
            have HOp := hide (HV.out.pcs.bytes (p) (by omega))
            have hx1 := HV.out.pcs.row.cell (j := p * 2 + 1) (by omega)
            rw [show pcF X1 V1 (p * 2 + 1) = V1 (p) by unfold pcF; rw [if_neg (by omega)]; rw [show (p * 2 + 1) / 2 = p by omega]] at hx1
            rw [hVp] at hx1 HOp
            have HW := hide hx1
            have hbz := HE.out.2
            have hal := (Below.refl wr.heap.size wr).alloc (Nat.le_refl _) (.cells #[.int .u8 (f1 j)] 5)
            have HOa := hide (HOp.out.below hal)
            have HBa := hide (HB.out.of hal)
            have HVa := hide (HV.out.below hal)
            have HWa := hide (cellKeepC hal hx1)
            have ca0 := HWa.out
            have ca1 := cellKeepC hal c1
            have ca2 := cellKeepC hal c2
            clear hal
            have hw1 : IntKind.i64.wrap (p : Int) = (p : Int) := IntWalk.i64_in _ (by omega)
            have hip : (p : Int) < (p : Int) + 1 := by omega
            go_wp2_with fail
            go_region_law (refine step_appV rfl _ _ _ rfl 1 iu _ 1 Try.underlying22 hiu hu0 hu1 hu2 rfl (by omega) w.heap.size (.slice Ap (N1 (p)) cp) (N1 (p)) (fun i => .int .u8 (G1 (p) i)) rfl (own_v HOa.out) _ 1 1 (fun i => .int .u8 (oneF (f1 j) i)) rfl (rd_v (Rd.one .u8 5 _ (f1 j))) (fun _ _ => rfl) (by simp only [maxLen]; omega) (by omega) HBa.out.size ?_; intro v5 W5 hown5 hg5 hob5; have hx5 : W5.cell? ⟨bv, p * 2 + 1, none⟩ = some (.slice Ap (N1 (p)) cp) := hg5.cell HWa.out (fun e => (pieces_ne HOa.out HVa.out.pcs.row) e.symm); have hk5 : OwnV 2 52 w.heap.size W5 (.slice (some ⟨bv, 0, none⟩) (p + 1) cv) (p + 1) (pcF X1 V1) := World.ownsRow.kept (show (World.drew (wr.alloc (.cells #[.int .u8 (f1 j)] 5))).ownsRow _ _ _ _ _ _ from HVa.out.pcs.row) hg5 (.inr (fun e => (pieces_ne HOa.out HVa.out.pcs.row) (e.symm.trans rfl))); have hfz := OwnV.frozen hk5 (p * 2 + 1); obtain ⟨A5, c5, rfl, _, _⟩ := OwnV.rd hown5)
            all_goals
              have HB5 := hide (HBa.out.drew.grown hg5 HBa.out.size (fun j e => (World.ownsRow.lt HOa.out j e).1))
              have HB6 := hide (HB5.out.setCell (show w.heap.size ≤ (⟨bv, p * 2 + 1, none⟩ : Addr).block from (World.ownsRow.lt HVa.out.pcs.row bv rfl).1) (.slice A5 (N1 (p) + 1) c5))
              have HV6 := hide (PcD.extend (q := 1) (g := oneF (f1 j)) HVa.out (v_own (hown5.congr (cat_v _ _ _ _))) (by rw [hVp]; exact hg5) (by rw [hVp]; exact hob5))
              clear hown5 hg5 hob5 hx5 hk5 hfz
              go_wp2_with fail
              go_roundw
              case rel => exact ⟨j + 1, by omega, by go_num, by rw [HS.out], by rw [HS.out], by rw [HS.out]; exact ⟨⟨_, PcD.eq (s := ⟨_, _, _, _⟩) HV6.out HE.out.1⟩, HB6.out⟩⟩
              case measure => simp [intOf]; omega
        · obtain rfl : j = q := by omega
          clear hcb
          go_wp2_with fail
          go_roundw
          case rel => exact ⟨k + 1, by omega, by go_num, by rw [Hsucc.out], by rw [Hsucc.out]; exact hJ⟩
          case measure => simp [intOf]; omega
    · obtain rfl : k = n := by omega
      go_wp2_with fail
      go_ret
      obtain ⟨⟨V, hV⟩, hB⟩ := hJ
      exact ⟨_, V, rfl, hV, hB⟩
end Go.Proofs.Ytpnjamomkpkkeaa
