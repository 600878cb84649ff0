/- Layer 10: the reference's Join. -/
import Derived.Test.YtpnjamomkpkkeaaJn4
namespace Go.Proofs.Ytpnjamomkpkkeaa
set_option linter.unusedVariables false
set_option linter.unusedSimpArgs false
open Go.RowKit

theorem JS.step_le {s : JS} {k B : Nat} (h : s.m ≤ k ∧ ∀ i, i < s.m → s.N i ≤ B) (x : Int) (j : Nat) (b : Nat → Int) : (s.step x j b).m ≤ k + 1 ∧ ∀ i, i < (s.step x j b).m → (s.step x j b).N i ≤ B + j := by
  obtain ⟨h1, h2⟩ := h
  unfold JS.step
  split
  · exact ⟨by omega, fun i hi => by have := h2 i hi; omega⟩
  split
  · refine ⟨by simp only; omega, fun i hi => ?_⟩
    simp only at hi ⊢
    unfold upd
    split
    · have := h2 (s.m - 1) (by omega); omega
    · have := h2 i hi; omega
  · refine ⟨by simp only; omega, fun i hi => ?_⟩
    simp only at hi ⊢
    unfold upd
    split
    · omega
    · have := h2 i (by omega); omega
theorem OwnV.form {s : Nat} {e : TypeId} {B : Nat} {w : World} {v : Value} {n : Nat} {F : Nat → Value} (h : OwnV s e B w v (n + 1) F) : ∃ b cap, v = .slice (some ⟨b, 0, none⟩) (n + 1) cap := by
  obtain ⟨A, c, rfl, hr, ha⟩ := h.rd
  obtain ⟨b, off, rfl, _⟩ := hr.2.2.2 (by omega)
  obtain ⟨_, _, h0, _⟩ := ha _ rfl
  simp only at h0
  subst h0
  exact ⟨b, c, rfl⟩
theorem PcD.eq {B : Nat} {w : World} {v : Value} {s t : JS} {V : Nat → Value} (h : PcD B w v s.m s.X V s.N s.G) (e : JEq s t) : PcD B w v t.m t.X V t.N t.G := by
  obtain ⟨h1, h2⟩ := e
  rw [← h1]
  refine ⟨⟨h.pcs.row.congr fun i hi => ?_, fun j hj => ?_⟩, h.apart⟩
  · unfold pcF
    split
    · rw [(h2 _ (by omega)).1]
    · rfl
  · rw [← (h2 j hj).2.1]
    exact (h.pcs.bytes j hj).congr (h2 j hj).2.2
theorem JI.eq {w : World} {F : Nat → Ck} {s t : JS} {v : Value} {W : World} (h : JI w F s v W) (e : JEq s t) : JI w F t v W := by
  obtain ⟨⟨V, hV⟩, hB⟩ := h
  exact ⟨⟨V, hV.eq e⟩, hB⟩
set_option maxRecDepth 100000 in
set_option maxHeartbeats 6400000 in
theorem rjoin_any (A : Option Addr) (n c : Nat) (F : Nat → Ck) (w : World) (ha : RdC w A n c F) (hn : n ≤ 1000000) (hs : sumC F n ≤ 1000000) :
    Calls Try.prog 77 #[.slice A n c] w fun e w' => ∃ v V, e = .returned v ∧ PcD w.heap.size w' v (jn F n).m (jn F n).X V (jn F n).N (jn F n).G ∧ Below w.heap.size w w' := by
  have Ha := hide ha
  have Hn := hide hn
  have Hs := hide hs
  clear ha hn hs
  obtain ⟨i0, hi, hz0, hz1, hz2⟩ := info_parts chunk_info
  obtain ⟨iu, hiu, hu0, hu1, hu2⟩ := info_parts u8_info
  go_enter Try.func77, Try.ntmps77
  go_wp2_with fail
  go_loopw [3, 4] (fun v i wr => ∃ k : Nat, k ≤ n ∧ i = .int .i64 k ∧ JI w F (jn F k) v wr) (fun _ i _ => n - (intOf i).toNat)
  case atStart => exact ⟨0, Nat.zero_le _, rfl, ⟨fun _ => .int .i64 0, PcD.nil _ _ _ _ _ _⟩, Below.refl _ _⟩
  case round =>
    obtain ⟨k, hk, rfl, hJ⟩ := hrel
    by_cases hlt : k < n
    · have HJ0 := hide hJ
      have Hr := hide (Ha.out.below hJ.2)
      clear hJ
      have hkn : (k : Int) < (n : Int) := by omega
      have hle := Nat.le_trans (sumC_mono F (show k + 1 ≤ n by omega)) Hs.out
      have e2 : sumC F (k + 1) = sumC F k + (F k).n := rfl
      rw [e2] at hle
      have hjs := jn_succ F k rfl
      obtain ⟨hm1, hm2⟩ := jn_le F k
      have Hjl := hide (And.intro hm1 hm2)
      have hby := (Ha.out.2.2.2.2 k hlt).1
      obtain ⟨b0, o0, hA, hc0, hc1⟩ := Ha.out.at_ hlt
      obtain ⟨X, hX⟩ : ∃ X, F k = X := ⟨_, rfl⟩
      rw [hX] at hle hjs hby hc0 hc1
      obtain ⟨x, A1, q, c1, f1⟩ := X
      simp only at hle hjs hby hc0 hc1
      have Hjs := hide hjs
      have Hby := hide hby
      have Hle := hide hle
      have Hc := hide (And.intro hc0 hc1)
      have hn' := Hn.out
      subst hA
      obtain ⟨s0, hs0⟩ : ∃ s0, s0 = jn F k := ⟨_, rfl⟩
      rw [← hs0] at HJ0 Hjl Hjs
      clear hX e2 hjs hle hby hc0 hc1 hs0 hm1 hm2
      go_wp2_with fail
      go_loopw [3, 5] (fun v i wr => ∃ j : Nat, j ≤ q ∧ i = .int .i64 j ∧ JI w F (s0.step x j f1) v wr) (fun _ i _ => q - (intOf i).toNat)
      case atStart => exact ⟨0, Nat.zero_le _, rfl, by rw [JS.step_none]; exact HJ0.out⟩
      case round =>
        obtain ⟨j, hj, rfl, hJ⟩ := hrel
        clear HJ0 Hr
        have HB := hide hJ.2
        have hq63 : (q : Int) ≤ 9223372036854775807 := by have := Hle.out; omega
        obtain ⟨hc0, hc1⟩ := Hc.out
        have c0 := cellKeepC HB.out hc0
        have c1' := cellKeepC HB.out hc1
        clear hc0 hc1
        by_cases hjq : j < q
        · have hjq' : (j : Int) < (q : Int) := by omega
          obtain ⟨m1, m2⟩ := JS.step_le Hjl.out x j f1
          have HS := hide (JS.step_snoc s0 x j f1).symm
          obtain ⟨s, hs⟩ : ∃ s, s = s0.step x j f1 := ⟨_, rfl⟩
          rw [← hs] at hJ HS m1 m2
          clear hs
          obtain ⟨m, X', N', G'⟩ := s
          simp only at m1 m2
          have Hm2 := hide m2
          have hmb : m ≤ 1000001 := by omega
          obtain ⟨⟨V, hV⟩, _⟩ := hJ
          have HV := hide hV
          simp only at HV
          clear hV m2
          obtain ⟨Av, cv, rfl, hrv, hav⟩ := HV.out.pcs.row.rd
          have Hrv := hide hrv
          clear hrv hav
          obtain ⟨bb, bo, hA1, hbc⟩ := Hby.out.at_ hjq
          subst hA1
          have Hbc := hide hbc
          clear hbc
          have c2 := cellKeepC HB.out Hbc.out
          by_cases hm : m = 0
          · subst hm
            go_wp2_with fail
            go_quiet (fail)
            refine absW2 _ (fun W => PcD w.heap.size W (.slice Av 0 cv) (0) X' V N' G' ∧ Below w.heap.size w W) ⟨HV.out.drewN _, HB.out.trans (drawn_below ⟨_, rfl⟩ _)⟩ ?_
            clear c0 c1' c2 HV HB Hrv
            rintro W ⟨hV, hB⟩
            have HV := hide hV
            have HB := hide hB
            clear hV hB
            have c0 := cellKeepC HB.out Hc.out.1
            have HV3 := hide (HV.out.below ((Below.refl _ _).alloc (Nat.le_refl _) (.cells #[.int .i64 x, .slice none 0 0] 52)))
            have HB3 := hide (HB.out.alloc HB.out.size (.cells #[.int .i64 x, .slice none 0 0] 52))
            go_wp2_with (at_builtin; refine wp_appV rfl _ _ _ rfl 2 i0 _ 32 Try.underlying69 hi hz0 hz1 hz2 rfl (by omega) w.heap.size _ (0) _ rfl HV3.out.pcs.row _ 1 1 _ rfl (RdV.litK _ x _) (fun i _ => by unfold litC2; split <;> rfl) (by simp only [maxLen]; omega) (by omega) HB3.out.size ?_; intro v4 W4 hown4 hg4 _)
            have HB4 := hide (HB3.out.grown hg4 HB3.out.size (fun j e => (World.ownsRow.lt HV3.out.pcs.row j e).1))
            have HV4 := hide (PcD.push (w0 := W) (x := x) (m := 0) (g := fun _ => 0) HV3.out HV.out.pcs (Own.nil _ _ _ _ _) (Own.nil _ _ _ _ _) hown4 hg4)
            clear hown4 hg4 HV HV3 HB HB3 c0
            obtain ⟨bw, cw, rfl⟩ := HV4.out.pcs.row.form
            have c1 := cellKeepC HB4.out Hc.out.2
            have c2 := cellKeepC HB4.out Hbc.out
            obtain ⟨V1, hV1⟩ : ∃ V1, V1 = upd V 0 (.slice none 0 0) := ⟨_, rfl⟩
            obtain ⟨N1, hN1⟩ : ∃ N1, N1 = upd N' 0 0 := ⟨_, rfl⟩
            obtain ⟨G1, hG1⟩ : ∃ G1, G1 = upd G' 0 (fun _ => 0) := ⟨_, rfl⟩
            obtain ⟨X1, hX1⟩ : ∃ X1, X1 = upd X' 0 x := ⟨_, rfl⟩
            have HE : Hid (JEq ⟨0 + 1, X1, upd N1 (0) (N1 (0) + 1), upd G1 (0) (catF (N1 (0)) (G1 (0)) (fun _ => f1 j))⟩ (s0.step x (j + 1) f1) ∧ N1 (0) ≤ 1000000) := by
              refine ⟨JEq.trans ?_ HS.out, ?_⟩
              · rw [hN1, hG1, hX1]
                rw [JS.step_new (by simp) (fun h => absurd h.1 (by simp))]
                refine ⟨rfl, fun i hi => ?_⟩
                simp only at hi ⊢
                unfold upd catF
                by_cases e : i = 0
                · simp [e]
                · simp [e]
              · rw [hN1]
                simp [upd]
            rw [← hV1, ← hN1, ← hG1, ← hX1] at HV4
            clear hV1 hN1 hG1 hX1
            obtain ⟨Ap, cp, hVp, _, _⟩ := (HV4.out.pcs.bytes (0) (by omega)).rd
            have HOp := hide (HV4.out.pcs.bytes (0) (by omega))
            have hx1 := HV4.out.pcs.row.cell (j := 1) (by omega)
            rw [show pcF X1 V1 (1) = V1 (0) by unfold pcF; rw [if_neg (by omega)]] at hx1
            rw [hVp] at hx1 HOp
            have HW := hide hx1
            have hbz := HE.out.2
            have hal := (Below.refl W4.heap.size W4).alloc (Nat.le_refl _) (.cells #[.int .u8 (f1 j)] 5)
            have HOa := hide (HOp.out.below hal)
            have HBa := hide (HB4.out.of hal)
            have HVa := hide (HV4.out.below hal)
            have HWa := hide (cellKeepC hal hx1)
            have ca0 := HWa.out
            have ca1 := cellKeepC hal c1
            have ca2 := cellKeepC hal c2
            clear hal
            have hw1 : IntKind.i64.wrap (0) = 0 := rfl
            go_wp2_with fail
            go_region_law (refine step_appV rfl _ _ _ rfl 1 iu _ 1 Try.underlying22 hiu hu0 hu1 hu2 rfl (by omega) w.heap.size (.slice Ap (N1 (0)) cp) (N1 (0)) (fun i => .int .u8 (G1 (0) i)) rfl (own_v HOa.out) _ 1 1 (fun i => .int .u8 (oneF (f1 j) i)) rfl (rd_v (Rd.one .u8 5 _ (f1 j))) (fun _ _ => rfl) (by simp only [maxLen]; omega) (by omega) HBa.out.size ?_; intro v5 W5 hown5 hg5 hob5; have hx5 : W5.cell? ⟨bw, 1, none⟩ = some (.slice Ap (N1 (0)) cp) := hg5.cell HWa.out (fun e => (pieces_ne HOa.out HVa.out.pcs.row) e.symm); have hk5 : OwnV 2 52 w.heap.size W5 (.slice (some ⟨bw, 0, none⟩) (0 + 1) cw) (0 + 1) (pcF X1 V1) := World.ownsRow.kept (show (World.drew (W4.alloc (.cells #[.int .u8 (f1 j)] 5))).ownsRow _ _ _ _ _ _ from HVa.out.pcs.row) hg5 (.inr (fun e => (pieces_ne HOa.out HVa.out.pcs.row) (e.symm.trans rfl))); have hfz := OwnV.frozen hk5 (1); obtain ⟨A5, c5, rfl, _, _⟩ := OwnV.rd hown5)
            all_goals
              have HB5 := hide (HBa.out.drew.grown hg5 HBa.out.size (fun j e => (World.ownsRow.lt HOa.out j e).1))
              have HB6 := hide (HB5.out.setCell (show w.heap.size ≤ (⟨bw, 1, none⟩ : Addr).block from (World.ownsRow.lt HVa.out.pcs.row bw rfl).1) (.slice A5 (N1 (0) + 1) c5))
              have HV6 := hide (PcD.extend (q := 1) (g := oneF (f1 j)) HVa.out (v_own (hown5.congr (cat_v _ _ _ _))) (by rw [hVp]; exact hg5) (by rw [hVp]; exact hob5))
              clear hown5 hg5 hob5 hx5 hk5 hfz
              go_wp2_with fail
              go_roundw
              case rel => exact ⟨j + 1, by omega, by go_num, ⟨_, HV6.out.eq (s := ⟨_, _, _, _⟩) HE.out.1⟩, HB6.out⟩
              case measure => simp [intOf]; omega
          · obtain ⟨p, rfl⟩ : ∃ p, m = p + 1 := ⟨m - 1, by omega⟩
            have hcell : ∀ j, j < (p + 1) * 2 → ∃ bv, Av = some ⟨bv, 0, none⟩ ∧ wr.cell? ⟨bv, j, none⟩ = some (pcF X' V j) := by
              intro j hj
              obtain ⟨bv, cap, hv⟩ := HV.out.pcs.row.form
              injection hv with h1 _ h3
              subst h1
              subst h3
              exact ⟨bv, rfl, HV.out.pcs.row.cell hj⟩
            obtain ⟨bv, rfl, hx0⟩ := hcell (p * 2) (by omega)
            rw [show pcF X' V (p * 2) = .int .i64 (X' p) by unfold pcF; rw [if_pos (by omega), show p * 2 / 2 = p by omega]] at hx0
            clear hcell hm
            have dp : decide ((0 : Int) ≤ (p : Int)) = true := by simp
            have d0 : ((p : Int) + 1 == 0) = false := by simp; omega
            have hw0 : IntKind.i64.wrap ((p : Int) + 1 - 1) = (p : Int) := by rw [Int.add_sub_cancel]; exact IntWalk.i64_in _ (by omega)
            by_cases hxx : X' p = x
            · have dx : (X' p != x) = false := by simpa using hxx
              have Hxx := hide hxx
              clear hxx
              go_wp2_with fail
              go_quiet (fail)
              refine absW2 _ (fun W => PcD w.heap.size W (.slice (some ⟨bv, 0, none⟩) (p + 1) cv) (p + 1) X' V N' G' ∧ Below w.heap.size w W) ⟨HV.out.drewN _, HB.out.trans (drawn_below ⟨_, rfl⟩ _)⟩ ?_
              clear c0 c1' c2 HV HB Hrv hx0
              rintro W ⟨hV, hB⟩
              have HV := hide hV
              have HB := hide hB
              clear hV hB
              have c1 := cellKeepC HB.out Hc.out.2
              have c2 := cellKeepC HB.out Hbc.out
              obtain ⟨V1, hV1⟩ : ∃ V1, V1 = V := ⟨_, rfl⟩
              obtain ⟨N1, hN1⟩ : ∃ N1, N1 = N' := ⟨_, rfl⟩
              obtain ⟨G1, hG1⟩ : ∃ G1, G1 = G' := ⟨_, rfl⟩
              obtain ⟨X1, hX1⟩ : ∃ X1, X1 = X' := ⟨_, rfl⟩
              have HE : Hid (JEq ⟨p + 1, X1, upd N1 (p) (N1 (p) + 1), upd G1 (p) (catF (N1 (p)) (G1 (p)) (fun _ => f1 j))⟩ (s0.step x (j + 1) f1) ∧ N1 (p) ≤ 1000000) := by
                refine ⟨JEq.trans ?_ HS.out, ?_⟩
                · rw [hN1, hG1, hX1]
                  rw [JS.step_more (by simp) ⟨by simp, by simpa using Hxx.out⟩]
                  exact JEq.refl _
                · rw [hN1]
                  have := Hm2.out p (by omega); have := Hle.out; omega
              rw [← hV1, ← hN1, ← hG1, ← hX1] at HV
              clear hV1 hN1 hG1 hX1
              obtain ⟨Ap, cp, hVp, _, _⟩ := (HV.out.pcs.bytes (p) (by omega)).rd
              have HOp := hide (HV.out.pcs.bytes (p) (by omega))
              have hx1 := HV.out.pcs.row.cell (j := p * 2 + 1) (by omega)
              rw [show pcF X1 V1 (p * 2 + 1) = V1 (p) by unfold pcF; rw [if_neg (by omega)]; rw [show (p * 2 + 1) / 2 = p by omega]] at hx1
              rw [hVp] at hx1 HOp
              have HW := hide hx1
              have hbz := HE.out.2
              have hal := (Below.refl W.heap.size W).alloc (Nat.le_refl _) (.cells #[.int .u8 (f1 j)] 5)
              have HOa := hide (HOp.out.below hal)
              have HBa := hide (HB.out.of hal)
              have HVa := hide (HV.out.below hal)
              have HWa := hide (cellKeepC hal hx1)
              have ca0 := HWa.out
              have ca1 := cellKeepC hal c1
              have ca2 := cellKeepC hal c2
              clear hal
              have hw1 : IntKind.i64.wrap ((p : Int)) = (p : Int) := IntWalk.i64_in _ (by omega)
              have hip : (p : Int) < (p : Int) + 1 := by omega
              go_wp2_with fail
              go_region_law (refine step_appV rfl _ _ _ rfl 1 iu _ 1 Try.underlying22 hiu hu0 hu1 hu2 rfl (by omega) w.heap.size (.slice Ap (N1 (p)) cp) (N1 (p)) (fun i => .int .u8 (G1 (p) i)) rfl (own_v HOa.out) _ 1 1 (fun i => .int .u8 (oneF (f1 j) i)) rfl (rd_v (Rd.one .u8 5 _ (f1 j))) (fun _ _ => rfl) (by simp only [maxLen]; omega) (by omega) HBa.out.size ?_; intro v5 W5 hown5 hg5 hob5; have hx5 : W5.cell? ⟨bv, p * 2 + 1, none⟩ = some (.slice Ap (N1 (p)) cp) := hg5.cell HWa.out (fun e => (pieces_ne HOa.out HVa.out.pcs.row) e.symm); have hk5 : OwnV 2 52 w.heap.size W5 (.slice (some ⟨bv, 0, none⟩) (p + 1) cv) (p + 1) (pcF X1 V1) := World.ownsRow.kept (show (World.drew (W.alloc (.cells #[.int .u8 (f1 j)] 5))).ownsRow _ _ _ _ _ _ from HVa.out.pcs.row) hg5 (.inr (fun e => (pieces_ne HOa.out HVa.out.pcs.row) (e.symm.trans rfl))); have hfz := OwnV.frozen hk5 (p * 2 + 1); obtain ⟨A5, c5, rfl, _, _⟩ := OwnV.rd hown5)
              all_goals
                have HB5 := hide (HBa.out.drew.grown hg5 HBa.out.size (fun j e => (World.ownsRow.lt HOa.out j e).1))
                have HB6 := hide (HB5.out.setCell (show w.heap.size ≤ (⟨bv, p * 2 + 1, none⟩ : Addr).block from (World.ownsRow.lt HVa.out.pcs.row bv rfl).1) (.slice A5 (N1 (p) + 1) c5))
                have HV6 := hide (PcD.extend (q := 1) (g := oneF (f1 j)) HVa.out (v_own (hown5.congr (cat_v _ _ _ _))) (by rw [hVp]; exact hg5) (by rw [hVp]; exact hob5))
                clear hown5 hg5 hob5 hx5 hk5 hfz
                go_wp2_with fail
                go_roundw
                case rel => exact ⟨j + 1, by omega, by go_num, ⟨_, HV6.out.eq (s := ⟨_, _, _, _⟩) HE.out.1⟩, HB6.out⟩
                case measure => simp [intOf]; omega
            · have dx : (X' p != x) = true := by simpa using hxx
              have Hxx := hide hxx
              clear hxx
              go_wp2_with fail
              go_quiet (fail)
              refine absW2 _ (fun W => PcD w.heap.size W (.slice (some ⟨bv, 0, none⟩) (p + 1) cv) (p + 1) X' V N' G' ∧ Below w.heap.size w W) ⟨HV.out.drewN _, HB.out.trans (drawn_below ⟨_, rfl⟩ _)⟩ ?_
              clear c0 c1' c2 HV HB Hrv hx0
              rintro W ⟨hV, hB⟩
              have HV := hide hV
              have HB := hide hB
              clear hV hB
              have c0 := cellKeepC HB.out Hc.out.1
              have HV3 := hide (HV.out.below ((Below.refl _ _).alloc (Nat.le_refl _) (.cells #[.int .i64 x, .slice none 0 0] 52)))
              have HB3 := hide (HB.out.alloc HB.out.size (.cells #[.int .i64 x, .slice none 0 0] 52))
              go_wp2_with (at_builtin; refine wp_appV rfl _ _ _ rfl 2 i0 _ 32 Try.underlying69 hi hz0 hz1 hz2 rfl (by omega) w.heap.size _ (p + 1) _ rfl HV3.out.pcs.row _ 1 1 _ rfl (RdV.litK _ x _) (fun i _ => by unfold litC2; split <;> rfl) (by simp only [maxLen]; omega) (by omega) HB3.out.size ?_; intro v4 W4 hown4 hg4 _)
              have HB4 := hide (HB3.out.grown hg4 HB3.out.size (fun j e => (World.ownsRow.lt HV3.out.pcs.row j e).1))
              have HV4 := hide (PcD.push (w0 := W) (x := x) (m := 0) (g := fun _ => 0) HV3.out HV.out.pcs (Own.nil _ _ _ _ _) (Own.nil _ _ _ _ _) hown4 hg4)
              clear hown4 hg4 HV HV3 HB HB3 c0
              obtain ⟨bw, cw, rfl⟩ := HV4.out.pcs.row.form
              have c1 := cellKeepC HB4.out Hc.out.2
              have c2 := cellKeepC HB4.out Hbc.out
              obtain ⟨V1, hV1⟩ : ∃ V1, V1 = upd V (p + 1) (.slice none 0 0) := ⟨_, rfl⟩
              obtain ⟨N1, hN1⟩ : ∃ N1, N1 = upd N' (p + 1) 0 := ⟨_, rfl⟩
              obtain ⟨G1, hG1⟩ : ∃ G1, G1 = upd G' (p + 1) (fun _ => 0) := ⟨_, rfl⟩
              obtain ⟨X1, hX1⟩ : ∃ X1, X1 = upd X' (p + 1) x := ⟨_, rfl⟩
              have HE : Hid (JEq ⟨p + 1 + 1, X1, upd N1 (p + 1) (N1 (p + 1) + 1), upd G1 (p + 1) (catF (N1 (p + 1)) (G1 (p + 1)) (fun _ => f1 j))⟩ (s0.step x (j + 1) f1) ∧ N1 (p + 1) ≤ 1000000) := by
                refine ⟨JEq.trans ?_ HS.out, ?_⟩
                · rw [hN1, hG1, hX1]
                  rw [JS.step_new (by simp) (fun h => Hxx.out (by simpa using h.2))]
                  refine ⟨rfl, fun i hi => ?_⟩
                  simp only at hi ⊢
                  unfold upd catF
                  by_cases e : i = p + 1
                  · simp [e]
                  · simp [e]
                · rw [hN1]
                  simp [upd]
              rw [← hV1, ← hN1, ← hG1, ← hX1] at HV4
              clear hV1 hN1 hG1 hX1
              obtain ⟨Ap, cp, hVp, _, _⟩ := (HV4.out.pcs.bytes (p + 1) (by omega)).rd
              have HOp := hide (HV4.out.pcs.bytes (p + 1) (by omega))
              have hx1 := HV4.out.pcs.row.cell (j := (p + 1) * 2 + 1) (by omega)
              rw [show pcF X1 V1 ((p + 1) * 2 + 1) = V1 (p + 1) by unfold pcF; rw [if_neg (by omega)]; rw [show ((p + 1) * 2 + 1) / 2 = p + 1 by omega]] at hx1
              rw [hVp] at hx1 HOp
              have HW := hide hx1
              have hbz := HE.out.2
              have hal := (Below.refl W4.heap.size W4).alloc (Nat.le_refl _) (.cells #[.int .u8 (f1 j)] 5)
              have HOa := hide (HOp.out.below hal)
              have HBa := hide (HB4.out.of hal)
              have HVa := hide (HV4.out.below hal)
              have HWa := hide (cellKeepC hal hx1)
              have ca0 := HWa.out
              have ca1 := cellKeepC hal c1
              have ca2 := cellKeepC hal c2
              clear hal
              have hw1 : IntKind.i64.wrap ((p : Int) + 1) = (p : Int) + 1 := IntWalk.i64_in _ (by omega)
              have hw2 : (0 : Int) ≤ (p : Int) + 1 := by omega
              have hw3 : ((p : Int) + 1).toNat = p + 1 := by omega
              have hw4 : (p : Int) + 1 < (p : Int) + 1 + 1 := by omega
              go_wp2_with fail
              go_region_law (refine step_appV rfl _ _ _ rfl 1 iu _ 1 Try.underlying22 hiu hu0 hu1 hu2 rfl (by omega) w.heap.size (.slice Ap (N1 (p + 1)) cp) (N1 (p + 1)) (fun i => .int .u8 (G1 (p + 1) i)) rfl (own_v HOa.out) _ 1 1 (fun i => .int .u8 (oneF (f1 j) i)) rfl (rd_v (Rd.one .u8 5 _ (f1 j))) (fun _ _ => rfl) (by simp only [maxLen]; omega) (by omega) HBa.out.size ?_; intro v5 W5 hown5 hg5 hob5; have hx5 : W5.cell? ⟨bw, (p + 1) * 2 + 1, none⟩ = some (.slice Ap (N1 (p + 1)) cp) := hg5.cell HWa.out (fun e => (pieces_ne HOa.out HVa.out.pcs.row) e.symm); have hk5 : OwnV 2 52 w.heap.size W5 (.slice (some ⟨bw, 0, none⟩) (p + 1 + 1) cw) (p + 1 + 1) (pcF X1 V1) := World.ownsRow.kept (show (World.drew (W4.alloc (.cells #[.int .u8 (f1 j)] 5))).ownsRow _ _ _ _ _ _ from HVa.out.pcs.row) hg5 (.inr (fun e => (pieces_ne HOa.out HVa.out.pcs.row) (e.symm.trans rfl))); have hfz := OwnV.frozen hk5 ((p + 1) * 2 + 1); obtain ⟨A5, c5, rfl, _, _⟩ := OwnV.rd hown5)
              all_goals
                have HB5 := hide (HBa.out.drew.grown hg5 HBa.out.size (fun j e => (World.ownsRow.lt HOa.out j e).1))
                have HB6 := hide (HB5.out.setCell (show w.heap.size ≤ (⟨bw, (p + 1) * 2 + 1, none⟩ : Addr).block from (World.ownsRow.lt HVa.out.pcs.row bw rfl).1) (.slice A5 (N1 (p + 1) + 1) c5))
                have HV6 := hide (PcD.extend (q := 1) (g := oneF (f1 j)) HVa.out (v_own (hown5.congr (cat_v _ _ _ _))) (by rw [hVp]; exact hg5) (by rw [hVp]; exact hob5))
                clear hown5 hg5 hob5 hx5 hk5 hfz
                go_wp2_with fail
                go_roundw
                case rel => exact ⟨j + 1, by omega, by go_num, ⟨_, HV6.out.eq (s := ⟨_, _, _, _⟩) HE.out.1⟩, HB6.out⟩
                case measure => simp [intOf]; omega
        · obtain rfl : j = q := by omega
          go_wp2_with fail
          go_roundw
          case rel => exact ⟨k + 1, by omega, by go_num, by rw [Hjs.out]; exact hJ⟩
          case measure => simp [intOf]; omega
    · obtain rfl : k = n := by omega
      go_wp2_with fail
      go_ret
      obtain ⟨⟨V, hV⟩, hB⟩ := hJ
      exact ⟨_, V, rfl, hV, hB⟩
end Go.Proofs.Ytpnjamomkpkkeaa
