/- Layer 35: few can all be kept; the walk of GraceFew. -/
import Derived.Test.YtnjmkbaddeeniaaGr8
namespace Go.Proofs.Ytnjmkbaddeeniaa
open Go.RowKit Go.Maps Go.ChangeShapes Go.WideShapes Go.Deep

def FewI (w wr : World) (m : Int) (f : Nat → Int) (pm pn k : Nat) : Prop := ∃ (gm gn : GM) (sm sn : GS), gm.p = pm ∧ gn.p = pn ∧ GrOk w.heap.size wr gm sm ∧ GrOk w.heap.size wr gn sn ∧ Apart gn gm ∧ UnG m sm ∧ UnG 0 sn ∧ sm.n = sn.n ∧ sm.nx = sn.nx ∧ sm.n ≤ k ∧ sm.c ≤ k ∧ sn.c ≤ k ∧ (∀ i, i < k → ∃ x, sm.nx (f i) = some x) ∧ Below w.heap.size w wr
set_option maxRecDepth 20000 in
set_option maxHeartbeats 6400000 in
theorem few_walk (m : Int) (A : Option Addr) (n c : Nat) (f : Nat → Int) (w : World) (m0 : 0 ≤ m) (m1 : m ≤ 255) (ha : Rd .i64 w A n c f) (hw : ∀ i, i < n → (Lit.int .i64 (f i)).wf = true) :
    Calls Try.prog 5 #[.int .u8 m, .slice A n c] w (Yes w) := by
  have Ha := hide ha
  have Hw := hide hw
  have hn63 : (n : Int) ≤ 9223372036854775807 := by have h1 := ha.1; have h2 := ha.2.1; simp only [maxLen] at h2; omega
  clear ha hw
  by_cases h60 : 60 < n
  · have hd : decide ((60 : Int) < (n : Int)) = true := decide_eq_true (by omega)
    go_enter Try.func5, Try.ntmps5
    go_wp2_with fail
    refine (alive35 _).mono ?_
    rintro e w2 ⟨rfl, hb2⟩
    go_wp2_with fail
    go_ret
    exact ⟨rfl, hb2⟩
  have hd : decide ((60 : Int) < (n : Int)) = false := decide_eq_false (by omega)
  have Hn : Hid (n ≤ 60) := by show _ ≤ _; omega
  clear h60
  have O1 := hide (heap_alloc_new w (.cells #[.int .i64 m, .slice none 0 0, .map none, .int .i64 0] 35))
  have O2 := hide (heap_alloc_newG (w.alloc (.cells #[.int .i64 m, .slice none 0 0, .map none, .int .i64 0] 35)) (.cells #[.int .i64 0, .slice none 0 0, .map none, .int .i64 0] 35) (n := w.heap.size + 1) (by simp))
  have O3 := hide (keepRow O1.out ((Below.refl _ _).alloc (Nat.le_refl _) (.cells #[.int .i64 0, .slice none 0 0, .map none, .int .i64 0] 35)))
  have E0 := hide (((Below.refl w.heap.size w).alloc (Nat.le_refl _) (.cells #[.int .i64 m, .slice none 0 0, .map none, .int .i64 0] 35)).alloc (by simp) (.cells #[.int .i64 0, .slice none 0 0, .map none, .int .i64 0] 35))
  have Gm0 : Hid (GrOk w.heap.size _ (newM w.heap.size) (newS m)) := GrOk.new O3.out (Nat.le_refl _) (by omega) (by omega)
  have Gn0 : Hid (GrOk w.heap.size _ (newM (w.heap.size + 1)) (newS 0)) := GrOk.new O2.out (by omega) (by omega) (by omega)
  have A0 : Hid (Apart (newM (w.heap.size + 1)) (newM w.heap.size)) := Apart.new (by omega)
  have I0 : Hid (FewI w _ m f w.heap.size (w.heap.size + 1) 0) := ⟨newM w.heap.size, newM (w.heap.size + 1), newS m, newS 0, rfl, rfl, Gm0.out, Gn0.out, A0.out, UnG.new m, UnG.new 0, rfl, rfl, Nat.le_refl _, by simp [newS], by simp [newS], fun i hi => by omega, E0.out⟩
  clear O1 O2 O3 Gm0 Gn0 A0 E0
  go_enter Try.func5, Try.ntmps5
  go_wp2_with fail
  refine (new35 m (by omega) (by omega) _).mono ?_
  rintro e z ⟨rfl, rfl⟩
  go_wp2_with fail
  generalize hz0 : ((w.alloc (.cells #[.int .i64 m, .slice none 0 0, .map none, .int .i64 0] 35)).alloc (.cells #[.int .i64 0, .slice none 0 0, .map none, .int .i64 0] 35)) = z0 at *
  clear hz0
  go_loopw [24] (fun i wr => ∃ k : Nat, k ≤ n ∧ i = .int .i64 k ∧ FewI w wr m f w.heap.size (w.heap.size + 1) k) (fun i _ => n - (intOf i).toNat)
  case atStart => exact ⟨0, Nat.zero_le _, rfl, I0.out⟩
  case round =>
    obtain ⟨k, hk, rfl, gm, gn, sm, sn, hpm, hpn, hgm, hgn, hap, hum, hun, hen, hex, hkn, hcm, hcn, hids, hbl⟩ := hrel
    obtain ⟨pm, vm, mm⟩ := gm
    obtain ⟨pn, vn, mn⟩ := gn
    simp only at hpm hpn
    by_cases hlt : k < n
    · have hkn' : (k : Int) < (n : Int) := by omega
      obtain ⟨b, off, rfl, hc0⟩ := (Ha.out.below hbl).at_ hlt
      have Hid' := hide (Hw.out k hlt)
      have hn60 := Hn.out
      have Hids := hide hids
      obtain ⟨id, hid⟩ : ∃ id, id = f k := ⟨_, rfl⟩
      rw [← hid] at Hid' hc0
      have Hfk := hide hid
      clear hid hids
      have Gm0 := hide hgm
      have Gn0 := hide hgn
      have A0 := hide hap
      have E0 := hide hbl
      have HU := hide (And.intro hum (And.intro hun (And.intro hen hex)))
      have HK := hide (And.intro hkn (And.intro hcm hcn))
      have Hcm : Hid (canG (closeG sm id) id = decide (0 < m)) := by
        obtain ⟨x, hx⟩ := close_has (s := sm) id
        exact (hum.close m0 id).can hx
      have Hcn : Hid (canG (closeG sn id) id = false) := by
        obtain ⟨x, hx⟩ := close_has (s := sn) id
        have := (hun.close (Int.le_refl 0) id).can hx
        rw [decide_eq_false (by omega)] at this
        exact this
      have Hex : Hid ((sn.nx id).isNone = (sm.nx id).isNone) := by show _ = _; rw [hex]
      have h1 : sm.n + 1 ≤ 100 := by omega
      have h2 : sn.n + 1 ≤ 100 := by omega
      have h3 : sm.c + 1 ≤ 1000 := by omega
      have h4 : sn.c + 1 ≤ 1000 := by omega
      have hb1 : (decide (0 < m) != decide (0 < m)) = false := by simp
      have hb2 : ((sm.nx id).isNone != (sm.nx id).isNone) = false := by simp
      clear hgm hgn hap hbl hum hun hen hex hkn hcm hcn
      subst hpm
      subst hpn
      go_wp2_with fail
      refine (close35 Gm0.out id Hid'.out h1 h3 E0.out.size).mono ?_
      rintro e z1 ⟨rfl, ⟨q, v, mv⟩, hp, hg, hf, hl⟩
      simp only at hp
      subst hp
      have Gm1 := hide hg
      have Gn1 := hide (Gn0.out.fr A0.out hf)
      have A1 := hide (A0.out.later Gn0.out hl)
      have E1 := hide (E0.out.trans hf.below)
      clear hg hf hl Gm0 Gn0 A0 E0 hc0
      go_wp2_with fail
      refine (can35 Gm1.out id Hid'.out).mono ?_
      rintro e w' ⟨rfl, rfl⟩
      rw [Hcm.out]
      go_wp2_with fail
      refine (closeNil35 id _).mono ?_
      rintro e w' ⟨rfl, rfl⟩
      go_wp2_with fail
      refine (canNil35 id _).mono ?_
      rintro e w' ⟨rfl, rfl⟩
      go_wp2_with fail
      refine (keepNil35 id _).mono ?_
      rintro e w' ⟨rfl, rfl⟩
      go_wp2_with fail
      refine (close35 Gn1.out id Hid'.out h2 h4 E1.out.size).mono ?_
      rintro e z2 ⟨rfl, ⟨q', v', mv'⟩, hp', hg', hf', hl'⟩
      simp only at hp'
      subst hp'
      rw [Hex.out]
      have Gn2 := hide hg'
      have Gm2 := hide (Gm1.out.fr A1.out.symm hf')
      have A2 := hide ((A1.out.symm.later Gm1.out hl').symm)
      have E2 := hide (E1.out.trans hf'.below)
      clear hg' hf' hl' Gm1 Gn1 A1 E1
      go_wp2_with fail
      refine (can35 Gn2.out id Hid'.out).mono ?_
      rintro e w' ⟨rfl, rfl⟩
      rw [Hcn.out]
      go_wp2_with fail
      go_roundw
      case rel =>
        obtain ⟨q1, q2, q3⟩ := HK.out
        obtain ⟨u1, u2, u3, u4⟩ := HU.out
        obtain ⟨b1, b2⟩ := closeG_le sm id
        obtain ⟨b3, b4⟩ := closeG_le sn id
        obtain ⟨c1, c2⟩ := close_same u3 u4 id
        exact ⟨k + 1, by omega, by go_num, _, _, _, _, rfl, rfl, Gm2.out, Gn2.out, A2.out, u1.close m0 id, u2.close (Int.le_refl 0) id, c1, c2, by omega, by omega, by omega, fun i hi => by
          by_cases e : i = k
          · rw [e, ← Hfk.out]; exact close_has id
          · exact close_keeps id _ (Hids.out i (by omega)), E2.out⟩
      case measure => simp [intOf]; omega
    · obtain rfl : n = k := by omega
      subst hpm
      subst hpn
      have hcm1 := hcm
      have hsn : Hid (sm.n = sn.n) := hen
      have HU := hide hum
      have A3 := hide hap
      have Hids := hide hids
      clear hap hids hun hen hex hkn hcm hcn hlt hum
      have I1 := hide (And.intro hgm (And.intro hgn hbl))
      clear hgm hgn hbl
      by_cases hq : 0 < m ∧ (sm.n : Int) ≤ m
      · have hd0 : decide (0 < m) = true := decide_eq_true hq.1
        have hle : decide ((sm.n : Int) ≤ m) = true := decide_eq_true hq.2
        have K0 : Hid (KeG m sm.nx (fun _ => false) sm) := HU.out.ke hq.1 hq.2
        have HC := hide hcm1
        clear hq hcm1
        go_wp2_with fail
        go_loopw [65] (fun i wr => ∃ k : Nat, k ≤ n ∧ i = .int .i64 k ∧ ∃ s K, GrOk w.heap.size wr ⟨w.heap.size, vm, mm⟩ s ∧ GrOk w.heap.size wr ⟨w.heap.size + 1, vn, mn⟩ sn ∧ s.n = sm.n ∧ s.c ≤ n + 2 * k ∧ KeG m sm.nx K s ∧ Below w.heap.size w wr) (fun i _ => n - (intOf i).toNat)
        case atStart => exact ⟨0, Nat.zero_le _, rfl, sm, _, I1.out.1, I1.out.2.1, rfl, by have := HC.out; omega, K0.out, I1.out.2.2⟩
        case round =>
          obtain ⟨k2, hk2, rfl, s, K, gm3, gn3, hs3, hc3, hK3, hb3⟩ := hrel
          by_cases hlt2 : k2 < n
          · have hkn2 : (k2 : Int) < (n : Int) := by omega
            obtain ⟨b, off, rfl, hc0⟩ := (Ha.out.below hb3).at_ hlt2
            have Hid' := hide (Hw.out k2 hlt2)
            obtain ⟨x, hx⟩ := Hids.out k2 hlt2
            have hn60 := Hn.out
            generalize f k2 = id at hc0 Hid' hx
            have hcan := hK3.can hx
            obtain ⟨K', hK'⟩ := hK3.keep hx
            have h3 : s.c + 1 + 1 ≤ 1000 := by omega
            have Hs := hide hs3
            have Hc := hide hc3
            have HK := hide hK'
            have Gn := hide gn3
            have Gm := hide gm3
            have E := hide hb3
            have Hle := hide (keepG_le s id)
            clear hs3 hc3 hK' gn3 gm3 hK3 hb3
            go_wp2_with fail
            refine (can35 Gm.out id Hid'.out).mono ?_
            rintro e w' ⟨rfl, rfl⟩
            rw [hcan]
            go_wp2_with fail
            refine (len35 Gm.out).mono ?_
            rintro e w' ⟨rfl, rfl⟩
            rw [Hs.out]
            go_wp2_with fail
            refine (keep35 Gm.out id Hid'.out h3 E.out.size).mono ?_
            rintro e z1 ⟨rfl, hg, hf⟩
            rw [hcan]
            have Gm1 := hide hg
            have Gn1 := hide (Gn.out.fr A3.out hf)
            have E1 := hide (E.out.trans hf.below)
            clear hg hf Gm Gn E hc0
            go_wp2_with fail
            go_roundw
            case rel =>
              obtain ⟨l1, l2⟩ := Hle.out
              exact ⟨k2 + 1, by omega, by go_num, _, _, Gm1.out, Gn1.out, l1.trans Hs.out, by have := Hc.out; omega, HK.out, E1.out⟩
            case measure => simp [intOf]; omega
          · obtain rfl : n = k2 := by omega
            have Hs := hide (hs3.trans hsn.out)
            clear hs3 hc3 hK3
            have hee : ((sn.n : Int) == (sn.n : Int)) = true := by simp
            go_wp2_with fail
            refine (lenNil35 _).mono ?_
            rintro e w' ⟨rfl, rfl⟩
            go_wp2_with fail
            refine (len35 gn3).mono ?_
            rintro e w' ⟨rfl, rfl⟩
            go_wp2_with fail
            refine (len35 gm3).mono ?_
            rintro e w' ⟨rfl, rfl⟩
            rw [Hs.out]
            go_wp2_with fail
            refine (alive35 _).mono ?_
            rintro e w2 ⟨rfl, hb2⟩
            go_wp2_with fail
            go_ret
            exact ⟨rfl, hb3.of hb2⟩
      · have hd0 : (decide (0 < m) != decide (0 < m)) = false := by simp
        have HQ := hide hq
        clear hq hcm1
        go_wp2_with fail
        go_loopw [65] (fun i wr => ∃ k : Nat, k ≤ n ∧ i = .int .i64 k ∧ GrOk w.heap.size wr ⟨w.heap.size, vm, mm⟩ sm ∧ GrOk w.heap.size wr ⟨w.heap.size + 1, vn, mn⟩ sn ∧ Below w.heap.size w wr) (fun i _ => n - (intOf i).toNat)
        case atStart => exact ⟨0, Nat.zero_le _, rfl, I1.out⟩
        case round =>
          obtain ⟨k2, hk2, rfl, gm3, gn3, hb3⟩ := hrel
          by_cases hlt2 : k2 < n
          · have hkn2 : (k2 : Int) < (n : Int) := by omega
            obtain ⟨b, off, rfl, hc0⟩ := (Ha.out.below hb3).at_ hlt2
            have Hid' := hide (Hw.out k2 hlt2)
            obtain ⟨x, hx⟩ := Hids.out k2 hlt2
            have hn60 := Hn.out
            generalize f k2 = id at hc0 Hid' hx
            have hcan := HU.out.can hx
            have hle : decide ((sm.n : Int) ≤ m) = false := by
              refine decide_eq_false fun h => HQ.out ⟨?_, h⟩
              have := HU.out.lt _ x hx
              omega
            go_wp2_with fail
            refine (can35 gm3 id Hid'.out).mono ?_
            rintro e w' ⟨rfl, rfl⟩
            rw [hcan]
            go_wp2_with fail
            refine (len35 gm3).mono ?_
            rintro e w' ⟨rfl, rfl⟩
            go_wp2_with fail
            go_roundw
            case rel => exact ⟨k2 + 1, by omega, by go_num, gm3, gn3, hb3⟩
            case measure => simp [intOf]; omega
          · obtain rfl : n = k2 := by omega
            have hee : ((sn.n : Int) == (sn.n : Int)) = true := by simp
            go_wp2_with fail
            refine (lenNil35 _).mono ?_
            rintro e w' ⟨rfl, rfl⟩
            go_wp2_with fail
            refine (len35 gn3).mono ?_
            rintro e w' ⟨rfl, rfl⟩
            go_wp2_with fail
            refine (len35 gm3).mono ?_
            rintro e w' ⟨rfl, rfl⟩
            rw [hsn.out]
            go_wp2_with fail
            refine (alive35 _).mono ?_
            rintro e w2 ⟨rfl, hb2⟩
            go_wp2_with fail
            go_ret
            exact ⟨rfl, hb3.of hb2⟩
end Go.Proofs.Ytnjmkbaddeeniaa
