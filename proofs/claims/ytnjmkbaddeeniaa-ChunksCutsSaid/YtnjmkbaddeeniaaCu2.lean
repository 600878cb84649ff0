/- Layer 10: the program's Cut. -/
import Derived.Test.YtnjmkbaddeeniaaCu1
import Derived.Test.YtnjmkbaddeeniaaCk3
namespace Go.Proofs.Ytnjmkbaddeeniaa
open Go.RowKit

theorem PcD.drewB {B : Nat} {w w' : World} {v : Value} {n : Nat} {X : Nat → Int} {V : Nat → Value} {N : Nat → Nat} {G : Nat → Nat → Int} (h : PcD B w v n X V N G) (hb : Below w.drew.heap.size w.drew w') : PcD B w' v n X V N G := (h.drewN 1).below hb
theorem PcD.set {B : Nat} {w : World} {v : Value} {n : Nat} {X : Nat → Int} {V : Nat → Value} {N : Nat → Nat} {G : Nat → Nat → Int} (h : PcD B w v n X V N G) {a : Addr} (ha : a.block < B) (u : Value) : PcD B (w.setCell a u) v n X V N G := ⟨h.pcs.set ha u, h.apart⟩
theorem PcD.base {B B' : Nat} {w : World} {v : Value} {n : Nat} {X : Nat → Int} {V : Nat → Value} {N : Nat → Nat} {G : Nat → Nat → Int} (h : PcD B w v n X V N G) (hB : B' ≤ B) : PcD B' w v n X V N G :=
  ⟨⟨by
    refine ⟨h.pcs.row.1, ?_⟩
    rcases h.pcs.row.2 with h2 | ⟨g, cap, cur, hv, hg, r⟩
    · exact .inl h2
    · exact .inr ⟨g, cap, cur, hv, by omega, r⟩, fun j hj => Own.baseT (h.pcs.bytes j hj) hB⟩, h.apart⟩
/-- The closure's cells, the pieces. -/
def CuI (w : World) (S : Option Addr) (d dc : Nat) (s : CtS) (v : Value) (W : World) : Prop :=
  W.heap[w.heap.size]? = some (.cells #[.slice S d dc] 28 (0, 0)) ∧ W.heap[w.heap.size + 1]? = some (.cells #[.int .i64 ((s.a % d : Nat) : Int)] 3 (0, 0)) ∧ (∃ V, PcD (w.heap.size + 2) W v s.p.m s.p.X V s.p.N s.p.G) ∧ Below w.heap.size w W
theorem mod_next (a d : Nat) : (((a % d : Nat) : Int) + 1) % (d : Int) = (((a + 1) % d : Nat) : Int) := by
  rw [← Nat.mod_add_mod]
  push_cast
  rfl
set_option maxRecDepth 100000 in
set_option maxHeartbeats 12800000 in
theorem cut_any (A S : Option Addr) (n c d dc : Nat) (F : Nat → Ck) (g : Nat → Int) (w : World) (ha : RdC w A n c F) (hS : Rd .i64 w S d dc g) (hn : n ≤ 1000) (hs : sumC F n ≤ 10000) (hd : 0 < d) (hd' : d ≤ 100) (hg : ∀ i, i < d → g i ≤ 9223372036854775807) :
    Calls Try.prog 20 #[.slice A n c, .slice S d dc] w fun e w' => ∃ v V, e = .returned v ∧ PcD w.heap.size w' v (cts g d F n).p.m (cts g d F n).p.X V (cts g d F n).p.N (cts g d F n).p.G ∧ Below w.heap.size w w' := by
  have Ha := hide ha
  have HS0 := hide hS
  have Hn := hide hn
  have Hs := hide hs
  have Hg := hide hg
  have d0 : ((d : Int) == 0) = false := by simp; omega
  clear ha hS hs hg
  obtain ⟨i0, hi, hz0, hz1, hz2⟩ := info_parts chunk_info
  go_enter Try.func20, Try.ntmps20
  go_wp2_with fail
  refine (inturn_any _ _ _ _).mono ?_
  rintro e w1 ⟨rfl, hp0, hp1, hsz1, hb1⟩
  have P0 := hide hp0
  have P1 := hide hp1
  have HB1 := hide hb1
  clear hp0 hp1 hb1 hsz1 hn
  go_wp2_with fail
  go_loopw [6, 20] (fun v i wr => ∃ k : Nat, k ≤ n ∧ i = .int .i64 k ∧ CuI w S d dc (cts g d F k) v wr) (fun _ i _ => n - (intOf i).toNat)
  case atStart => exact ⟨0, Nat.zero_le _, rfl, P0.out, by simpa [cts] using P1.out, ⟨fun _ => .int .i64 0, PcD.nil _ _ _ _ _ _⟩, HB1.out⟩
  case round =>
    obtain ⟨k, hk, rfl, q0, q1, ⟨V, hV⟩, hB⟩ := hrel
    by_cases hlt : k < n
    · have Q0 := hide q0
      have Q1 := hide q1
      have HV := hide hV
      have HB := hide hB
      have hl1 := rowLt q1
      have Hr := hide (Ha.out.below hB)
      obtain ⟨b, off, hA, hc0, hc1⟩ := Hr.out.at_ hlt
      have hkn : (k : Int) < (n : Int) := by omega
      have hnn := Hn.out
      have hle := Nat.le_trans (sumC_mono F (show k + 1 ≤ n by omega)) Hs.out
      have e2 : sumC F (k + 1) = sumC F k + (F k).n := rfl
      rw [e2] at hle
      have hby := (Ha.out.2.2.2.2 k hlt).1
      have hcb := cts_b F Hg.out hd k (F k).from_
      have hr0 := cts_r (g := g) (d := d) F k
      have hsucc : cts g d F (k + 1) = ⟨((cts g d F k).bytes g d (F k).from_ (F k).b (F k).n).p, ((cts g d F k).bytes g d (F k).from_ (F k).b (F k).n).a, 0⟩ := rfl
      obtain ⟨X, hX⟩ : ∃ X, F k = X := ⟨_, rfl⟩
      rw [hX] at hc0 hc1 hby hle hcb hsucc
      clear hX
      obtain ⟨x, A1, q, c1, f1⟩ := X
      simp only at hc0 hc1 hby hle hcb hsucc
      have Hby := hide hby
      have Hsucc := hide hsucc
      have Hcb := hide hcb
      obtain ⟨s0, hs0⟩ : ∃ s0, s0 = cts g d F k := ⟨_, rfl⟩
      rw [← hs0] at HV Q1 Hcb Hsucc hr0
      have Hr0 := hide hr0
      subst hA
      have Hq : Hid (sumC F k + q ≤ 10000) := hle
      have R8 := hide (heap_alloc_new wr (.cells #[.int .i64 x, .slice A1 q c1] 137))
      have B8 := hide (HB.out.alloc HB.out.size (.cells #[.int .i64 x, .slice A1 q c1] 137))
      have N0 := hide (keepRow Q0.out ((Below.refl _ _).alloc (Nat.le_refl _) (.cells #[.int .i64 x, .slice A1 q c1] 137)))
      have N1 := hide (keepRow Q1.out ((Below.refl _ _).alloc (Nat.le_refl _) (.cells #[.int .i64 x, .slice A1 q c1] 137)))
      have NV := hide (HV.out.below ((Below.refl _ _).alloc (Nat.le_refl _) (.cells #[.int .i64 x, .slice A1 q c1] 137)))
      clear q0 q1 hV hB hby hcb hsucc e2 hle hs0 hr0
      obtain ⟨t0, t1⟩ := row2 R8.out
      go_wp2_with fail
      have Hno := hide (fun h => Nat.lt_irrefl _ (World.ownsRow.lt HV.out.pcs.row _ h).2 : _ ≠ some wr.heap.size)
      generalize hh8 : wr.heap.size = h8 at *
      clear hh8 Hr Q0 Q1 HV HB t0 t1
      go_loopw [6, 9] (fun v l W => ∃ (o L : Nat) (A' : Option Addr) (c' : Nat), o + L = q ∧ l = .slice A' L c' ∧ Rd .u8 w A' L c' (fun i => f1 (o + i)) ∧ v.ownBlock ≠ some h8 ∧ CuI w S d dc (s0.bytes g d x f1 o) v W ∧ ((s0.bytes g d x f1 o).r = 0 ∨ L = 0) ∧ W.heap[h8]? = some (.cells #[.int .i64 x, .slice A1 q c1] 137 (0, 0))) (fun _ l _ => leftN l)
      case atStart => exact ⟨0, q, A1, c1, by omega, rfl, Hby.out.congr fun i _ => by rw [Nat.zero_add], Hno.out, ⟨N0.out, N1.out, ⟨V, NV.out⟩, B8.out⟩, .inl Hr0.out, R8.out⟩
      case round =>
        obtain ⟨o, L, A', c', hoL, rfl, hrd, hno, ⟨q0, q1, ⟨V, hV⟩, hB⟩, hr, hR⟩ := hrel
        have Hby0 := hide hrd
        by_cases hL : L = 0
        · subst hL
          obtain rfl : o = q := by omega
          have HC : Hid (CuI w S d dc (s0.bytes g d x f1 o) _ _) := ⟨q0, q1, ⟨V, hV⟩, hB⟩
          clear q0 q1 hV hB hr hR hrd
          go_wp2_with fail
          go_roundw
          case rel => exact ⟨k + 1, by omega, by go_num, by rw [Hsucc.out]; exact HC.out⟩
          case measure => simp [intOf]; omega
        · obtain ⟨bb, bo, hA', _⟩ := hrd.at_ (show 0 < L by omega)
          subst hA'
          have hr1 : (s0.bytes g d x f1 o).r = 0 := by rcases hr with h | h; exact h; exact absurd h hL
          clear hr
          have Hcb' := hide (Hcb.out.bytes Hg.out hd f1 o)
          obtain ⟨s, hs⟩ : ∃ s, s = s0.bytes g d x f1 o := ⟨_, rfl⟩
          rw [← hs] at q1 hV hr1 Hcb'
          have Hcp := hrd.1
          have hq1000 := Hq.out
          have hm := Hcb'.out.m
          have Hne := hide hno
          have HB := hide hB
          have HS := hide (HS0.out.below hB)
          have n1' : w.heap.size + 1 < h8 := hl1
          have HV := hide (hV.set (a := ⟨w.heap.size + 1, 0, none⟩) (by simp) (.int .i64 (((s.a + 1) % d : Nat) : Int)))
          have S0 := hide (keepOne q0 (grown_set _ (w.heap.size + 1) 0 (.int .i64 (((s.a + 1) % d : Nat) : Int))) (by omega))
          have s1 := setRow _ _ 0 (.int .i64 (((s.a + 1) % d : Nat) : Int)) q1
          simp only [List.setIfInBounds_toArray, List.set_cons_zero] at s1
          have S1 := hide s1
          have SR := hide (keepOne hR (grown_set _ (w.heap.size + 1) 0 (.int .i64 (((s.a + 1) % d : Nat) : Int))) (by omega))
          have SB := hide (hB.setCell (show w.heap.size ≤ (⟨w.heap.size + 1, 0, none⟩ : Addr).block by simp) (.int .i64 (((s.a + 1) % d : Nat) : Int)))
          have Z0 := hide q0
          have Z1 := hide q1
          have hnext := fun (W : World) (h0 : W.heap[w.heap.size]? = some (.cells #[.slice S d dc] 28 (0, 0))) (h1 : W.heap[w.heap.size + 1]? = some (.cells #[.int .i64 ((s.a % d : Nat) : Int)] 3 (0, 0))) (h2 : Rd .i64 W S d dc g) => next_any S d dc w.heap.size (w.heap.size + 1) (s.a % d) g W h0 h1 h2 (Nat.mod_lt _ hd) hd'
          simp only [mod_next, show max 1 (g (s.a % d)) = szF g d s.a from rfl] at hnext
          clear q0 q1 hV hB hR s1 hno hrd
          have hz := szF_pos g d s.a
          by_cases hsz : szF g d s.a ≤ (L : Int)
          · obtain ⟨n1, hn1⟩ : ∃ n1 : Nat, szF g d s.a = (n1 : Int) := ⟨(szF g d s.a).toNat, by omega⟩
            have hn1s : (n1 : Int) ≤ szF g d s.a := by omega
            have h1n : 1 ≤ n1 := by omega
            have hn1L : n1 ≤ L := by omega
            simp only [hn1] at hnext
            have hdn : decide ((L : Int) < (n1 : Int)) = false := by simp; omega
            have hdn' : decide (L < n1) = false := by simp; omega
            have hcn : (n1 : Int) ≤ (c' : Int) := by omega
            have hLn : (n1 : Int) ≤ (L : Int) := by omega
            have Hrr : Hid (szF g d s.a = (n1 : Int)) := hn1
            clear hsz hn1
            have HB3x := HB
            go_wp2_with fail
            refine (hnext _ Z0.out Z1.out HS.out).mono ?_
            rintro e W2 ⟨rfl, rfl⟩
            refine absW2 _ (fun W => W.heap[w.heap.size]? = some (.cells #[.slice S d dc] 28 (0, 0)) ∧ W.heap[w.heap.size + 1]? = some (.cells #[.int .i64 (((s.a + 1) % d : Nat) : Int)] 3 (0, 0)) ∧ PcD (w.heap.size + 2) W _ s.p.m s.p.X V s.p.N s.p.G ∧ W.heap[h8]? = some (.cells #[.int .i64 x, .slice A1 q c1] 137 (0, 0)) ∧ Below w.heap.size w W) ⟨S0.out, S1.out, HV.out, SR.out, SB.out⟩ ?_
            clear S0 S1 SR SB HV HS HB HB3x Z0 Z1
            rintro W ⟨hq0, hq1, hV, hR, hB⟩
            have Q0 := hide hq0
            have Q1 := hide hq1
            have HV := hide hV
            have R8' := hide hR
            have HB := hide hB
            obtain ⟨r0, r1⟩ := row2 hR
            clear hq0 hq1 hV hR hB
            go_wp2_with fail
            go_region_held3 (fun w' : World => w'.cell? ⟨h8, 0, none⟩ = some (.int .i64 x))
              ((first | exact (row2 R84.out).1 | exact cellKeepC hv3 (by assumption) | (go_keep; done)))
              ((first
                | (go_at_call 74; (with_reducible refine (copied_any x _ n1 _ (fun i => f1 (o + i)) _ ((Hby0.out.below HB.out.drew).take (by omega)) (by omega)).mono ?_); rintro e W3 ⟨y, rfl, hy, hv3⟩; obtain ⟨Ay, cy, rfl, _, _⟩ := hy.rd; have HB3 := hide (HB.out.drew.of hv3); have HV3 := hide (HV.out.drewB hv3); have HY3 := hide (Own.baseT hy (B' := w.heap.size + 2) (by have := rowLt Q1.out; show _ ≤ W.drew.heap.size; exact this)); have HN3 := hide hy; have Q03 := hide (keepRowC Q0.out hv3); have Q13 := hide (keepRowC Q1.out hv3); have R83 := hide (keepRowC R8'.out hv3))
                | (refine step_appV rfl _ _ _ rfl 2 i0 _ 32 Try.underlying22 hi hz0 hz1 hz2 rfl (by omega) (w.heap.size + 2) _ s.p.m _ rfl (HV3.out.pcs.row.alloc _) _ 1 1 _ rfl (RdV.litK _ x _) (fun i _ => by unfold litC2; split <;> rfl) (by simp only [maxLen]; omega) (by omega) (by have := rowLt Q13.out; simp; omega) ?_; intro v4 W4 hown4 hg4 hob4; have R84 := hide (keepGrown (keepRow R83.out ((Below.refl _ _).alloc (Nat.le_refl _) _)) hg4 Hne.out); have Q04 := hide (keepGrown (keepRow Q03.out ((Below.refl _ _).alloc (Nat.le_refl _) _)) hg4 (ownV_ne HV3.out.pcs.row (by omega))); have Q14 := hide (keepGrown (keepRow Q13.out ((Below.refl _ _).alloc (Nat.le_refl _) _)) hg4 (ownV_ne HV3.out.pcs.row (by omega))); have HB4 := hide ((HB3.out.alloc HB3.out.size _).grown hg4 (by have := HB3.out.size; simp; omega) (fun j e => by have := (World.ownsRow.lt HV3.out.pcs.row j e).1; omega)); have HV4 := hide (PcD.push (x := x) (m := n1) (g := fun i => f1 (o + i)) (w0 := W.drew) (HV3.out.below ((Below.refl _ _).alloc (Nat.le_refl _) _)) (HV.out.drewN 1).pcs (Own.alloc HY3.out _) (Own.alloc HN3.out _) hown4 hg4))))
            have Hne4 : Hid (v4.ownBlock ≠ some h8) := by
              have l8 := rowLt R83.out
              show _ ≠ _
              rcases hob4 with e | e
              · rw [e]; exact Hne.out
              · rw [e]
                intro e2
                have := Option.some.inj e2
                simp at this
                omega
            obtain ⟨k1, k2, k3⟩ := CtS.take s x (fun i => f1 (o + i)) hr1 n1 h1n hn1s
            have HE := hide k3.symm
            have KA := hide k1
            have KR := hide k2
            clear hown4 hg4 hob4 HV3 HY3 HN3 HB3 Q03 Q13 R83 Q0 Q1 HV R8' HB r0 r1 k1 k2 k3
            go_wp2_with fail
            go_roundw
            case rel =>
              refine ⟨o + n1, L - n1, _, _, by omega, rfl, ?_, Hne4.out, ⟨Q04.out, ?_, ?_, HB4.out⟩, ?_, R84.out⟩
              · have h := Hby0.out.cutAt (lo := n1) (hi := L) hn1L (Nat.le_refl _)
                
                refine Rd.congr (f := fun i => f1 (o + (n1 + i))) ?_ (fun i _ => by rw [Nat.add_assoc])
                rw [show (if c' = n1 then (some ⟨bb, bo, none⟩ : Option Addr) else some ⟨bb, bo + n1, none⟩) = some ⟨bb, if c' = n1 then bo else bo + n1, none⟩ by split <;> rfl]
                exact h
              · rw [CtS.bytes_add, ← hs, KA.out]
                exact Q14.out
              · rw [CtS.bytes_add, ← hs]
                exact ⟨_, PcD.eq (s := pushJ s.p x n1 (fun i => f1 (o + i))) HV4.out HE.out⟩
              · rw [CtS.bytes_add, ← hs, KR.out]
                exact .inl (by have := Hrr.out; omega)
            case measure => simp [leftN]; omega
          · obtain ⟨z, hzz⟩ : ∃ z, z = szF g d s.a := ⟨_, rfl⟩
            obtain ⟨n1, hn1⟩ : ∃ n1 : Nat, n1 = L := ⟨L, rfl⟩
            have hn1s : (n1 : Int) ≤ szF g d s.a := by omega
            have h1n : 1 ≤ n1 := by omega
            have hn1L : n1 ≤ L := by omega
            simp only [← hzz] at hnext
            have hdn : decide ((L : Int) < z) = true := by simp; omega
            have hdn2 : decide (z < (L : Int)) = false := by simp; omega
            have hdn3 : decide (z ≤ (L : Int)) = false := by simp; omega
            have hdn4 : (L : Int) < z := by omega
            have hzp1 : 1 ≤ z := by omega
            have hcn : (n1 : Int) ≤ (c' : Int) := by omega
            subst hn1
            clear hsz
            have Hzz := hide hzz
            clear hzz
            have HB3x := HB
            go_wp2_with fail
            refine (hnext _ Z0.out Z1.out HS.out).mono ?_
            rintro e W2 ⟨rfl, rfl⟩
            refine absW2 _ (fun W => W.heap[w.heap.size]? = some (.cells #[.slice S d dc] 28 (0, 0)) ∧ W.heap[w.heap.size + 1]? = some (.cells #[.int .i64 (((s.a + 1) % d : Nat) : Int)] 3 (0, 0)) ∧ PcD (w.heap.size + 2) W _ s.p.m s.p.X V s.p.N s.p.G ∧ W.heap[h8]? = some (.cells #[.int .i64 x, .slice A1 q c1] 137 (0, 0)) ∧ Below w.heap.size w W) ⟨S0.out, S1.out, HV.out, SR.out, SB.out⟩ ?_
            clear S0 S1 SR SB HV HS HB HB3x Z0 Z1
            rintro W ⟨hq0, hq1, hV, hR, hB⟩
            have Q0 := hide hq0
            have Q1 := hide hq1
            have HV := hide hV
            have R8' := hide hR
            have HB := hide hB
            obtain ⟨r0, r1⟩ := row2 hR
            clear hq0 hq1 hV hR hB
            go_wp2_with fail
            go_region_held3 (fun w' : World => w'.cell? ⟨h8, 0, none⟩ = some (.int .i64 x))
              ((first | exact (row2 R84.out).1 | exact cellKeepC hv3 (by assumption) | (go_keep; done)))
              ((first
                | (go_at_call 74; (with_reducible refine (copied_any x _ n1 _ (fun i => f1 (o + i)) _ ((Hby0.out.below HB.out.drew).take (by omega)) (by omega)).mono ?_); rintro e W3 ⟨y, rfl, hy, hv3⟩; obtain ⟨Ay, cy, rfl, _, _⟩ := hy.rd; have HB3 := hide (HB.out.drew.of hv3); have HV3 := hide (HV.out.drewB hv3); have HY3 := hide (Own.baseT hy (B' := w.heap.size + 2) (by have := rowLt Q1.out; show _ ≤ W.drew.heap.size; exact this)); have HN3 := hide hy; have Q03 := hide (keepRowC Q0.out hv3); have Q13 := hide (keepRowC Q1.out hv3); have R83 := hide (keepRowC R8'.out hv3))
                | (refine step_appV rfl _ _ _ rfl 2 i0 _ 32 Try.underlying22 hi hz0 hz1 hz2 rfl (by omega) (w.heap.size + 2) _ s.p.m _ rfl (HV3.out.pcs.row.alloc _) _ 1 1 _ rfl (RdV.litK _ x _) (fun i _ => by unfold litC2; split <;> rfl) (by simp only [maxLen]; omega) (by omega) (by have := rowLt Q13.out; simp; omega) ?_; intro v4 W4 hown4 hg4 hob4; have R84 := hide (keepGrown (keepRow R83.out ((Below.refl _ _).alloc (Nat.le_refl _) _)) hg4 Hne.out); have Q04 := hide (keepGrown (keepRow Q03.out ((Below.refl _ _).alloc (Nat.le_refl _) _)) hg4 (ownV_ne HV3.out.pcs.row (by omega))); have Q14 := hide (keepGrown (keepRow Q13.out ((Below.refl _ _).alloc (Nat.le_refl _) _)) hg4 (ownV_ne HV3.out.pcs.row (by omega))); have HB4 := hide ((HB3.out.alloc HB3.out.size _).grown hg4 (by have := HB3.out.size; simp; omega) (fun j e => by have := (World.ownsRow.lt HV3.out.pcs.row j e).1; omega)); have HV4 := hide (PcD.push (x := x) (m := n1) (g := fun i => f1 (o + i)) (w0 := W.drew) (HV3.out.below ((Below.refl _ _).alloc (Nat.le_refl _) _)) (HV.out.drewN 1).pcs (Own.alloc HY3.out _) (Own.alloc HN3.out _) hown4 hg4))))
            have Hne4 : Hid (v4.ownBlock ≠ some h8) := by
              have l8 := rowLt R83.out
              show _ ≠ _
              rcases hob4 with e | e
              · rw [e]; exact Hne.out
              · rw [e]
                intro e2
                have := Option.some.inj e2
                simp at this
                omega
            obtain ⟨k1, k2, k3⟩ := CtS.take s x (fun i => f1 (o + i)) hr1 n1 h1n hn1s
            have HE := hide k3.symm
            have KA := hide k1
            have KR := hide k2
            clear hown4 hg4 hob4 HV3 HY3 HN3 HB3 Q03 Q13 R83 Q0 Q1 HV R8' HB r0 r1 k1 k2 k3
            go_wp2_with fail
            go_roundw
            case rel =>
              refine ⟨o + n1, 0, _, _, by omega, rfl, ?_, Hne4.out, ⟨Q04.out, ?_, ?_, HB4.out⟩, ?_, R84.out⟩
              · have h := Hby0.out.cutAt (lo := n1) (hi := n1) hn1L (Nat.le_refl _)
                rw [Nat.sub_self] at h
                refine Rd.congr (f := fun i => f1 (o + (n1 + i))) ?_ (fun i _ => by rw [Nat.add_assoc])
                rw [show (if c' = n1 then (some ⟨bb, bo, none⟩ : Option Addr) else some ⟨bb, bo + n1, none⟩) = some ⟨bb, if c' = n1 then bo else bo + n1, none⟩ by split <;> rfl]
                exact h
              · rw [CtS.bytes_add, ← hs, KA.out]
                exact Q14.out
              · rw [CtS.bytes_add, ← hs]
                exact ⟨_, PcD.eq (s := pushJ s.p x n1 (fun i => f1 (o + i))) HV4.out HE.out⟩
              · rw [CtS.bytes_add, ← hs, KR.out]
                exact .inr rfl
            case measure => simp [leftN]; omega
    · obtain rfl : k = n := by omega
      go_wp2_with fail
      go_ret
      exact ⟨_, V, rfl, hV.base (by omega), hB⟩
end Go.Proofs.Ytnjmkbaddeeniaa
