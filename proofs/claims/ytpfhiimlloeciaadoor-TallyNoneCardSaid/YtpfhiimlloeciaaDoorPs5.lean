/- Layer 27: the reference's order. -/
import Derived.Test.YtpfhiimlloeciaaDoorPs4
namespace Go.Proofs.YtpfhiimlloeciaaDoor
open Go.RowKit Go.PlainAid

theorem RdV.belowT {s : Nat} {w w' : World} {A : Option Addr} {n c : Nat} {F : Nat → Value} (h : RdV s w A n c F) (hb : Below w.heap.size w w') : RdV s w' A n c F :=
  ⟨h.1, h.2.1, h.2.2.1, fun hn => by
    obtain ⟨b, off, hA, hc⟩ := h.2.2.2 hn
    exact ⟨b, off, hA, fun i hi => cellKeepT hb (hc i hi)⟩⟩
theorem okR_step {NM : List ByteArray} {F : Nat → Fd} {n k : Nat} (h : okR NM F n k = true) (h2 : (!colB (F k).name || ((k == 0 || colB (F (k - 1)).name) && NM.any (eqN (F k).name ·) && decide (cntF F (F k).name n ≤ 1))) = true) : okR NM F n (k + 1) = true := by
  show (okR NM F n k && _) = true
  rw [h, h2]
  rfl
theorem okR_no {NM : List ByteArray} {F : Nat → Fd} {n k : Nat} (hk : k < n) (h2 : (!colB (F k).name || ((k == 0 || colB (F (k - 1)).name) && NM.any (eqN (F k).name ·) && decide (cntF F (F k).name n ≤ 1))) = false) : okF NM F n = false := by
  rw [← okR_ok]
  refine okR_bad hk ?_
  show (okR NM F n k && _) = false
  rw [h2]
  simp
set_option maxRecDepth 100000 in
set_option maxHeartbeats 6400000 in
theorem rordered_any (A NA : Option Addr) (n c qc : Nat) (F : Nat → Fd) (NM : List ByteArray) (w : World) (ha : RdFd w A n c F) (hN : RdV 1 w NA NM.length qc (fun i => .string (NM.getD i sE))) (hq : NM.length ≤ 100) (hnn : n ≤ 1000000) :
    Calls Tryd.prog 101 #[.slice A n c, .slice NA NM.length qc] w fun e w' => e = .returned (.bool (okF NM F n)) ∧ Below w.heap.size w w' := by
  have Ha := hide ha
  have HN := hide hN
  have hn := ha.le
  have hcall := fun (W : World) (x : ByteArray) (h : RdV 1 W NA NM.length qc (fun i => .string (NM.getD i sE))) => ramong_any NA qc NM x W h hq
  clear ha hN
  go_enter Tryd.func101, Tryd.ntmps101
  go_wp2_with fail
  go_loopw [5] (fun i wr => ∃ k : Nat, k ≤ n ∧ i = .int .i64 k ∧ okR NM F n k = true ∧ Below w.heap.size w wr) (fun i _ => n - (intOf i).toNat)
  case atStart => exact ⟨0, Nat.zero_le _, rfl, rfl, Below.refl _ _⟩
  case round =>
    obtain ⟨k, hk, rfl, hok, hB⟩ := hrel
    have Hok := hide hok
    have HB := hide hB
    clear hok
    by_cases hlt : k < n
    · obtain ⟨b, off, rfl, hc0, hc1, hc2⟩ := (Ha.out.below hB).at_ hlt
      have hsz := (Ha.out.len hlt).1
      have hkn : (k : Int) < (n : Int) := by omega
      obtain ⟨X, hX⟩ : ∃ X, F k = X := ⟨_, rfl⟩
      rw [hX] at hc0 hc1 hc2 hsz
      have HX := hide hX
      clear hX hB
      obtain ⟨nm, vl, nv⟩ := X
      simp only at hc0 hc1 hc2 hsz
      go_wp2_with fail
      refine (ris_any nm vl nv _ hsz).mono ?_
      rintro e w1 ⟨rfl, hb1⟩
      have HB1 := hide (HB.out.of hb1)
      have d0 := cellKeepT hb1 hc0
      clear hb1 hc0 hc1 hc2
      obtain ⟨cb, hcb⟩ : ∃ cb, cb = colB nm := ⟨_, rfl⟩
      rw [← hcb]
      have Hcb := hide hcb
      clear hcb
      cases cb with
      | false =>
        have HS := hide (okR_step Hok.out (by rw [HX.out, ← Hcb.out]; rfl))
        go_wp2_with fail
        go_roundw
        case rel => exact ⟨k + 1, by omega, by go_num, HS.out, HB1.out⟩
        case measure => simp [intOf]; omega
      | true =>
        have TAIL : True := trivial
        by_cases hk0 : k = 0
        · subst hk0
          simp only [Nat.zero_mul, Nat.add_zero] at d0
          go_wp2_with fail
          refine (hcall _ nm (HN.out.belowT HB1.out)).mono ?_
          rintro e w3 ⟨rfl, hd3⟩
          have HB3 := hide (HB1.out.trans (drawn_below hd3 _))
          have d3 := cellKeepT (drawn_below hd3 _) d0
          have Hr3 := hide (Ha.out.below HB3.out)
          clear hd3 d0
          obtain ⟨am, ham⟩ : ∃ am, am = NM.any (eqN nm ·) := ⟨_, rfl⟩
          rw [← ham]
          have Ham := hide ham
          clear ham
          cases am with
          | false =>
            have HBAD := hide (okR_no (NM := NM) (F := F) hlt (by rw [HX.out, ← Hcb.out]; simp only [← Ham.out]; simp))
            go_wp2_with fail
            go_ret
            exact ⟨by rw [HBAD.out]; rfl, HB3.out⟩
          | true =>
            go_wp2_with fail
            refine (rmany_any _ n c F nm _ Hr3.out).mono ?_
            rintro e w4 ⟨rfl, hd4⟩
            have HB4 := hide (HB3.out.trans (drawn_below hd4 _))
            clear hd4
            by_cases hc1 : cntF F nm n ≤ 1
            · have HS := hide (okR_step Hok.out (by rw [HX.out, ← Hcb.out]; simp only [← Ham.out]; simp [hc1]))
              have d1 : decide ((1 : Int) < (cntF F nm n : Int)) = false := decide_eq_false (by omega)
              obtain ⟨m, hm⟩ : ∃ m, m = cntF F nm n := ⟨_, rfl⟩
              rw [← hm] at d1 ⊢
              clear hc1 hm
              go_wp2_with fail
              go_roundw
              case rel => exact ⟨0 + 1, by omega, by go_num, HS.out, HB4.out⟩
              case measure => simp [intOf]; omega
            · have HBAD := hide (okR_no (NM := NM) (F := F) hlt (by rw [HX.out, ← Hcb.out]; simp only [← Ham.out]; simp [hc1]))
              have d1 : decide ((1 : Int) < (cntF F nm n : Int)) = true := decide_eq_true (by omega)
              obtain ⟨m, hm⟩ : ∃ m, m = cntF F nm n := ⟨_, rfl⟩
              rw [← hm] at d1 ⊢
              clear hc1 hm
              go_wp2_with fail
              go_ret
              exact ⟨by rw [HBAD.out]; rfl, HB4.out⟩
        · obtain ⟨p, rfl⟩ : ∃ p, k = p + 1 := ⟨k - 1, by omega⟩
          obtain ⟨b', off', hbb, hp0, hp1, hp2⟩ := (Ha.out.below HB1.out).at_ (show p < n by omega)
          have hszp := (Ha.out.len (show p < n by omega)).1
          obtain ⟨rfl, rfl⟩ : b = b' ∧ off = off' := by simpa using hbb
          obtain ⟨Y, hY⟩ : ∃ Y, F p = Y := ⟨_, rfl⟩
          rw [hY] at hp0 hp1 hp2 hszp
          have HY := hide hY
          clear hY hbb hk0
          obtain ⟨nm', vl', nv'⟩ := Y
          simp only at hp0 hp1 hp2 hszp
          have dp : decide ((0 : Int) < (p : Int) + 1) = true := decide_eq_true (by omega)
          have dp' : (0 : Int) < (p : Int) + 1 := by omega
          go_wp2_with fail
          refine (ris_any nm' vl' nv' _ hszp).mono ?_
          rintro e w2 ⟨rfl, hb2⟩
          have HB2 := hide (HB1.out.of hb2)
          have d2 := cellKeepT hb2 d0
          clear hb2 d0 hp0 hp1 hp2
          obtain ⟨cp, hcp⟩ : ∃ cp, cp = colB nm' := ⟨_, rfl⟩
          rw [← hcp]
          have Hcp := hide hcp
          clear hcp
          cases cp with
          | false =>
            have HBAD := hide (okR_no (NM := NM) (F := F) hlt (by rw [HX.out, ← Hcb.out, show p + 1 - 1 = p from rfl, HY.out, ← Hcp.out]; rfl))
            go_wp2_with fail
            go_ret
            exact ⟨by rw [HBAD.out]; rfl, HB2.out⟩
          | true =>
            go_wp2_with fail
            refine (hcall _ nm (HN.out.belowT HB2.out)).mono ?_
            rintro e w3 ⟨rfl, hd3⟩
            have HB3 := hide (HB2.out.trans (drawn_below hd3 _))
            have d3 := cellKeepT (drawn_below hd3 _) d2
            have Hr3 := hide (Ha.out.below HB3.out)
            clear hd3 d2
            obtain ⟨am, ham⟩ : ∃ am, am = NM.any (eqN nm ·) := ⟨_, rfl⟩
            rw [← ham]
            have Ham := hide ham
            clear ham
            cases am with
            | false =>
              have HBAD := hide (okR_no (NM := NM) (F := F) hlt (by rw [HX.out, ← Hcb.out, show p + 1 - 1 = p from rfl, HY.out, ← Hcp.out]; simp only [← Ham.out]; simp))
              go_wp2_with fail
              go_ret
              exact ⟨by rw [HBAD.out]; rfl, HB3.out⟩
            | true =>
              go_wp2_with fail
              refine (rmany_any _ n c F nm _ Hr3.out).mono ?_
              rintro e w4 ⟨rfl, hd4⟩
              have HB4 := hide (HB3.out.trans (drawn_below hd4 _))
              clear hd4
              by_cases hc1 : cntF F nm n ≤ 1
              · have HS := hide (okR_step Hok.out (by rw [HX.out, ← Hcb.out, show p + 1 - 1 = p from rfl, HY.out, ← Hcp.out]; simp only [← Ham.out]; simp [hc1]))
                have d1 : decide ((1 : Int) < (cntF F nm n : Int)) = false := decide_eq_false (by omega)
                obtain ⟨m, hm⟩ : ∃ m, m = cntF F nm n := ⟨_, rfl⟩
                rw [← hm] at d1 ⊢
                clear hc1 hm
                go_wp2_with fail
                go_roundw
                case rel => exact ⟨(p + 1) + 1, by omega, by go_num, HS.out, HB4.out⟩
                case measure => simp [intOf]; omega
              · have HBAD := hide (okR_no (NM := NM) (F := F) hlt (by rw [HX.out, ← Hcb.out, show p + 1 - 1 = p from rfl, HY.out, ← Hcp.out]; simp only [← Ham.out]; simp [hc1]))
                have d1 : decide ((1 : Int) < (cntF F nm n : Int)) = true := decide_eq_true (by omega)
                obtain ⟨m, hm⟩ : ∃ m, m = cntF F nm n := ⟨_, rfl⟩
                rw [← hm] at d1 ⊢
                clear hc1 hm
                go_wp2_with fail
                go_ret
                exact ⟨by rw [HBAD.out]; rfl, HB4.out⟩
    · obtain rfl : k = n := by omega
      go_wp2_with fail
      go_ret
      exact ⟨by rw [← okR_ok, Hok.out]; rfl, HB.out⟩
theorem rtrailer_any (A : Option Addr) (n c : Nat) (F : Nat → Fd) (w : World) (ha : RdFd w A n c F) : Calls Tryd.prog 68 #[.slice A n c] w fun e w' => e = .returned (.bool (okF [] F n)) ∧ Below w.heap.size w w' := by
  have Ha := hide ha
  have hn := ha.le
  clear ha
  go_enter Tryd.func68, Tryd.ntmps68
  go_wp2_with fail
  go_loopw [3] (fun i wr => ∃ k : Nat, k ≤ n ∧ i = .int .i64 k ∧ (∀ j, j < k → colB (F j).name = false) ∧ Below w.heap.size w wr) (fun i _ => n - (intOf i).toNat)
  case atStart => exact ⟨0, Nat.zero_le _, rfl, fun j hj => absurd hj (by omega), Below.refl _ _⟩
  case round =>
    obtain ⟨k, hk, rfl, hok, hB⟩ := hrel
    have Hok := hide hok
    have HB := hide hB
    clear hok
    by_cases hlt : k < n
    · obtain ⟨b, off, rfl, hc0, hc1, hc2⟩ := (Ha.out.below hB).at_ hlt
      have hsz := (Ha.out.len hlt).1
      have hkn : (k : Int) < (n : Int) := by omega
      obtain ⟨X, hX⟩ : ∃ X, F k = X := ⟨_, rfl⟩
      rw [hX] at hc0 hc1 hc2 hsz
      have HX := hide hX
      clear hX hB
      obtain ⟨nm, vl, nv⟩ := X
      simp only at hc0 hc1 hc2 hsz
      go_wp2_with fail
      refine (ris_any nm vl nv _ hsz).mono ?_
      rintro e w1 ⟨rfl, hb1⟩
      have HB1 := hide (HB.out.of hb1)
      clear hb1 hc0 hc1 hc2
      obtain ⟨cb, hcb⟩ : ∃ cb, cb = colB nm := ⟨_, rfl⟩
      rw [← hcb]
      have Hcb := hide hcb
      clear hcb
      cases cb with
      | false =>
        go_wp2_with fail
        go_roundw
        case rel =>
          refine ⟨k + 1, by omega, by go_num, fun j hj => ?_, HB1.out⟩
          by_cases e : j = k
          · subst e; rw [HX.out]; exact Hcb.out.symm
          · exact Hok.out j (by omega)
        case measure => simp [intOf]; omega
      | true =>
        have HBAD : Hid (okF [] F n = false) := by
          cases e : okF [] F n with
          | false => exact hide (Eq.refl false)
          | true =>
            have := okF_nil.1 e k hlt
            rw [HX.out, ← Hcb.out] at this
            cases this
        go_wp2_with fail
        go_ret
        exact ⟨by rw [HBAD.out]; rfl, HB1.out⟩
    · obtain rfl : k = n := by omega
      have HG : Hid (okF [] F k = true) := okF_nil.2 Hok.out
      go_wp2_with fail
      go_ret
      exact ⟨by rw [HG.out]; rfl, HB.out⟩
end Go.Proofs.YtpfhiimlloeciaaDoor
