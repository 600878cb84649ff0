/- Layer 27: the program's 'read'. -/
import Derived.Test.YtpohgehojmeodaaDoorPs1
import Derived.Test.YtpohgehojmeodaaDoorMJ
import Derived.Test.YtpohgehojmeodaaDoorMG
import Derived.Deep.LoopGhost
namespace Go.Proofs.YtpohgehojmeodaaDoor
set_option linter.unusedVariables false
set_option linter.unusedSimpArgs false
open Go.RowKit Go.PlainAid

theorem hasprefix27 (s : ByteArray) (w : World) : Calls Tryd.prog 199 #[.string s, .string ⟨#[58]⟩] w fun e w' => e = .returned (.bool (colB s)) ∧ w = w' := by
  have h : ∀ W : World, Calls Tryd.prog 126 #[.string s, .string ⟨#[58]⟩] W fun e w' => e = .returned (.bool (colB s)) ∧ W = w' := fun W => hasprefix_colon s W
  generalize colB s = b at *
  go_enter Tryd.func199, Tryd.ntmps199
  go_wp2_with (go_at_call 126; refine (h _).mono ?_; rintro e w' ⟨rfl, rfl⟩)
  go_ret
  exact ⟨rfl, rfl⟩
theorem value_info : (Tryd.prog.info? 194).map (fun i => (i.zero, i.size, i.bytes)) = some (some (.agg #[.string ⟨#[]⟩, .bool false]), 2, 24) := by kernel_rfl
def gotV (NM : List ByteArray) (F : Nat → Fd) (k : Nat) : Nat → Value := fun i => if i % 2 = 0 then .string (txt (valF F (NM.getD (i / 2) sE) k)) else .bool (valF F (NM.getD (i / 2) sE) k).isSome
theorem gotV_0 (NM : List ByteArray) (F : Nat → Fd) (k i : Nat) : gotV NM F k (i * 2) = .string (txt (valF F (NM.getD i sE) k)) := by
  unfold gotV
  rw [if_pos (by omega), show i * 2 / 2 = i by omega]
theorem gotV_1 (NM : List ByteArray) (F : Nat → Fd) (k i : Nat) : gotV NM F k (i * 2 + 1) = .bool (valF F (NM.getD i sE) k).isSome := by
  unfold gotV
  rw [if_neg (by omega), show (i * 2 + 1) / 2 = i by omega]
theorem gotV_made (NM : List ByteArray) (F : Nat → Fd) (n : Nat) : (madeCells (Value.agg #[.string ⟨#[]⟩, .bool false]).cells (n * 2)).toList = rowV (n * 2) (gotV NM F 0) := by
  simp only [madeCells, rowV, Array.toList_map, Array.toList_range, Value.cells]
  refine List.map_congr_left fun i _ => ?_
  rcases Nat.mod_two_eq_zero_or_one i with h | h <;> simp [h, gotV, valF, txt, sE]
/-- A field that is no pseudo-field. -/
theorem gotV_skip {NM : List ByteArray} {F : Nat → Fd} {k : Nat} (hn : ∀ i, i < NM.length → eqN (F k).name (NM.getD i sE) = false) : ∀ i, i < NM.length * 2 → gotV NM F k i = gotV NM F (k + 1) i := by
  intro i hi
  unfold gotV
  have h := hn (i / 2) (by omega)
  have e : valF F (NM.getD (i / 2) sE) (k + 1) = valF F (NM.getD (i / 2) sE) k := by
    conv => lhs; unfold valF
    cases valF F (NM.getD (i / 2) sE) k with
    | some v => rfl
    | none => simp only [h, Bool.false_eq_true, if_false]
  rw [e]
theorem gotV_set {NM : List ByteArray} {F : Nat → Fd} {k m : Nat} (hm : m < NM.length) (hn : (F k).name = NM.getD m sE) (hv : valF F (F k).name k = none) (hd : ∀ i, i < NM.length → i ≠ m → NM.getD i sE ≠ NM.getD m sE) :
    ∀ i, i < NM.length * 2 → setV (setV (gotV NM F k) (m * 2) (.string (F k).val)) (m * 2 + 1) (.bool true) i = gotV NM F (k + 1) i := by
  intro i hi
  have e1 : valF F (NM.getD m sE) (k + 1) = some (F k).val := by
    unfold valF
    rw [← hn, hv, eqN_refl]
    rfl
  unfold setV
  by_cases h1 : i = m * 2 + 1
  · subst h1
    rw [if_pos rfl, gotV_1, e1]
    rfl
  · rw [if_neg h1]
    by_cases h2 : i = m * 2
    · subst h2
      rw [if_pos rfl, gotV_0, e1]
      rfl
    · rw [if_neg h2]
      unfold gotV
      have hne := hd (i / 2) (by omega) (by omega)
      have e : valF F (NM.getD (i / 2) sE) (k + 1) = valF F (NM.getD (i / 2) sE) k := by
        have h : eqN (F k).name (NM.getD (i / 2) sE) = false := by
          cases h : eqN (F k).name (NM.getD (i / 2) sE) with
          | false => rfl
          | true => exact absurd ((eqN_iff.1 h).symm.trans hn) hne
        conv => lhs; unfold valF
        cases valF F (NM.getD (i / 2) sE) k with
        | some v => rfl
        | none => simp only [h, Bool.false_eq_true, if_false]
      rw [e]
theorem any_getD {NM : List ByteArray} {p : ByteArray → Bool} : NM.any p = true ↔ ∃ m, m < NM.length ∧ p (NM.getD m sE) = true := by
  rw [List.any_eq_true]
  constructor
  · rintro ⟨x, hx, hp⟩
    obtain ⟨m, hm, rfl⟩ := List.getElem_of_mem hx
    exact ⟨m, hm, by rw [List.getD_eq_getElem?_getD, List.getElem?_eq_getElem hm]; exact hp⟩
  · rintro ⟨m, hm, hp⟩
    rw [List.getD_eq_getElem?_getD, List.getElem?_eq_getElem hm] at hp
    exact ⟨NM[m], List.getElem_mem _, hp⟩
def ReadR (w : World) (NM : List ByteArray) (F : Nat → Fd) (n : Nat) (e : Ending) (w' : World) : Prop :=
  (okF NM F n = false ∧ e = .returned (.tuple #[.slice none 0 0, .bool false]) ∨ okF NM F n = true ∧ e = .returned (.tuple #[.slice (some ⟨w.heap.size, 0, none⟩) NM.length NM.length, .bool true]) ∧ OwnV 2 194 w.heap.size w' (.slice (some ⟨w.heap.size, 0, none⟩) NM.length NM.length) NM.length (gotV NM F n)) ∧ Below w.heap.size w w'
theorem row3F {w : World} {b : Nat} {a0 a1 a2 : Value} {T : TypeId} (h : w.heap[b]? = some (.cells #[a0, a1, a2] T (0, 0))) : w.cell? ⟨b, 0, none⟩ = some a0 ∧ w.cell? ⟨b, 1, none⟩ = some a1 ∧ w.cell? ⟨b, 2, none⟩ = some a2 :=
  ⟨by rw [cell_of_row w b 0 _ _ _ h]; rfl, by rw [cell_of_row w b 1 _ _ _ h]; rfl, by rw [cell_of_row w b 2 _ _ _ h]; rfl⟩
theorem cellKeepT {w w' : World} {a : Addr} {u : Value} (hb : Below w.heap.size w w') (h : w.cell? a = some u) : w'.cell? a = some u := by
  rw [hb.cell (World.block_lt_of_cell? w _ h)]
  exact h
set_option maxRecDepth 100000 in
set_option maxHeartbeats 6400000 in
theorem read_any (A NA : Option Addr) (n c qc : Nat) (F : Nat → Fd) (NM : List ByteArray) (w : World) (ha : RdFd w A n c F) (hN : RdV 1 w NA NM.length qc (fun i => .string (NM.getD i sE))) (hq : NM.length ≤ 100) (hd : ∀ i j, i < NM.length → j < NM.length → i ≠ j → NM.getD i sE ≠ NM.getD j sE) (hcol : ∀ i, i < NM.length → colB (NM.getD i sE) = true) :
    Calls Tryd.prog 197 #[.slice A n c, .slice NA NM.length qc] w (ReadR w NM F n) := by
  have Ha := hide ha
  have HN := hide hN
  have Hd := hide hd
  have Hcol := hide hcol
  have hn := ha.le
  clear ha hN hd hcol
  obtain ⟨q, hqq⟩ : ∃ q, q = NM.length := ⟨_, rfl⟩
  rw [← hqq] at HN hq
  rw [← hqq]
  have Hq := hide hqq
  clear hqq
  obtain ⟨iv, hiv, hv0, hv1, hv2⟩ := info_parts value_info
  go_enter Tryd.func197, Tryd.ntmps197
  go_wp2_with fail
  go_step3
  go_wp2_with (at_make; refine wp_mkV rfl _ _ _ rfl 2 iv _ 24 Tryd.underlying190 hiv hv0 hv1 hv2 (gotV NM F 0) w.heap.size _ _ _ _ q rfl rfl rfl rfl (gotV_made NM F q) (by omega) (by simp only [maxLen]; omega) (Nat.le_refl _) ?_; intro w2 hown2 hg2 hs2)
  have HO2 := hide hown2
  have HB2 := hide (((Below.refl w.heap.size w)).grown hg2 (Nat.le_refl _) (fun j e => by cases e))
  clear hown2 hg2 hs2
  go_step3
  go_wp2_with fail
  go_loopg [7, 17] n (fun g beh i wr => ∃ k, k + g = n ∧ i = .int .i64 k ∧ beh = .bool (behB F k) ∧ okF NM F k = true ∧ OwnV 2 194 w.heap.size wr (.slice (some ⟨w.heap.size, 0, none⟩) q q) q (gotV NM F k) ∧ Below w.heap.size w wr)
  case atStart => exact ⟨0, by omega, rfl, rfl, rfl, HO2.out, HB2.out⟩
  case round =>
    obtain ⟨k, hkg, rfl, rfl, hok, hO, hB⟩ := hrel
    have Hok := hide hok
    have HO := hide hO
    have HB := hide hB
    clear hok hO hB HO2 HB2
    by_cases hlt : k < n
    · obtain ⟨b, off, rfl, hc0, hc1, hc2⟩ := (Ha.out.below HB.out).at_ hlt
      have hkn : (k : Int) < (n : Int) := by omega
      obtain ⟨X, hX⟩ : ∃ X, F k = X := ⟨_, rfl⟩
      rw [hX] at hc0 hc1 hc2
      have HX := hide hX
      clear hX
      obtain ⟨nm, vl, nv⟩ := X
      simp only at hc0 hc1 hc2
      have R1 := hide (heap_alloc_new wr (.cells #[.string nm, .string vl, .bool nv] 60))
      obtain ⟨r0, r1, r2⟩ := row3F R1.out
      have HB1 := hide (HB.out.alloc HB.out.size (.cells #[.string nm, .string vl, .bool nv] 60))
      have HO1 := hide (HO.out.below ((Below.refl _ _).alloc (Nat.le_refl _) (.cells #[.string nm, .string vl, .bool nv] 60)))
      go_wp2_with fail
      refine (hasprefix27 nm _).mono ?_
      rintro e w3 ⟨rfl, rfl⟩
      obtain ⟨cb, hcb⟩ : ∃ cb, cb = colB nm := ⟨_, rfl⟩
      rw [← hcb]
      have Hcb := hide hcb
      clear hcb
      cases cb with
      | false =>
        go_wp2_with fail
        go_roundg (gk - 1)
        case measure => omega
        case rel =>
          have hc : colB (F k).name = false := by rw [HX.out]; exact Hcb.out.symm
          refine ⟨k + 1, by omega, by go_num, ?_, ?_, ?_, HB1.out⟩
          · unfold behB
            rw [hc]
            simp
          · unfold okF
            rw [Hok.out, hc]
            rfl
          · rw [Hq.out]
            have h := HO1.out
            rw [Hq.out] at h
            refine h.congr (gotV_skip fun i hi => ?_)
            cases e : eqN (F k).name (NM.getD i sE) with
            | false => rfl
            | true =>
              rw [eqN_iff.1 e, Hcol.out i hi] at hc
              cases hc
      | true =>
        have hc : colB (F k).name = true := by rw [HX.out]; exact Hcb.out.symm
        have Hc := hide hc
        clear hc
        obtain ⟨bh, hbh⟩ : ∃ bh, bh = behB F k := ⟨_, rfl⟩
        rw [← hbh]
        have Hbh := hide hbh
        clear hbh hc0 hc1 hc2
        generalize hw1 : wr.alloc (.cells #[.string nm, .string vl, .bool nv] 60) = w1 at *
        have hl1 : wr.heap.size < w1.heap.size := by rw [← hw1]; simp
        generalize wr.heap.size = p1 at *
        clear hw1 HO HB R1
        by_cases hhit : hitB NM F k = true
        · have HH := hide hhit
          unfold hitB at hhit
          simp only [Bool.and_eq_true, Bool.not_eq_true'] at hhit
          obtain ⟨⟨h1, h2⟩, h3⟩ := hhit
          obtain ⟨m, hm, hnm⟩ := any_getD.1 h2
          rw [← Hq.out] at hm
          obtain rfl : bh = false := by rw [Hbh.out, h1]
          have Hnm := hide (eqN_iff.1 hnm)
          have Hnone := hide (Option.isNone_iff_eq_none.1 h3)
          clear h1 h2 h3 hnm
          go_wp2_with fail
          go_loopg [27] q (fun g i wx => ∃ j, j + g = q ∧ i = .int .i64 j ∧ j ≤ m ∧ w1 = wx)
          case atStart => exact ⟨0, by omega, rfl, Nat.zero_le _, rfl⟩
          case round =>
            obtain ⟨j, hjg, rfl, hjm, rfl⟩ := hrel
            have hjq : (j : Int) < (q : Int) := by omega
            obtain ⟨nb, no, hNA, hnc⟩ := HN.out.2.2.2 (by omega)
            have hnj := cellKeepT HB1.out (hnc j (by omega))
            simp only at hnj
            subst hNA
            clear hnc
            by_cases hje : j = m
            · subst hje
              obtain ⟨N', hN'⟩ : ∃ N', N' = NM.getD j sE := ⟨_, rfl⟩
              rw [← hN'] at hnj
              have hx := Hnm.out
              rw [HX.out, ← hN'] at hx
              simp only at hx
              have t1 : (nm.toList == N'.toList) = true := eqN_iff.2 hx
              have HN' := hide hN'
              clear hN' hx
              have d1 := HO1.out.cell (j := j * 2 + 1) (by omega)
              rw [gotV_1, ← Hnm.out, Hnone.out] at d1
              have d0 := HO1.out.cell (j := j * 2) (by omega)
              have f0 := HO1.out.frozen (j * 2)
              have S0 := hide (HO1.out.set (j * 2) (.string vl))
              have e1 := S0.out.cell (j := j * 2 + 1) (by omega)
              have f1 := S0.out.frozen (j * 2 + 1)
              have S1 := hide (S0.out.set (j * 2 + 1) (.bool true))
              have HB3 := hide ((HB1.out.setCell (show w.heap.size ≤ (⟨w.heap.size, j * 2, none⟩ : Addr).block from Nat.le_refl _) (.string vl)).setCell (show w.heap.size ≤ (⟨w.heap.size, j * 2 + 1, none⟩ : Addr).block from Nat.le_refl _) (.bool true))
              simp only [Option.isSome] at d1
              obtain ⟨V0, hV0⟩ : ∃ V0, V0 = gotV NM F k (j * 2) := ⟨_, rfl⟩
              rw [← hV0] at d0
              obtain ⟨V1, hV1⟩ : ∃ V1, V1 = setV (gotV NM F k) (j * 2) (.string vl) (j * 2 + 1) := ⟨_, rfl⟩
              rw [← hV1] at e1
              clear hV0 hV1
              go_wp2_with fail
              go_roundg (n - k - 1)
              case measure => omega
              case rel =>
                refine ⟨k + 1, by omega, by go_num, ?_, ?_, ?_, HB3.out⟩
                · unfold behB
                  rw [Hc.out, ← Hbh.out]
                  rfl
                · unfold okF
                  rw [Hok.out, HH.out]
                  simp
                · have h := S1.out
                  rw [Hq.out] at h ⊢
                  refine h.congr fun i hi => ?_
                  have := gotV_set (NM := NM) (F := F) (k := k) (m := j) (by rw [← Hq.out]; exact hm) Hnm.out Hnone.out (fun i hi hne => Hd.out i j hi (by rw [← Hq.out]; exact hm) hne) i hi
                  rw [HX.out] at this
                  exact this
            · have t1 : ∀ N', N' = NM.getD j sE → (nm.toList == N'.toList) = false := fun N' hN' => by
                cases e : (nm.toList == N'.toList) with
                | false => rfl
                | true =>
                  have h1 : nm = N' := eqN_iff.1 e
                  have hx := Hnm.out
                  rw [HX.out] at hx
                  simp only at hx
                  exact absurd ((hN'.symm.trans h1.symm).trans hx) (Hd.out j m (by rw [← Hq.out]; omega) (by rw [← Hq.out]; exact hm) hje)
              obtain ⟨N', hN'⟩ : ∃ N', N' = NM.getD j sE := ⟨_, rfl⟩
              have t1 := t1 N' hN'
              rw [← hN'] at hnj
              clear hN'
              go_wp2_with fail
              go_roundg (gk - 1)
              case measure => omega
              case rel => exact ⟨j + 1, by omega, by go_num, by omega, rfl⟩
        · have HH : Hid (hitB NM F k = false) := by
            show _ = _
            simpa using hhit
          clear hhit
          go_wp2_with fail
          go_loopg [27] q (fun g i wx => ∃ j, j + g = q ∧ i = .int .i64 j ∧ w1 = wx)
          case atStart => exact ⟨0, by omega, rfl, rfl⟩
          case round =>
            obtain ⟨j, hjg, rfl, rfl⟩ := hrel
            by_cases hjl : j < q
            · have hjq : (j : Int) < (q : Int) := by omega
              obtain ⟨nb, no, hNA, hnc⟩ := HN.out.2.2.2 (by omega)
              have hnj := cellKeepT HB1.out (hnc j (by omega))
              simp only at hnj
              subst hNA
              clear hnc
              obtain ⟨N', hN'⟩ : ∃ N', N' = NM.getD j sE := ⟨_, rfl⟩
              rw [← hN'] at hnj
              by_cases hx : nm = N'
              · have t1 : (nm.toList == N'.toList) = true := eqN_iff.2 hx
                cases bh with
                | true =>
                  clear hN' hx
                  go_wp2_with fail
                  go_roundg (gk - 1)
                  case measure => omega
                  case rel => exact ⟨j + 1, by omega, by go_num, rfl⟩
                | false =>
                  have d1 := HO1.out.cell (j := j * 2 + 1) (by omega)
                  have hs : (valF F (NM.getD j sE) k).isSome = true := by
                    have h := HH.out
                    unfold hitB at h
                    have h2 : NM.any (eqN (F k).name ·) = true := any_getD.2 ⟨j, by rw [← Hq.out]; exact hjl, by rw [HX.out]; exact eqN_iff.2 (hx.trans hN')⟩
                    rw [← Hbh.out, h2, HX.out] at h
                    simp only [hx, hN'] at h
                    cases hv : valF F (NM.getD j sE) k with
                    | some v => rfl
                    | none => rw [hv] at h; simp at h
                  rw [gotV_1, hs] at d1
                  clear hN' hx hs
                  go_wp2_with fail
                  go_roundg (gk - 1)
                  case measure => omega
                  case rel => exact ⟨j + 1, by omega, by go_num, rfl⟩
              · have t1 : (nm.toList == N'.toList) = false := by
                  cases e : (nm.toList == N'.toList) with
                  | false => rfl
                  | true => exact absurd (eqN_iff.1 e) hx
                clear hN' hx
                go_wp2_with fail
                go_roundg (gk - 1)
                case measure => omega
                case rel => exact ⟨j + 1, by omega, by go_num, rfl⟩
            · obtain rfl : j = q := by omega
              go_wp2_with fail
              try rw [Exit.noGoto_ret]
              go_ret2
              refine ⟨.inl ⟨?_, rfl⟩, HB1.out⟩
              cases e : okF NM F n with
              | false => rfl
              | true =>
                have := okF_iff.1 e k hlt Hc.out
                rw [HH.out] at this
                cases this
    · obtain rfl : k = n := by omega
      go_wp2_with fail
      try rw [Exit.noGoto_ret]
      go_ret2
      refine ⟨.inr ⟨Hok.out, by rw [← Hq.out]; rfl, ?_⟩, HB.out⟩
      rw [← Hq.out]
      exact HO.out
end Go.Proofs.YtpohgehojmeodaaDoor
