/- Layer 32: whatever is pushed, acknowledged and known. -/
import Derived.Test.YteikpdolickkaaaPf7
import Derived.Deep.RegionLaw
namespace Go.Proofs.Yteikpdolickkaaa
open Go.RowKit Go.Deep Go.ChangeShapes Go.WideShapes

set_option maxRecDepth 20000 in
set_option maxHeartbeats 6400000 in
theorem plays_walk32 (A : Option Addr) (n c : Nat) (F : Nat → Pd) (w : World) (ha : RdP w A n c F) :
    Calls Try.prog 9 #[.slice A n c] w (Yes w) := by
  have Ha := hide ha
  have hn63 : (n : Int) ≤ 9223372036854775807 := by have h1 := ha.1; have h2 := ha.2.1; simp only [maxLen] at h2; omega
  clear ha
  go_enter Try.func9, Try.ntmps9
  go_wp2_with fail
  refine (large32 Ha.out).mono ?_
  rintro e w0 ⟨h1, rfl⟩
  rcases h1 with rfl | ⟨rfl, h30, hsm⟩
  · go_wp2_with fail
    refine (alive32 _).mono ?_
    rintro e w2 ⟨rfl, hb2⟩
    go_wp2_with fail
    go_ret
    exact ⟨rfl, hb2⟩
  have Hn := hide h30
  have Hsm := hide hsm
  have Q0 := hide (QOk.new (B := w.heap.size) w (Nat.le_refl _))
  have E0 := hide ((Below.refl w.heap.size w).alloc (Nat.le_refl _) (.cells #[.int .i64 0, .int .i64 0, .slice none 0 0] 111))
  have S0 : Hid (w.heap.size < (w.alloc (.cells #[.int .i64 0, .int .i64 0, .slice none 0 0] 111)).heap.size) := by show _ < _; simp
  clear h30 hsm
  go_wp2_with fail
  refine (new32 _).mono ?_
  rintro e z ⟨rfl, rfl⟩
  generalize w.alloc (.cells #[.int .i64 0, .int .i64 0, .slice none 0 0] 111) = z at *
  go_wp2_with fail
  refine (rnew32 _).mono ?_
  rintro e z1 ⟨vn, rfl, hvn, hbz⟩
  obtain ⟨A0, c0, rfl, _, _⟩ := hvn.rd
  have al := (Below.refl z1.heap.size z1).alloc (Nat.le_refl _) (.cells #[.slice none 0 0, .int .i64 0, .slice A0 1 c0] 95)
  have hz1 := hbz.size
  have P0 : Hid (PqS w w.heap.size (z1.alloc (.cells #[.slice none 0 0, .int .i64 0, .slice A0 1 c0] 95)) w.heap.size z1.heap.size none 0 0 1 0 (fun _ => initF) none 0 A0 c0 (fun _ => ⟨none, 0, 0, fun _ => 0, fun _ => 0⟩)) :=
    ⟨(Q0.out.below hbz).below al, ⟨heap_alloc_new z1 _, OwnV.nil _ _ _ _ _, (Own.baseT hvn E0.out.size).below al, fun i hi => absurd hi (by omega), rfl, Nat.le_trans E0.out.size hz1, by simp [Value.ownBlock], fun e => by have := (World.ownsRow.lt hvn _ e).2; omega⟩, Nat.le_refl _, fun i hi j _ => by (obtain rfl : i = 0 := by omega); rfl,
      fun i hi hq => by
        have h0 : i = w.heap.size := by
          rcases hq with h | h
          · exact h
          · cases h
        have hlt := S0.out
        rcases hi with h | h | h
        · omega
        · cases h
        · have := (World.ownsRow.lt hvn i h).1
          omega⟩
  have E1 := hide ((E0.out.of hbz).of al)
  clear al hvn hbz hz1 Q0 E0 S0
  go_wp2_with fail
  generalize hpr : z1.heap.size = pr at *
  generalize z1.alloc (.cells #[.slice none 0 0, .int .i64 0, .slice A0 1 c0] 95) = Z at *
  clear hpr
  go_loopw [18] (fun i wr => ∃ k : Nat, k ≤ n ∧ i = .int .i64 k ∧ ∃ (g : Option Nat) (a l m nn : Nat) (V : Nat → Nat → Int) (A1 : Option Addr) (c1 : Nat) (A3 : Option Addr) (c3 : Nat) (D : Nat → Sg), PqS w w.heap.size wr w.heap.size pr g a l nn m V A1 c1 A3 c3 D ∧ m ≤ k ∧ Below w.heap.size w wr) (fun i _ => n - (intOf i).toNat)
  case atStart => exact ⟨0, Nat.zero_le _, rfl, _, _, _, _, _, _, _, _, _, _, _, P0.out, Nat.le_refl _, E1.out⟩
  case round =>
    obtain ⟨k, hk, rfl, g, a, l, m, nn, V, A1, c1, A3, c3, D, hpq, hmk, hbl⟩ := hrel
    clear P0 E1
    by_cases hlt : k < n
    · have hkn' : (k : Int) < (n : Int) := by omega
      obtain ⟨b, off, rfl, ⟨hc0, hc1, hc2⟩, _⟩ := (Ha.out.below hbl).at_ hlt
      obtain ⟨hr, hrb⟩ := Ha.out.2.2.2.2 k hlt
      obtain ⟨hs1, hs2⟩ := Hsm.out k hlt
      have hn30 := Hn.out
      generalize F k = Dk at *
      obtain ⟨dk, dA, dn, dc, df, dg, dA2, dn2, dc2, db⟩ := Dk
      simp only at hc0 hc1 hc2 hr hrb hs1 hs2
      have Hr := hide hr
      have Hrb := hide hrb
      have al := (Below.refl wr.heap.size wr).alloc (Nat.le_refl _) (.cells #[.int .i64 dk, .slice dA dn dc, .slice dA2 dn2 dc2] 99)
      have P1 := hide (hpq.below al)
      have E1 := hide (hbl.of al)
      have D1 := hide (heap_alloc_new wr (.cells #[.int .i64 dk, .slice dA dn dc, .slice dA2 dn2 dc2] 99))
      obtain ⟨t0, t1, t2⟩ := rowQ D1.out
      have hpos := hpq.q.pos
      have hlm := hpq.r.lm
      have hal := hpq.al
      have HV := hide hpq.v
      have Hd : Hid (∀ i, qfp w.heap.size g i → i < wr.heap.size) := fun i hi => (hpq.q.lt i hi).2
      have Hdr : Hid (pr < wr.heap.size) := rowLt hpq.r.row
      clear hpq hbl al hr hrb
      by_cases h0 : dk = 0
      · subst h0
        go_wp2_with fail
        refine (push32 P1.out.q E1.out.size (by omega) (Hr.out.below E1.out) (by omega)).mono ?_
        rintro e w2 ⟨g', rfl, hq, hf, hg'⟩
        have Q2 := hide hq
        have R2 := hide (P1.out.r.fr hf P1.out.ap)
        have E2 := hide (E1.out.trans hf.below)
        have D2 := hide (hf.row D1.out (fun h => by have := Hd.out _ h; omega))
        have Ap2 : Hid (∀ i, rfp pr (.slice A1 m c1) (.slice A3 nn c3) i → ¬ qfp w.heap.size g' i) := fun i hi hq' => by
          rcases hq' with h | h
          · exact P1.out.ap i hi (.inl h)
          · rcases hg' with h2 | h2
            · rw [h2] at h; exact P1.out.ap i hi (.inr h)
            · have h3 := P1.out.r.lt i hi
              have h4 := h2 i h
              omega
        clear hq hf t0 t1 t2 hg'
        obtain ⟨t0, t1, t2⟩ := rowQ D2.out
        obtain ⟨r0, r1, r2⟩ := rowQ R2.out.row
        go_wp2_with fail
        refine (rpush32 ⟨dA, dn, dc, df, dg⟩ R2.out.lists R2.out.now.rdS (by omega) (by omega) (by omega)).mono ?_
        rintro e w3 ⟨vl, vn, rfl, hl3, hn3, hb3⟩
        obtain ⟨Al, cl, rfl, _, _⟩ := hl3.rd
        obtain ⟨An, cn, rfl, _, _⟩ := hn3.rd
        have R3 := hide (R2.out.below hb3)
        have hsz2 := E2.out.size
        have hpr2 := rowLt R2.out.row
        have dl : (Value.slice Al (m + 1) cl).ownBlock ≠ some pr := fun e => by have := (World.ownsRow.lt hl3 _ e).1; omega
        have dn' : (Value.slice An (m + 1 + 1 - l) cn).ownBlock ≠ some pr := fun e => by have := (World.ownsRow.lt hn3 _ e).1; omega
        have q2 := Q2.out.below hb3
        have P3 : Hid (PqS w w.heap.size (((w3.setCell ⟨pr, 0, none⟩ (.slice Al (m + 1) cl)).setCell ⟨pr, 1, none⟩ (.int .i64 (a : Int))).setCell ⟨pr, 2, none⟩ (.slice An (m + 1 + 1 - l) cn)) w.heap.size pr g' a l (m + 1 + 1 - l) (m + 1) (pushV nn V (apv df dg dn (V (nn - 1)))) Al cl An cn (appD m D ⟨dA, dn, dc, df, dg⟩)) := by
          have e1 : nn + 1 = m + 1 + 1 - l := by omega
          rw [e1] at q2
          refine ⟨q2.set3 (Ap2.out pr (.inl rfl)) _ _ _, PrS.store R3.out.row (hl3.base36O hsz2) (Own.baseT hn3 hsz2) (fun i hi => ?_) (by omega) R3.out.hp dl dn', hal, fun i hi j hj => ?_, fun i hi hq' => ?_⟩
          · unfold appD
            by_cases h : i < m
            · rw [if_pos h]; exact R2.out.elts i h
            · rw [if_neg h]; exact ⟨Hr.out, by show dn ≤ 1000; omega⟩
          · unfold pushV
            by_cases h : i < nn
            · rw [if_pos h, vq_app m D _ (l + i) (by omega)]
              exact HV.out i h j hj
            · rw [if_neg h, show l + i = m + 1 by omega, vq_last]
              show lsv df dg ((j : Int) + 1) (V (nn - 1) j) dn = lsv df dg ((j : Int) + 1) (vq D m j) dn
              rw [HV.out (nn - 1) (by omega) j hj, show l + (nn - 1) = m by omega]
          · rcases hi with h | h | h
            · exact Ap2.out i (.inl h) hq'
            · have h1 := (World.ownsRow.lt hl3 i h).1
              have h2 := (Q2.out.lt i hq').2
              omega
            · have h1 := (World.ownsRow.lt hn3 i h).1
              have h2 := (Q2.out.lt i hq').2
              omega
        have E3 : Hid (Below w.heap.size w (((w3.setCell ⟨pr, 0, none⟩ (.slice Al (m + 1) cl)).setCell ⟨pr, 1, none⟩ (.int .i64 (a : Int))).setCell ⟨pr, 2, none⟩ (.slice An (m + 1 + 1 - l) cn))) := set3b (E2.out.of hb3) R3.out.hp _ _ _
        obtain ⟨y0, y1, y2⟩ := rowQ R3.out.row
        have z0 := frozenRow R3.out.row 0
        have z1 := frozenRow R3.out.row 1
        have z2 := frozenRow R3.out.row 2
        obtain ⟨s0, s1, s2⟩ := rowQ P3.out.r.row
        clear hl3 hn3 hb3 q2 dl dn' hsz2 hpr2
        obtain ⟨n3, hn3⟩ : ∃ n3, n3 = m + 1 + 1 - l := ⟨_, rfl⟩
        go_wp2_with fail
        refine (alikeS32 P3.out (E3.out.size) (by omega) E3.out).mono ?_
        rintro e w9 ⟨rfl, hb9⟩
        have P9 := hide (P3.out.below hb9)
        have E9 := hide (E3.out.of hb9)
        clear hb9
        go_wp2_with fail
        go_roundw
        case rel => exact ⟨k + 1, by omega, by go_num, _, _, _, _, _, _, _, _, _, _, _, P9.out, by omega, E9.out⟩
        case measure => simp [intOf]; omega
      · have e0 : (dk == 0) = false := by simpa using h0
        by_cases h1 : dk = 1
        · subst h1
          clear h0
          have hpm : l + nn - 1 = m := by omega
          have Hpm := hide hpm
          clear hpm
          go_wp2_with fail
          refine (ack32 P1.out.q E1.out.size (by omega) (by omega)).mono ?_
          rintro e w2 ⟨hf, hcase⟩
          have R2 := hide (P1.out.r.fr hf (fun i hi hq => P1.out.ap i hi (.inl hq)))
          have E2 := hide (E1.out.trans hf.below)
          have D2 := hide (hf.row D1.out (fun h => by have := Hd.out _ (.inl rfl); omega))
          clear hf t0 t1 t2
          obtain ⟨r0, r1, r2⟩ := rowQ R2.out.row
          rcases hcase with ⟨ham, rfl, hq⟩ | ⟨ham, rfl, hq⟩
          · have Q2 := hide hq
            have Ham : Hid (a = m) := by show _ = _; have := Hpm.out; omega
            clear hq ham
            go_wp2_with fail
            refine (rack32 R2.out.now.rdS (fun _ _ => rfl) (by omega) (by omega) (by omega) (by have := Ham.out; omega)).mono ?_
            rintro e w3 ⟨hb3, hcase⟩
            obtain rfl : e = .returned (.tuple #[.agg #[.slice A1 m c1, .int .i64 (a : Int), .slice A3 nn c3], .bool false]) := by
              rcases hcase with ⟨_, h⟩ | ⟨h, _⟩
              · exact h
              · exact absurd Ham.out (by omega)
            have R3 := hide (R2.out.below hb3)
            have P3 : Hid (PqS w w.heap.size (((w3.setCell ⟨pr, 0, none⟩ (.slice A1 m c1)).setCell ⟨pr, 1, none⟩ (.int .i64 (a : Int))).setCell ⟨pr, 2, none⟩ (.slice A3 nn c3)) w.heap.size pr g a l nn m V A1 c1 A3 c3 D) :=
              ⟨(Q2.out.below hb3).set3 (P1.out.ap pr (.inl rfl)) _ _ _, PrS.store R3.out.row R3.out.lists R3.out.now R3.out.elts R3.out.lm R3.out.hp R3.out.d1 R3.out.d3, hal, HV.out, P1.out.ap⟩
            have E3 : Hid (Below w.heap.size w (((w3.setCell ⟨pr, 0, none⟩ (.slice A1 m c1)).setCell ⟨pr, 1, none⟩ (.int .i64 (a : Int))).setCell ⟨pr, 2, none⟩ (.slice A3 nn c3))) := set3b (E2.out.of hb3) R3.out.hp _ _ _
            obtain ⟨y0, y1, y2⟩ := rowQ R3.out.row
            have z0 := frozenRow R3.out.row 0
            have z1 := frozenRow R3.out.row 1
            have z2 := frozenRow R3.out.row 2
            obtain ⟨s0, s1, s2⟩ := rowQ P3.out.r.row
            clear hcase hb3
            go_wp2_with fail
            refine (alikeS32 P3.out (E3.out.size) (by omega) E3.out).mono ?_
            rintro e w9 ⟨rfl, hb9⟩
            have P9 := hide (P3.out.below hb9)
            have E9 := hide (E3.out.of hb9)
            clear hb9
            go_wp2_with fail
            go_roundw
            case rel => exact ⟨k + 1, by omega, by go_num, _, _, _, _, _, _, _, _, _, _, _, P9.out, by omega, E9.out⟩
            case measure => simp [intOf]; omega
          · obtain ⟨a1, ha1⟩ : ∃ a1, a1 = a + 1 := ⟨_, rfl⟩
            rw [← ha1] at hq
            have Q2 := hide hq
            have Ham : Hid (a < m) := by show _ < _; have := Hpm.out; omega
            have Ha1 := hide ha1
            clear hq ham ha1
            go_wp2_with fail
            refine (rack32 R2.out.now.rdS (fun _ _ => rfl) (by omega) (by omega) (by omega) (by have := Ham.out; omega)).mono ?_
            rintro e w3 ⟨hb3, hcase⟩
            obtain ⟨vn, rfl, hn3⟩ : ∃ vn, e = .returned (.tuple #[.agg #[.slice A1 m c1, .int .i64 ((a + 1 : Nat) : Int), vn], .bool true]) ∧ Own .i64 3 w2.heap.size w3 vn (m + 1 - (l + (a + 1 - l))) (fun i => ((l + (a + 1 - l) + i : Nat) : Int)) := by
              rcases hcase with ⟨h, _⟩ | ⟨_, h⟩
              · exact absurd Ham.out (by omega)
              · exact h
            rw [← Ha1.out] at hn3
            rw [← Ha1.out]
            obtain ⟨An, cn, rfl, _, _⟩ := hn3.rd
            have R3 := hide (R2.out.below hb3)
            have hsz2 := E2.out.size
            have hpr2 := rowLt R2.out.row
            have dn' : (Value.slice An (m + 1 - (l + (a1 - l))) cn).ownBlock ≠ some pr := fun e => by have := (World.ownsRow.lt hn3 _ e).1; omega
            have q2 := Q2.out.below hb3
            have P3 : Hid (PqS w w.heap.size (((w3.setCell ⟨pr, 0, none⟩ (.slice A1 m c1)).setCell ⟨pr, 1, none⟩ (.int .i64 (a1 : Int))).setCell ⟨pr, 2, none⟩ (.slice An (m + 1 - (l + (a1 - l))) cn)) w.heap.size pr g a1 (l + (a1 - l)) (m + 1 - (l + (a1 - l))) m (fun i => V ((a1 - l) + i)) A1 c1 An cn D) := by
              have e1 : nn - (a1 - l) = m + 1 - (l + (a1 - l)) := by omega
              have h1 := Ham.out
              have h2 := Ha1.out
              rw [e1] at q2
              refine ⟨q2.set3 (P1.out.ap pr (.inl rfl)) _ _ _, PrS.store R3.out.row R3.out.lists (Own.baseT hn3 hsz2) R3.out.elts (by omega) R3.out.hp R3.out.d1 dn', by omega, fun i hi j hj => ?_, fun i hi hq' => ?_⟩
              · rw [show l + (a1 - l) + i = l + ((a1 - l) + i) by omega]
                exact HV.out _ (by omega) j hj
              · rcases hi with h | h | h
                · exact P1.out.ap i (.inl h) hq'
                · exact P1.out.ap i (.inr (.inl h)) hq'
                · have h1 := (World.ownsRow.lt hn3 i h).1
                  have h2 := (Q2.out.lt i hq').2
                  omega
            have E3 : Hid (Below w.heap.size w (((w3.setCell ⟨pr, 0, none⟩ (.slice A1 m c1)).setCell ⟨pr, 1, none⟩ (.int .i64 (a1 : Int))).setCell ⟨pr, 2, none⟩ (.slice An (m + 1 - (l + (a1 - l))) cn))) := set3b (E2.out.of hb3) R3.out.hp _ _ _
            obtain ⟨y0, y1, y2⟩ := rowQ R3.out.row
            have z0 := frozenRow R3.out.row 0
            have z1 := frozenRow R3.out.row 1
            have z2 := frozenRow R3.out.row 2
            obtain ⟨s0, s1, s2⟩ := rowQ P3.out.r.row
            clear hcase hb3 hn3 dn' q2 hsz2 hpr2
            go_wp2_with fail
            refine (alikeS32 P3.out (E3.out.size) (by omega) E3.out).mono ?_
            rintro e w9 ⟨rfl, hb9⟩
            have P9 := hide (P3.out.below hb9)
            have E9 := hide (E3.out.of hb9)
            clear hb9
            go_wp2_with fail
            go_roundw
            case rel => exact ⟨k + 1, by omega, by go_num, _, _, _, _, _, _, _, _, _, _, _, P9.out, by omega, E9.out⟩
            case measure => simp [intOf]; omega
        · have e1 : (dk == 1) = false := by simpa using h1
          clear h0 h1
          go_wp2_with fail
          refine (narrow32 P1.out.q E1.out.size (by omega) (Hrb.out.below E1.out) (by omega)).mono ?_
          rintro e w2 ⟨hf, hcase⟩
          have R2 := hide (P1.out.r.fr hf (fun i hi hq => P1.out.ap i hi (.inl hq)))
          have E2 := hide (E1.out.trans hf.below)
          have D2 := hide (hf.row D1.out (fun h => by have := Hd.out _ (.inl rfl); omega))
          clear hf t0 t1 t2
          obtain ⟨r0, r1, r2⟩ := rowQ R2.out.row
          obtain ⟨d0, d1, d2⟩ := rowQ D2.out
          obtain ⟨rb, hrb, HC⟩ : ∃ rb : Bool, e = .returned (.bool rb) ∧ Hid ((rb = false ∧ (∀ i, i < dn2 → i < nn → db i = false) ∧ QOk w.heap.size w2 w.heap.size g a l nn V) ∨ (rb = true ∧ ∃ i, i < dn2 ∧ i < nn ∧ db i = true ∧ (∀ j, j < i → db j = false) ∧ QOk w.heap.size w2 w.heap.size g a (l + i) (nn - i) (fun j => V (i + j)))) := by
            rcases hcase with ⟨h1, h2, h3⟩ | ⟨i, h1, h2, h3, h4, h5, h6⟩
            · exact ⟨false, h2, .inl ⟨rfl, h1, h3⟩⟩
            · exact ⟨true, h5, .inr ⟨rfl, i, h1, h2, h3, h4, h6⟩⟩
          subst hrb
          clear hcase
          have R2d : Hid (PrS w w.heap.size w2.drew pr a l nn m A1 c1 A3 c3 D) := R2.out.at_ (fun _ _ => rfl)
          have E2d : Hid (Below w.heap.size w w2.drew) := E2.out.drew
          go_wp2_with fail
          go_region_law (first
            | (go_simp; go_at_call 55; refine (rnamed32 (l := l) R2d.out.now.rdS (by omega) rfl (by omega) (Hrb.out.below E2d.out) (by omega)).mono ?_; rintro e w3 ⟨v3, k3, h3, rfl, ho3, hk3, hiff, hb3⟩; obtain ⟨Av, cv, rfl, _, _⟩ := ho3.rd; have R3 := hide (R2d.out.below hb3); obtain ⟨s0, s1, s2⟩ := rowQ R3.out.row)
            | (go_simp; go_at_call 54; refine (rkeepW32 (l := l) R3.out.now.rdS (by omega) (by omega) (by omega) ho3.rdS hiff).mono ?_; rintro e w4 ⟨An, nk, cn, rk, rfl, hb4, HK⟩; have R4 := hide (R3.out.below hb4); obtain ⟨y0, y1, y2⟩ := rowQ R4.out.row; have z0 := frozenRow R4.out.row 0; have z1 := frozenRow R4.out.row 1; have z2 := frozenRow R4.out.row 2))
          all_goals
            have E4 : Hid (Below w.heap.size w (((w4.setCell ⟨pr, 0, none⟩ (.slice A1 m c1)).setCell ⟨pr, 1, none⟩ (.int .i64 (a : Int))).setCell ⟨pr, 2, none⟩ (.slice An nk cn))) := set3b ((E2d.out.of hb3).of hb4) R4.out.hp _ _ _
            have hsz2 := E2d.out.size
            have hsz3 := hb3.size
            have hpr2 := rowLt R2d.out.row
            obtain ⟨l', V', rfl, P4⟩ : ∃ (l' : Nat) (V' : Nat → Nat → Int), rk = rb ∧ Hid (PqS w w.heap.size (((w4.setCell ⟨pr, 0, none⟩ (.slice A1 m c1)).setCell ⟨pr, 1, none⟩ (.int .i64 (a : Int))).setCell ⟨pr, 2, none⟩ (.slice An nk cn)) w.heap.size pr g a l' nk m V' A1 c1 An cn D) := by
              have hbe : Below w2.heap.size w2 w4 := by
                have h1 : Below w2.heap.size w2 w3 := ⟨hb3.os, hb3.tape, hb3.output, hb3.size, hb3.block⟩
                exact h1.of hb4
              rcases HC.out with ⟨rfl, hno, hq⟩ | ⟨rfl, i, hi1, hi2, hi3, hi4, hq⟩
              · rcases HK.out with ⟨rfl, _, rfl, rfl, rfl⟩ | ⟨rfl, j, hj1, ⟨hj2, hj3⟩, _⟩
                · exact ⟨l, V, rfl, (hq.below hbe).set3 (P1.out.ap pr (.inl rfl)) _ _ _, PrS.store R4.out.row R4.out.lists R4.out.now R4.out.elts R4.out.lm R4.out.hp R4.out.d1 R4.out.d3, hal, HV.out, P1.out.ap⟩
                · rw [hno j hj2 hj1] at hj3
                  cases hj3
              · rcases HK.out with ⟨rfl, hno, _⟩ | ⟨rfl, j, hj1, ⟨hj2, hj3⟩, hj4, hnk, hown⟩
                · exact absurd ⟨hi1, hi3⟩ (hno i hi2)
                · obtain rfl : i = j := by
                    rcases Nat.lt_trichotomy i j with h | h | h
                    · exact absurd ⟨hi1, hi3⟩ (hj4 i h)
                    · exact h
                    · have := hi4 j h
                      rw [hj3] at this
                      cases this
                  have dn' : (Value.slice An nk cn).ownBlock ≠ some pr := fun e => by have := (World.ownsRow.lt hown _ e).1; (have hq0 : w2.drew.heap.size = w2.heap.size := rfl); omega
                  have q2 := hq.below hbe
                  have e1 : nn - i = nk := by omega
                  rw [e1] at q2
                  refine ⟨l + i, fun j => V (i + j), rfl, q2.set3 (P1.out.ap pr (.inl rfl)) _ _ _, PrS.store R4.out.row R4.out.lists (Own.baseT hown (Nat.le_trans hsz2 hsz3)) R4.out.elts (by omega) R4.out.hp R4.out.d1 dn', by omega, fun x hx y hy => ?_, fun x hx hq' => ?_⟩
                  · rw [show l + i + x = l + (i + x) by omega]
                    exact HV.out _ (by omega) y hy
                  · rcases hx with h | h | h
                    · exact P1.out.ap x (.inl h) hq'
                    · exact P1.out.ap x (.inr (.inl h)) hq'
                    · have h1 := (World.ownsRow.lt hown x h).1
                      have h2 := (hq.lt x hq').2
                      have hq0 : w2.drew.heap.size = w2.heap.size := rfl
                      omega
            obtain ⟨x0, x1, x2⟩ := rowQ P4.out.r.row
            clear HC HK R2d E2d hb3 hb4 hsz2 hsz3 hpr2 y0 y1 y2 z0 z1 z2 s0 s1 s2 r0 r1 r2
            have hbb : (rk != rk) = false := by simp
            go_wp2_with fail
            refine (alikeS32 P4.out (E4.out.size) (by omega) E4.out).mono ?_
            rintro e w9 ⟨rfl, hb9⟩
            have P9 := hide (P4.out.below hb9)
            have E9 := hide (E4.out.of hb9)
            clear hb9
            go_wp2_with fail
            go_roundw
            case rel => exact ⟨k + 1, by omega, by go_num, _, _, _, _, _, _, _, _, _, _, _, P9.out, by omega, E9.out⟩
            case measure => simp [intOf]; omega
    · obtain rfl : n = k := by omega
      go_wp2_with fail
      refine (alive32 _).mono ?_
      rintro e w2 ⟨rfl, hb2⟩
      go_wp2_with fail
      go_ret
      exact ⟨rfl, hbl.of hb2⟩
end Go.Proofs.Yteikpdolickkaaa
