/- Layer 22: the walk of the law on putting and getting back. -/
import Derived.Test.YtdnfhddahpmnmabDoorRpi
namespace Go.Proofs.YtdnfhddahpmnmabDoor
open Go.RowKit Go.PlainAid

theorem cat_byt {n m : Nat} {f g : Nat → Int} (hf : Byt n f) (hg : Byt m g) : Byt (n + m) (catF n f g) := fun i hi => by
  unfold catF
  split
  · exact hf i (by assumption)
  · exact hg _ (by omega)
theorem sl_byt (s : ByteArray) (sh : Bool) (hs : s.size ≤ 1000) : Byt (slN s sh) (slF s sh) := by
  have hle := txN_le s sh
  exact cat_byt (pf_byt (pfE19 sh (by omega))) (tx_byt s sh)
theorem rp_byt {k i : Int} {ns : ByteArray} {a : Bool} {vs : ByteArray} {b : Bool} {z : Int} (hr : rpB k i ns a vs b z = true) (hns : ns.size ≤ 1000) (hvs : vs.size ≤ 1000) : Byt (rpN k i ns a vs b z) (rpF k i ns a vs b z) := by
  rcases rpB_cases hr with ⟨rfl, h1, h2, rfl, rfl, rfl, rfl, rfl⟩ | ⟨rfl, h1, h2, rfl, rfl, rfl, rfl, rfl⟩ | ⟨hk, rfl, h3⟩
  · exact pf_byt (fst_fine (k := 1) (by decide) (by omega) h2)
  · exact pf_byt (fst_fine (k := 5) (by decide) h1 h2)
  · have hk5 : k = 1 ∨ k = 2 ∨ k = 3 ∨ k = 4 ∨ k = 5 := by omega
    have hk1 : k ≠ 1 := by omega
    have hk55 : k ≠ 5 := by omega
    unfold rpN rpF
    rw [if_neg hk1, if_neg hk1, if_neg hk55, if_neg hk55]
    by_cases hi : i = 0
    · rw [if_pos hi, if_pos hi]
      exact cat_byt (cat_byt (pf_byt (fst_fine hk5 (by decide) (by decide))) (sl_byt ns a hns)) (sl_byt vs b hvs)
    · rw [if_neg hi, if_neg hi]
      have h := h3.resolve_left hi
      exact cat_byt (pf_byt (fst_fine hk5 (by omega) h.2.1)) (sl_byt vs b hvs)
theorem slN_top (s : ByteArray) (sh : Bool) : slN s sh ≤ 6 + 4 * s.size := by
  have h1 := txN_le s sh
  have h2 := pfN_bd 7 (txN s sh : Int)
  show pfN 7 (txN s sh : Nat) + txN s sh ≤ 6 + 4 * s.size
  omega
theorem rpN_top (k i : Int) (ns : ByteArray) (a : Bool) (vs : ByteArray) (b : Bool) (z : Int) : rpN k i ns a vs b z ≤ 18 + 4 * ns.size + 4 * vs.size := by
  have h1 := slN_top ns a
  have h2 := slN_top vs b
  have h3 := pfN_bd (bit22 k) i
  have h4 := pfN_bd (bit22 k) z
  have h5 := pfN_bd (bit22 k) 0
  unfold rpN
  repeat' split
  all_goals omega
set_option maxRecDepth 100000 in
set_option maxHeartbeats 6400000 in
theorem back_walk22 (k i : Int) (ns : ByteArray) (a : Bool) (vs : ByteArray) (b : Bool) (z : Int) (A2 : Option Addr) (m c2 : Nat) (g : Nat → Int) (A4 : Option Addr) (q c4 : Nat) (u : Nat → Int) (w : World) (ha : Rd .u8 w A2 m c2 g) (hbg : Byt m g) (hu : Rd .u8 w A4 q c4 u) (hbu : Byt q u) (T : TypeId) (fr : Nat × Nat) (hg : w.heap[0]? = some (.cells formsV T fr)) :
    Calls Tryd.prog 6 #[.agg #[.int .i64 k, .int .i64 i, .string ns, .bool a, .string vs, .bool b, .int .i64 z], .slice A2 m c2, .slice A4 q c4] w (Yes w) := by
  have R0 := hide (heap_alloc_new w (.cells #[.int .i64 k, .int .i64 i, .string ns, .bool a, .string vs, .bool b, .int .i64 z] 27))
  have e0 := (Below.refl w.heap.size w).alloc (Nat.le_refl _) (.cells #[.int .i64 k, .int .i64 i, .string ns, .bool a, .string vs, .bool b, .int .i64 z] 27)
  have E0 := hide e0
  have G0 := hide ((e0.block _ (rowLt hg)).trans hg)
  have Ha0 := hide (ha.below e0)
  have Hu0 := hide (hu.below e0)
  have Hu := hide hbu
  clear e0 hg ha hu hbu
  rcases (show 300 < ns.size ∨ (¬ 300 < ns.size ∧ 300 < vs.size) ∨ (¬ 300 < ns.size ∧ ¬ 300 < vs.size ∧ 300 < m) ∨ (¬ 300 < ns.size ∧ ¬ 300 < vs.size ∧ ¬ 300 < m ∧ 300 < q) ∨ (¬ 300 < ns.size ∧ ¬ 300 < vs.size ∧ ¬ 300 < m ∧ ¬ 300 < q) by omega) with h | h | h | h | h
  · have d0 : decide ((300 : Int) < (ns.size : Int)) = true := decide_eq_true (by omega)
    clear h
    obtain ⟨c0, c1, c2, c3, c4, c5, c6⟩ := row7 R0.out
    go_enter Tryd.func6, Tryd.ntmps6
    go_wp2_with fail
    refine (alive22 _ T fr G0.out).mono ?_
    rintro e w' ⟨rfl, hb⟩
    have HB := hide (E0.out.of hb)
    clear hb
    go_wp2_with fail
    go_ret
    exact ⟨rfl, HB.out⟩
  · have d0 : decide ((300 : Int) < (ns.size : Int)) = false := decide_eq_false (by omega)
    have d1 : decide ((300 : Int) < (vs.size : Int)) = true := decide_eq_true (by omega)
    clear h
    obtain ⟨c0, c1, c2, c3, c4, c5, c6⟩ := row7 R0.out
    go_enter Tryd.func6, Tryd.ntmps6
    go_wp2_with fail
    refine (alive22 _ T fr G0.out).mono ?_
    rintro e w' ⟨rfl, hb⟩
    have HB := hide (E0.out.of hb)
    clear hb
    go_wp2_with fail
    go_ret
    exact ⟨rfl, HB.out⟩
  · have d0 : decide ((300 : Int) < (ns.size : Int)) = false := decide_eq_false (by omega)
    have d1 : decide ((300 : Int) < (vs.size : Int)) = false := decide_eq_false (by omega)
    have d2 : decide ((300 : Int) < (m : Int)) = true := decide_eq_true (by omega)
    clear h
    obtain ⟨c0, c1, c2, c3, c4, c5, c6⟩ := row7 R0.out
    go_enter Tryd.func6, Tryd.ntmps6
    go_wp2_with fail
    refine (alive22 _ T fr G0.out).mono ?_
    rintro e w' ⟨rfl, hb⟩
    have HB := hide (E0.out.of hb)
    clear hb
    go_wp2_with fail
    go_ret
    exact ⟨rfl, HB.out⟩
  · have d0 : decide ((300 : Int) < (ns.size : Int)) = false := decide_eq_false (by omega)
    have d1 : decide ((300 : Int) < (vs.size : Int)) = false := decide_eq_false (by omega)
    have d2 : decide ((300 : Int) < (m : Int)) = false := decide_eq_false (by omega)
    have d3 : decide ((300 : Int) < (q : Int)) = true := decide_eq_true (by omega)
    clear h
    obtain ⟨c0, c1, c2, c3, c4, c5, c6⟩ := row7 R0.out
    go_enter Tryd.func6, Tryd.ntmps6
    go_wp2_with fail
    refine (alive22 _ T fr G0.out).mono ?_
    rintro e w' ⟨rfl, hb⟩
    have HB := hide (E0.out.of hb)
    clear hb
    go_wp2_with fail
    go_ret
    exact ⟨rfl, HB.out⟩
  have d0 : decide ((300 : Int) < (ns.size : Int)) = false := decide_eq_false (by omega)
  have d1 : decide ((300 : Int) < (vs.size : Int)) = false := decide_eq_false (by omega)
  have d2 : decide ((300 : Int) < (m : Int)) = false := decide_eq_false (by omega)
  have d3 : decide ((300 : Int) < (q : Int)) = false := decide_eq_false (by omega)
  have hns : ns.size ≤ 300 := by omega
  have hvs : vs.size ≤ 300 := by omega
  have hm : m ≤ 300 := by omega
  have hq : q ≤ 300 := by omega
  clear h
  obtain ⟨rb, hrb⟩ : ∃ r, rpB k i ns a vs b z = r := ⟨_, rfl⟩
  have HR := hide hrb
  clear hrb
  obtain ⟨c0, c1, c2', c3, c4', c5, c6⟩ := row7 R0.out
  go_enter Tryd.func6, Tryd.ntmps6
  go_wp2_with fail
  refine (own22 k i ns a vs b z _).mono ?_
  rintro e w1 ⟨rfl, hb⟩
  have R1 := hide (keepRow R0.out hb)
  have E1 := hide (E0.out.of hb)
  have G1 := hide ((hb.block _ (rowLt G0.out)).trans G0.out)
  have Ha1 := hide (Ha0.out.below hb)
  have Hu1 := hide (Hu0.out.below hb)
  clear hb R0 E0 G0 c0 c1 c2' c3 c4' c5 c6 Ha0 Hu0
  go_wp2_with fail
  cases rb with
  | false =>
    refine (put22_no k i ns a vs b z _ HR.out).mono ?_
    rintro e w2 ⟨rfl, hb⟩
    have E2 := hide (E1.out.of hb)
    have G2 := hide ((hb.block _ (rowLt G1.out)).trans G1.out)
    have Hu2 := hide (Hu1.out.below hb)
    clear hb R1 E1 G1 Ha1 Hu1
    go_wp2_with fail
    refine (get22 A4 q c4 u _ Hu2.out Hu.out (by omega) T fr G2.out).mono ?_
    rintro e w8 ⟨k1, i1, ns1, a1, vs1, b1, z1, m1, er, rfl, hR, hb8⟩
    have ok := gtr_ok hR
    have al := (Below.refl w8.heap.size w8).alloc (Nat.le_refl _) (.cells #[.int .i64 k1, .int .i64 i1, .string ns1, .bool a1, .string vs1, .bool b1, .int .i64 z1] 35)
    have Q8 := hide (heap_alloc_new w8 (.cells #[.int .i64 k1, .int .i64 i1, .string ns1, .bool a1, .string vs1, .bool b1, .int .i64 z1] 35))
    have E8 := hide (E2.out.of (hb8.of al))
    have G8 := hide (((hb8.of al).block _ (rowLt G2.out)).trans G2.out)
    clear hR hb8 al
    go_upto_region 9 with (fail)
    generalize hW : w8.alloc (.cells #[.int .i64 k1, .int .i64 i1, .string ns1, .bool a1, .string vs1, .bool b1, .int .i64 z1] 35) = V8 at *
    generalize w8.heap.size = p8 at *
    clear hW
    obtain ⟨y0, y1, y2, y3, y4, y5, y6⟩ := row7 Q8.out
    rcases ok with ⟨x1, rfl⟩ | ⟨rfl, x2, x3, x4⟩
    · have hne : (er == 0) = false := by simpa using x1
      go_wp2_with fail
      refine (alive22 _ T fr G8.out).mono ?_
      rintro e w' ⟨rfl, hb⟩
      have HB := hide (E8.out.of hb)
      clear hb
      go_wp2_with fail
      go_ret
      exact ⟨rfl, HB.out⟩
    · have HX := hide x2
      have l1 : decide ((0 : Int) < m1) = true := decide_eq_true x3
      have l2 : decide (m1 ≤ (q : Int)) = true := decide_eq_true x4
      clear x2 x3 x4
      go_wp2_with fail
      refine (right22 k1 i1 ns1 a1 vs1 b1 z1 _).mono ?_
      rw [HX.out]
      rintro e w9 ⟨rfl, hb9⟩
      have E9 := hide (E8.out.of hb9)
      have G9 := hide ((hb9.block _ (rowLt G8.out)).trans G8.out)
      clear hb9
      go_wp2_with fail
      refine (alive22 _ T fr G9.out).mono ?_
      rintro e w' ⟨rfl, hb⟩
      have HB := hide (E9.out.of hb)
      clear hb
      go_wp2_with fail
      go_ret
      exact ⟨rfl, HB.out⟩
  | true =>
    refine (put22 k i ns a vs b z (by omega) (by omega) _ HR.out T fr G1.out).mono ?_
    rintro e w2 ⟨v, rfl, ho, hb⟩
    obtain ⟨A1, c1', rfl, hr1, _⟩ := ho.rd
    obtain ⟨i0, hi, hz0, hz1, hz2⟩ := info_parts u8_info
    have Hr2 := hide hr1
    have R2 := hide (keepRow R1.out hb)
    have E2 := hide (E1.out.of hb)
    have G2 := hide ((hb.block _ (rowLt G1.out)).trans G1.out)
    have Ha2 := hide (Ha1.out.below hb)
    have Hu2 := hide (Hu1.out.below hb)
    clear hb ho hr1 R1 E1 G1 Ha1 Hu1
    have hLt := rpN_top k i ns a vs b z
    have hL : rpN k i ns a vs b z ≤ 3000 := by omega
    have hBy := rp_byt HR.out (show ns.size ≤ 1000 by omega) (show vs.size ≤ 1000 by omega)
    have HGet : Hid (∀ (W : World) (A3 : Option Addr) (c3 : Nat), Rd .u8 W A3 (0 + rpN k i ns a vs b z + m) c3 (catF (0 + rpN k i ns a vs b z) (catF 0 (oneF 0) (rpF k i ns a vs b z)) g) → W.heap[0]? = some (.cells formsV T fr) → Calls Tryd.prog 19 #[.slice A3 (rpN k i ns a vs b z + m) c3] W fun e w' => e = .returned (.tuple #[.agg #[.int .i64 k, .int .i64 i, .string ns, .bool a, .string vs, .bool b, .int .i64 z], .int .i64 (rpN k i ns a vs b z : Int), .int .i64 0]) ∧ Below W.heap.size W w') := fun W A3 c3 hr hg3 => by
      have e1 : catF 0 (oneF 0) (rpF k i ns a vs b z) = rpF k i ns a vs b z := by funext j; simp [catF]
      rw [Nat.zero_add, e1] at hr
      refine (get22 A3 (rpN k i ns a vs b z + m) c3 _ W hr (cat_byt hBy hbg) (by omega) T fr hg3).mono ?_
      rintro e w' ⟨k', i', ns', a', vs', b', z', m', er', rfl, hR', hb2⟩
      obtain ⟨rfl, rfl, rfl, rfl, rfl, rfl, rfl, rfl, rfl⟩ := (gtr_back HR.out (by omega) (by omega) m g).same hR'
      exact ⟨rfl, hb2⟩
    clear hBy hLt hbg
    generalize rpN k i ns a vs b z = L at *
    generalize rpF k i ns a vs b z = F at *
    have HO := hide (Own.lit .u8 5 w2.heap.size w2 (oneF 0) #[] 0 (Nat.le_refl _) (by simp [maxLen]) rfl)
    have BA : Hid (Below w2.heap.size w2 (w2.alloc (.cells #[] 5))) := (Below.refl _ _).alloc (Nat.le_refl _) _
    have HA2 := hide (Hr2.out.below BA.out)
    go_upto_region 6 with (first
      | (at_builtin; refine wp_app rfl _ _ _ rfl i0 0 1 Tryd.underlying28 hi hz0 hz1 hz2 w2.heap.size (.slice (some ⟨w2.heap.size, 0, none⟩) 0 0) 0 (oneF 0) rfl HO.out A1 L c1' F rfl HA2.out (by simp only [maxLen]; omega) (by omega) (by simp) ?_; intro v2 w3 hown2 hg2; have BB := hide (BA.out.grown hg2 (by simp) (fun j e => (World.ownsRow.lt HO.out j e).1)); have Ho2 := hide hown2; have hs2 := BB.out.size; have Hb2 := hide (Ha2.out.below BB.out); clear hown2 hg2)
      | (at_builtin; refine wp_app rfl _ _ _ rfl i0 0 1 Tryd.underlying28 hi hz0 hz1 hz2 w2.heap.size v2 (0 + L) _ rfl Ho2.out A2 m c2 g rfl Hb2.out (by simp only [maxLen]; omega) (by omega) (by omega) ?_; intro v3 w4 hown3 hg3; have BC := hide (BB.out.grown hg3 hs2 (fun j e => (World.ownsRow.lt Ho2.out j e).1)); obtain ⟨A3, c3', rfl, hr3, _⟩ := hown3.rd; have Hr3 := hide hr3; have G4 := hide ((BC.out.block _ (rowLt G2.out)).trans G2.out); clear hown3 hg3 hr3)
      | (go_at_call 19; (with_reducible refine (HGet.out _ A3 c3' Hr3.out G4.out).mono ?_); rintro e w5 ⟨rfl, hb5⟩; have B5 := hide (BC.out.trans (hb5.mono BC.out.size))))
    have al := (Below.refl w5.heap.size w5).alloc (Nat.le_refl _) (.cells #[.int .i64 k, .int .i64 i, .string ns, .bool a, .string vs, .bool b, .int .i64 z] 35)
    have P5 := hide (heap_alloc_new w5 (.cells #[.int .i64 k, .int .i64 i, .string ns, .bool a, .string vs, .bool b, .int .i64 z] 35))
    have R5 := hide (keepRow R2.out (B5.out.of al))
    have E5 := hide (E2.out.of (B5.out.of al))
    have G5 := hide (((B5.out.of al).block _ (rowLt G2.out)).trans G2.out)
    have Hu5 := hide (Hu2.out.below (B5.out.of al))
    clear al hb5 B5 BC G4 Hr3 Hb2 Ho2 BB HA2 BA HO HGet Ha2 Hu2 G2 E2 R2 Hr2 hs2
    generalize hW : w5.alloc (.cells #[.int .i64 k, .int .i64 i, .string ns, .bool a, .string vs, .bool b, .int .i64 z] 35) = V5 at *
    generalize w5.heap.size = p5 at *
    clear hW
    obtain ⟨x0, x1, x2, x3, x4, x5, x6⟩ := row7 R5.out
    obtain ⟨y0, y1, y2, y3, y4, y5, y6⟩ := row7 P5.out
    generalize hp0 : w.heap.size = p0 at *
    go_region_held3 (fun W : World => W.cell? ⟨p0, 0, none⟩ = some (.int .i64 k) ∧ W.cell? ⟨p0, 1, none⟩ = some (.int .i64 i) ∧ W.cell? ⟨p0, 2, none⟩ = some (.string ns) ∧ W.cell? ⟨p0, 3, none⟩ = some (.bool a) ∧ W.cell? ⟨p0, 4, none⟩ = some (.string vs) ∧ W.cell? ⟨p0, 5, none⟩ = some (.bool b) ∧ W.cell? ⟨p0, 6, none⟩ = some (.int .i64 z) ∧ W.cell? ⟨p5, 0, none⟩ = some (.int .i64 k) ∧ W.cell? ⟨p5, 1, none⟩ = some (.int .i64 i) ∧ W.cell? ⟨p5, 2, none⟩ = some (.string ns) ∧ W.cell? ⟨p5, 3, none⟩ = some (.bool a) ∧ W.cell? ⟨p5, 4, none⟩ = some (.string vs) ∧ W.cell? ⟨p5, 5, none⟩ = some (.bool b) ∧ W.cell? ⟨p5, 6, none⟩ = some (.int .i64 z))
      ((first | (go_keep; done) | exact S14keep hbo (by assumption)))
      ((first
        | (go_at_call 14; (with_reducible refine (own22 k i ns a vs b z _).mono ?_); rintro e wo ⟨rfl, hbo⟩)))
    all_goals
      subst hp0
      have hbV : Below V5.heap.size V5 wo := (((Below.refl V5.heap.size V5).drew).of hbo)
      have E6 := hide (E5.out.of hbV)
      have G6 := hide ((hbV.block _ (rowLt G5.out)).trans G5.out)
      have Hu6 := hide (Hu5.out.below hbV)
      clear hbo hbV E5 G5 Hu5 R5 P5 x0 x1 x2 x3 x4 x5 x6 y0 y1 y2 y3 y4 y5 y6
      go_wp2_with fail
      refine (get22 A4 q c4 u _ Hu6.out Hu.out (by omega) T fr G6.out).mono ?_
      rintro e w8 ⟨k1, i1, ns1, a1, vs1, b1, z1, m1, er, rfl, hR, hb8⟩
      have ok := gtr_ok hR
      have al := (Below.refl w8.heap.size w8).alloc (Nat.le_refl _) (.cells #[.int .i64 k1, .int .i64 i1, .string ns1, .bool a1, .string vs1, .bool b1, .int .i64 z1] 35)
      have Q8 := hide (heap_alloc_new w8 (.cells #[.int .i64 k1, .int .i64 i1, .string ns1, .bool a1, .string vs1, .bool b1, .int .i64 z1] 35))
      have E8 := hide (E6.out.of (hb8.of al))
      have G8 := hide (((hb8.of al).block _ (rowLt G6.out)).trans G6.out)
      clear hR hb8 al
      go_upto_region 9 with (fail)
      generalize hW : w8.alloc (.cells #[.int .i64 k1, .int .i64 i1, .string ns1, .bool a1, .string vs1, .bool b1, .int .i64 z1] 35) = V8 at *
      generalize w8.heap.size = p8 at *
      clear hW
      obtain ⟨y0, y1, y2, y3, y4, y5, y6⟩ := row7 Q8.out
      rcases ok with ⟨x1, rfl⟩ | ⟨rfl, x2, x3, x4⟩
      · have hne : (er == 0) = false := by simpa using x1
        go_wp2_with fail
        refine (alive22 _ T fr G8.out).mono ?_
        rintro e w' ⟨rfl, hb⟩
        have HB := hide (E8.out.of hb)
        clear hb
        go_wp2_with fail
        go_ret
        exact ⟨rfl, HB.out⟩
      · have HX := hide x2
        have l1 : decide ((0 : Int) < m1) = true := decide_eq_true x3
        have l2 : decide (m1 ≤ (q : Int)) = true := decide_eq_true x4
        clear x2 x3 x4
        go_wp2_with fail
        refine (right22 k1 i1 ns1 a1 vs1 b1 z1 _).mono ?_
        rw [HX.out]
        rintro e w9 ⟨rfl, hb9⟩
        have E9 := hide (E8.out.of hb9)
        have G9 := hide ((hb9.block _ (rowLt G8.out)).trans G8.out)
        clear hb9
        go_wp2_with fail
        refine (alive22 _ T fr G9.out).mono ?_
        rintro e w' ⟨rfl, hb⟩
        have HB := hide (E9.out.of hb)
        clear hb
        go_wp2_with fail
        go_ret
        exact ⟨rfl, HB.out⟩
end Go.Proofs.YtdnfhddahpmnmabDoor
