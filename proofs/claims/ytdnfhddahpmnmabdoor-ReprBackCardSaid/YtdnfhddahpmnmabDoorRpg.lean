/- Layer 22: the walks of the laws on putting and on getting. -/
import Derived.Test.YtdnfhddahpmnmabDoorRpf
import Derived.Test.YtdnfhddahpmnmabDoorLaip
import Derived.Deep.RegionHeld3
namespace Go.Proofs.YtdnfhddahpmnmabDoor
open Go.RowKit Go.PlainAid

theorem list7 {α : Type} {l : List α} (h : l.length = 7) : ∃ c0 c1 c2 c3 c4 c5 c6, l = [c0, c1, c2, c3, c4, c5, c6] := by
  match l, h with
  | [c0, c1, c2, c3, c4, c5, c6], _ => exact ⟨c0, c1, c2, c3, c4, c5, c6, rfl⟩
theorem keepC {w w' : World} (hb : Below w.heap.size w w') {a : Addr} {v : Value} (h : w.cell? a = some v) : w'.cell? a = some v := (hb.cell (World.block_lt_of_cell? w _ h)).trans h
theorem S7keep {w1 w2 : World} (hb : Below w1.heap.size w1 w2) {a0 a1 a2 a3 a4 a5 a6 : Addr} {v0 v1 v2 v3 v4 v5 v6 : Value} (h : w1.cell? a0 = some v0 ∧ w1.cell? a1 = some v1 ∧ w1.cell? a2 = some v2 ∧ w1.cell? a3 = some v3 ∧ w1.cell? a4 = some v4 ∧ w1.cell? a5 = some v5 ∧ w1.cell? a6 = some v6) :
    w2.cell? a0 = some v0 ∧ w2.cell? a1 = some v1 ∧ w2.cell? a2 = some v2 ∧ w2.cell? a3 = some v3 ∧ w2.cell? a4 = some v4 ∧ w2.cell? a5 = some v5 ∧ w2.cell? a6 = some v6 :=
  ⟨keepC hb h.1, keepC hb h.2.1, keepC hb h.2.2.1, keepC hb h.2.2.2.1, keepC hb h.2.2.2.2.1, keepC hb h.2.2.2.2.2.1, keepC hb h.2.2.2.2.2.2⟩
set_option maxRecDepth 100000 in
set_option maxHeartbeats 6400000 in
theorem puts_walk22 (k i : Int) (ns : ByteArray) (a : Bool) (vs : ByteArray) (b : Bool) (z : Int) (w : World) (T : TypeId) (fr : Nat × Nat) (hg : w.heap[0]? = some (.cells formsV T fr)) : Calls Tryd.prog 4 #[.agg #[.int .i64 k, .int .i64 i, .string ns, .bool a, .string vs, .bool b, .int .i64 z]] w (Yes w) := by
  have R0 := hide (heap_alloc_new w (.cells #[.int .i64 k, .int .i64 i, .string ns, .bool a, .string vs, .bool b, .int .i64 z] 27))
  have e0 := (Below.refl w.heap.size w).alloc (Nat.le_refl _) (.cells #[.int .i64 k, .int .i64 i, .string ns, .bool a, .string vs, .bool b, .int .i64 z] 27)
  have E0 := hide e0
  have G0 := hide ((e0.block _ (rowLt hg)).trans hg)
  clear e0 hg
  by_cases hbig : 40 < ns.size ∨ 40 < vs.size
  · by_cases h1 : 40 < ns.size
    · have d1 : decide ((40 : Int) < (ns.size : Int)) = true := decide_eq_true (by omega)
      clear hbig h1
      obtain ⟨c0, c1, c2, c3, c4, c5, c6⟩ := row7 R0.out
      go_enter Tryd.func4, Tryd.ntmps4
      go_wp2_with fail
      refine (alive22 _ T fr G0.out).mono ?_
      rintro e w' ⟨rfl, hb⟩
      have HB := hide (E0.out.of hb)
      clear hb
      go_wp2_with fail
      go_ret
      exact ⟨rfl, HB.out⟩
    · have d1 : decide ((40 : Int) < (ns.size : Int)) = false := decide_eq_false (by omega)
      have d2 : decide ((40 : Int) < (vs.size : Int)) = true := decide_eq_true (by omega)
      clear hbig h1
      obtain ⟨c0, c1, c2, c3, c4, c5, c6⟩ := row7 R0.out
      go_enter Tryd.func4, Tryd.ntmps4
      go_wp2_with fail
      refine (alive22 _ T fr G0.out).mono ?_
      rintro e w' ⟨rfl, hb⟩
      have HB := hide (E0.out.of hb)
      clear hb
      go_wp2_with fail
      go_ret
      exact ⟨rfl, HB.out⟩
  have d1 : decide ((40 : Int) < (ns.size : Int)) = false := decide_eq_false (by omega)
  have d2 : decide ((40 : Int) < (vs.size : Int)) = false := decide_eq_false (by omega)
  have hns : ns.size ≤ 1000 := by omega
  have hvs : vs.size ≤ 1000 := by omega
  clear hbig
  obtain ⟨rb, hrb⟩ : ∃ r, rpB k i ns a vs b z = r := ⟨_, rfl⟩
  have HR := hide hrb
  have H1 := hide (fun W => right22 k i ns a vs b z W)
  have H2 := hide (fun W => rright22 k i ns a vs b z W)
  rw [hrb] at H1 H2
  clear hrb
  obtain ⟨c0, c1, c2, c3, c4, c5, c6⟩ := row7 R0.out
  go_enter Tryd.func4, Tryd.ntmps4
  go_wp2_with fail
  refine (own22 k i ns a vs b z _).mono ?_
  rintro e w1 ⟨rfl, hb⟩
  have R1 := hide (keepRow R0.out hb)
  have E1 := hide (E0.out.of hb)
  have G1 := hide ((hb.block _ (rowLt G0.out)).trans G0.out)
  clear hb R0 E0 G0 c0 c1 c2 c3 c4 c5 c6
  go_wp2_with fail
  cases rb with
  | false =>
    refine (put22_no k i ns a vs b z _ HR.out).mono ?_
    rintro e w2 ⟨rfl, hb⟩
    have R2 := hide (keepRow R1.out hb)
    have E2 := hide (E1.out.of hb)
    have G2 := hide ((hb.block _ (rowLt G1.out)).trans G1.out)
    clear hb R1 E1 G1
    have R3' := hide (keepRow R2.out (drawn_below (Drawn.of w2 1) _))
    clear R3'
    obtain ⟨c0, c1, c2, c3, c4, c5, c6⟩ := row7 R2.out
    go_wp2_with fail
    go_region_held3 (fun W : World => W.cell? ⟨w.heap.size, 0, none⟩ = some (.int .i64 k) ∧ W.cell? ⟨w.heap.size, 1, none⟩ = some (.int .i64 i) ∧ W.cell? ⟨w.heap.size, 2, none⟩ = some (.string ns) ∧ W.cell? ⟨w.heap.size, 3, none⟩ = some (.bool a) ∧ W.cell? ⟨w.heap.size, 4, none⟩ = some (.string vs) ∧ W.cell? ⟨w.heap.size, 5, none⟩ = some (.bool b) ∧ W.cell? ⟨w.heap.size, 6, none⟩ = some (.int .i64 z))
      ((first | (go_keep; done) | exact S7keep hbo (by assumption) | exact S7keep hbr (by assumption) | exact S7keep hbq (by assumption)))
      ((first
        | (go_at_call 14; (with_reducible refine (own22 k i ns a vs b z _).mono ?_); rintro e wo ⟨rfl, hbo⟩)
        | (go_at_call 15; (with_reducible refine (H1.out _).mono ?_); rintro e wr ⟨rfl, hbr⟩)
        | (go_at_call 16; (with_reducible refine (H2.out _).mono ?_); rintro e wq ⟨rfl, hbq⟩)))
    all_goals
      have EB : Hid (Below w2.heap.size w2 _) := (by first
        | exact (((((Below.refl w2.heap.size w2).drew).of hbo).of hbr).of hbq : Below w2.heap.size w2 wq)
        | exact (((((Below.refl w2.heap.size w2).drew).of hbo).of hbq).of hbr : Below w2.heap.size w2 wr)
        | exact (((((Below.refl w2.heap.size w2).drew).of hbq).of hbo).of hbr : Below w2.heap.size w2 wr))
      have R3 := hide (keepRow R2.out EB.out)
      have E3 := hide (E2.out.of EB.out)
      have G3 := hide ((EB.out.block _ (rowLt G2.out)).trans G2.out)
      clear hbo hbr hbq R2 E2 G2 EB c0 c1 c2 c3 c4 c5 c6
      obtain ⟨c0, c1, c2, c3, c4, c5, c6⟩ := row7 R3.out
      go_wp2_with fail
      refine (H2.out _).mono ?_
      rintro e w5 ⟨rfl, hb5⟩
      have E5 := hide (E3.out.of hb5)
      have G5 := hide ((hb5.block _ (rowLt G3.out)).trans G3.out)
      clear hb5
      go_wp2_with fail
      refine (alive22 _ T fr G5.out).mono ?_
      rintro e w' ⟨rfl, hb⟩
      have HB := hide (E5.out.of hb)
      clear hb
      go_wp2_with fail
      go_ret
      exact ⟨rfl, HB.out⟩
  | true =>
    refine (put22 k i ns a vs b z hns hvs _ HR.out T fr G1.out).mono ?_
    rintro e w2 ⟨v, rfl, ho, hb⟩
    obtain ⟨A1, c1', rfl, hr1, _⟩ := ho.rd
    have Hr2 := hide hr1
    have R2 := hide (keepRow R1.out hb)
    have E2 := hide (E1.out.of hb)
    have G2 := hide ((hb.block _ (rowLt G1.out)).trans G1.out)
    clear hb ho hr1 R1 E1 G1
    have HP := hide (fun W => rput22 k i ns a vs b z hns hvs W HR.out)
    generalize rpN k i ns a vs b z = N at *
    generalize rpF k i ns a vs b z = F at *
    have R3' := hide (keepRow R2.out (drawn_below (Drawn.of w2 1) _))
    clear R3'
    obtain ⟨c0, c1, c2, c3, c4, c5, c6⟩ := row7 R2.out
    go_wp2_with fail
    go_region_held3 (fun W : World => W.cell? ⟨w.heap.size, 0, none⟩ = some (.int .i64 k) ∧ W.cell? ⟨w.heap.size, 1, none⟩ = some (.int .i64 i) ∧ W.cell? ⟨w.heap.size, 2, none⟩ = some (.string ns) ∧ W.cell? ⟨w.heap.size, 3, none⟩ = some (.bool a) ∧ W.cell? ⟨w.heap.size, 4, none⟩ = some (.string vs) ∧ W.cell? ⟨w.heap.size, 5, none⟩ = some (.bool b) ∧ W.cell? ⟨w.heap.size, 6, none⟩ = some (.int .i64 z))
      ((first | (go_keep; done) | exact S7keep hbo (by assumption) | exact S7keep hbr (by assumption) | exact S7keep hbq (by assumption)))
      ((first
        | (go_at_call 14; (with_reducible refine (own22 k i ns a vs b z _).mono ?_); rintro e wo ⟨rfl, hbo⟩)
        | (go_at_call 15; (with_reducible refine (H1.out _).mono ?_); rintro e wr ⟨rfl, hbr⟩)
        | (go_at_call 16; (with_reducible refine (H2.out _).mono ?_); rintro e wq ⟨rfl, hbq⟩)))
    all_goals
      have EB : Hid (Below w2.heap.size w2 _) := (by first
        | exact (((((Below.refl w2.heap.size w2).drew).of hbo).of hbr).of hbq : Below w2.heap.size w2 wq)
        | exact (((((Below.refl w2.heap.size w2).drew).of hbo).of hbq).of hbr : Below w2.heap.size w2 wr)
        | exact (((((Below.refl w2.heap.size w2).drew).of hbq).of hbo).of hbr : Below w2.heap.size w2 wr))
      have R3 := hide (keepRow R2.out EB.out)
      have E3 := hide (E2.out.of EB.out)
      have G3 := hide ((EB.out.block _ (rowLt G2.out)).trans G2.out)
      have Hr3 := hide (Hr2.out.below EB.out)
      clear Hr2
      clear hbo hbr hbq R2 E2 G2 EB c0 c1 c2 c3 c4 c5 c6
      obtain ⟨c0, c1, c2, c3, c4, c5, c6⟩ := row7 R3.out
      go_wp2_with fail
      refine (H2.out _).mono ?_
      rintro e w5 ⟨rfl, hb5⟩
      have R5 := hide (keepRow R3.out hb5)
      have E5 := hide (E3.out.of hb5)
      have G5 := hide ((hb5.block _ (rowLt G3.out)).trans G3.out)
      have Hr5 := hide (Hr3.out.below hb5)
      clear hb5 R3 E3 G3 Hr3 c0 c1 c2 c3 c4 c5 c6
      obtain ⟨c0, c1, c2, c3, c4, c5, c6⟩ := row7 R5.out
      go_wp2_with fail
      refine (HP.out _).mono ?_
      rintro e w6 ⟨v6, rfl, ho6, hb6⟩
      obtain ⟨A6, c6', rfl, hr6, _⟩ := ho6.rd
      have Hs6 := hide hr6
      have E6 := hide (E5.out.of hb6)
      have G6 := hide ((hb6.block _ (rowLt G5.out)).trans G5.out)
      have Hr6 := hide (Hr5.out.below hb6)
      clear ho6 hr6 hb6 R5 E5 G5 Hr5 c0 c1 c2 c3 c4 c5 c6
      go_wp2_with fail
      refine (rsame_yes _ _ _ _ _ _ _ _ Hr6.out Hs6.out (fun _ _ => rfl)).mono ?_
      rintro e w7 ⟨rfl, hd7⟩
      have E7 := hide (E6.out.of (drawn_below hd7 _))
      have G7 := hide (((drawn_below hd7 w6.heap.size).block _ (rowLt G6.out)).trans G6.out)
      clear hd7
      go_wp2_with fail
      refine (alive22 _ T fr G7.out).mono ?_
      rintro e w' ⟨rfl, hb⟩
      have HB := hide (E7.out.of hb)
      clear hb
      go_wp2_with fail
      go_ret
      exact ⟨rfl, HB.out⟩
end Go.Proofs.YtdnfhddahpmnmabDoor
