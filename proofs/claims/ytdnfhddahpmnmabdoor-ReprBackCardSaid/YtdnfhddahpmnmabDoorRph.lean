/- Layer 22: the walk of the law on getting. -/
import Derived.Test.YtdnfhddahpmnmabDoorRpg
import Derived.Deep.Cut
namespace Go.Proofs.YtdnfhddahpmnmabDoor
open Go.RowKit Go.PlainAid

theorem S14keep {w1 w2 : World} (hb : Below w1.heap.size w1 w2) {a0 a1 a2 a3 a4 a5 a6 a7 a8 a9 a10 a11 a12 a13 : Addr} {v0 v1 v2 v3 v4 v5 v6 v7 v8 v9 v10 v11 v12 v13 : Value} (h : w1.cell? a0 = some v0 ∧ w1.cell? a1 = some v1 ∧ w1.cell? a2 = some v2 ∧ w1.cell? a3 = some v3 ∧ w1.cell? a4 = some v4 ∧ w1.cell? a5 = some v5 ∧ w1.cell? a6 = some v6 ∧ w1.cell? a7 = some v7 ∧ w1.cell? a8 = some v8 ∧ w1.cell? a9 = some v9 ∧ w1.cell? a10 = some v10 ∧ w1.cell? a11 = some v11 ∧ w1.cell? a12 = some v12 ∧ w1.cell? a13 = some v13) :
    w2.cell? a0 = some v0 ∧ w2.cell? a1 = some v1 ∧ w2.cell? a2 = some v2 ∧ w2.cell? a3 = some v3 ∧ w2.cell? a4 = some v4 ∧ w2.cell? a5 = some v5 ∧ w2.cell? a6 = some v6 ∧ w2.cell? a7 = some v7 ∧ w2.cell? a8 = some v8 ∧ w2.cell? a9 = some v9 ∧ w2.cell? a10 = some v10 ∧ w2.cell? a11 = some v11 ∧ w2.cell? a12 = some v12 ∧ w2.cell? a13 = some v13 :=
  ⟨keepC hb h.1, keepC hb h.2.1, keepC hb h.2.2.1, keepC hb h.2.2.2.1, keepC hb h.2.2.2.2.1, keepC hb h.2.2.2.2.2.1, keepC hb h.2.2.2.2.2.2.1, keepC hb h.2.2.2.2.2.2.2.1, keepC hb h.2.2.2.2.2.2.2.2.1, keepC hb h.2.2.2.2.2.2.2.2.2.1, keepC hb h.2.2.2.2.2.2.2.2.2.2.1, keepC hb h.2.2.2.2.2.2.2.2.2.2.2.1, keepC hb h.2.2.2.2.2.2.2.2.2.2.2.2.1, keepC hb h.2.2.2.2.2.2.2.2.2.2.2.2.2⟩
set_option maxRecDepth 100000 in
set_option maxHeartbeats 6400000 in
theorem gets_walk22 (A : Option Addr) (n c : Nat) (f : Nat → Int) (w : World) (ha : Rd .u8 w A n c f) (hb : Byt n f) (T : TypeId) (fr : Nat × Nat) (hg : w.heap[0]? = some (.cells formsV T fr)) : Calls Tryd.prog 5 #[.slice A n c] w (Yes w) := by
  have G0 := hide hg
  have Ha := hide ha
  have Hb := hide hb
  clear ha hb hg
  by_cases hbig : 40 < n
  · have d1 : decide ((40 : Int) < (n : Int)) = true := decide_eq_true (by omega)
    clear hbig
    go_enter Tryd.func5, Tryd.ntmps5
    go_wp2_with fail
    refine (alive22 _ T fr G0.out).mono ?_
    rintro e w' ⟨rfl, hb⟩
    have HB := hide hb
    clear hb
    go_wp2_with fail
    go_ret
    exact ⟨rfl, HB.out⟩
  have d1 : decide ((40 : Int) < (n : Int)) = false := decide_eq_false (by omega)
  have hn : n ≤ 1000 := by omega
  clear hbig
  go_enter Tryd.func5, Tryd.ntmps5
  go_wp2_with fail
  refine (get22 A n c f _ Ha.out Hb.out (by omega) T fr G0.out).mono ?_
  rintro e w1 ⟨k, i, ns, a, vs, b, z, m, er, rfl, hR, hb1⟩
  have HR := hide hR
  have al := (Below.refl w1.heap.size w1).alloc (Nat.le_refl _) (.cells #[.int .i64 k, .int .i64 i, .string ns, .bool a, .string vs, .bool b, .int .i64 z] 35)
  have Q1 := hide (heap_alloc_new w1 (.cells #[.int .i64 k, .int .i64 i, .string ns, .bool a, .string vs, .bool b, .int .i64 z] 35))
  have E1 := hide (hb1.trans (al.mono hb1.size))
  have G1 := hide ((E1.out.block _ (rowLt G0.out)).trans G0.out)
  have Ha1 := hide (Ha.out.below E1.out)
  clear hR hb1 al G0 Ha
  go_upto_region 4 with (fail)
  generalize hW : w1.alloc (.cells #[.int .i64 k, .int .i64 i, .string ns, .bool a, .string vs, .bool b, .int .i64 z] 35) = V1 at *
  generalize w1.heap.size = p1 at *
  clear hW
  go_wp2_with fail
  refine (rget22 A n c f _ Ha1.out Hb.out hn).mono ?_
  rintro e w2 ⟨k', i', ns', a', vs', b', z', m', er', rfl, hR', hb2⟩
  obtain ⟨rfl, rfl, rfl, rfl, rfl, rfl, rfl, rfl, rfl⟩ := HR.out.same hR'
  have al := (Below.refl w2.heap.size w2).alloc (Nat.le_refl _) (.cells #[.int .i64 k, .int .i64 i, .string ns, .bool a, .string vs, .bool b, .int .i64 z] 27)
  have Q2 := hide (heap_alloc_new w2 (.cells #[.int .i64 k, .int .i64 i, .string ns, .bool a, .string vs, .bool b, .int .i64 z] 27))
  have Q1' := hide (keepRow Q1.out (hb2.of al))
  have E2 := hide (E1.out.of (hb2.of al))
  have G2 := hide (((hb2.of al).block _ (rowLt G1.out)).trans G1.out)
  clear hR' hb2 al E1 G1 Q1 Ha1 HR
  go_upto_region 5 with (fail)
  generalize hW : w2.alloc (.cells #[.int .i64 k, .int .i64 i, .string ns, .bool a, .string vs, .bool b, .int .i64 z] 27) = V2 at *
  generalize w2.heap.size = p2 at *
  clear hW
  obtain ⟨x0, x1, x2, x3, x4, x5, x6⟩ := row7 Q1'.out
  obtain ⟨y0, y1, y2, y3, y4, y5, y6⟩ := row7 Q2.out
  have G3 : Hid (V2.drew.heap[0]? = some (.cells formsV T fr)) := G2.out
  go_region_held3 (fun W : World => W.cell? ⟨p1, 0, none⟩ = some (.int .i64 k) ∧ W.cell? ⟨p1, 1, none⟩ = some (.int .i64 i) ∧ W.cell? ⟨p1, 2, none⟩ = some (.string ns) ∧ W.cell? ⟨p1, 3, none⟩ = some (.bool a) ∧ W.cell? ⟨p1, 4, none⟩ = some (.string vs) ∧ W.cell? ⟨p1, 5, none⟩ = some (.bool b) ∧ W.cell? ⟨p1, 6, none⟩ = some (.int .i64 z) ∧ W.cell? ⟨p2, 0, none⟩ = some (.int .i64 k) ∧ W.cell? ⟨p2, 1, none⟩ = some (.int .i64 i) ∧ W.cell? ⟨p2, 2, none⟩ = some (.string ns) ∧ W.cell? ⟨p2, 3, none⟩ = some (.bool a) ∧ W.cell? ⟨p2, 4, none⟩ = some (.string vs) ∧ W.cell? ⟨p2, 5, none⟩ = some (.bool b) ∧ W.cell? ⟨p2, 6, none⟩ = some (.int .i64 z))
    ((first | (go_keep; done) | exact S14keep hbo (by assumption) | exact S14keep hbr (by assumption)))
    ((first
      | (go_at_call 14; (with_reducible refine (own22 k i ns a vs b z _).mono ?_); rintro e wo ⟨rfl, hbo⟩; have Go_ := hide ((hbo.block _ (rowLt G3.out)).trans G3.out))
      | (go_at_call 12; (with_reducible refine (alive22 _ T fr Go_.out).mono ?_); rintro e wr ⟨rfl, hbr⟩)))
  all_goals
    have HB : Hid (Below w.heap.size w wr) := (E2.out.of (((Below.refl V2.heap.size V2).drew).of hbo)).of hbr
    clear hbo hbr
    go_wp2_with fail
    go_ret
    exact ⟨rfl, HB.out⟩
end Go.Proofs.YtdnfhddahpmnmabDoor
