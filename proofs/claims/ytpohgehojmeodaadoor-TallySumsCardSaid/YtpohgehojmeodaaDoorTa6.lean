/- Layer 29: Head. -/
import Derived.Test.YtpohgehojmeodaaDoorTa5
import Derived.Deep.RegionHeld3
namespace Go.Proofs.YtpohgehojmeodaaDoor
set_option linter.unusedVariables false
set_option linter.unusedSimpArgs false
open Go.RowKit Go.PlainAid

set_option maxRecDepth 100000 in
set_option maxHeartbeats 6400000 in
theorem head29 (o m l : Int) (A : Option Addr) (n c : Nat) (F : Nat → Fd) (fin : Bool) (w : World) (ha : RdFd w A n c F) (hs : Sm28 F n) (T : TypeId) (fr : Nat × Nat) (hg : w.heap[6]? = some (.cells barV T fr))
    {mm : ByteArray} {st N : Int} {T' : Bool} (hk : ChkR (if o = 0 then 0 else 1) F n mm st N T' 0) (hi : (decide (100 ≤ st) && decide (st ≤ 199)) = false) (he : fin = true → endB (behM o mm st T') (behL o mm st N T') = false) :
    Calls Tryd.prog 64 #[.agg #[.int .i64 o, .int .i64 0, .int .i64 m, .int .i64 l], .slice A n c, .bool fin] w fun e w' => e = .returned (.tuple #[if fin = true then .agg #[.int .i64 0, .int .i64 2, .int .i64 0, .int .i64 0] else .agg #[.int .i64 0, .int .i64 1, .int .i64 (behM o mm st T'), .int .i64 (behL o mm st N T')], .agg #[.string mm, .int .i64 st, .int .i64 N, .bool T'], .int .i64 0]) ∧ Below w.heap.size w w' := by
  obtain ⟨r0, r1, r2, e0⟩ := heap3m w #[.int .i64 o, .int .i64 0, .int .i64 m, .int .i64 l] #[.int .i64 0, .int .i64 0, .int .i64 0, .int .i64 0] #[.string ⟨#[]⟩, .int .i64 0, .int .i64 0, .bool false] 63 63 67
  have R0 := hide r0
  have R1 := hide r1
  have R2 := hide r2
  have E0 := hide e0
  have A0 := hide (ha.below e0)
  have G0 := hide ((e0.block _ (rowLt hg)).trans hg)
  have Hs := hide hs
  have HK := hide hk
  have HI := hide hi
  have HE := hide he
  clear r0 r1 r2 e0 ha hg hs hk hi he
  go_enter Tryd.func64, Tryd.ntmps64
  go_upto_region 1 with (fail)
  generalize ((w.alloc (.cells #[.int .i64 o, .int .i64 0, .int .i64 m, .int .i64 l] 63)).alloc (.cells #[.int .i64 0, .int .i64 0, .int .i64 0, .int .i64 0] 63)).alloc (.cells #[.string ⟨#[]⟩, .int .i64 0, .int .i64 0, .bool false] 67) = W0 at *
  have Hp : Hid (w.heap.size ≤ w.heap.size + 1) := Nat.le_succ _
  have Hq : Hid (w.heap.size ≤ w.heap.size + 1 + 1) := by show _ ≤ _; omega
  have Hpq : Hid (w.heap.size + 1 ≠ w.heap.size + 1 + 1) := by show _ ≠ _; omega
  have Hqp : Hid (w.heap.size + 1 + 1 ≠ w.heap.size + 1) := by show _ ≠ _; omega
  obtain ⟨c0, c1, c2, c3⟩ := row4m R0.out
  obtain ⟨x2, hx2⟩ : ∃ x, x = behM o mm st T' := ⟨_, rfl⟩
  obtain ⟨x3, hx3⟩ : ∃ x, x = behL o mm st N T' := ⟨_, rfl⟩
  rw [← hx2, ← hx3] at HE
  have HX2 := hide hx2
  have HX3 := hide hx3
  clear hx2 hx3
  go_wp2_with fail
  refine (fields29 o m l A n c F fin _ A0.out Hs.out T fr G0.out HK.out HI.out).mono ?_
  rw [← HX2.out, ← HX3.out]
  rintro e w1 ⟨rfl, hb1⟩
  have al1 := (Below.refl w1.heap.size w1).alloc (Nat.le_refl _) (.cells #[.int .i64 0, .int .i64 1, .int .i64 x2, .int .i64 x3] 63)
  have al2 := (Below.refl (w1.alloc (.cells #[.int .i64 0, .int .i64 1, .int .i64 x2, .int .i64 x3] 63)).heap.size (w1.alloc (.cells #[.int .i64 0, .int .i64 1, .int .i64 x2, .int .i64 x3] 63))).alloc (Nat.le_refl _) (.cells #[.string mm, .int .i64 st, .int .i64 N, .bool T'] 67)
  have R1' := hide (keepRow R1.out (hb1.of (al1.of al2)))
  have R2' := hide (keepRow R2.out (hb1.of (al1.of al2)))
  have R3' := hide (keepRow (heap_alloc_new w1 (.cells #[.int .i64 0, .int .i64 1, .int .i64 x2, .int .i64 x3] 63)) al2)
  have R4' : Hid (((w1.alloc (.cells #[.int .i64 0, .int .i64 1, .int .i64 x2, .int .i64 x3] 63)).alloc (.cells #[.string mm, .int .i64 st, .int .i64 N, .bool T'] 67)).heap[w1.heap.size + 1]? = some (.cells #[.string mm, .int .i64 st, .int .i64 N, .bool T'] 67 (0, 0))) := by
    have h := heap_alloc_new (w1.alloc (.cells #[.int .i64 0, .int .i64 1, .int .i64 x2, .int .i64 x3] 63)) (.cells #[.string mm, .int .i64 st, .int .i64 N, .bool T'] 67)
    have e : (w1.alloc (.cells #[.int .i64 0, .int .i64 1, .int .i64 x2, .int .i64 x3] 63)).heap.size = w1.heap.size + 1 := by simp
    rw [e] at h
    exact h
  have E2 := hide (E0.out.of (hb1.of (al1.of al2)))
  have hl2 := rowLt (keepRow R2.out hb1)
  have Hb0p : Hid (w1.heap.size ≠ w.heap.size + 1) := by show _ ≠ _; omega
  have Hb0q : Hid (w1.heap.size ≠ w.heap.size + 1 + 1) := by show _ ≠ _; omega
  have Hb3p : Hid (w1.heap.size + 1 ≠ w.heap.size + 1) := by show _ ≠ _; omega
  have Hb3q : Hid (w1.heap.size + 1 ≠ w.heap.size + 1 + 1) := by show _ ≠ _; omega
  clear hb1 al1 al2 R0 R1 R2 E0 A0 G0 c0 c1 c2 c3
  cases fin with
  | false =>
    go_upto_region 6 with (fail)
    generalize (w1.alloc (.cells #[.int .i64 0, .int .i64 1, .int .i64 x2, .int .i64 x3] 63)).alloc (.cells #[.string mm, .int .i64 st, .int .i64 N, .bool T'] 67) = W3 at *
    obtain ⟨c0, c1, c2, c3⟩ := row4m R3'.out
    obtain ⟨d0, d1, d2, d3⟩ := row4m R4'.out
    have S0 := hide (And.intro (And.intro c0 (And.intro c1 (And.intro c2 c3))) (And.intro d0 (And.intro d1 (And.intro d2 d3))))
    obtain ⟨⟨k0, f0⟩, ⟨k1, f1⟩, ⟨k2, f2⟩, ⟨k3, f3⟩, rp⟩ := store4m R1'.out (.int .i64 0) (.int .i64 1) (.int .i64 x2) (.int .i64 x3)
    obtain ⟨⟨j0, g0⟩, ⟨j1, g1⟩, ⟨j2, g2⟩, ⟨j3, g3⟩, rq⟩ := store4m ((heap4o Hqp.out (.int .i64 0) (.int .i64 1) (.int .i64 x2) (.int .i64 x3)).trans R2'.out) (.string mm) (.int .i64 st) (.int .i64 N) (.bool T')
    have RP := hide ((heap4o Hpq.out (.string mm) (.int .i64 st) (.int .i64 N) (.bool T')).trans rp)
    have RQ := hide rq
    have EE := hide (below4m (below4m E2.out Hp.out (.int .i64 0) (.int .i64 1) (.int .i64 x2) (.int .i64 x3)) Hq.out (.string mm) (.int .i64 st) (.int .i64 N) (.bool T'))
    clear rp rq
    have RPd : Hid ((set4 (set4 W3 (w.heap.size + 1) (.int .i64 0) (.int .i64 1) (.int .i64 x2) (.int .i64 x3)) (w.heap.size + 1 + 1) (.string mm) (.int .i64 st) (.int .i64 N) (.bool T')).drew.heap[w.heap.size + 1]? = some (.cells #[.int .i64 0, .int .i64 1, .int .i64 x2, .int .i64 x3] 63 (0, 0))) := heapDrew RP.out
    have RQd : Hid ((set4 (set4 W3 (w.heap.size + 1) (.int .i64 0) (.int .i64 1) (.int .i64 x2) (.int .i64 x3)) (w.heap.size + 1 + 1) (.string mm) (.int .i64 st) (.int .i64 N) (.bool T')).drew.heap[w.heap.size + 1 + 1]? = some (.cells #[.string mm, .int .i64 st, .int .i64 N, .bool T'] 67 (0, 0))) := heapDrew RQ.out
    have EEd : Hid (Below w.heap.size w (set4 (set4 W3 (w.heap.size + 1) (.int .i64 0) (.int .i64 1) (.int .i64 x2) (.int .i64 x3)) (w.heap.size + 1 + 1) (.string mm) (.int .i64 st) (.int .i64 N) (.bool T')).drew) := EE.out.drew
    go_region_held3 (fun W => (W.cell? ⟨w1.heap.size, 0, none⟩ = some (.int .i64 0) ∧ W.cell? ⟨w1.heap.size, 1, none⟩ = some (.int .i64 1) ∧ W.cell? ⟨w1.heap.size, 2, none⟩ = some (.int .i64 x2) ∧ W.cell? ⟨w1.heap.size, 3, none⟩ = some (.int .i64 x3)) ∧ W.cell? ⟨w1.heap.size + 1, 0, none⟩ = some (.string mm) ∧ W.cell? ⟨w1.heap.size + 1, 1, none⟩ = some (.int .i64 st) ∧ W.cell? ⟨w1.heap.size + 1, 2, none⟩ = some (.int .i64 N) ∧ W.cell? ⟨w1.heap.size + 1, 3, none⟩ = some (.bool T'))
      ((first | with_reducible exact S0.out | (simp only [World.cell?_drew, cell4 Hb0p.out, cell4 Hb3p.out, cell4 Hb0q.out, cell4 Hb3q.out]; with_reducible exact S0.out)))
      ((fail))
    all_goals
      first
        | with_reducible refine absM (set4 (set4 W3 (w.heap.size + 1) (.int .i64 0) (.int .i64 1) (.int .i64 x2) (.int .i64 x3)) (w.heap.size + 1 + 1) (.string mm) (.int .i64 st) (.int .i64 N) (.bool T')).drew (fun W => W.heap[w.heap.size + 1]? = some (.cells #[.int .i64 0, .int .i64 1, .int .i64 x2, .int .i64 x3] 63 (0, 0)) ∧ W.heap[w.heap.size + 1 + 1]? = some (.cells #[.string mm, .int .i64 st, .int .i64 N, .bool T'] 67 (0, 0)) ∧ Below w.heap.size w W) ⟨RPd.out, RQd.out, EEd.out⟩ ?_
        | with_reducible refine absM (set4 (set4 W3 (w.heap.size + 1) (.int .i64 0) (.int .i64 1) (.int .i64 x2) (.int .i64 x3)) (w.heap.size + 1 + 1) (.string mm) (.int .i64 st) (.int .i64 N) (.bool T')) (fun W => W.heap[w.heap.size + 1]? = some (.cells #[.int .i64 0, .int .i64 1, .int .i64 x2, .int .i64 x3] 63 (0, 0)) ∧ W.heap[w.heap.size + 1 + 1]? = some (.cells #[.string mm, .int .i64 st, .int .i64 N, .bool T'] 67 (0, 0)) ∧ Below w.heap.size w W) ⟨RP.out, RQ.out, EE.out⟩ ?_
      clear k0 f0 k1 f1 k2 f2 k3 f3 j0 g0 j1 g1 j2 g2 j3 g3 RP RQ EE RPd RQd EEd S0 c0 c1 c2 c3 d0 d1 d2 d3
      rintro WW ⟨rP, rQ, eE⟩
      have EEf := hide eE
      obtain ⟨n0, n1, n2, n3⟩ := row4m rP
      obtain ⟨o0, o1, o2, o3⟩ := row4m rQ
      clear rP rQ eE
      go_wp2_with fail
      refine bodyPost_ret (v := .tuple #[.agg #[.int .i64 0, .int .i64 1, .int .i64 x2, .int .i64 x3], .agg #[.string mm, .int .i64 st, .int .i64 N, .bool T'], .int .i64 0]) ?_ rfl ⟨by rw [HX2.out, HX3.out], EEf.out⟩
      rw [results_cct rfl]
      go_simp
  | true =>
    have he := HE.out rfl
    have hne : w1.heap.size ≠ w1.heap.size + 1 := by omega
    have hb0 : w.heap.size ≤ w1.heap.size := by omega
    have HEX : Hid ((if endB x2 x3 = true then (0 : Int) else 2) = 2 ∧ (if endB x2 x3 = true then (31 : Int) else 0) = 0) := by show _ ∧ _; rw [he]; exact ⟨rfl, rfl⟩
    clear he
    go_upto_region 3 with (fail)
    generalize (w1.alloc (.cells #[.int .i64 0, .int .i64 1, .int .i64 x2, .int .i64 x3] 63)).alloc (.cells #[.string mm, .int .i64 st, .int .i64 N, .bool T'] 67) = W3 at *
    obtain ⟨c0, c1, c2, c3⟩ := row4m R3'.out
    go_wp2_with fail
    refine (end29 0 1 x2 x3 _).mono ?_
    rw [HEX.out.1, HEX.out.2]
    rintro e w4 ⟨rfl, hb4⟩
    obtain ⟨⟨k0, f0⟩, ⟨k1, f1⟩, ⟨k2, f2⟩, ⟨k3, f3⟩, rp⟩ := store4m (keepRow R3'.out hb4) (.int .i64 0) (.int .i64 2) (.int .i64 0) (.int .i64 0)
    have hlp1 := rowLt (keepRow R1'.out hb4)
    have R3a := hide rp
    have R4a := hide ((heap4o hne.symm (.int .i64 0) (.int .i64 2) (.int .i64 0) (.int .i64 0)).trans (keepRow R4'.out hb4))
    have R1a := hide ((heap4o (p := w1.heap.size) Hb0p.out.symm (.int .i64 0) (.int .i64 2) (.int .i64 0) (.int .i64 0)).trans (keepRow R1'.out hb4))
    have R2a := hide ((heap4o (p := w1.heap.size) Hb0q.out.symm (.int .i64 0) (.int .i64 2) (.int .i64 0) (.int .i64 0)).trans (keepRow R2'.out hb4))
    have E3 := hide (below4m (E2.out.of hb4) hb0 (.int .i64 0) (.int .i64 2) (.int .i64 0) (.int .i64 0))
    clear rp hb4 c0 c1 c2 c3 R3' R4' R1' R2' E2 hlp1
    go_upto_region 6 with (fail)
    refine absM (set4 w4 w1.heap.size (.int .i64 0) (.int .i64 2) (.int .i64 0) (.int .i64 0)) (fun W => W.heap[w1.heap.size]? = some (.cells #[.int .i64 0, .int .i64 2, .int .i64 0, .int .i64 0] 63 (0, 0)) ∧ W.heap[w1.heap.size + 1]? = some (.cells #[.string mm, .int .i64 st, .int .i64 N, .bool T'] 67 (0, 0)) ∧ W.heap[w.heap.size + 1]? = some (.cells #[.int .i64 0, .int .i64 0, .int .i64 0, .int .i64 0] 63 (0, 0)) ∧ W.heap[w.heap.size + 1 + 1]? = some (.cells #[.string ⟨#[]⟩, .int .i64 0, .int .i64 0, .bool false] 67 (0, 0)) ∧ Below w.heap.size w W) ⟨R3a.out, R4a.out, R1a.out, R2a.out, E3.out⟩ ?_
    clear R3a R4a R1a R2a E3 k0 f0 k1 f1 k2 f2 k3 f3
    rintro W3 ⟨q3, q4, q1, q2, q5⟩
    have R3' := hide q3
    have R4' := hide q4
    have R1' := hide q1
    have R2' := hide q2
    have E2 := hide q5
    clear q1 q2 q3 q4 q5
    obtain ⟨c0, c1, c2, c3⟩ := row4m R3'.out
    obtain ⟨d0, d1, d2, d3⟩ := row4m R4'.out
    have S0 := hide (And.intro (And.intro c0 (And.intro c1 (And.intro c2 c3))) (And.intro d0 (And.intro d1 (And.intro d2 d3))))
    obtain ⟨⟨k0, f0⟩, ⟨k1, f1⟩, ⟨k2, f2⟩, ⟨k3, f3⟩, rp⟩ := store4m R1'.out (.int .i64 0) (.int .i64 2) (.int .i64 0) (.int .i64 0)
    obtain ⟨⟨j0, g0⟩, ⟨j1, g1⟩, ⟨j2, g2⟩, ⟨j3, g3⟩, rq⟩ := store4m ((heap4o Hqp.out (.int .i64 0) (.int .i64 2) (.int .i64 0) (.int .i64 0)).trans R2'.out) (.string mm) (.int .i64 st) (.int .i64 N) (.bool T')
    have RP := hide ((heap4o Hpq.out (.string mm) (.int .i64 st) (.int .i64 N) (.bool T')).trans rp)
    have RQ := hide rq
    have EE := hide (below4m (below4m E2.out Hp.out (.int .i64 0) (.int .i64 2) (.int .i64 0) (.int .i64 0)) Hq.out (.string mm) (.int .i64 st) (.int .i64 N) (.bool T'))
    clear rp rq
    have RPd : Hid ((set4 (set4 W3 (w.heap.size + 1) (.int .i64 0) (.int .i64 2) (.int .i64 0) (.int .i64 0)) (w.heap.size + 1 + 1) (.string mm) (.int .i64 st) (.int .i64 N) (.bool T')).drew.heap[w.heap.size + 1]? = some (.cells #[.int .i64 0, .int .i64 2, .int .i64 0, .int .i64 0] 63 (0, 0))) := heapDrew RP.out
    have RQd : Hid ((set4 (set4 W3 (w.heap.size + 1) (.int .i64 0) (.int .i64 2) (.int .i64 0) (.int .i64 0)) (w.heap.size + 1 + 1) (.string mm) (.int .i64 st) (.int .i64 N) (.bool T')).drew.heap[w.heap.size + 1 + 1]? = some (.cells #[.string mm, .int .i64 st, .int .i64 N, .bool T'] 67 (0, 0))) := heapDrew RQ.out
    have EEd : Hid (Below w.heap.size w (set4 (set4 W3 (w.heap.size + 1) (.int .i64 0) (.int .i64 2) (.int .i64 0) (.int .i64 0)) (w.heap.size + 1 + 1) (.string mm) (.int .i64 st) (.int .i64 N) (.bool T')).drew) := EE.out.drew
    go_region_held3 (fun W => (W.cell? ⟨w1.heap.size, 0, none⟩ = some (.int .i64 0) ∧ W.cell? ⟨w1.heap.size, 1, none⟩ = some (.int .i64 2) ∧ W.cell? ⟨w1.heap.size, 2, none⟩ = some (.int .i64 0) ∧ W.cell? ⟨w1.heap.size, 3, none⟩ = some (.int .i64 0)) ∧ W.cell? ⟨w1.heap.size + 1, 0, none⟩ = some (.string mm) ∧ W.cell? ⟨w1.heap.size + 1, 1, none⟩ = some (.int .i64 st) ∧ W.cell? ⟨w1.heap.size + 1, 2, none⟩ = some (.int .i64 N) ∧ W.cell? ⟨w1.heap.size + 1, 3, none⟩ = some (.bool T'))
      ((first | with_reducible exact S0.out | (simp only [World.cell?_drew, cell4 Hb0p.out, cell4 Hb3p.out, cell4 Hb0q.out, cell4 Hb3q.out]; with_reducible exact S0.out)))
      ((fail))
    all_goals
      first
        | with_reducible refine absM (set4 (set4 W3 (w.heap.size + 1) (.int .i64 0) (.int .i64 2) (.int .i64 0) (.int .i64 0)) (w.heap.size + 1 + 1) (.string mm) (.int .i64 st) (.int .i64 N) (.bool T')).drew (fun W => W.heap[w.heap.size + 1]? = some (.cells #[.int .i64 0, .int .i64 2, .int .i64 0, .int .i64 0] 63 (0, 0)) ∧ W.heap[w.heap.size + 1 + 1]? = some (.cells #[.string mm, .int .i64 st, .int .i64 N, .bool T'] 67 (0, 0)) ∧ Below w.heap.size w W) ⟨RPd.out, RQd.out, EEd.out⟩ ?_
        | with_reducible refine absM (set4 (set4 W3 (w.heap.size + 1) (.int .i64 0) (.int .i64 2) (.int .i64 0) (.int .i64 0)) (w.heap.size + 1 + 1) (.string mm) (.int .i64 st) (.int .i64 N) (.bool T')) (fun W => W.heap[w.heap.size + 1]? = some (.cells #[.int .i64 0, .int .i64 2, .int .i64 0, .int .i64 0] 63 (0, 0)) ∧ W.heap[w.heap.size + 1 + 1]? = some (.cells #[.string mm, .int .i64 st, .int .i64 N, .bool T'] 67 (0, 0)) ∧ Below w.heap.size w W) ⟨RP.out, RQ.out, EE.out⟩ ?_
      clear k0 f0 k1 f1 k2 f2 k3 f3 j0 g0 j1 g1 j2 g2 j3 g3 RP RQ EE RPd RQd EEd S0 c0 c1 c2 c3 d0 d1 d2 d3
      rintro WW ⟨rP, rQ, eE⟩
      have EEf := hide eE
      obtain ⟨n0, n1, n2, n3⟩ := row4m rP
      obtain ⟨o0, o1, o2, o3⟩ := row4m rQ
      clear rP rQ eE
      go_wp2_with fail
      refine bodyPost_ret (v := .tuple #[.agg #[.int .i64 0, .int .i64 2, .int .i64 0, .int .i64 0], .agg #[.string mm, .int .i64 st, .int .i64 N, .bool T'], .int .i64 0]) ?_ rfl ⟨rfl, EEf.out⟩
      rw [results_cct rfl]
      go_simp
end Go.Proofs.YtpohgehojmeodaaDoor
