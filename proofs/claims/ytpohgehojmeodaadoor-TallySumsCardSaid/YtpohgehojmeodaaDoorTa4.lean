/- Layer 29: the first fields, where they are a whole message's. -/
import Derived.Test.YtpohgehojmeodaaDoorTa2
import Derived.Deep.Cut
import Derived.Deep.RegionHeld3
namespace Go.Proofs.YtpohgehojmeodaaDoor
set_option linter.unusedVariables false
set_option linter.unusedSimpArgs false
open Go.RowKit Go.PlainAid

set_option maxRecDepth 100000 in
set_option maxHeartbeats 6400000 in
theorem first29 (o p m l : Int) (A : Option Addr) (n c : Nat) (F : Nat → Fd) (fin : Bool) (w : World) (ha : RdFd w A n c F) (hs : Sm28 F n) (T : TypeId) (fr : Nat × Nat) (hg : w.heap[6]? = some (.cells barV T fr))
    {mm : ByteArray} {st N : Int} {T' : Bool} (hk : ChkR (if o = 0 then 0 else 1) F n mm st N T' 0) (hi : (decide (100 ≤ st) && decide (st ≤ 199)) = false) :
    Calls Tryd.prog 113 #[.agg #[.int .i64 o, .int .i64 p, .int .i64 m, .int .i64 l], .slice A n c, .bool fin] w fun e w' => e = .returned (.tuple #[.agg #[.int .i64 0, .int .i64 1, .int .i64 (behM o mm st T'), .int .i64 (behL o mm st N T')], .agg #[.string mm, .int .i64 st, .int .i64 N, .bool T'], .int .i64 0]) ∧ Below w.heap.size w w' := by
  obtain ⟨r0, r1, r2, e0⟩ := heap3m w #[.int .i64 o, .int .i64 p, .int .i64 m, .int .i64 l] #[.int .i64 0, .int .i64 0, .int .i64 0, .int .i64 0] #[.string ⟨#[]⟩, .int .i64 0, .int .i64 0, .bool false] 63 63 67
  have R0 := hide r0
  have R1 := hide r1
  have R2 := hide r2
  have E0 := hide e0
  have A0 := hide (ha.below e0)
  have G0 := hide ((e0.block _ (rowLt hg)).trans hg)
  have Hs := hide hs
  have HK := hide hk
  have HI := hide hi
  clear r0 r1 r2 e0 ha hg hs hk hi
  go_enter Tryd.func113, Tryd.ntmps113
  go_upto_region 1 with (fail)
  generalize ((w.alloc (.cells #[.int .i64 o, .int .i64 p, .int .i64 m, .int .i64 l] 63)).alloc (.cells #[.int .i64 0, .int .i64 0, .int .i64 0, .int .i64 0] 63)).alloc (.cells #[.string ⟨#[]⟩, .int .i64 0, .int .i64 0, .bool false] 67) = W0 at *
  have Hp : Hid (w.heap.size ≤ w.heap.size + 1) := Nat.le_succ _
  have Hq : Hid (w.heap.size ≤ w.heap.size + 1 + 1) := by show _ ≤ _; omega
  have Hpq : Hid (w.heap.size + 1 ≠ w.heap.size + 1 + 1) := by show _ ≠ _; omega
  have Hqp : Hid (w.heap.size + 1 + 1 ≠ w.heap.size + 1) := by show _ ≠ _; omega
  have Hb0p : Hid (w.heap.size ≠ w.heap.size + 1) := by show _ ≠ _; omega
  have Hb0q : Hid (w.heap.size ≠ w.heap.size + 1 + 1) := by show _ ≠ _; omega
  obtain ⟨c0, c1, c2, c3⟩ := row4m R0.out
  go_wp2_with fail
  refine (kind29 o p m l _).mono ?_
  rintro e w1 ⟨rfl, hb1⟩
  have R0a := hide (keepRow R0.out hb1)
  have R1a := hide (keepRow R1.out hb1)
  have R2a := hide (keepRow R2.out hb1)
  have E1 := hide (E0.out.of hb1)
  have A1 := hide (A0.out.below hb1)
  have G1 := hide ((hb1.block _ (rowLt G0.out)).trans G0.out)
  clear hb1 R0 R1 R2 E0 A0 G0 c0 c1 c2 c3
  obtain ⟨kd, hkd⟩ : ∃ k : Int, k = (if o = 0 then 0 else 1) := ⟨_, rfl⟩
  rw [← hkd] at HK ⊢
  clear hkd
  go_wp2_with fail
  refine (check28 kd A n c F _ A1.out Hs.out T fr G1.out).mono ?_
  rintro e w2 ⟨m', s', n', t', rule, rfl, hr, hb2⟩
  obtain ⟨rfl, rfl, rfl, rfl, rfl⟩ := HK.out.same hr
  have al2 := (Below.refl w2.heap.size w2).alloc (Nat.le_refl _) (.cells #[.string mm, .int .i64 st, .int .i64 N, .bool T'] 67)
  have R0' := hide (keepRow R0a.out (hb2.of al2))
  have R1' := hide (keepRow R1a.out (hb2.of al2))
  have R2' := hide (keepRow R2a.out (hb2.of al2))
  have R3' := hide (heap_alloc_new w2 (.cells #[.string mm, .int .i64 st, .int .i64 N, .bool T'] 67))
  have E2 := hide (E1.out.of (hb2.of al2))
  have hl2 := rowLt (keepRow R2a.out hb2)
  have Hb3p : Hid (w2.heap.size ≠ w.heap.size + 1) := by show _ ≠ _; omega
  have Hb3q : Hid (w2.heap.size ≠ w.heap.size + 1 + 1) := by show _ ≠ _; omega
  clear hr hb2 al2 R0a R1a R2a E1 A1 G1
  obtain ⟨d0, d1, d2, d3⟩ := row4m R3'.out
  have t0 : ((0 : Int) != 0) = false := rfl
  go_wp2_with fail
  refine (interim29 st _).mono ?_
  rw [HI.out]
  rintro e wl ⟨rfl, rfl⟩
  clear d0 d1 d2 d3
  go_upto_region 5 with (fail)
  generalize w2.alloc (.cells #[.string mm, .int .i64 st, .int .i64 N, .bool T'] 67) = W3 at *
  generalize w2.heap.size = b3 at *
  obtain ⟨c0, c1, c2, c3⟩ := row4m R0'.out
  obtain ⟨d0, d1, d2, d3⟩ := row4m R3'.out
  have S0 := hide (And.intro (And.intro c0 (And.intro c1 (And.intro c2 c3))) (And.intro d0 (And.intro d1 (And.intro d2 d3))))
  obtain ⟨x2, hx2⟩ : ∃ x, x = behM o mm st T' := ⟨_, rfl⟩
  obtain ⟨x3, hx3⟩ : ∃ x, x = behL o mm st N T' := ⟨_, rfl⟩
  have HX2 := hide hx2
  have HX3 := hide hx3
  clear hx2 hx3
  go_region_held3 (fun W => (W.cell? ⟨w.heap.size, 0, none⟩ = some (.int .i64 o) ∧ W.cell? ⟨w.heap.size, 1, none⟩ = some (.int .i64 p) ∧ W.cell? ⟨w.heap.size, 2, none⟩ = some (.int .i64 m) ∧ W.cell? ⟨w.heap.size, 3, none⟩ = some (.int .i64 l)) ∧ W.cell? ⟨b3, 0, none⟩ = some (.string mm) ∧ W.cell? ⟨b3, 1, none⟩ = some (.int .i64 st) ∧ W.cell? ⟨b3, 2, none⟩ = some (.int .i64 N) ∧ W.cell? ⟨b3, 3, none⟩ = some (.bool T'))
    ((first | (simp only [World.cell?_drew, cell4 Hb0p.out, cell4 Hb3p.out, cell4 Hb0q.out, cell4 Hb3q.out]; first | exact S0.out | exact S5.out) | exact S5.out | exact S0.out))
    ((first
      | (go_at_call 134; (with_reducible refine (behind29 o p m l mm st N T' _).mono ?_); rintro e w5 ⟨rfl, hb5⟩; rw [← HX2.out, ← HX3.out]; have hb6 : Below W3.heap.size W3 w5 := (by first | exact ((Below.refl W3.heap.size W3).drew).of hb5 | exact hb5); have S5 := hide (And.intro (And.intro ((hb6.cell (World.block_lt_of_cell? W3 _ c0)).trans c0) (And.intro ((hb6.cell (World.block_lt_of_cell? W3 _ c1)).trans c1) (And.intro ((hb6.cell (World.block_lt_of_cell? W3 _ c2)).trans c2) ((hb6.cell (World.block_lt_of_cell? W3 _ c3)).trans c3)))) (And.intro ((hb6.cell (World.block_lt_of_cell? W3 _ d0)).trans d0) (And.intro ((hb6.cell (World.block_lt_of_cell? W3 _ d1)).trans d1) (And.intro ((hb6.cell (World.block_lt_of_cell? W3 _ d2)).trans d2) ((hb6.cell (World.block_lt_of_cell? W3 _ d3)).trans d3))))); have R1b := hide (keepRow R1'.out hb6); have R2b := hide (keepRow R2'.out hb6); have E5 := hide (E2.out.of hb6); clear hb6; obtain ⟨⟨k0, f0⟩, ⟨k1, f1⟩, ⟨k2, f2⟩, ⟨k3, f3⟩, rp⟩ := store4m R1b.out (.int .i64 0) (.int .i64 1) (.int .i64 x2) (.int .i64 x3); obtain ⟨⟨j0, g0⟩, ⟨j1, g1⟩, ⟨j2, g2⟩, ⟨j3, g3⟩, rq⟩ := store4m ((heap4o Hqp.out (.int .i64 0) (.int .i64 1) (.int .i64 x2) (.int .i64 x3)).trans R2b.out) (.string mm) (.int .i64 st) (.int .i64 N) (.bool T'); have RP := hide ((heap4o Hpq.out (.string mm) (.int .i64 st) (.int .i64 N) (.bool T')).trans rp); have RQ := hide rq; obtain ⟨⟨k0', f0'⟩, ⟨k1', f1'⟩, ⟨k2', f2'⟩, ⟨k3', f3'⟩, rq'⟩ := store4m R2b.out (.string mm) (.int .i64 st) (.int .i64 N) (.bool T'); obtain ⟨⟨j0', g0'⟩, ⟨j1', g1'⟩, ⟨j2', g2'⟩, ⟨j3', g3'⟩, rp'⟩ := store4m ((heap4o Hpq.out (.string mm) (.int .i64 st) (.int .i64 N) (.bool T')).trans R1b.out) (.int .i64 0) (.int .i64 1) (.int .i64 x2) (.int .i64 x3); have RQ' := hide ((heap4o Hqp.out (.int .i64 0) (.int .i64 1) (.int .i64 x2) (.int .i64 x3)).trans rq'); have RP' := hide rp'; have EE := hide (below4m (below4m E5.out Hp.out (.int .i64 0) (.int .i64 1) (.int .i64 x2) (.int .i64 x3)) Hq.out (.string mm) (.int .i64 st) (.int .i64 N) (.bool T')); have EE' := hide (below4m (below4m E5.out Hq.out (.string mm) (.int .i64 st) (.int .i64 N) (.bool T')) Hp.out (.int .i64 0) (.int .i64 1) (.int .i64 x2) (.int .i64 x3)); clear rp rq rp' rq')))
  all_goals
    clear k0 f0 k1 f1 k2 f2 k3 f3 j0 g0 j1 g1 j2 g2 j3 g3 k0' f0' k1' f1' k2' f2' k3' f3' j0' g0' j1' g1' j2' g2' j3' g3' RP' RQ' EE'
    go_wp2_with fail
    obtain ⟨n0, n1, n2, n3⟩ := row4m RP.out
    obtain ⟨o0, o1, o2, o3⟩ := row4m RQ.out
    refine bodyPost_ret (v := .tuple #[.agg #[.int .i64 0, .int .i64 1, .int .i64 x2, .int .i64 x3], .agg #[.string mm, .int .i64 st, .int .i64 N, .bool T'], .int .i64 0]) ?_ rfl ⟨by rw [HX2.out, HX3.out], EE.out⟩
    rw [results_cct rfl]
    go_simp
end Go.Proofs.YtpohgehojmeodaaDoor
