/- Layer 29: fields that come at first, where they are a whole message's. -/
import Derived.Test.YtpohgehojmeodaaDoorTa4
import Derived.Deep.Cut
namespace Go.Proofs.YtpohgehojmeodaaDoor
set_option linter.unusedVariables false
set_option linter.unusedSimpArgs false
open Go.RowKit Go.PlainAid

theorem heapDrew {w : World} {p : Nat} {o : Option Obj} (h : w.heap[p]? = o) : w.drew.heap[p]? = o := h
set_option maxRecDepth 100000 in
set_option maxHeartbeats 3200000 in
theorem fields29 (o m l : Int) (A : Option Addr) (n c : Nat) (F : Nat → Fd) (fin : Bool) (w : World) (ha : RdFd w A n c F) (hs : Sm28 F n) (T : TypeId) (fr : Nat × Nat) (hg : w.heap[6]? = some (.cells barV T fr))
    {mm : ByteArray} {st N : Int} {T' : Bool} (hk : ChkR (if o = 0 then 0 else 1) F n mm st N T' 0) (hi : (decide (100 ≤ st) && decide (st ≤ 199)) = false) :
    Calls Tryd.prog 93 #[.agg #[.int .i64 o, .int .i64 0, .int .i64 m, .int .i64 l], .slice A n c, .bool fin] w fun e w' => e = .returned (.tuple #[.agg #[.int .i64 0, .int .i64 1, .int .i64 (behM o mm st T'), .int .i64 (behL o mm st N T')], .agg #[.string mm, .int .i64 st, .int .i64 N, .bool T'], .int .i64 0]) ∧ Below w.heap.size w w' := by
  obtain ⟨r0, r1, r2, e0⟩ := heap3m w #[.int .i64 o, .int .i64 0, .int .i64 m, .int .i64 l] #[.int .i64 0, .int .i64 0, .int .i64 0, .int .i64 0] #[.string ⟨#[]⟩, .int .i64 0, .int .i64 0, .bool false] 63 63 67
  have R0 := hide r0
  have R1 := hide r1
  have R2 := hide r2
  have E0 := hide e0
  have A0 := hide (ha.below e0)
  have G0 := hide ((e0.block _ (rowLt hg)).trans hg)
  have Hs := hide hs
  have HK := hide hk
  have HI := hide hi
  clear r0 r1 r2 e0 ha hg hs hk hi
  go_enter Tryd.func93, Tryd.ntmps93
  go_upto_region 1 with (fail)
  generalize ((w.alloc (.cells #[.int .i64 o, .int .i64 0, .int .i64 m, .int .i64 l] 63)).alloc (.cells #[.int .i64 0, .int .i64 0, .int .i64 0, .int .i64 0] 63)).alloc (.cells #[.string ⟨#[]⟩, .int .i64 0, .int .i64 0, .bool false] 67) = W0 at *
  have Hp : Hid (w.heap.size ≤ w.heap.size + 1) := Nat.le_succ _
  have Hq : Hid (w.heap.size ≤ w.heap.size + 1 + 1) := by show _ ≤ _; omega
  have Hpq : Hid (w.heap.size + 1 ≠ w.heap.size + 1 + 1) := by show _ ≠ _; omega
  have Hqp : Hid (w.heap.size + 1 + 1 ≠ w.heap.size + 1) := by show _ ≠ _; omega
  obtain ⟨c0, c1, c2, c3⟩ := row4m R0.out
  obtain ⟨x2, hx2⟩ : ∃ x, x = behM o mm st T' := ⟨_, rfl⟩
  obtain ⟨x3, hx3⟩ : ∃ x, x = behL o mm st N T' := ⟨_, rfl⟩
  have HX2 := hide hx2
  have HX3 := hide hx3
  clear hx2 hx3
  go_wp2_with fail
  refine (first29 o 0 m l A n c F fin _ A0.out Hs.out T fr G0.out HK.out HI.out).mono ?_
  rw [← HX2.out, ← HX3.out]
  rintro e w1 ⟨rfl, hb1⟩
  have R1' := hide (keepRow R1.out hb1)
  have R2' := hide (keepRow R2.out hb1)
  have E1 := hide (E0.out.of hb1)
  clear hb1 R0 R1 R2 E0 A0 G0 c0 c1 c2 c3
  obtain ⟨⟨k0, f0⟩, ⟨k1, f1⟩, ⟨k2, f2⟩, ⟨k3, f3⟩, rp⟩ := store4m R1'.out (.int .i64 0) (.int .i64 1) (.int .i64 x2) (.int .i64 x3)
  obtain ⟨⟨j0, g0⟩, ⟨j1, g1⟩, ⟨j2, g2⟩, ⟨j3, g3⟩, rq⟩ := store4m ((heap4o Hqp.out (.int .i64 0) (.int .i64 1) (.int .i64 x2) (.int .i64 x3)).trans R2'.out) (.string mm) (.int .i64 st) (.int .i64 N) (.bool T')
  have RP := hide ((heap4o Hpq.out (.string mm) (.int .i64 st) (.int .i64 N) (.bool T')).trans rp)
  have RQ := hide rq
  have EE := hide (below4m (below4m E1.out Hp.out (.int .i64 0) (.int .i64 1) (.int .i64 x2) (.int .i64 x3)) Hq.out (.string mm) (.int .i64 st) (.int .i64 N) (.bool T'))
  clear rp rq
  go_wp2_with fail
  obtain ⟨n0, n1, n2, n3⟩ := row4m RP.out
  obtain ⟨o0, o1, o2, o3⟩ := row4m RQ.out
  refine bodyPost_ret (v := .tuple #[.agg #[.int .i64 0, .int .i64 1, .int .i64 x2, .int .i64 x3], .agg #[.string mm, .int .i64 st, .int .i64 N, .bool T'], .int .i64 0]) ?_ rfl ⟨by rw [HX2.out, HX3.out], EE.out⟩
  rw [results_cct rfl]
  go_simp
end Go.Proofs.YtpohgehojmeodaaDoor
