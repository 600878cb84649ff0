/- Layer 14: what any frame says, or how it is wrong: the law's walk. -/
import Derived.Test.YtpnjamomkpkkeaaFsc
import Derived.Test.YtpnjamomkpkkeaaFrg
namespace Go.Proofs.Ytpnjamomkpkkeaa
set_option linter.unusedVariables false
set_option linter.unusedSimpArgs false
open Go.RowKit

theorem smB_selfZ (T fl st pd : Int) (n : Nat) (f : Nat → Int) (n2 : Nat) (s1 t1 : Nat → Int) (wt pa pm la co sp : Int) (al : Bool) : smB T fl st pd T fl st pd n n f f n2 n2 s1 t1 s1 t1 wt pa pm la co sp wt pa pm la co sp al al = true := by
  have h1 : sameB n n f f = true := sameB_yes rfl fun _ _ => rfl
  have h2 : same2B n2 n2 s1 t1 s1 t1 = true := decide_eq_true ⟨rfl, fun _ _ => ⟨rfl, rfl⟩⟩
  unfold smB
  rw [h1, h2]
  simp
theorem alloc2r (w : World) (a1 a2 : Array Value) (T1 T2 : TypeId) : ((w.alloc (.cells a1 T1)).alloc (.cells a2 T2)).heap[w.heap.size]? = some (.cells a1 T1 (0, 0)) ∧ ((w.alloc (.cells a1 T1)).alloc (.cells a2 T2)).heap[w.heap.size + 1]? = some (.cells a2 T2 (0, 0)) ∧ Below w.heap.size w ((w.alloc (.cells a1 T1)).alloc (.cells a2 T2)) := heap2f w a1 a2 T1 T2
set_option maxHeartbeats 3200000 in
theorem rright14 (fm T fl st : Int) (rs : Bool) (A : Option Addr) (n c : Nat) (b : Bool) (hb : decide (HdR n T fl st) = b) (w : World) : Calls Try.prog 62 #[.agg #[.int .i64 fm, .int .i64 T, .int .i64 fl, .int .i64 st, .bool rs, .slice A n c]] w fun e w' => e = .returned (.bool b) ∧ Below w.heap.size w w' := by
  have R0 := hide (heap_alloc_new w (.cells #[.int .i64 fm, .int .i64 T, .int .i64 fl, .int .i64 st, .bool rs, .slice A n c] 29))
  have E0 := hide ((Below.refl w.heap.size w).alloc (Nat.le_refl _) (.cells #[.int .i64 fm, .int .i64 T, .int .i64 fl, .int .i64 st, .bool rs, .slice A n c] 29))
  obtain ⟨s0, s1, s2, s3, s4, s5⟩ := row6 R0.out
  have HB := hide hb
  clear hb
  by_cases t0 : 0 ≤ T
  · by_cases t1 : T < 256
    · by_cases f0 : 0 ≤ fl
      · by_cases f1 : fl < 256
        · by_cases q0 : 0 ≤ st
          · by_cases q1 : st < 2147483648
            · by_cases n1 : (n : Int) < 16777216
              · have hv : b = true := by rw [← HB.out]; exact decide_eq_true (by unfold HdR; omega)
                subst hv
                have := decide_eq_true t0; have := decide_eq_true t1; have := decide_eq_true f0; have := decide_eq_true f1; have := decide_eq_true q0; have := decide_eq_true q1; have := decide_eq_true n1
                clear t0 t1 f0 f1 q0 q1 n1 HB
                go_enter Try.func62, Try.ntmps62; go_wp2; go_ret; exact ⟨rfl, E0.out⟩
              · have hv : b = false := by rw [← HB.out]; exact decide_eq_false (by unfold HdR; omega)
                subst hv
                have := decide_eq_true t0; have := decide_eq_true t1; have := decide_eq_true f0; have := decide_eq_true f1; have := decide_eq_true q0; have := decide_eq_true q1; have := decide_eq_false n1
                clear t0 t1 f0 f1 q0 q1 n1 HB
                go_enter Try.func62, Try.ntmps62; go_wp2; go_ret; exact ⟨rfl, E0.out⟩
            · have hv : b = false := by rw [← HB.out]; exact decide_eq_false (by unfold HdR; omega)
              subst hv
              have := decide_eq_true t0; have := decide_eq_true t1; have := decide_eq_true f0; have := decide_eq_true f1; have := decide_eq_true q0; have := decide_eq_false q1
              clear t0 t1 f0 f1 q0 q1 HB
              go_enter Try.func62, Try.ntmps62; go_wp2; go_ret; exact ⟨rfl, E0.out⟩
          · have hv : b = false := by rw [← HB.out]; exact decide_eq_false (by unfold HdR; omega)
            subst hv
            have := decide_eq_true t0; have := decide_eq_true t1; have := decide_eq_true f0; have := decide_eq_true f1; have := decide_eq_false q0
            clear t0 t1 f0 f1 q0 HB
            go_enter Try.func62, Try.ntmps62; go_wp2; go_ret; exact ⟨rfl, E0.out⟩
        · have hv : b = false := by rw [← HB.out]; exact decide_eq_false (by unfold HdR; omega)
          subst hv
          have := decide_eq_true t0; have := decide_eq_true t1; have := decide_eq_true f0; have := decide_eq_false f1
          clear t0 t1 f0 f1 HB
          go_enter Try.func62, Try.ntmps62; go_wp2; go_ret; exact ⟨rfl, E0.out⟩
      · have hv : b = false := by rw [← HB.out]; exact decide_eq_false (by unfold HdR; omega)
        subst hv
        have := decide_eq_true t0; have := decide_eq_true t1; have := decide_eq_false f0
        clear t0 t1 f0 HB
        go_enter Try.func62, Try.ntmps62; go_wp2; go_ret; exact ⟨rfl, E0.out⟩
    · have hv : b = false := by rw [← HB.out]; exact decide_eq_false (by unfold HdR; omega)
      subst hv
      have := decide_eq_true t0; have := decide_eq_false t1
      clear t0 t1 HB
      go_enter Try.func62, Try.ntmps62; go_wp2; go_ret; exact ⟨rfl, E0.out⟩
  · have hv : b = false := by rw [← HB.out]; exact decide_eq_false (by unfold HdR; omega)
    subst hv
    have := decide_eq_false t0
    clear t0 HB
    go_enter Try.func62, Try.ntmps62; go_wp2; go_ret; exact ⟨rfl, E0.out⟩

end Go.Proofs.Ytpnjamomkpkkeaa
