/- Layer 21: the reference's Resize and Add. -/
import Derived.Test.YteikpdolickkaaaDz3
import Derived.Deep.Cut
namespace Go.Proofs.Yteikpdolickkaaa
open Go.RowKit Go.Deep

section
variable {P : Program} {e : TypeId} {w : World} {ops : Array Oper} {o : Oper} {a : Act} {K : Act → World → Prop} {Q : Exit → Act → World → Prop} {E : Prop}
theorem step_appD (hgd : o.guard = none) (s x : Operand) (t : TypeId) (ho : o.op = .call { callee := .builtin .append, args := #[s, x], argTypes := #[t, t] })
    (sz : Nat) (i : TypeInfo) (z : Value) (bytes : Nat) (ht : P.underlying t = some (.slice e)) (hi : P.info? e = some i) (hz : i.zero = some z) (hsize : i.size = sz) (hby : i.bytes = bytes) (hzs : z.cells.size = sz) (hs0 : 0 < sz)
    (B : Nat) (v : Value) (n : Nat) (F : Nat → Value) (hs : a.eval s = v) (hown : OwnV sz e B w v n F) (A : Option Addr) (m c : Nat) (G : Nat → Value) (hx : a.eval x = .slice A m c) (hr : RdV sz w A m c G) (hG : ∀ i, i < m * sz → (G i).oneCell' = true)
    (h63 : n + m ≤ maxLen) (hbytes : (n + m) * bytes ≤ 140737488355328) (hbase : B ≤ w.heap.size)
    (h : ∀ v' w', OwnV sz e B w' v' (n + m) (catV (n * sz) F G) → w.grownBy w' v.ownBlock → (v'.ownBlock = v.ownBlock ∨ v'.ownBlock = some w.heap.size) → K (a.put o.dst v') w') :
    if Region.wanted o (yielded ops a.tmps) = true then Oper.wp P o a w K Q else E := by
  rw [if_pos (by simp [Region.wanted, hgd])]
  obtain ⟨v', w', hrun, h2, h3, h4⟩ := run_appV (P := P) sz t o.type i z bytes ht hi hz hsize hby hzs hs0 B v n F hown A m c G hr hG h63 hbytes hbase
  unfold Oper.wp execOp
  simp only [ho, resolve, invoke, builtin, Sem.run_bind, Sem.run_pure, Result.andThen_ok, List.map_toArray, List.map_cons, List.map_nil, hs, hx, hrun]
  exact h v' w' h2 h3 h4
end
theorem results_cellD {fn : Func} {p : Tmp} {ty : TypeId} (h : fn.results = #[.cell p ty]) (tmps : Array Value) (P : Program) (w : World) :
    (results fn tmps).run P w = ((asAddr (tmps.getD p undef)).run P w).andThen fun a w' => (loadVar ty a).run P w' := by
  simp [results, h]
abbrev ini : Value := .agg #[.int .i64 4096, .int .i64 1, .int .i64 4294967296, .int .i64 65535, .int .i64 16384, .int .i64 4294967296]
theorem RdV.set21 {s : Nat} {w : World} {A : Option Addr} {n c : Nat} {F : Nat → Value} (h : RdV s w A n c F) {q : Nat} (hq : ∀ a, A = some a → a.block ≠ q) (j : Nat) (u : Value) : RdV s (w.setCell ⟨q, j, none⟩ u) A n c F :=
  ⟨h.1, h.2.1, h.2.2.1, fun hn => by
    obtain ⟨b, off, hA, hc⟩ := h.2.2.2 hn
    refine ⟨b, off, hA, fun i hi => ?_⟩
    rw [World.cell?_setCell_other _ _ _ _ (fun hh => hq _ hA (by injection hh with h6 _ _; exact h6.symm))]
    exact hc i hi⟩
theorem set2t {w : World} {p : Nat} {T : TypeId} {a0 a1 : Value} (h : w.heap[p]? = some (.cells #[a0, a1] T (0, 0))) (b0 b1 : Value) :
    ((w.setCell ⟨p, 0, none⟩ b0).setCell ⟨p, 1, none⟩ b1).heap[p]? = some (.cells #[b0, b1] T (0, 0)) := by
  have h1 := setRow w p 0 b0 h
  have h2 := setRow _ p 1 b1 h1
  simp only [List.setIfInBounds_toArray, List.set_cons_zero, List.set_cons_succ] at h2
  exact h2
set_option maxRecDepth 20000 in
set_option maxHeartbeats 1600000 in
theorem rresize21 {w : World} {A : Option Addr} {n c : Nat} {mx : Int} {L : Nat → Fd} (h : RdV 3 w A n c (fdV L)) (hA : ∀ a, A = some a → a.block < w.heap.size) (hn : n ≤ 100) (hw : ∀ i, i < n → wt (L i) ≤ 500) (x : Int) :
    Calls Try.prog 27 #[.agg #[.slice A n c, .int .i64 mx], .int .i64 x] w fun e w' => ∃ A' k c', e = .returned (.agg #[.slice A' k c', .int .i64 x]) ∧ FitP L n x k ∧ RdV 3 w' A' k c' (fdV L) ∧ (∀ a, A' = some a → ∃ a0, A = some a0 ∧ a0.block = a.block) ∧ Below w.heap.size w w' := by
  have al0 := (Below.refl w.heap.size w).alloc (Nat.le_refl _) (.cells #[.slice A n c, .int .i64 mx] 50)
  have al := al0.alloc al0.size (.cells #[.slice none 0 0, .int .i64 0] 50)
  have R0 := keepRow (heap_alloc_new w (.cells #[.slice A n c, .int .i64 mx] 50)) ((Below.refl _ _).alloc (Nat.le_refl _) (.cells #[.slice none 0 0, .int .i64 0] 50))
  have R1 := heap_alloc_new (w.alloc (.cells #[.slice A n c, .int .i64 mx] 50)) (.cells #[.slice none 0 0, .int .i64 0] 50)
  have hq : (w.alloc (.cells #[.slice A n c, .int .i64 mx] 50)).heap.size = w.heap.size + 1 := by simp
  rw [hq] at R1
  have H0 := hide (h.below36O al)
  have HA := hide hA
  have HW := hide hw
  have E := hide al
  have HR1 := hide R1
  have HR0 := hide R0
  clear h hA hw al0 al R0 R1 hq
  go_enter Try.func27, Try.ntmps27
  go_upto_region 1 with (fail)
  generalize (w.alloc (.cells #[.slice A n c, .int .i64 mx] 50)).alloc (.cells #[.slice none 0 0, .int .i64 0] 50) = W0 at *
  obtain ⟨t0, t1⟩ := row2 HR0.out
  go_wp2_with fail
  refine (rfit21 (most := x) H0.out hn HW.out).mono ?_
  rintro e w2 ⟨A', k, c', rfl, hfit, hr, hA', hb⟩
  have K1 := keepRow HR1.out hb
  obtain ⟨s0, s1⟩ := row2 K1
  have z0 := frozenRow K1 0
  have z1 := frozenRow K1 1
  have HF := hide hfit
  have HA' := hide hA'
  have E2 := hide (E.out.of hb)
  have Hne : Hid (∀ a, A' = some a → a.block ≠ w.heap.size + 1) := fun a ha => by
    obtain ⟨a0, h1, h2⟩ := HA'.out a ha
    have := HA.out a0 h1
    omega
  have HR := hide hr
  clear hfit hA' hb K1 hr t0 t1
  go_wp2_with fail
  refine bodyPost_ret (v := .agg #[.slice A' k c', .int .i64 x]) ?_ rfl ⟨_, _, _, rfl, HF.out, (HR.out.set21 Hne.out 0 _).set21 Hne.out 1 _, HA'.out, (E2.out.setCell (Nat.le_succ _) _).setCell (Nat.le_succ _) _⟩
  rw [results_cellD rfl]
  go_simp
end Go.Proofs.Yteikpdolickkaaa
