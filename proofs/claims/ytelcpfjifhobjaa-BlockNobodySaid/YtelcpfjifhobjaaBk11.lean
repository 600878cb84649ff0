/- Layer 30: a frame is added to none, by the reference. -/
import Derived.Test.YtelcpfjifhobjaaBk10
import Derived.Test.YtelcpfjifhobjaaBk8
import Derived.Deep.CutRange
namespace Go.Proofs.Ytelcpfjifhobjaa
set_option linter.unusedVariables false
set_option linter.unusedSimpArgs false
open Go.RowKit

theorem results_tctt30 {fn : Func} {p u v x : Tmp} {t1 : TypeId} (h : fn.results = #[.tmp x, .cell p t1, .tmp u, .tmp v]) (tmps : Array Value) (P : Program) (w : World) :
    (results fn tmps).run P w = ((asAddr (tmps.getD p undef)).run P w).andThen fun a w₁ => ((loadVar t1 a).run P w₁).andThen fun y w₂ => .ok (.tuple #[tmps.getD x undef, y, tmps.getD u undef, tmps.getD v undef]) w₂ := by
  simp only [results, h]
  simp [Sem.run_bind, Result.andThen]
def cel30 (a : Array Value) (j : Nat) : Value := a.getD j undef
theorem cel30_one (T fl st pd : Int) (A : Option Addr) (n c : Nat) (A2 : Option Addr) (n2 c2 : Nat) (wt pa : Int) (al : Bool) (pm la co sp : Int) : ∀ i, i < 1 * 13 → (cel30 #[.int .i64 T, .int .i64 fl, .int .i64 st, .int .i64 pd, .slice A n c, .slice A2 n2 c2, .int .i64 wt, .int .i64 pa, .bool al, .int .i64 pm, .int .i64 la, .int .i64 co, .int .i64 sp] i).oneCell' = true := by
  intro i hi
  have h : i = 0 ∨ i = 1 ∨ i = 2 ∨ i = 3 ∨ i = 4 ∨ i = 5 ∨ i = 6 ∨ i = 7 ∨ i = 8 ∨ i = 9 ∨ i = 10 ∨ i = 11 ∨ i = 12 := by omega
  rcases h with rfl | rfl | rfl | rfl | rfl | rfl | rfl | rfl | rfl | rfl | rfl | rfl | rfl <;> rfl
theorem Below.growZ {B : Nat} {w w1 w2 : World} {b : Nat} (h : Below B w w1) (hg : w1.grownBy w2 (some b)) (hb : B ≤ b) (hB : B ≤ w1.heap.size) : Below B w w2 :=
  h.trans ⟨hg.os, hg.tape, hg.output, hg.size, fun i hi => hg.block i (by omega) (fun e => by have := Option.some.inj e; omega)⟩
section
variable {P : Program} {e : TypeId} {w : World} {ops : Array Oper} {o : Oper} {a : Act} {K : Act → World → Prop} {Q : Exit → Act → World → Prop} {E : Prop}
theorem step_appV30 (hgd : o.guard = none) (s x : Operand) (t : TypeId) (ho : o.op = .call { callee := .builtin .append, args := #[s, x], argTypes := #[t, t] })
    (sz : Nat) (i : TypeInfo) (z : Value) (bytes : Nat) (ht : P.underlying t = some (.slice e)) (hi : P.info? e = some i) (hz : i.zero = some z) (hsize : i.size = sz) (hby : i.bytes = bytes) (hzs : z.cells.size = sz) (hs0 : 0 < sz)
    (B : Nat) (v : Value) (n : Nat) (F : Nat → Value) (hs : a.eval s = v) (hown : OwnV sz e B w v n F) (A : Option Addr) (m c : Nat) (G : Nat → Value) (hx : a.eval x = .slice A m c) (hr : RdV sz w A m c G) (hG : ∀ i, i < m * sz → (G i).oneCell' = true)
    (h63 : n + m ≤ maxLen) (hbytes : (n + m) * bytes ≤ 140737488355328) (hbase : B ≤ w.heap.size)
    (h : ∀ v' w', OwnV sz e B w' v' (n + m) (catV (n * sz) F G) → w.grownBy w' v.ownBlock → (v'.ownBlock = v.ownBlock ∨ v'.ownBlock = some w.heap.size) → K (a.put o.dst v') w') :
    if Region.wanted o (yielded ops a.tmps) = true then Oper.wp P o a w K Q else E := by
  rw [if_pos (by simp [Region.wanted, hgd])]
  obtain ⟨v', w', hrun, h2, h3, h4⟩ := run_appV (P := P) sz t o.type i z bytes ht hi hz hsize hby hzs hs0 B v n F hown A m c G hr hG h63 hbytes hbase
  unfold Oper.wp execOp
  simp only [ho, resolve, invoke, builtin, Sem.run_bind, Sem.run_pure, Result.andThen_ok, List.map_toArray, List.map_cons, List.map_nil, hs, hx, hrun]
  exact h v' w' h2 h3 h4
end

theorem heap13y {w : World} {p q : Nat} (hne : q ≠ p) (b0 b1 b2 b3 b4 b5 b6 b7 b8 b9 b10 b11 b12 : Value) : (((((((((((((w.setCell ⟨p, 0, none⟩ b0).setCell ⟨p, 1, none⟩ b1).setCell ⟨p, 2, none⟩ b2).setCell ⟨p, 3, none⟩ b3).setCell ⟨p, 4, none⟩ b4).setCell ⟨p, 5, none⟩ b5).setCell ⟨p, 6, none⟩ b6).setCell ⟨p, 7, none⟩ b7).setCell ⟨p, 8, none⟩ b8).setCell ⟨p, 9, none⟩ b9).setCell ⟨p, 10, none⟩ b10).setCell ⟨p, 11, none⟩ b11).setCell ⟨p, 12, none⟩ b12).heap[q]? = w.heap[q]? := by
  rw [Below.heap_setCell _ ⟨p, 12, none⟩ _ _ hne, Below.heap_setCell _ ⟨p, 11, none⟩ _ _ hne, Below.heap_setCell _ ⟨p, 10, none⟩ _ _ hne, Below.heap_setCell _ ⟨p, 9, none⟩ _ _ hne, Below.heap_setCell _ ⟨p, 8, none⟩ _ _ hne, Below.heap_setCell _ ⟨p, 7, none⟩ _ _ hne, Below.heap_setCell _ ⟨p, 6, none⟩ _ _ hne, Below.heap_setCell _ ⟨p, 5, none⟩ _ _ hne, Below.heap_setCell _ ⟨p, 4, none⟩ _ _ hne, Below.heap_setCell _ ⟨p, 3, none⟩ _ _ hne, Below.heap_setCell _ ⟨p, 2, none⟩ _ _ hne, Below.heap_setCell _ ⟨p, 1, none⟩ _ _ hne, Below.heap_setCell _ ⟨p, 0, none⟩ _ _ hne]
theorem cell13y {w : World} {p b j : Nat} (hne : b ≠ p) (b0 b1 b2 b3 b4 b5 b6 b7 b8 b9 b10 b11 b12 : Value) : (((((((((((((w.setCell ⟨p, 0, none⟩ b0).setCell ⟨p, 1, none⟩ b1).setCell ⟨p, 2, none⟩ b2).setCell ⟨p, 3, none⟩ b3).setCell ⟨p, 4, none⟩ b4).setCell ⟨p, 5, none⟩ b5).setCell ⟨p, 6, none⟩ b6).setCell ⟨p, 7, none⟩ b7).setCell ⟨p, 8, none⟩ b8).setCell ⟨p, 9, none⟩ b9).setCell ⟨p, 10, none⟩ b10).setCell ⟨p, 11, none⟩ b11).setCell ⟨p, 12, none⟩ b12).cell? ⟨b, j, none⟩ = w.cell? ⟨b, j, none⟩ := by
  have hh := heap13y (w := w) hne b0 b1 b2 b3 b4 b5 b6 b7 b8 b9 b10 b11 b12
  unfold World.cell?
  simp only at hh ⊢
  rw [hh]
abbrev set13y_ (w : World) (p : Nat) (b0 b1 b2 b3 b4 b5 b6 b7 b8 b9 b10 b11 b12 : Value) : World := (((((((((((((w.setCell ⟨p, 0, none⟩ b0).setCell ⟨p, 1, none⟩ b1).setCell ⟨p, 2, none⟩ b2).setCell ⟨p, 3, none⟩ b3).setCell ⟨p, 4, none⟩ b4).setCell ⟨p, 5, none⟩ b5).setCell ⟨p, 6, none⟩ b6).setCell ⟨p, 7, none⟩ b7).setCell ⟨p, 8, none⟩ b8).setCell ⟨p, 9, none⟩ b9).setCell ⟨p, 10, none⟩ b10).setCell ⟨p, 11, none⟩ b11).setCell ⟨p, 12, none⟩ b12)
def RA30 (n : Nat) (bl : Bool) (P : Value → Prop) (w : World) (e : Ending) (w' : World) : Prop := ∃ (v fr : Value) (b : Bool) (en : Int), e = .returned (.tuple #[v, fr, .bool b, .int .i64 en]) ∧ Below w.heap.size w w' ∧ ((0 < n ∧ fr = .agg z13 ∧ b = false ∧ en = 9) ∨ (n = 0 ∧ bl = false ∧ fr = .agg z13 ∧ b = false ∧ en = 0) ∨ (n = 0 ∧ bl = true ∧ P fr ∧ b = true ∧ en = 0))
theorem RA30.mk {n : Nat} {bl : Bool} {P : Value → Prop} {w w' : World} {v fr : Value} {b : Bool} {en : Int} (hb : Below w.heap.size w w') (h : (0 < n ∧ fr = .agg z13 ∧ b = false ∧ en = 9) ∨ (n = 0 ∧ bl = false ∧ fr = .agg z13 ∧ b = false ∧ en = 0) ∨ (n = 0 ∧ bl = true ∧ P fr ∧ b = true ∧ en = 0)) : RA30 n bl P w (.returned (.tuple #[v, fr, .bool b, .int .i64 en])) w' := ⟨v, fr, b, en, rfl, hb, h⟩
theorem frame_info30 : (Try.prog.info? 28).map (fun i => (i.zero, i.size, i.bytes)) = some (some (.agg z13), 13, 136) := by kernel_rfl

set_option maxRecDepth 100000 in
set_option maxHeartbeats 3200000 in
theorem raddNo30 (T fl st pd : Int) (A : Option Addr) (n c : Nat) (f : Nat → Int) (A2 : Option Addr) (n2 c2 : Nat) (s t : Nat → Int) (wt pa : Int) (al : Bool) (pm la co sp : Int) (w : World) (h9 : T = 9) :
    Calls Try.prog 26 #[.slice none 0 0, .agg #[.int .i64 T, .int .i64 fl, .int .i64 st, .int .i64 pd, .slice A n c, .slice A2 n2 c2, .int .i64 wt, .int .i64 pa, .bool al, .int .i64 pm, .int .i64 la, .int .i64 co, .int .i64 sp], .int .i64 0] w (fun e w' => e = .returned (.tuple #[.slice none 0 0, .agg z13, .bool false, .int .i64 4]) ∧ Below w.heap.size w w') := by
  have d9 : (T != 9) = false := by simp [h9]
  clear h9
  obtain ⟨x0, x1, e0⟩ := heap2fZ w #[.int .i64 T, .int .i64 fl, .int .i64 st, .int .i64 pd, .slice A n c, .slice A2 n2 c2, .int .i64 wt, .int .i64 pa, .bool al, .int .i64 pm, .int .i64 la, .int .i64 co, .int .i64 sp] z13 28 28
  have R0 := hide x0
  have U0 := hide x1
  have E0 := hide e0
  obtain ⟨f0_, f1_, f2_, f3_, f4_, f5_, f6_, f7_, f8_, f9_, f10_, f11_, f12_⟩ := row13 R0.out
  have hW0 : Hid (((w.alloc (.cells #[.int .i64 T, .int .i64 fl, .int .i64 st, .int .i64 pd, .slice A n c, .slice A2 n2 c2, .int .i64 wt, .int .i64 pa, .bool al, .int .i64 pm, .int .i64 la, .int .i64 co, .int .i64 sp] 28)).alloc (.cells z13 28)).heap.size = w.heap.size + 1 + 1) := by show _ = _; simp
  clear x0 x1
  clear e0
  go_enter Try.func26, Try.ntmps26
  go_upto_region 1 with (fail)
  generalize (w.alloc (.cells #[.int .i64 T, .int .i64 fl, .int .i64 st, .int .i64 pd, .slice A n c, .slice A2 n2 c2, .int .i64 wt, .int .i64 pa, .bool al, .int .i64 pm, .int .i64 la, .int .i64 co, .int .i64 sp] 28)).alloc (.cells z13 28) = W0 at *
  go_wp2_with fail
  refine (rtakesNil30 T fl st pd A n c A2 n2 c2 wt pa al pm la co sp 0 _).mono ?_
  rintro e w1 ⟨rfl, hb⟩
  have R1 := hide (keepRow R0.out hb)
  have U1 := hide (keepRow U0.out hb)
  have E1 := hide (E0.out.of hb)
  have hs1 := hb.size
  clear R0 U0 E0 f0_ f1_ f2_ f3_ f4_ f5_ f6_ f7_ f8_ f9_ f10_ f11_ f12_
  clear hb
  obtain ⟨⟨k0_, z0_⟩, ⟨k1_, z1_⟩, ⟨k2_, z2_⟩, ⟨k3_, z3_⟩, ⟨k4_, z4_⟩, ⟨k5_, z5_⟩, ⟨k6_, z6_⟩, ⟨k7_, z7_⟩, ⟨k8_, z8_⟩, ⟨k9_, z9_⟩, ⟨k10_, z10_⟩, ⟨k11_, z11_⟩, ⟨k12_, z12_⟩, rz⟩ := store13 U1.out (.int .i64 0) (.int .i64 0) (.int .i64 0) (.int .i64 0) (.slice none 0 0) (.slice none 0 0) (.int .i64 0) (.int .i64 0) (.bool false) (.int .i64 0) (.int .i64 0) (.int .i64 0) (.int .i64 0)
  have gB := FrS.set13 (B := w.heap.size) (S := Q1 (w.heap.size + 1)) (by omega) (rowLt U1.out) rfl (.int .i64 0) (.int .i64 0) (.int .i64 0) (.int .i64 0) (.slice none 0 0) (.slice none 0 0) (.int .i64 0) (.int .i64 0) (.bool false) (.int .i64 0) (.int .i64 0) (.int .i64 0) (.int .i64 0)
  have RZ := hide rz
  have EF := hide (E1.out.trans gB.bel)
  clear rz gB
  go_wp2_with fail
  obtain ⟨n0_, n1_, n2_, n3_, n4_, n5_, n6_, n7_, n8_, n9_, n10_, n11_, n12_⟩ := row13 RZ.out
  refine bodyPost_ret (v := .tuple #[.slice none 0 0, .agg z13, .bool false, .int .i64 4]) ?_ rfl ⟨rfl, EF.out⟩
  rw [results_tctt30 rfl]
  go_simp

set_option maxRecDepth 100000 in
set_option maxHeartbeats 3200000 in
theorem raddSkip30 (T fl st pd : Int) (A : Option Addr) (n c : Nat) (f : Nat → Int) (A2 : Option Addr) (n2 c2 : Nat) (s t : Nat → Int) (wt pa : Int) (al : Bool) (pm la co sp : Int) (w : World) (h9 : T ≠ 9) (hP : partB T = false) :
    Calls Try.prog 26 #[.slice none 0 0, .agg #[.int .i64 T, .int .i64 fl, .int .i64 st, .int .i64 pd, .slice A n c, .slice A2 n2 c2, .int .i64 wt, .int .i64 pa, .bool al, .int .i64 pm, .int .i64 la, .int .i64 co, .int .i64 sp], .int .i64 0] w (fun e w' => e = .returned (.tuple #[.slice none 0 0, .agg z13, .bool false, .int .i64 0]) ∧ Below w.heap.size w w') := by
  have d9 : (T != 9) = true := by simp [h9]
  have HP := hide hP
  clear h9 hP
  obtain ⟨x0, x1, e0⟩ := heap2fZ w #[.int .i64 T, .int .i64 fl, .int .i64 st, .int .i64 pd, .slice A n c, .slice A2 n2 c2, .int .i64 wt, .int .i64 pa, .bool al, .int .i64 pm, .int .i64 la, .int .i64 co, .int .i64 sp] z13 28 28
  have R0 := hide x0
  have U0 := hide x1
  have E0 := hide e0
  obtain ⟨f0_, f1_, f2_, f3_, f4_, f5_, f6_, f7_, f8_, f9_, f10_, f11_, f12_⟩ := row13 R0.out
  have hW0 : Hid (((w.alloc (.cells #[.int .i64 T, .int .i64 fl, .int .i64 st, .int .i64 pd, .slice A n c, .slice A2 n2 c2, .int .i64 wt, .int .i64 pa, .bool al, .int .i64 pm, .int .i64 la, .int .i64 co, .int .i64 sp] 28)).alloc (.cells z13 28)).heap.size = w.heap.size + 1 + 1) := by show _ = _; simp
  clear x0 x1
  clear e0
  go_enter Try.func26, Try.ntmps26
  go_upto_region 1 with (fail)
  generalize (w.alloc (.cells #[.int .i64 T, .int .i64 fl, .int .i64 st, .int .i64 pd, .slice A n c, .slice A2 n2 c2, .int .i64 wt, .int .i64 pa, .bool al, .int .i64 pm, .int .i64 la, .int .i64 co, .int .i64 sp] 28)).alloc (.cells z13 28) = W0 at *
  go_wp2_with fail
  refine (rtakesNil30 T fl st pd A n c A2 n2 c2 wt pa al pm la co sp 0 _).mono ?_
  rintro e w1 ⟨rfl, hb⟩
  have R1 := hide (keepRow R0.out hb)
  have U1 := hide (keepRow U0.out hb)
  have E1 := hide (E0.out.of hb)
  have hs1 := hb.size
  clear R0 U0 E0 f0_ f1_ f2_ f3_ f4_ f5_ f6_ f7_ f8_ f9_ f10_ f11_ f12_
  clear hb
  obtain ⟨f0_, f1_, f2_, f3_, f4_, f5_, f6_, f7_, f8_, f9_, f10_, f11_, f12_⟩ := row13 R1.out
  go_wp2_with fail
  refine (rpart30 T fl st pd A n c A2 n2 c2 wt pa al pm la co sp _).mono ?_
  rw [HP.out]
  rintro e w2 ⟨rfl, hb⟩
  have R2 := hide (keepRow R1.out hb)
  have U2 := hide (keepRow U1.out hb)
  have E2 := hide (E1.out.of hb)
  have hs2 := hb.size
  clear hb R1 U1 E1 f0_ f1_ f2_ f3_ f4_ f5_ f6_ f7_ f8_ f9_ f10_ f11_ f12_
  obtain ⟨⟨k0_, z0_⟩, ⟨k1_, z1_⟩, ⟨k2_, z2_⟩, ⟨k3_, z3_⟩, ⟨k4_, z4_⟩, ⟨k5_, z5_⟩, ⟨k6_, z6_⟩, ⟨k7_, z7_⟩, ⟨k8_, z8_⟩, ⟨k9_, z9_⟩, ⟨k10_, z10_⟩, ⟨k11_, z11_⟩, ⟨k12_, z12_⟩, rz⟩ := store13 U2.out (.int .i64 0) (.int .i64 0) (.int .i64 0) (.int .i64 0) (.slice none 0 0) (.slice none 0 0) (.int .i64 0) (.int .i64 0) (.bool false) (.int .i64 0) (.int .i64 0) (.int .i64 0) (.int .i64 0)
  have gB := FrS.set13 (B := w.heap.size) (S := Q1 (w.heap.size + 1)) (by omega) (rowLt U2.out) rfl (.int .i64 0) (.int .i64 0) (.int .i64 0) (.int .i64 0) (.slice none 0 0) (.slice none 0 0) (.int .i64 0) (.int .i64 0) (.bool false) (.int .i64 0) (.int .i64 0) (.int .i64 0) (.int .i64 0)
  have RZ := hide rz
  have EF := hide (E2.out.trans gB.bel)
  clear rz gB
  go_wp2_with fail
  obtain ⟨n0_, n1_, n2_, n3_, n4_, n5_, n6_, n7_, n8_, n9_, n10_, n11_, n12_⟩ := row13 RZ.out
  refine bodyPost_ret (v := .tuple #[.slice none 0 0, .agg z13, .bool false, .int .i64 0]) ?_ rfl ⟨rfl, EF.out⟩
  rw [results_tctt30 rfl]
  go_simp

set_option maxRecDepth 100000 in
set_option maxHeartbeats 3200000 in
theorem raddPart30 (T fl st pd : Int) (A : Option Addr) (n c : Nat) (f : Nat → Int) (A2 : Option Addr) (n2 c2 : Nat) (s t : Nat → Int) (wt pa : Int) (al : Bool) (pm la co sp : Int) (w : World) (h9 : T ≠ 9) (hP : partB T = true) (ha : Rd .u8 w A n c f) (hn : n ≤ 100000) (hfl : fl ≤ 9223372036854775807) :
    Calls Try.prog 26 #[.slice none 0 0, .agg #[.int .i64 T, .int .i64 fl, .int .i64 st, .int .i64 pd, .slice A n c, .slice A2 n2 c2, .int .i64 wt, .int .i64 pa, .bool al, .int .i64 pm, .int .i64 la, .int .i64 co, .int .i64 sp], .int .i64 0] w (RA30 n (hsB T fl 2) (fun fr => ∃ A6 c6, fr = .agg #[.int .i64 T, .int .i64 fl, .int .i64 st, .int .i64 pd, .slice A6 0 c6, .slice A2 n2 c2, .int .i64 wt, .int .i64 pa, .bool al, .int .i64 pm, .int .i64 la, .int .i64 co, .int .i64 sp] ∧ c6 ≤ maxLen ∧ (A6 = none → c6 = 0)) w) := by
  have d9 : (T != 9) = true := by simp [h9]
  have HP := hide hP
  have HAw := hide ha
  clear h9 hP ha
  obtain ⟨x0, x1, e0⟩ := heap2fZ w #[.int .i64 T, .int .i64 fl, .int .i64 st, .int .i64 pd, .slice A n c, .slice A2 n2 c2, .int .i64 wt, .int .i64 pa, .bool al, .int .i64 pm, .int .i64 la, .int .i64 co, .int .i64 sp] z13 28 28
  have R0 := hide x0
  have U0 := hide x1
  have E0 := hide e0
  obtain ⟨f0_, f1_, f2_, f3_, f4_, f5_, f6_, f7_, f8_, f9_, f10_, f11_, f12_⟩ := row13 R0.out
  have hW0 : Hid (((w.alloc (.cells #[.int .i64 T, .int .i64 fl, .int .i64 st, .int .i64 pd, .slice A n c, .slice A2 n2 c2, .int .i64 wt, .int .i64 pa, .bool al, .int .i64 pm, .int .i64 la, .int .i64 co, .int .i64 sp] 28)).alloc (.cells z13 28)).heap.size = w.heap.size + 1 + 1) := by show _ = _; simp
  clear x0 x1
  have HA0 := hide (HAw.out.below e0)
  clear HAw
  clear e0
  go_enter Try.func26, Try.ntmps26
  go_upto_region 1 with (fail)
  generalize (w.alloc (.cells #[.int .i64 T, .int .i64 fl, .int .i64 st, .int .i64 pd, .slice A n c, .slice A2 n2 c2, .int .i64 wt, .int .i64 pa, .bool al, .int .i64 pm, .int .i64 la, .int .i64 co, .int .i64 sp] 28)).alloc (.cells z13 28) = W0 at *
  go_wp2_with fail
  refine (rtakesNil30 T fl st pd A n c A2 n2 c2 wt pa al pm la co sp 0 _).mono ?_
  rintro e w1 ⟨rfl, hb⟩
  have R1 := hide (keepRow R0.out hb)
  have U1 := hide (keepRow U0.out hb)
  have E1 := hide (E0.out.of hb)
  have hs1 := hb.size
  clear R0 U0 E0 f0_ f1_ f2_ f3_ f4_ f5_ f6_ f7_ f8_ f9_ f10_ f11_ f12_
  have HA1 := hide (HA0.out.below hb)
  clear hb HA0
  obtain ⟨f0_, f1_, f2_, f3_, f4_, f5_, f6_, f7_, f8_, f9_, f10_, f11_, f12_⟩ := row13 R1.out
  go_wp2_with fail
  refine (rpart30 T fl st pd A n c A2 n2 c2 wt pa al pm la co sp _).mono ?_
  rw [HP.out]
  rintro e w2 ⟨rfl, hb⟩
  have R2 := hide (keepRow R1.out hb)
  have U2 := hide (keepRow U1.out hb)
  have E2 := hide (E1.out.of hb)
  have hs2 := hb.size
  have HA2 := hide (HA1.out.below hb)
  clear hb R1 U1 E1 HA1 f0_ f1_ f2_ f3_ f4_ f5_ f6_ f7_ f8_ f9_ f10_ f11_ f12_
  go_upto_region 5 with (fail)
  obtain ⟨i0, hi, hz0, hz1, hz2⟩ := info_parts frame_info30
  obtain ⟨f0_, f1_, f2_, f3_, f4_, f5_, f6_, f7_, f8_, f9_, f10_, f11_, f12_⟩ := row13 R2.out
  have hapn : ∀ (W : World) (b : Nat), (Builtin.append_ #[43, 43] 43 #[.slice (some ⟨b, 0, none⟩) 0 0, .slice none 0 0]).run Try.prog W = .ok (.slice (some ⟨b, 0, none⟩) 0 0) W := fun W b => by
    have ht := Try.underlying43
    simp [Builtin.append_, run_underlying ht, sizeOf, typeInfo, hi, Builtin.lenOf, Builtin.firstCells, storeCells]
  have OA := hide ((OwnV.lit 13 28 w2.heap.size w2 (cel30 #[.int .i64 T, .int .i64 fl, .int .i64 st, .int .i64 pd, .slice A n c, .slice A2 n2 c2, .int .i64 wt, .int .i64 pa, .bool al, .int .i64 pm, .int .i64 la, .int .i64 co, .int .i64 sp]) #[] 0 (Nat.le_refl _) (by simp [maxLen]) rfl).alloc (.cells #[.int .i64 T, .int .i64 fl, .int .i64 st, .int .i64 pd, .slice A n c, .slice A2 n2 c2, .int .i64 wt, .int .i64 pa, .bool al, .int .i64 pm, .int .i64 la, .int .i64 co, .int .i64 sp] 28))
  have SA0 := (OwnV.lit 13 28 0 (w2.alloc (.cells #[] 28)) (cel30 #[.int .i64 T, .int .i64 fl, .int .i64 st, .int .i64 pd, .slice A n c, .slice A2 n2 c2, .int .i64 wt, .int .i64 pa, .bool al, .int .i64 pm, .int .i64 la, .int .i64 co, .int .i64 sp]) #[.int .i64 T, .int .i64 fl, .int .i64 st, .int .i64 pd, .slice A n c, .slice A2 n2 c2, .int .i64 wt, .int .i64 pa, .bool al, .int .i64 pm, .int .i64 la, .int .i64 co, .int .i64 sp] 1 (Nat.zero_le _) (by simp [maxLen]) rfl).rdS2
  have SA : Hid (RdV 13 ((w2.alloc (.cells #[] 28)).alloc (.cells #[.int .i64 T, .int .i64 fl, .int .i64 st, .int .i64 pd, .slice A n c, .slice A2 n2 c2, .int .i64 wt, .int .i64 pa, .bool al, .int .i64 pm, .int .i64 la, .int .i64 co, .int .i64 sp] 28)) (some ⟨w2.heap.size + 1, 0, none⟩) 1 1 (cel30 #[.int .i64 T, .int .i64 fl, .int .i64 st, .int .i64 pd, .slice A n c, .slice A2 n2 c2, .int .i64 wt, .int .i64 pa, .bool al, .int .i64 pm, .int .i64 la, .int .i64 co, .int .i64 sp])) := by
    show RdV _ _ _ _ _ _
    have e : (w2.alloc (.cells #[] 28)).heap.size = w2.heap.size + 1 := by simp
    rw [e] at SA0
    exact SA0
  have OB0 := OwnV.lit 13 28 w2.heap.size (w2.alloc (.cells #[.int .i64 T, .int .i64 fl, .int .i64 st, .int .i64 pd, .slice A n c, .slice A2 n2 c2, .int .i64 wt, .int .i64 pa, .bool al, .int .i64 pm, .int .i64 la, .int .i64 co, .int .i64 sp] 28)) (cel30 #[.int .i64 T, .int .i64 fl, .int .i64 st, .int .i64 pd, .slice A n c, .slice A2 n2 c2, .int .i64 wt, .int .i64 pa, .bool al, .int .i64 pm, .int .i64 la, .int .i64 co, .int .i64 sp]) #[] 0 (by simp) (by simp [maxLen]) rfl
  have OB : Hid (OwnV 13 28 w2.heap.size ((w2.alloc (.cells #[.int .i64 T, .int .i64 fl, .int .i64 st, .int .i64 pd, .slice A n c, .slice A2 n2 c2, .int .i64 wt, .int .i64 pa, .bool al, .int .i64 pm, .int .i64 la, .int .i64 co, .int .i64 sp] 28)).alloc (.cells #[] 28)) (.slice (some ⟨w2.heap.size + 1, 0, none⟩) 0 0) 0 (cel30 #[.int .i64 T, .int .i64 fl, .int .i64 st, .int .i64 pd, .slice A n c, .slice A2 n2 c2, .int .i64 wt, .int .i64 pa, .bool al, .int .i64 pm, .int .i64 la, .int .i64 co, .int .i64 sp])) := by
    show OwnV _ _ _ _ _ _ _
    have e : (w2.alloc (.cells #[.int .i64 T, .int .i64 fl, .int .i64 st, .int .i64 pd, .slice A n c, .slice A2 n2 c2, .int .i64 wt, .int .i64 pa, .bool al, .int .i64 pm, .int .i64 la, .int .i64 co, .int .i64 sp] 28)).heap.size = w2.heap.size + 1 := by simp
    rw [e] at OB0
    exact OB0
  have SB : Hid (RdV 13 ((w2.alloc (.cells #[.int .i64 T, .int .i64 fl, .int .i64 st, .int .i64 pd, .slice A n c, .slice A2 n2 c2, .int .i64 wt, .int .i64 pa, .bool al, .int .i64 pm, .int .i64 la, .int .i64 co, .int .i64 sp] 28)).alloc (.cells #[] 28)) (some ⟨w2.heap.size, 0, none⟩) 1 1 (cel30 #[.int .i64 T, .int .i64 fl, .int .i64 st, .int .i64 pd, .slice A n c, .slice A2 n2 c2, .int .i64 wt, .int .i64 pa, .bool al, .int .i64 pm, .int .i64 la, .int .i64 co, .int .i64 sp])) := (OwnV.lit 13 28 0 w2 (cel30 #[.int .i64 T, .int .i64 fl, .int .i64 st, .int .i64 pd, .slice A n c, .slice A2 n2 c2, .int .i64 wt, .int .i64 pa, .bool al, .int .i64 pm, .int .i64 la, .int .i64 co, .int .i64 sp]) #[.int .i64 T, .int .i64 fl, .int .i64 st, .int .i64 pd, .slice A n c, .slice A2 n2 c2, .int .i64 wt, .int .i64 pa, .bool al, .int .i64 pm, .int .i64 la, .int .i64 co, .int .i64 sp] 1 (Nat.zero_le _) (by simp [maxLen]) rfl).rdS2.belowZ ((Below.refl _ _).alloc (Nat.le_refl _) _)
  clear SA0 OB0
  have G1 : ∀ i, i < 1 * 13 → (cel30 #[.int .i64 T, .int .i64 fl, .int .i64 st, .int .i64 pd, .slice A n c, .slice A2 n2 c2, .int .i64 wt, .int .i64 pa, .bool al, .int .i64 pm, .int .i64 la, .int .i64 co, .int .i64 sp] i).oneCell' = true := cel30_one T fl st pd A n c A2 n2 c2 wt pa al pm la co sp
  obtain ⟨q0_, q1_, q2_, q3_, q4_, q5_, q6_, q7_, q8_, q9_, q10_, q11_, q12_⟩ := row13 (keepRow R2.out ((Below.refl w2.heap.size w2).alloc (Nat.le_refl _) (.cells #[] 28)))
  have EA := hide (((Below.refl w2.heap.size w2).alloc (Nat.le_refl _) (.cells #[] 28)).alloc (by simp) (.cells #[.int .i64 T, .int .i64 fl, .int .i64 st, .int .i64 pd, .slice A n c, .slice A2 n2 c2, .int .i64 wt, .int .i64 pa, .bool al, .int .i64 pm, .int .i64 la, .int .i64 co, .int .i64 sp] 28))
  have EB := hide (((Below.refl w2.heap.size w2).alloc (Nat.le_refl _) (.cells #[.int .i64 T, .int .i64 fl, .int .i64 st, .int .i64 pd, .slice A n c, .slice A2 n2 c2, .int .i64 wt, .int .i64 pa, .bool al, .int .i64 pm, .int .i64 la, .int .i64 co, .int .i64 sp] 28)).alloc (by simp) (.cells #[] 28))
  have zA : w2.heap.size ≤ ((w2.alloc (.cells #[] 28)).alloc (.cells #[.int .i64 T, .int .i64 fl, .int .i64 st, .int .i64 pd, .slice A n c, .slice A2 n2 c2, .int .i64 wt, .int .i64 pa, .bool al, .int .i64 pm, .int .i64 la, .int .i64 co, .int .i64 sp] 28)).heap.size := by simp; omega
  have zB : w2.heap.size ≤ ((w2.alloc (.cells #[.int .i64 T, .int .i64 fl, .int .i64 st, .int .i64 pd, .slice A n c, .slice A2 n2 c2, .int .i64 wt, .int .i64 pa, .bool al, .int .i64 pm, .int .i64 la, .int .i64 co, .int .i64 sp] 28)).alloc (.cells #[] 28)).heap.size := by simp; omega
  go_cut [10] from 25 to 30 (fun m W => ∃ A5 c5, m = .slice A5 1 c5 ∧ RdV 13 W A5 1 c5 (cel30 #[.int .i64 T, .int .i64 fl, .int .i64 st, .int .i64 pd, .slice A n c, .slice A2 n2 c2, .int .i64 wt, .int .i64 pa, .bool al, .int .i64 pm, .int .i64 la, .int .i64 co, .int .i64 sp]) ∧ Below w2.heap.size w2 W)
  case first =>
    go_region_law (first
      | (refine step_appV30 rfl (.tmp 27) (.tmp 29) _ rfl 13 i0 _ 136 Try.underlying43 hi hz0 hz1 hz2 rfl (by omega) w2.heap.size (.slice (some ⟨w2.heap.size, 0, none⟩) 0 0) 0 (cel30 #[.int .i64 T, .int .i64 fl, .int .i64 st, .int .i64 pd, .slice A n c, .slice A2 n2 c2, .int .i64 wt, .int .i64 pa, .bool al, .int .i64 pm, .int .i64 la, .int .i64 co, .int .i64 sp]) rfl (by first | exact OA.out | exact OA.out.drew) _ 1 1 (cel30 #[.int .i64 T, .int .i64 fl, .int .i64 st, .int .i64 pd, .slice A n c, .slice A2 n2 c2, .int .i64 wt, .int .i64 pa, .bool al, .int .i64 pm, .int .i64 la, .int .i64 co, .int .i64 sp]) rfl (by first | exact SA.out | exact SA.out.belowZ (Below.refl _ _).drew) G1 (by simp only [maxLen]; omega) (by omega) (by exact zA) ?_; intro v5 w5 hown5 hg5 _; have EV : Hid (Below w2.heap.size w2 w5) := Below.growZ (b := w2.heap.size) EA.out ⟨hg5.os, hg5.tape, hg5.output, hg5.size, hg5.block⟩ (by omega) zA; have HO5 := hide hown5)
      | (refine step_appV30 rfl (.tmp 27) (.tmp 29) _ rfl 13 i0 _ 136 Try.underlying43 hi hz0 hz1 hz2 rfl (by omega) w2.heap.size (.slice (some ⟨w2.heap.size + 1, 0, none⟩) 0 0) 0 (cel30 #[.int .i64 T, .int .i64 fl, .int .i64 st, .int .i64 pd, .slice A n c, .slice A2 n2 c2, .int .i64 wt, .int .i64 pa, .bool al, .int .i64 pm, .int .i64 la, .int .i64 co, .int .i64 sp]) rfl (by first | exact OB.out | exact OB.out.drew) _ 1 1 (cel30 #[.int .i64 T, .int .i64 fl, .int .i64 st, .int .i64 pd, .slice A n c, .slice A2 n2 c2, .int .i64 wt, .int .i64 pa, .bool al, .int .i64 pm, .int .i64 la, .int .i64 co, .int .i64 sp]) rfl (by first | exact SB.out | exact SB.out.belowZ (Below.refl _ _).drew) G1 (by simp only [maxLen]; omega) (by omega) (by exact zB) ?_; intro v5 w5 hown5 hg5 _; have EV : Hid (Below w2.heap.size w2 w5) := Below.growZ (b := w2.heap.size + 1) EB.out ⟨hg5.os, hg5.tape, hg5.output, hg5.size, hg5.block⟩ (by omega) zB; have HO5 := hide hown5))
    all_goals
      go_wp2_with fail
      go_meet
      obtain ⟨A5, c5, rfl, hr5, _⟩ := HO5.out.rd
      exact ⟨A5, c5, rfl, hr5.congrZ (fun i _ => by simp [catV]), EV.out⟩
  case rest =>
    obtain ⟨A5, c5, rfl, hM, hV⟩ := hcut
    have R5 := hide (keepRow R2.out hV)
    have U5 := hide (keepRow U2.out hV)
    have E5 := hide (E2.out.of hV)
    have HA5 := hide (HA2.out.below hV)
    have hs5 := hV.size
    obtain ⟨bm, om, rfl, hcm⟩ := hM.2.2.2 (by omega)
    have HM := hide hcm
    have hcw := World.block_lt_of_cell? wc _ (hcm 0 (by omega))
    have hc51 : 1 ≤ c5 := hM.1
    clear hM hV hcm R2 U2 E2 HA2 f0_ f1_ f2_ f3_ f4_ f5_ f6_ f7_ f8_ f9_ f10_ f11_ f12_ q0_ q1_ q2_ q3_ q4_ q5_ q6_ q7_ q8_ q9_ q10_ q11_ q12_ OA SA OB SB G1 EA EB zA zB hapn hi hz0 hz1 hz2 i0
    obtain ⟨i0, hi, hz0, hz1, hz2⟩ := info_parts c8_info
    go_wp2_with fail
    go_loopw [11, 12] (fun bs i W => ∃ (A6 : Option Addr) (c6 k m : Nat), bs = .slice A6 m c6 ∧ i = .int .i64 k ∧ ((k = 0 ∧ m = 0) ∨ (k = 1 ∧ m = n)) ∧ Own .u8 5 wc.heap.size W (.slice A6 m c6) m f ∧ Below wc.heap.size wc W) (fun _ i _ => 1 - (intOf i).toNat)
    case atStart => exact ⟨none, 0, 0, 0, rfl, rfl, .inl ⟨rfl, rfl⟩, Own.nil _ _ _ _ _, Below.refl _ _⟩
    case round =>
      obtain ⟨A6, c6, k, m, rfl, rfl, hkm, hown, hB⟩ := hrel
      rcases hkm with ⟨rfl, rfl⟩ | ⟨rfl, hmn_⟩
      · have HO := hide hown
        have HBB := hide hB
        have HA6 := hide (HA5.out.below hB)
        have c4_ : wr.cell? ⟨bm, om + 4, none⟩ = some (.slice A n c) := by
          rw [hB.cell hcw]
          exact HM.out 4 (by omega)
        have hsb := hB.size
        clear hown hB
        go_wp2_with (at_builtin; refine wp_app rfl (.tmp 37) (.tmp 42) _ rfl i0 _ 1 Try.underlying22 hi hz0 hz1 hz2 wc.heap.size (.slice A6 0 c6) 0 f rfl HO.out A n c f rfl HA6.out (by simp only [maxLen]; omega) (by omega) hsb ?_; intro v7 w7 hown7 hg7; rw [Nat.zero_add] at hown7; obtain ⟨A7, c7, rfl, _, _⟩ := hown7.rd; have NEW : Hid (∃ (A8 : Option Addr) (c8 k m : Nat), Value.slice A7 n c7 = .slice A8 m c8 ∧ Value.int .i64 1 = .int .i64 (k : Int) ∧ ((k = 0 ∧ m = 0) ∨ (k = 1 ∧ m = n)) ∧ Own .u8 5 wc.heap.size w7 (.slice A8 m c8) m f ∧ Below wc.heap.size wc w7) := ⟨A7, c7, 1, n, rfl, rfl, .inr ⟨rfl, rfl⟩, hown7.congr (fun i _ => catF_nil _ _ i), HBB.out.grown hg7 hsb (fun j e => (World.ownsRow.lt HO.out j e).1)⟩; clear hown7 hg7)
        exact ⟨NEW.out, by simp [intOf]⟩
      · obtain rfl : n = m := hmn_.symm
        have UF := hide (keepRow U5.out hB)
        have RF := hide (keepRow R5.out hB)
        have EU := hide (E5.out.of hB)
        have HM2 : Hid (∀ i, i < 1 * 13 → wr.cell? ⟨bm, om + i, none⟩ = some (cel30 #[.int .i64 T, .int .i64 fl, .int .i64 st, .int .i64 pd, .slice A n c, .slice A2 n2 c2, .int .i64 wt, .int .i64 pa, .bool al, .int .i64 pm, .int .i64 la, .int .i64 co, .int .i64 sp] i)) := fun i hi => by
          rw [hB.cell hcw]
          exact HM.out i hi
        have hmn : n ≤ 9223372036854775807 := by omega
        have hbs := hB.size
        have HQ : Hid (c6 ≤ maxLen ∧ (A6 = none → c6 = 0)) := by
          obtain ⟨A', c', e, h, _⟩ := hown.rd
          cases e
          exact ⟨h.2.1, h.2.2.1⟩
        clear hown hB
        by_cases hn0 : 0 < n
        · have dn : decide ((0 : Int) < (n : Int)) = true := decide_eq_true (by omega)
          have dn2 : decide (0 < n) = true := decide_eq_true hn0
          obtain ⟨⟨k0_, z0_⟩, ⟨k1_, z1_⟩, ⟨k2_, z2_⟩, ⟨k3_, z3_⟩, ⟨k4_, z4_⟩, ⟨k5_, z5_⟩, ⟨k6_, z6_⟩, ⟨k7_, z7_⟩, ⟨k8_, z8_⟩, ⟨k9_, z9_⟩, ⟨k10_, z10_⟩, ⟨k11_, z11_⟩, ⟨k12_, z12_⟩, rz⟩ := store13 UF.out (.int .i64 0) (.int .i64 0) (.int .i64 0) (.int .i64 0) (.slice none 0 0) (.slice none 0 0) (.int .i64 0) (.int .i64 0) (.bool false) (.int .i64 0) (.int .i64 0) (.int .i64 0) (.int .i64 0)
          have gB := FrS.set13 (B := w.heap.size) (S := Q1 (w.heap.size + 1)) (by omega) (rowLt UF.out) rfl (.int .i64 0) (.int .i64 0) (.int .i64 0) (.int .i64 0) (.slice none 0 0) (.slice none 0 0) (.int .i64 0) (.int .i64 0) (.bool false) (.int .i64 0) (.int .i64 0) (.int .i64 0) (.int .i64 0)
          have RZ := hide rz
          have EF := hide (EU.out.trans gB.bel)
          clear rz gB
          go_wp2_with fail
          obtain ⟨n0_, n1_, n2_, n3_, n4_, n5_, n6_, n7_, n8_, n9_, n10_, n11_, n12_⟩ := row13 RZ.out
          refine bodyPost_ret (v := .tuple #[.slice none 0 0, .agg z13, .bool false, .int .i64 9]) ?_ rfl (RA30.mk EF.out (.inl ⟨hn0, rfl, rfl, rfl⟩))
          rw [results_tctt30 rfl]
          go_simp
        · obtain rfl : n = 0 := by omega
          clear hn0
          obtain ⟨f0_, f1_, f2_, f3_, f4_, f5_, f6_, f7_, f8_, f9_, f10_, f11_, f12_⟩ := row13 RF.out
          go_wp2_with fail
          refine (rends30 T fl st pd A 0 c A2 n2 c2 wt pa al pm la co sp hfl _).mono ?_
          rintro e w8 ⟨rfl, hb⟩
          obtain ⟨bl, hbl⟩ : ∃ b, hsB T fl 2 = b := ⟨_, rfl⟩
          rw [hbl]
          have HBL := hide hbl
          have UF8 := hide (keepRow UF.out hb)
          have EU8 := hide (EU.out.of hb)
          have HM8 : Hid (∀ i, i < 1 * 13 → w8.cell? ⟨bm, om + i, none⟩ = some (cel30 #[.int .i64 T, .int .i64 fl, .int .i64 st, .int .i64 pd, .slice A 0 c, .slice A2 n2 c2, .int .i64 wt, .int .i64 pa, .bool al, .int .i64 pm, .int .i64 la, .int .i64 co, .int .i64 sp] i)) := fun i hi => by
            rw [hb.cell (show bm < wr.heap.size by omega)]
            exact HM2.out i hi
          have hs8 := hb.size
          clear hb hbl f0_ f1_ f2_ f3_ f4_ f5_ f6_ f7_ f8_ f9_ f10_ f11_ f12_ UF EU RF HM2
          have UF := UF8
          have EU := EU8
          clear UF8 EU8
          cases bl with
          | false =>
            obtain ⟨⟨k0_, z0_⟩, ⟨k1_, z1_⟩, ⟨k2_, z2_⟩, ⟨k3_, z3_⟩, ⟨k4_, z4_⟩, ⟨k5_, z5_⟩, ⟨k6_, z6_⟩, ⟨k7_, z7_⟩, ⟨k8_, z8_⟩, ⟨k9_, z9_⟩, ⟨k10_, z10_⟩, ⟨k11_, z11_⟩, ⟨k12_, z12_⟩, rz⟩ := store13 UF.out (.int .i64 0) (.int .i64 0) (.int .i64 0) (.int .i64 0) (.slice none 0 0) (.slice none 0 0) (.int .i64 0) (.int .i64 0) (.bool false) (.int .i64 0) (.int .i64 0) (.int .i64 0) (.int .i64 0)
            have gB := FrS.set13 (B := w.heap.size) (S := Q1 (w.heap.size + 1)) (by omega) (rowLt UF.out) rfl (.int .i64 0) (.int .i64 0) (.int .i64 0) (.int .i64 0) (.slice none 0 0) (.slice none 0 0) (.int .i64 0) (.int .i64 0) (.bool false) (.int .i64 0) (.int .i64 0) (.int .i64 0) (.int .i64 0)
            have RZ := hide rz
            have EF := hide (EU.out.trans gB.bel)
            clear rz gB
            go_wp2_with fail
            obtain ⟨n0_, n1_, n2_, n3_, n4_, n5_, n6_, n7_, n8_, n9_, n10_, n11_, n12_⟩ := row13 RZ.out
            refine bodyPost_ret (v := .tuple #[.slice (some ⟨bm, om, none⟩) 1 c5, .agg z13, .bool false, .int .i64 0]) ?_ rfl (RA30.mk EF.out (.inr (.inl ⟨rfl, HBL.out, rfl, rfl, rfl⟩)))
            rw [results_tctt30 rfl]
            go_simp
          | true =>
            have q0 := HM8.out 0 (by omega)
            rw [Nat.add_zero] at q0
            have q1 := HM8.out 1 (by omega)
            have q2 := HM8.out 2 (by omega)
            have q3 := HM8.out 3 (by omega)
            have q4 := HM8.out 4 (by omega)
            have q5 := HM8.out 5 (by omega)
            have q6 := HM8.out 6 (by omega)
            have q7 := HM8.out 7 (by omega)
            have q8 := HM8.out 8 (by omega)
            have q9 := HM8.out 9 (by omega)
            have q10 := HM8.out 10 (by omega)
            have q11 := HM8.out 11 (by omega)
            have q12 := HM8.out 12 (by omega)
            simp only [cel30] at q0 q1 q2 q3 q4 q5 q6 q7 q8 q9 q10 q11 q12
            have zc := (Below.refl w8.heap.size w8).alloc (Nat.le_refl _) (.cells #[.int .i64 T, .int .i64 fl, .int .i64 st, .int .i64 pd, .slice A 0 c, .slice A2 n2 c2, .int .i64 wt, .int .i64 pa, .bool al, .int .i64 pm, .int .i64 la, .int .i64 co, .int .i64 sp] 28)
            go_upto_region 17 with (fail)
            have e9 := (Below.refl w8.heap.size w8).alloc (Nat.le_refl _) (.cells #[.int .i64 T, .int .i64 fl, .int .i64 st, .int .i64 pd, .slice A6 0 c6, .slice A2 n2 c2, .int .i64 wt, .int .i64 pa, .bool al, .int .i64 pm, .int .i64 la, .int .i64 co, .int .i64 sp] 28)
            have W9 := hide (heap_alloc_new w8 (.cells #[.int .i64 T, .int .i64 fl, .int .i64 st, .int .i64 pd, .slice A6 0 c6, .slice A2 n2 c2, .int .i64 wt, .int .i64 pa, .bool al, .int .i64 pm, .int .i64 la, .int .i64 co, .int .i64 sp] 28))
            have U9 := hide (keepRow UF.out e9)
            have E9 := hide (EU.out.of e9)
            have hw9 : w.heap.size + 1 < w8.heap.size := rowLt UF.out
            clear zc e9 UF EU HM8 q0 q1 q2 q3 q4 q5 q6 q7 q8 q9 q10 q11 q12
            generalize w8.alloc (.cells #[.int .i64 T, .int .i64 fl, .int .i64 st, .int .i64 pd, .slice A6 0 c6, .slice A2 n2 c2, .int .i64 wt, .int .i64 pa, .bool al, .int .i64 pm, .int .i64 la, .int .i64 co, .int .i64 sp] 28) = Wz at *
            generalize w8.heap.size = b9 at *
            have HNB : Hid (b9 ≠ w.heap.size + 1) := by show _ ≠ _; omega
            obtain ⟨f0_, f1_, f2_, f3_, f4_, f5_, f6_, f7_, f8_, f9_, f10_, f11_, f12_⟩ := row13 W9.out
            have S0 := hide (And.intro f0_ (And.intro f1_ (And.intro f2_ (And.intro f3_ (And.intro f4_ (And.intro f5_ (And.intro f6_ (And.intro f7_ (And.intro f8_ (And.intro f9_ (And.intro f10_ (And.intro f11_ f12_))))))))))))
            obtain ⟨⟨k0_, z0_⟩, ⟨k1_, z1_⟩, ⟨k2_, z2_⟩, ⟨k3_, z3_⟩, ⟨k4_, z4_⟩, ⟨k5_, z5_⟩, ⟨k6_, z6_⟩, ⟨k7_, z7_⟩, ⟨k8_, z8_⟩, ⟨k9_, z9_⟩, ⟨k10_, z10_⟩, ⟨k11_, z11_⟩, ⟨k12_, z12_⟩, rz⟩ := store13 U9.out (.int .i64 T) (.int .i64 fl) (.int .i64 st) (.int .i64 pd) (.slice A6 0 c6) (.slice A2 n2 c2) (.int .i64 wt) (.int .i64 pa) (.bool al) (.int .i64 pm) (.int .i64 la) (.int .i64 co) (.int .i64 sp)
            have gB := FrS.set13 (B := w.heap.size) (S := Q1 (w.heap.size + 1)) (by omega) (rowLt U9.out) rfl (.int .i64 T) (.int .i64 fl) (.int .i64 st) (.int .i64 pd) (.slice A6 0 c6) (.slice A2 n2 c2) (.int .i64 wt) (.int .i64 pa) (.bool al) (.int .i64 pm) (.int .i64 la) (.int .i64 co) (.int .i64 sp)
            have RZ := hide rz
            have RZd := hide (heapDrewY rz)
            have EF := hide (E9.out.trans gB.bel)
            have EFd := hide (E9.out.trans gB.bel).drew
            clear rz gB
            go_region_held3 (fun W : World => W.cell? ⟨b9, 0, none⟩ = some (.int .i64 T) ∧ W.cell? ⟨b9, 1, none⟩ = some (.int .i64 fl) ∧ W.cell? ⟨b9, 2, none⟩ = some (.int .i64 st) ∧ W.cell? ⟨b9, 3, none⟩ = some (.int .i64 pd) ∧ W.cell? ⟨b9, 4, none⟩ = some (.slice A6 0 c6) ∧ W.cell? ⟨b9, 5, none⟩ = some (.slice A2 n2 c2) ∧ W.cell? ⟨b9, 6, none⟩ = some (.int .i64 wt) ∧ W.cell? ⟨b9, 7, none⟩ = some (.int .i64 pa) ∧ W.cell? ⟨b9, 8, none⟩ = some (.bool al) ∧ W.cell? ⟨b9, 9, none⟩ = some (.int .i64 pm) ∧ W.cell? ⟨b9, 10, none⟩ = some (.int .i64 la) ∧ W.cell? ⟨b9, 11, none⟩ = some (.int .i64 co) ∧ W.cell? ⟨b9, 12, none⟩ = some (.int .i64 sp))
              ((first | with_reducible exact S0.out | (simp only [World.cell?_drew, cell13y HNB.out]; with_reducible exact S0.out)))
              ((fail))
            all_goals
              first
                | with_reducible refine absY (set13y_ Wz (w.heap.size + 1) (.int .i64 T) (.int .i64 fl) (.int .i64 st) (.int .i64 pd) (.slice A6 0 c6) (.slice A2 n2 c2) (.int .i64 wt) (.int .i64 pa) (.bool al) (.int .i64 pm) (.int .i64 la) (.int .i64 co) (.int .i64 sp)).drew (fun W => W.heap[w.heap.size + 1]? = some (.cells #[.int .i64 T, .int .i64 fl, .int .i64 st, .int .i64 pd, .slice A6 0 c6, .slice A2 n2 c2, .int .i64 wt, .int .i64 pa, .bool al, .int .i64 pm, .int .i64 la, .int .i64 co, .int .i64 sp] 28 (0, 0)) ∧ Below w.heap.size w W) ⟨RZd.out, EFd.out⟩ ?_
                | with_reducible refine absY (set13y_ Wz (w.heap.size + 1) (.int .i64 T) (.int .i64 fl) (.int .i64 st) (.int .i64 pd) (.slice A6 0 c6) (.slice A2 n2 c2) (.int .i64 wt) (.int .i64 pa) (.bool al) (.int .i64 pm) (.int .i64 la) (.int .i64 co) (.int .i64 sp)) (fun W => W.heap[w.heap.size + 1]? = some (.cells #[.int .i64 T, .int .i64 fl, .int .i64 st, .int .i64 pd, .slice A6 0 c6, .slice A2 n2 c2, .int .i64 wt, .int .i64 pa, .bool al, .int .i64 pm, .int .i64 la, .int .i64 co, .int .i64 sp] 28 (0, 0)) ∧ Below w.heap.size w W) ⟨RZ.out, EF.out⟩ ?_
              clear k0_ z0_ k1_ z1_ k2_ z2_ k3_ z3_ k4_ z4_ k5_ z5_ k6_ z6_ k7_ z7_ k8_ z8_ k9_ z9_ k10_ z10_ k11_ z11_ k12_ z12_ RZ RZd EF EFd S0 f0_ f1_ f2_ f3_ f4_ f5_ f6_ f7_ f8_ f9_ f10_ f11_ f12_
              rintro WW ⟨rP, eE⟩
              have EEf := hide eE
              obtain ⟨n0_, n1_, n2_, n3_, n4_, n5_, n6_, n7_, n8_, n9_, n10_, n11_, n12_⟩ := row13 rP
              clear rP eE
              go_wp2_with fail
              refine bodyPost_ret (v := .tuple #[.slice none 0 0, .agg #[.int .i64 T, .int .i64 fl, .int .i64 st, .int .i64 pd, .slice A6 0 c6, .slice A2 n2 c2, .int .i64 wt, .int .i64 pa, .bool al, .int .i64 pm, .int .i64 la, .int .i64 co, .int .i64 sp], .bool true, .int .i64 0]) ?_ rfl (RA30.mk EEf.out (.inr (.inr ⟨rfl, HBL.out, ⟨A6, c6, rfl, HQ.out.1, HQ.out.2⟩, rfl, rfl⟩)))
              rw [results_tctt30 rfl]
              go_simp

end Go.Proofs.Ytelcpfjifhobjaa
