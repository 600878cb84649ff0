/- Layer 21: Add. -/
import Derived.Test.YteikpdolickkaaaDy3
namespace Go.Proofs.Yteikpdolickkaaa
open Go.RowKit Go.Deep

def appFd (n : Nat) (F : Nat → Fd) (f : Fd) : Nat → Fd := fun i => if i < n then F i else f
theorem fdV_app (n : Nat) (F : Nat → Fd) (f : Fd) : catV (n * 3) (fdV F) (fdV fun _ => f) = fdV (appFd n F f) := by
  rw [fdV_cat]
  rfl
theorem sumW_app (n : Nat) (F : Nat → Fd) (f : Fd) : sumW (appFd n F f) (n + 1) = sumW F n + wt f := by
  show sumW (appFd n F f) n + wt (appFd n F f n) = _
  rw [sumW_congr (F := appFd n F f) (G := F) fun i hi => by unfold appFd; rw [if_pos hi], show appFd n F f n = f by unfold appFd; rw [if_neg (Nat.lt_irrefl _)]]
section
variable {P : Program} {e : TypeId} {w : World} {ops : Array Oper} {o : Oper} {a : Act} {K : Act → World → Prop} {Q : Exit → Act → World → Prop} {E : Prop}
theorem step_appO (hgd : o.guard = none) (s x : Operand) (t : TypeId) (ho : o.op = .call { callee := .builtin .append, args := #[s, x], argTypes := #[t, t] })
    (sz : Nat) (i : TypeInfo) (z : Value) (bytes : Nat) (ht : P.underlying t = some (.slice e)) (hi : P.info? e = some i) (hz : i.zero = some z) (hsize : i.size = sz) (hby : i.bytes = bytes) (hzs : z.cells.size = sz) (hs0 : 0 < sz)
    (B : Nat) (v : Value) (n : Nat) (F : Nat → Value) (hs : a.eval s = v) (hown : OwnO sz e B w v n F) (b0 o0 m c : Nat) (G : Nat → Value) (hx : a.eval x = .slice (some ⟨b0, o0, none⟩) m c) (hr : RdV sz w (some ⟨b0, o0, none⟩) m c G) (hm : 0 < m) (hG : ∀ i, i < m * sz → (G i).oneCell' = true)
    (h63 : n + m ≤ maxLen) (hbytes : (n + m) * bytes ≤ 140737488355328) (hbase : B ≤ w.heap.size)
    (h : ∀ v' w', OwnO sz e B w' v' (n + m) (catV (n * sz) F G) → w.grownBy w' v.ownBlock → (v'.ownBlock = v.ownBlock ∨ ∀ b, v'.ownBlock = some b → w.heap.size ≤ b) → K (a.put o.dst v') w') :
    if Region.wanted o (yielded ops a.tmps) = true then Oper.wp P o a w K Q else E := by
  rw [if_pos (by simp [Region.wanted, hgd])]
  obtain ⟨v', w', hrun, h2, h3, h4⟩ := run_appO (P := P) sz t o.type i z bytes ht hi hz hsize hby hzs hs0 B v n F hown b0 o0 m c G hr hm hG h63 hbytes hbase
  unfold Oper.wp execOp
  simp only [ho, resolve, invoke, builtin, Sem.run_bind, Sem.run_pure, Result.andThen_ok, List.map_toArray, List.map_cons, List.map_nil, hs, hx, hrun]
  exact h v' w' h2 h3 h4
end
set_option maxRecDepth 20000 in
set_option maxHeartbeats 3200000 in
theorem add21 {B : Nat} {w : World} {p : Nat} {g : Option Nat} {n max : Nat} {F : Nat → Fd} (h : TOk B w p g n max F) (hB : B ≤ w.heap.size) (hn : n ≤ 90) (f : Fd) (hf : wt f ≤ 500) :
    Calls Try.prog 24 #[.pointer (some ⟨p, 0, none⟩), .agg #[.string f.name, .string f.val, .bool f.nev]] w fun e w' => ∃ j g', e = .returned (.tuple #[]) ∧ j ≤ n ∧ (∀ i, i < j → (max : Int) - (wt f : Int) < (sumW (shF i F) (n - i) : Int)) ∧ (j = n ∨ (sumW (shF j F) (n - j) : Int) ≤ (max : Int) - (wt f : Int)) ∧ FrO B (tfp p g) w w' ∧ (g' = g ∨ ∀ b, g' = some b → w.heap.size ≤ b) ∧
      ((max < wt f ∧ TOk B w' p g' (n - j) max (shF j F)) ∨ (wt f ≤ max ∧ TOk B w' p g' (n - j + 1) max (appFd (n - j) (shF j F) ⟨f.name, f.val, false⟩))) := by
  obtain ⟨nm, vl, nv⟩ := f
  have hw0 : nm.size + vl.size + 32 ≤ 500 := hf
  show Calls _ _ #[_, .agg #[.string nm, .string vl, .bool nv]] _ _
  obtain ⟨X, hX⟩ : ∃ X, X = nm.size + vl.size + 32 := ⟨_, rfl⟩
  have hwt : wt ⟨nm, vl, nv⟩ = X := hX.symm
  rw [hwt]
  obtain ⟨xw, hxw⟩ : ∃ xw : Int, xw = ((nm.size + vl.size + 32 : Nat) : Int) := ⟨_, rfl⟩
  have hxX : xw = (X : Int) := by rw [hxw, hX]
  have Hxw := hide hxw
  have HxX := hide hxX
  have HX := hide hX
  have al := (Below.refl w.heap.size w).alloc (Nat.le_refl _) (.cells #[.string nm, .string vl, .bool nv] 52)
  have R0 := hide (heap_alloc_new w (.cells #[.string nm, .string vl, .bool nv] 52))
  have T0 := hide (h.below al)
  have E0 := hide al
  have HB := hide hB
  have Hlt := hide h.lt
  have hmx := h.mx
  have hn1 : nm.size ≤ 1000 := by omega
  have hv1 : vl.size ≤ 1000 := by omega
  clear h al hB hxw hxX hX hwt hf
  go_enter Try.func24, Try.ntmps24
  obtain ⟨a0, a1, a2⟩ := rowT R0.out
  go_wp2_with fail
  generalize hw1 : w.alloc (.cells #[.string nm, .string vl, .bool nv] 52) = W1 at *
  clear hw1
  refine (weight21 nm vl nv hn1 hv1 _).mono ?_
  rintro e w2 ⟨rfl, hw2⟩
  rw [← Hxw.out]
  have b2 : Below W1.heap.size W1 w2 := by rw [hw2]; exact (Below.refl _ _).alloc (Nat.le_refl _) _
  have T2 := hide (T0.out.below b2)
  have R2 := hide (keepRow R0.out b2)
  have E2 := hide (E0.out.of b2)
  clear hw2 b2 a0 a1 a2 T0 R0 E0
  obtain ⟨A2, c2', k1, k2, _⟩ := T2.out.row
  obtain ⟨t0, t1, t2⟩ := rowT k1
  have hmost : IntKind.i64.wrap ((max : Int) - xw) = (max : Int) - xw := IntWalk.i64_in _ (by have := HxX.out; have := HX.out; omega)
  clear k1 k2
  go_wp2_with fail
  refine (shrink21 T2.out (Nat.le_trans HB.out E2.out.size) ((max : Int) - xw) (by omega)).mono ?_
  rintro e w3 ⟨j, rfl, hj, hmo, hen, ht3, hf3⟩
  rw [HxX.out] at hmo hen
  have Hmo := hide hmo
  have Hen := hide hen
  have T3 := hide ht3
  have F3 : Hid (FrO B (tfp p g) w w3) := (FrO.of (S := tfp p g) E2.out HB.out).step hf3 (fun i hi => .inl hi)
  have E3 := hide F3.out.below
  have R3 := hide (hf3.row R2.out (fun h => by have := (Hlt.out _ h).2; omega))
  clear hmo hen ht3 hf3 t0 t1 t2 T2 R2 E2 hmost
  obtain ⟨N, hN⟩ : ∃ N, N = n - j := ⟨_, rfl⟩
  rw [← hN] at T3 Hen
  have HN := hide hN
  clear hN
  obtain ⟨A3, c3, k1, k2, k3⟩ := T3.out.row
  have K1 := hide k1
  obtain ⟨t0, t1, t2⟩ := rowT k1
  obtain ⟨a0, a1, a2⟩ := rowT R3.out
  by_cases hbig : max < X
  · have hd : decide ((max : Int) < xw) = true := decide_eq_true (by have := HxX.out; omega)
    have Hbig := hide hbig
    clear hbig
    go_wp2_with fail
    refine bodyPost_ret (results_none rfl _ _ _) rfl ?_
    exact ⟨j, g, rfl, hj, Hmo.out, by rw [← HN.out]; exact Hen.out, F3.out, .inl rfl, .inl ⟨Hbig.out, by rw [← HN.out]; exact T3.out⟩⟩
  · have hd : decide ((max : Int) < xw) = false := decide_eq_false (by have := HxX.out; omega)
    have Hbig : Hid (X ≤ max) := by show _ ≤ _; omega
    clear hbig
    obtain ⟨i0, hi, hz0, hz1, hz2⟩ := info_parts field_info
    have alx := (Below.refl w3.heap.size w3).alloc (Nat.le_refl _) (.cells #[.string nm, .string vl, .bool false] 52)
    obtain ⟨u0, u1, u2⟩ := rowT (keepRow k1 alx)
    obtain ⟨v0, v1, v2⟩ := rowT (keepRow R3.out alx)
    have O3 := hide k3
    have Kx := keepRow k1 alx
    have hpl := rowLt Kx
    have hN90 : N ≤ 90 := by have := HN.out; omega
    have hB3 : B ≤ w3.heap.size := Nat.le_trans HB.out E3.out.size
    have hsz : w3.heap.size < (w3.alloc (.cells #[.string nm, .string vl, .bool false] 52)).heap.size := by simp
    have Lx : Hid (RdV 3 (w3.alloc (.cells #[.string nm, .string vl, .bool false] 52)) (some ⟨w3.heap.size, 0, none⟩) 1 1 (fdV fun _ => ⟨nm, vl, false⟩)) := (OwnV.lit 3 52 0 w3 (fdV fun _ => ⟨nm, vl, false⟩) #[.string nm, .string vl, .bool false] 1 (Nat.zero_le _) (by simp [maxLen]) rfl).rdS2
    clear k3 k1 alx
    go_wp2_with fail
    go_region_law (first | (refine step_appO rfl (.tmp 27) (.tmp 33) _ rfl 3 i0 _ 40 Try.underlying48 hi hz0 hz1 hz2 rfl (by omega) B _ N (fdV (shF j F)) rfl (by first | exact O3.out.alloc _ | exact (O3.out.alloc _).at_ (fun _ _ => rfl)) _ 0 1 1 (fdV fun _ => ⟨nm, vl, false⟩) rfl (by first | exact Lx.out | exact Lx.out.below36O (Below.refl _ _).drew) (by omega) (fdV_one _ _) (by simp only [maxLen]; omega) (by omega) (Nat.le_trans hB3 (Nat.le_of_lt hsz)) ?_; intro v4 w4 hown4 hg4 hob4; obtain ⟨A4, c4, rfl, _, _⟩ := hown4.rd; have K4 : w4.heap[p]? = some (.cells #[.slice A3 N c3, .int .i64 (sumW (shF j F) N : Int), .int .i64 (max : Int)] 68 (0, 0)) := (hg4.block p hpl (fun e => T3.out.ne (k2.symm.trans e.symm))).trans Kx; obtain ⟨x0, x1, x2⟩ := rowT K4; have fz0 := frozenRow K4 0; have fz1 := frozenRow K4 1))
    all_goals
      have hg5 : (w3.alloc (.cells #[.string nm, .string vl, .bool false] 52)).grownBy w4 (Value.slice A3 N c3).ownBlock := ⟨hg4.os, hg4.tape, hg4.output, hg4.size, hg4.block⟩
      have hB4 : B ≤ (w3.alloc (.cells #[.string nm, .string vl, .bool false] 52)).heap.size := Nat.le_trans hB3 (Nat.le_of_lt hsz)
      have F4 : Hid (FrO B (tfp p g) w w4) := (F3.out.step (FrO.of (S := tfp p g) ((Below.refl w3.heap.size w3).alloc (Nat.le_refl _) (.cells #[.string nm, .string vl, .bool false] 52)) hB3) fun i hi => .inl hi).step (FrO.grown (S := tfp p g) hg5 hB4 (fun b e => ⟨(O3.out.lt b e).1, .inr (k2.symm.trans e)⟩)) fun i hi => .inl hi
      have hnew : ∀ b, (Value.slice A4 (N + 1) c4).ownBlock = some b → g = some b ∨ w3.heap.size < b := fun b e => by
        rcases hob4 with h | h
        · exact .inl (k2.symm.trans ((show (Value.slice A3 N c3).ownBlock = (Value.slice A4 (N + 1) c4).ownBlock from h.symm).trans e))
        · have h9 : (w3.alloc (.cells #[.string nm, .string vl, .bool false] 52)).heap.size ≤ b := h b e
          exact .inr (Nat.lt_of_lt_of_le hsz h9)
      have hp3 : p < w3.heap.size := rowLt K1.out
      have hne4 : (Value.slice A4 (N + 1) c4).ownBlock ≠ some p := fun e => by
        rcases hnew p e with h | h
        · exact T3.out.ne h
        · omega
      have HO4 : Hid (OwnO 3 52 B w4 (.slice A4 (N + 1) c4) (N + 1) (fdV (appFd N (shF j F) ⟨nm, vl, false⟩))) := by
        rw [fdV_app] at hown4
        exact hown4
      have Hgn : Hid ((Value.slice A4 (N + 1) c4).ownBlock = g ∨ ∀ b, (Value.slice A4 (N + 1) c4).ownBlock = some b → w.heap.size ≤ b) := by
        rcases hob4 with h | h
        · exact .inl (h.trans k2)
        · refine .inr fun b e => ?_
          have h9 : (w3.alloc (.cells #[.string nm, .string vl, .bool false] 52)).heap.size ≤ b := h b e
          have h8 := F3.out.below.size
          omega
      obtain ⟨S2, hS2⟩ : ∃ S2, S2 = sumW (appFd N (shF j F) ⟨nm, vl, false⟩) (N + 1) := ⟨_, rfl⟩
      have hS3 : S2 = sumW (shF j F) N + X := by rw [hS2, sumW_app]; show _ = sumW (shF j F) N + X; rw [HX.out]; rfl
      have hsum := T3.out.sum
      have K5 := setRow w4 p 0 (.slice A4 (N + 1) c4) K4
      simp only [List.setIfInBounds_toArray, List.set_cons_zero, List.set_cons_succ] at K5
      have hwx : IntKind.i64.wrap ((sumW (shF j F) N : Int) + xw) = (S2 : Int) := by
        have h1 := HxX.out
        have h2 := HX.out
        rw [IntWalk.i64_in _ (by omega)]
        omega
      have K6 := setRow _ p 1 (.int .i64 (S2 : Int)) K5
      simp only [List.setIfInBounds_toArray, List.set_cons_zero, List.set_cons_succ] at K6
      have HK6 := hide K6
      obtain ⟨y0, y1, y2⟩ := rowT K5
      have z1 := frozenRow K5 1
      have HS2 := hide hS2
      clear hS2 hS3 hsum K5 K6 hg4 hg5 hob4 hown4 hnew u0 u1 u2 v0 v1 v2 t0 t1 t2 a0 a1 a2 Kx hpl Lx
      go_wp2_with fail
      first | go_end0 | (refine bodyPost_ret (results_none rfl _ _ _) rfl ?_)
      refine ⟨j, _, rfl, hj, Hmo.out, by rw [← HN.out]; exact Hen.out, (F4.out.step (FrO.set (S := tfp p g) _ p 0 _ T3.out.hp (.inl rfl)) fun i hi => .inl hi).step (FrO.set (S := tfp p g) _ p 1 _ T3.out.hp (.inl rfl)) fun i hi => .inl hi, Hgn.out, .inr ⟨Hbig.out, ?_⟩⟩
      rw [← HN.out]
      have hk6 := HK6.out
      rw [HS2.out] at hk6 ⊢
      refine ⟨⟨_, hk6, rfl, (HO4.out.setCell hne4 0 _).setCell hne4 1 _⟩, T3.out.hp, hne4, hmx, fun i hi => ?_⟩
      unfold appFd
      by_cases h : i < N
      · rw [if_pos h]; exact T3.out.wl i h
      · rw [if_neg h]; exact hw0
end Go.Proofs.Yteikpdolickkaaa
