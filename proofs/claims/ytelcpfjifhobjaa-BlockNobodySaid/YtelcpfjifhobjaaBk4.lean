/- Layer 30: a further part is taken. -/
import Derived.Test.YtelcpfjifhobjaaBk3
namespace Go.Proofs.Ytelcpfjifhobjaa
set_option linter.unusedVariables false
set_option linter.unusedSimpArgs false
open Go.RowKit

section
variable {P : Program} {k : IntKind} {e : TypeId} {w : World} {ops : Array Oper} {o : Oper} {a : Act} {K : Act → World → Prop} {Q : Exit → Act → World → Prop} {E : Prop}
theorem run_app4 (t ty : TypeId) (i : TypeInfo) (z : Int) (bytes : Nat) (ht : P.underlying t = some (.slice e)) (hi : P.info? e = some i) (hz : i.zero = some (.int k z)) (hsize : i.size = 1) (hby : i.bytes = bytes)
    (B : Nat) (v : Value) (n : Nat) (f : Nat → Int) (hown : Own k e B w v n f) (A : Option Addr) (m c : Nat) (g : Nat → Int) (hr : Rd k w A m c g)
    (h63 : n + m ≤ maxLen) (hbytes : (n + m) * bytes ≤ 140737488355328) (hbase : B ≤ w.heap.size) :
    ∃ v' w', (Builtin.append_ #[t, t] ty #[v, .slice A m c]).run P w = .ok v' w' ∧ Own k e B w' v' (n + m) (catF n f g) ∧ w.grownBy w' v.ownBlock ∧ (v'.ownBlock = v.ownBlock ∨ v'.ownBlock = some w.heap.size) := by
  rcases A with _ | ad
  · obtain ⟨h1, h2, h3, _⟩ := hr
    obtain rfl : c = 0 := h3 rfl
    obtain rfl : m = 0 := by omega
    refine ⟨v, w, run_append_owned_none w B t ty e i 1 ht hi v n _ hown, ?_, World.grownBy.refl _ _, .inl rfl⟩
    refine Own.congr (f := f) (by simpa using hown) fun j hj => ?_
    have : j < n := by omega
    simp [catF, this]
  · have hcells : ∀ j u, (row k m g)[j]? = some u → w.cell? (ad.add j) = some u := by
      intro j u hu
      obtain ⟨hj, rfl⟩ := row_get_some hu
      obtain ⟨b, off, hA, hc⟩ := hr.at_ hj
      obtain rfl := Option.some.inj hA
      rw [Addr.add_lit]
      exact hc
    obtain ⟨v', w', hrun, h2, h3, _, h4⟩ := run_append_own_at (P := P) w B t ty e i (.int k z) 1 bytes ht hi hz hsize hby rfl (by omega) v n (row k n f) hown ad m c (row k m g) (by rw [row_len]; omega) hcells (row_one k m g) h63 hbytes hbase
    exact ⟨v', w', hrun, by unfold Own; rw [← row_cat]; exact h2, h3, h4⟩


theorem step_app4 (hgd : o.guard = none) (s x : Operand) (t : TypeId) (ho : o.op = .call { callee := .builtin .append, args := #[s, x], argTypes := #[t, t] })
    (i : TypeInfo) (z : Int) (bytes : Nat) (ht : P.underlying t = some (.slice e)) (hi : P.info? e = some i) (hz : i.zero = some (.int k z)) (hsize : i.size = 1) (hby : i.bytes = bytes)
    (B : Nat) (v : Value) (n : Nat) (f : Nat → Int) (hs : a.eval s = v) (hown : Own k e B w v n f) (A : Option Addr) (m c : Nat) (g : Nat → Int) (hx : a.eval x = .slice A m c) (hr : Rd k w A m c g)
    (h63 : n + m ≤ maxLen) (hbytes : (n + m) * bytes ≤ 140737488355328) (hbase : B ≤ w.heap.size)
    (h : ∀ v' w', Own k e B w' v' (n + m) (catF n f g) → w.grownBy w' v.ownBlock → (v'.ownBlock = v.ownBlock ∨ v'.ownBlock = some w.heap.size) → K (a.put o.dst v') w') :
    if Region.wanted o (yielded ops a.tmps) = true then Oper.wp P o a w K Q else E := by
  rw [if_pos (by simp [Region.wanted, hgd])]
  obtain ⟨v', w', hrun, h2, h3, h4⟩ := run_app4 (P := P) t o.type i z bytes ht hi hz hsize hby B v n f hown A m c g hr h63 hbytes hbase
  unfold Oper.wp execOp
  simp only [ho, resolve, invoke, builtin, Sem.run_bind, Sem.run_pure, Result.andThen_ok, List.map_toArray, List.map_cons, List.map_nil, hs, hx, hrun]
  exact h v' w' h2 h3 h4
end

theorem FrS.ofGrownZ {w w' : World} {r : Option Nat} (hg : w.grownBy w' r) : FrS 0 (fun i => r = some i) w w' :=
  ⟨⟨hg.os, hg.tape, hg.output, hg.size, fun i hi => absurd hi (by omega)⟩, fun i hi hn => hg.block i hi (fun e => hn e.symm)⟩
set_option maxRecDepth 100000 in
set_option maxHeartbeats 3200000 in
theorem takeMore30 (T fl st pd : Int) (A : Option Addr) (n c : Nat) (f : Nat → Int) (A2 : Option Addr) (n2 c2 : Nat) (s t : Nat → Int) (wt pa : Int) (al : Bool) (pm la co sp : Int) (B : Nat) (p : Nat) (fp : Nat → Prop) (most : Int) (X : BS) (w : World) (h : AsOk B w p fp most X) (hX : X.begun = true) (ha : Rd .u8 w A n c f) (hn : X.N + n ≤ 100000) :
    Calls Try.prog 66 #[.pointer (some ⟨p, 0, none⟩), .agg #[.int .i64 T, .int .i64 fl, .int .i64 st, .int .i64 pd, .slice A n c, .slice A2 n2 c2, .int .i64 wt, .int .i64 pa, .bool al, .int .i64 pm, .int .i64 la, .int .i64 co, .int .i64 sp]] w (fun e w' => e = .returned (.tuple #[]) ∧ ∃ fp', AsOk B w' p fp' most { X with N := X.N + n, D := catF X.N X.D f } ∧ (∀ i, fp' i → fp i ∨ w.heap.size ≤ i) ∧ FrS B fp w w') := by
  have e0 := (Below.refl w.heap.size w).alloc (Nat.le_refl _) (.cells #[.int .i64 T, .int .i64 fl, .int .i64 st, .int .i64 pd, .slice A n c, .slice A2 n2 c2, .int .i64 wt, .int .i64 pa, .bool al, .int .i64 pm, .int .i64 la, .int .i64 co, .int .i64 sp] 28)
  have h0 := h.below e0
  have hlo := h.lo
  have hfp := h.hp
  obtain ⟨⟨v, B2, d2, h1, h2, h3, h4, h5⟩, _, _⟩ := h0
  rw [hX] at h1
  obtain ⟨A9, c9, rfl, hr9, hf9⟩ := h2.rd
  have hpw := (hlo p hfp).2
  have hpB := (hlo p hfp).1
  have R0 := hide (heap_alloc_new w (.cells #[.int .i64 T, .int .i64 fl, .int .i64 st, .int .i64 pd, .slice A n c, .slice A2 n2 c2, .int .i64 wt, .int .i64 pa, .bool al, .int .i64 pm, .int .i64 la, .int .i64 co, .int .i64 sp] 28))
  have P0 := hide h1
  have E0 := hide e0
  have O0 := hide h2
  have S0 := hide h3
  have V0 := hide h4
  have T0 := hide h5
  have HA0 := hide (ha.below e0)
  have HLO := hide hlo
  have HFP := hide hfp
  have HX := hide hX
  have hW0 : (w.alloc (.cells #[.int .i64 T, .int .i64 fl, .int .i64 st, .int .i64 pd, .slice A n c, .slice A2 n2 c2, .int .i64 wt, .int .i64 pa, .bool al, .int .i64 pm, .int .i64 la, .int .i64 co, .int .i64 sp] 28)).heap.size = w.heap.size + 1 := by simp
  clear h1 h2 h3 h4 h5 e0 h hlo hfp ha hr9 hf9 hX
  go_enter Try.func66, Try.ntmps66
  go_upto_region 1 with (fail)
  generalize w.alloc (.cells #[.int .i64 T, .int .i64 fl, .int .i64 st, .int .i64 pd, .slice A n c, .slice A2 n2 c2, .int .i64 wt, .int .i64 pa, .bool al, .int .i64 pm, .int .i64 la, .int .i64 co, .int .i64 sp] 28) = W0 at *
  obtain ⟨f0_, f1_, f2_, f3_, f4_, f5_, f6_, f7_, f8_, f9_, f10_, f11_, f12_⟩ := row13 R0.out
  obtain ⟨c0_, c1_, c2_, c3_, c4_, c5_, c6_, c7_, c8_, c9_, c10_, c11_, c12_, c13_, c14_⟩ := row15 P0.out
  go_upto_region 4 with (fail)
  obtain ⟨i0, hi, hz0, hz1, hz2⟩ := info_parts c8_info
  have HCd := hide (HA0.out.below (Below.refl _ _).drew)
  have HOd := hide (O0.out.drew)
  go_region_law (refine step_app4 rfl (.tmp 32) (.tmp 34) _ rfl i0 _ 1 Try.underlying22 hi hz0 hz1 hz2 B (.slice A9 X.N c9) X.N X.D rfl HOd.out _ n c f rfl HCd.out (by simp only [maxLen]; omega) (by omega) (by show B ≤ W0.heap.size; omega) ?_; intro v5 w5 hown5 hg5 hob5; obtain ⟨A5, c5, rfl, hr5, hf5⟩ := hown5.rd; have HO5 := hide hown5; have hg6 : W0.grownBy w5 (Value.slice A9 X.N c9).ownBlock := ⟨hg5.os, hg5.tape, hg5.output, hg5.size, hg5.block⟩; have HG5 := hide hg6; have HB5 := hide hob5; have P5 := hide (keepGrown P0.out hg6 (fun e => (V0.out p e).2 rfl)); have zz := frozenRow P5.out 6; obtain ⟨d0_, d1_, d2_, d3_, d4_, d5_, d6_, d7_, d8_, d9_, d10_, d11_, d12_, d13_, d14_⟩ := row15 P5.out)
  all_goals
    have s5 := setRow w5 p 6 (.slice A5 (X.N + n) c5) P5.out
    simp only [List.setIfInBounds_toArray, List.set_cons_zero, List.set_cons_succ] at s5
    have hgs := HG5.out.size
    have hgs2 : W0.heap.size ≤ w5.heap.size := hgs
    have hbl : ∀ b, (Value.slice A5 (X.N + n) c5).ownBlock = some b → (fp b ∧ b ≠ p) ∨ b = W0.heap.size := fun b e => by
      rcases HB5.out with h | h
      · exact .inl (V0.out b (h.symm.trans e))
      · exact .inr (Option.some.inj (e.symm.trans h))
    have hnb : (Value.slice A5 (X.N + n) c5).ownBlock ≠ some p := fun e => by
      rcases hbl p e with h | h
      · exact h.2 rfl
      · omega
    have gA : FrS B fp W0 w5 := ⟨⟨HG5.out.os, HG5.out.tape, HG5.out.output, hgs2, fun i hi => HG5.out.block i (by show i < W0.heap.size; omega) (fun e => by have := (HLO.out i (V0.out i e.symm).1).1; omega)⟩, fun i hi hn => HG5.out.block i hi (fun e => hn (V0.out i e.symm).1)⟩
    have gS := FrS.set (B := B) (S := Q1 p) (w := w5) (j := 6) (u := .slice A5 (X.N + n) c5) hpB (rowLt P5.out) rfl
    have gW := gS.wide (T := fp) fun i e => by have e2 : i = p := e; rw [e2]; exact HFP.out
    have FIN : Hid (∃ fp', AsOk B (w5.setCell ⟨p, 6, none⟩ (.slice A5 (X.N + n) c5)) p fp' most { X with N := X.N + n, D := catF X.N X.D f } ∧ (∀ i, fp' i → fp i ∨ w.heap.size ≤ i) ∧ FrS B fp w (w5.setCell ⟨p, 6, none⟩ (.slice A5 (X.N + n) c5))) := by
      refine ⟨fun i => fp i ∨ (w.heap.size ≤ i ∧ i < w5.heap.size), ⟨⟨.slice A5 (X.N + n) c5, B2, d2, ?_, ?_, ?_, ?_, ?_⟩, .inl HFP.out, ?_⟩, ?_, ?_⟩
      · show _ = some (Obj.cells #[_, .bool X.begun, _, _, _, _, _, _, _, _, _, _, _, _, _] _ _)
        rw [HX.out]
        exact s5
      · exact Own.keptZZ HO5.out (grown_set w5 p 6 (.slice A5 (X.N + n) c5)) (.inr hnb)
      · refine (S0.out.frs (FrS.ofGrownZ HG5.out) (fun b off h0 e sB => (T0.out _ e).2.2 sB)).frs gS (fun b off h0 e sB => ?_)
        have e2 : b = p := sB
        exact (T0.out _ e).2.1 e2
      · intro b e
        refine ⟨?_, fun e2 => hnb (e2 ▸ e)⟩
        rcases hbl b e with h | h
        · exact .inl h.1
        · exact .inr ⟨by omega, (World.ownsRow.lt HO5.out b e).2⟩
      · intro a e
        refine ⟨.inl (T0.out a e).1, (T0.out a e).2.1, fun e2 => ?_⟩
        rcases HB5.out with h | h
        · exact (T0.out a e).2.2 (h.symm.trans e2)
        · have h1 := (HLO.out _ (T0.out a e).1).2
          have h2 : a.block = W0.heap.size := Option.some.inj (e2.symm.trans h)
          omega
      · intro i hi
        rcases hi with h | ⟨h1, h2⟩
        · have h3 := HLO.out i h
          exact ⟨h3.1, by have h4 : (w5.setCell ⟨p, 6, none⟩ (.slice A5 (X.N + n) c5)).heap.size = w5.heap.size := by simp
                          omega⟩
        · exact ⟨by omega, by simpa using h2⟩
      · intro i hi
        exact hi.elim .inl (fun h => .inr h.1)
      · exact ((FrS.ofBelow fp E0.out (by omega)).trans gA).trans gW
    go_wp2_with fail
    go_end0
    exact ⟨rfl, FIN.out⟩
end Go.Proofs.Ytelcpfjifhobjaa
