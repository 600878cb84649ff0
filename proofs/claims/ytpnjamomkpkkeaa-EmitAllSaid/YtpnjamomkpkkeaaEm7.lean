/- Layer 15: the body of a frame, as the program writes it: whole. -/
import Derived.Test.YtpnjamomkpkkeaaEm6
import Derived.Test.YtpnjamomkpkkeaaEm3
namespace Go.Proofs.Ytpnjamomkpkkeaa
set_option linter.unusedVariables false
set_option linter.unusedSimpArgs false
open Go.RowKit

theorem wp_appZ {P : Program} {e : TypeId} {w : World} {ops : Array Oper} {rest : List Oper} {o : Oper} {a : Act} {Q : Exit → Act → World → Prop} (hgd : o.guard = none) (s x : Operand) (t tn u : TypeId) (ho : o.op = .call { callee := .builtin .append, args := #[s, x], argTypes := #[t, tn] })
    (i : TypeInfo) (ht : P.underlying t = some (.slice e)) (htn : P.underlying tn = some (.int .i64)) (hu : P.underlying u = some .string) (hi : P.info? e = some i) (hz : i.zero = some (.int .u8 0)) (hsize : i.size = 1) (hby : i.bytes = 1)
    (B : Nat) (v : Value) (n : Nat) (f : Nat → Int) (hs : a.eval s = v) (hoz : Own .u8 e B w v n f) (N : Nat) (hx : a.eval x = .int .i64 (N : Int)) (h47 : n + N ≤ 140737488355328) (hbase : B ≤ w.heap.size)
    (h : ∀ v' w', Own .u8 e B w' v' (n + N) (catF n f (fun _ => 0)) → w.grownBy w' v.ownBlock → wpList P ops Q rest (a.put o.dst v') w') : wpList P ops Q (o :: rest) a w := by
  obtain ⟨A, c, hv, _, _⟩ := hoz.rd
  have hz' : i.zero = some (.int .u8 0) := hz
  obtain ⟨v', w', hrun, h2, h3, _⟩ := Go.Lib.run_append_own_string (P := P) w B t u o.type e i ht hu hi hz' hsize hby v n (row .u8 n f) hoz (zS N) (by rw [zS_size]; simp only [maxLen]; omega) (by rw [zS_size]; exact h47) hbase
  have he := run_appZ (P := P) w t tn u o.type e i ht htn hu hi hz' hsize hby A n c N (by omega) h47
  rw [← hv] at he
  have hc : Go.Lib.strCells (zS N) = row .u8 N (fun _ => 0) := by
    unfold Go.Lib.strCells zS row
    apply List.ext_getElem <;> simp
  rw [hc, zS_size] at h2
  refine Go.Lib.wpList_append_run w hgd s x t tn ho v (.int .i64 (N : Int)) hs hx v' w' (he.trans hrun) (h v' w' ?_ h3)
  unfold Own
  rw [← row_cat]
  exact h2
theorem rep_F (n : Nat) : ∀ i, i < n → lF (List.replicate n (0 : Int)) i = 0 := fun i hi => by
  simp [lF, List.getD_eq_getElem?_getD, hi]
/-- What the body's call gives. -/
def Bd5 (X : Fm5) (w : World) (e : Ending) (w' : World) : Prop :=
  Below w.heap.size w w' ∧ ((X.POk ∧ ∃ A c, e = .returned (.tuple #[.slice A X.emL.length c, .bool true]) ∧ Rd .u8 w' A X.emL.length c (lF X.emL)) ∨ (¬ X.POk ∧ e = .returned (.tuple #[.slice none 0 0, .bool false])))
theorem rd_list {w : World} {A : Option Addr} {n c : Nat} {f : Nat → Int} (h : Rd .u8 w A n c f) : Rd .u8 w A n c (lF ((List.range n).map f)) :=
  ⟨h.1, h.2.1, h.2.2.1, fun hn => by
    obtain ⟨b, off, hA, hc⟩ := h.2.2.2 hn
    exact ⟨b, off, hA, fun i hi => by rw [hc i hi, lF_map hi]⟩⟩
theorem sb_list {w : World} {A : Option Addr} {n c : Nat} {s g : Nat → Int} (h : Rd .u8 w A (n * 6) c (sB s g)) : Rd .u8 w A (n * 6) c (lF ((List.range (n * 6)).map (sB s g))) := rd_list h
theorem rd_congr5 {w : World} {A : Option Addr} {n m c : Nat} {f g : Nat → Int} (h : Rd .u8 w A n c f) (e : m = n) (hf : ∀ i, i < n → f i = g i) : Rd .u8 w A m c g := by
  subst e
  exact ⟨h.1, h.2.1, h.2.2.1, fun hn => by
    obtain ⟨b, off, hA, hc⟩ := h.2.2.2 hn
    exact ⟨b, off, hA, fun i hi => by rw [hc i hi, hf i hi]⟩⟩
theorem cat5 (L M Z : List Int) {n N : Nat} (hM : M.length = n) (hZ : Z = List.replicate N 0) : ∀ i, i < L.length + n + N → catF (L.length + n) (catF L.length (lF L) (lF M)) (fun _ => 0) i = lF (L ++ M ++ Z) i := fun i hi => by
  subst hM
  subst hZ
  rw [lF_app (by simp; omega)]
  unfold catF
  rw [List.length_append]
  by_cases h : i < L.length + M.length
  · rw [if_pos h, if_pos h, lF_app h]
    rfl
  · rw [if_neg h, if_neg h, rep_F N _ (by omega)]
set_option maxRecDepth 20000 in
set_option maxHeartbeats 1600000 in
theorem body_d1_y (fl st pad : Int) (A2 : Option Addr) (nd c2 : Nat) (d : Nat → Int) (A3 : Option Addr) (ns c3 : Nat) (s g : Nat → Int) (wt pa : Int) (al : Bool) (pm la co sp : Int) (hfl : fl ≤ 9223372036854775807) (hnd : nd ≤ 100000) (hns : ns ≤ 1000) (e3 : hsB 0 fl 3 = true) (hp : (⟨0, fl, st, pad, nd, d, ns, s, g, wt, pa, al, pm, la, co, sp⟩ : Fm5).POk) (w : World) (hd : Rd .u8 w A2 nd c2 d) (hs2 : Rd2 w A3 ns c3 s g) :
    Calls Try.prog 101 #[.agg #[.int .i64 0, .int .i64 fl, .int .i64 st, .int .i64 pad, .slice A2 nd c2, .slice A3 ns c3, .int .i64 wt, .int .i64 pa, .bool al, .int .i64 pm, .int .i64 la, .int .i64 co, .int .i64 sp]] w (Bd5 (⟨0, fl, st, pad, nd, d, ns, s, g, wt, pa, al, pm, la, co, sp⟩ : Fm5) w) := by
  obtain ⟨i0, hi, hz0, hz1, hz2⟩ := info_parts u8_info
  have e5 : hsB 0 fl 5 = false := hsB5_no (by decide)
  have hp1 := hp
  obtain ⟨g3, g5, gco, gs, gpm, gla, gsp⟩ := hp1
  simp only [Fm5.P3, Fm5.P5, Fm5.A5, Fm5.S5] at g3 g5 gco gs gpm gla gsp
  have hpw1 : pw 1 = 256 := by decide
  have hpw4 : pw 4 = 4294967296 := by decide
  have B0 : decide (0 ≤ pad ∧ pad < pw 1) = true := decide_eq_true (by have h := g3 e3; rw [hpw1]; omega)
  have a1 := (Below.refl w.heap.size w).alloc (Nat.le_refl _) (.cells #[.int .i64 0, .int .i64 fl, .int .i64 st, .int .i64 pad, .slice A2 nd c2, .slice A3 ns c3, .int .i64 wt, .int .i64 pa, .bool al, .int .i64 pm, .int .i64 la, .int .i64 co, .int .i64 sp] 25)
  have a2 := a1.alloc (by simp) (.cells #[.slice none 0 0, .bool false] 218)
  have hs1 : (w.alloc (.cells #[.int .i64 0, .int .i64 fl, .int .i64 st, .int .i64 pad, .slice A2 nd c2, .slice A3 ns c3, .int .i64 wt, .int .i64 pa, .bool al, .int .i64 pm, .int .i64 la, .int .i64 co, .int .i64 sp] 25)).heap.size = w.heap.size + 1 := by simp
  have W0 : Hid (WrB ((w.alloc (.cells #[.int .i64 0, .int .i64 fl, .int .i64 st, .int .i64 pad, .slice A2 nd c2, .slice A3 ns c3, .int .i64 wt, .int .i64 pa, .bool al, .int .i64 pm, .int .i64 la, .int .i64 co, .int .i64 sp] 25)).alloc (.cells #[.slice none 0 0, .bool false] 218)) (w.heap.size + 1) false []) := ⟨none, 0, by rw [← hs1]; exact heap_alloc_new _ _, Own.nil _ _ _ _ _⟩
  have R0 := hide (keepRow (heap_alloc_new w (.cells #[.int .i64 0, .int .i64 fl, .int .i64 st, .int .i64 pad, .slice A2 nd c2, .slice A3 ns c3, .int .i64 wt, .int .i64 pa, .bool al, .int .i64 pm, .int .i64 la, .int .i64 co, .int .i64 sp] 25)) ((Below.refl (w.alloc (.cells #[.int .i64 0, .int .i64 fl, .int .i64 st, .int .i64 pad, .slice A2 nd c2, .slice A3 ns c3, .int .i64 wt, .int .i64 pa, .bool al, .int .i64 pm, .int .i64 la, .int .i64 co, .int .i64 sp] 25)).heap.size _).alloc (Nat.le_refl _) (.cells #[.slice none 0 0, .bool false] 218)))
  have E0 := hide a2
  have HD := hide hd
  have HS2 := hide hs2
  have V0 : Hid (∀ i, i ≠ w.heap.size + 1 → i = i) := fun _ _ => rfl
  obtain ⟨x0_0, x0_1, x0_2, x0_3, x0_4, x0_5, x0_6, x0_7, x0_8, x0_9, x0_10, x0_11, x0_12⟩ := row13 R0.out
  clear a1 a2 hs1 hd hs2 V0
  have HP := hide hp
  clear hp
  go_enter Try.func101, Try.ntmps101
  go_upto_region 3 with (fail)
  generalize hW : (w.alloc (.cells #[.int .i64 0, .int .i64 fl, .int .i64 st, .int .i64 pad, .slice A2 nd c2, .slice A3 ns c3, .int .i64 wt, .int .i64 pa, .bool al, .int .i64 pm, .int .i64 la, .int .i64 co, .int .i64 sp] 25)).alloc (.cells #[.slice none 0 0, .bool false] 218) = U0 at *
  clear hW
  go_wp2_with fail
  refine (has8 0 fl 3 (by decide) 8 rfl hfl _).mono ?_
  rintro e u0 ⟨rfl, rfl⟩
  rw [e3]
  go_wp2_with fail
  refine (number15 W0.out pad 1 1 rfl (by decide) (by decide) (by simp [numL_len, prL5_len]) true B0).mono ?_
  rintro e U1 ⟨rfl, hw, hb, hv⟩
  rw [if_pos rfl] at hw
  simp only [Bool.not_true, Bool.or_false] at hw
  have W1 := hide hw
  have E1 := hide (E0.out.trans (hb.mono (Nat.le_succ _)))
  have R1 := hide (hv _ _ _ (by omega) bne_u8 R0.out)
  clear hw hb hv
  obtain ⟨x1_0, x1_1, x1_2, x1_3, x1_4, x1_5, x1_6, x1_7, x1_8, x1_9, x1_10, x1_11, x1_12⟩ := row13 R1.out
  obtain ⟨L, hL⟩ : ∃ L, L = ([] ++ numL pad 1) := ⟨_, rfl⟩
  have hem : (⟨0, fl, st, pad, nd, d, ns, s, g, wt, pa, al, pm, la, co, sp⟩ : Fm5).emL = L ++ (List.range nd).map d ++ List.replicate pad.toNat 0 := by
    rw [hL]
    simp [Fm5.emL, Fm5.padL, Fm5.prL, Fm5.tyL, Fm5.dL, Fm5.zL, Fm5.setL, Fm5.P3, Fm5.P5, prL5, e3, e5]
  have hLl : L.length ≤ 7000 := by rw [hL]; simp [numL_len, prL5_len]
  have WL : Hid (WrB U1 (w.heap.size + 1) false L) := by rw [hL]; exact W1.out
  have HL := hide hem
  have hltp := WL.out.lt
  clear hL hem W1
  obtain ⟨Aw, cw, hwr, how⟩ := WL.out
  obtain ⟨y0, y1⟩ := row2 hwr
  have zw := frozenRow hwr 0
  have HO := hide how
  have HWR := hide hwr
  have hne : (Value.slice Aw L.length cw).ownBlock ≠ some (w.heap.size + 1) := fun e => by have := (World.ownsRow.lt how _ e).1; omega
  have HDc := hide (rd_list (HD.out.below E1.out))
  clear hwr how WL
  obtain ⟨N, rfl⟩ : ∃ N : Nat, pad = (N : Int) := ⟨pad.toNat, by have h := g3 e3; omega⟩
  have hN : N ≤ 255 := by have h := g3 e3; omega
  clear g3 g5 gco gs gpm gla gsp
  go_wp2_with (first | (at_builtin; refine wp_appZ rfl (.tmp 70) (.tmp 71) _ _ 9 rfl i0 Try.underlying22 Try.underlying3 Try.underlying9 hi hz0 hz1 hz2 (w.heap.size + 1 + 1) _ (L.length + nd) _ rfl HO3.out N rfl (by omega) (by omega) ?_; intro v4 w4 hown4 hg4; obtain ⟨A8, c8, rfl, _, _⟩ := hown4.rd; have HO4 := hide hown4; have E4 := hide (E3.out.grown hg4 (by omega) (fun k e => by have := (World.ownsRow.lt HO3.out k e).1; omega)); clear hown4 hg4) | (at_builtin; refine wp_app rfl (.tmp 64) (.tmp 66) _ rfl i0 0 1 Try.underlying22 hi hz0 hz1 hz2 (w.heap.size + 1 + 1) _ L.length (lF L) rfl HO.out A2 nd c2 _ rfl HDc.out (by simp only [maxLen]; omega) (by omega) (by omega) ?_; intro v2 w2 hown2 hg2; obtain ⟨A7, c7, rfl, _, _⟩ := hown2.rd; have hr2 := keepGrown HWR.out hg2 hne; obtain ⟨q0, q1⟩ := row2 hr2; have zq := frozenRow hr2 0; have hr3 := setRow w2 (w.heap.size + 1) 0 (.slice A7 (L.length + nd) c7) hr2; simp only [List.setIfInBounds_toArray, List.set_cons_zero, List.set_cons_succ] at hr3; have hne2 : (Value.slice A7 (L.length + nd) c7).ownBlock ≠ some (w.heap.size + 1) := (fun e => by have := (World.ownsRow.lt hown2 _ e).1; omega); have HO3 : Hid (Own .u8 5 (w.heap.size + 1 + 1) (w2.setCell ⟨w.heap.size + 1, 0, none⟩ (.slice A7 (L.length + nd) c7)) (.slice A7 (L.length + nd) c7) (L.length + nd) (catF L.length (lF L) (lF ((List.range nd).map d)))) := World.ownsRow.kept hown2 (grown_set w2 (w.heap.size + 1) 0 (.slice A7 (L.length + nd) c7)) (.inr hne2); have E3 := hide ((E1.out.grown hg2 (by omega) (fun k e => by have := (World.ownsRow.lt HO.out k e).1; omega)).setCell (p := ⟨w.heap.size + 1, 0, none⟩) (Nat.le_succ _) (.slice A7 (L.length + nd) c7)); obtain ⟨p0, p1⟩ := row2 hr3; have hs3 : w.heap.size + 1 < (w2.setCell ⟨w.heap.size + 1, 0, none⟩ (.slice A7 (L.length + nd) c7)).heap.size := rowLt hr3; clear hr2 hg2 hown2))
  go_ret2
  refine ⟨E4.out, .inl ⟨HP.out, A8, c8, ?_, ?_⟩⟩
  · rw [HL.out]
    first
      | (simp; done)
      | (simp; omega)
  · rw [HL.out]
    refine rd_congr5 HO4.out.rdS (by first | (simp; done) | (simp; omega)) fun i hi => ?_
    exact cat5 L ((List.range nd).map d) (List.replicate (N : Int).toNat 0) (by simp) (by simp) i hi
set_option maxRecDepth 20000 in
set_option maxHeartbeats 1600000 in
theorem body_d1_n (fl st pad : Int) (A2 : Option Addr) (nd c2 : Nat) (d : Nat → Int) (A3 : Option Addr) (ns c3 : Nat) (s g : Nat → Int) (wt pa : Int) (al : Bool) (pm la co sp : Int) (hfl : fl ≤ 9223372036854775807) (hnd : nd ≤ 100000) (hns : ns ≤ 1000) (e3 : hsB 0 fl 3 = true) (hp : ¬ (⟨0, fl, st, pad, nd, d, ns, s, g, wt, pa, al, pm, la, co, sp⟩ : Fm5).POk) (w : World) (hd : Rd .u8 w A2 nd c2 d) (hs2 : Rd2 w A3 ns c3 s g) :
    Calls Try.prog 101 #[.agg #[.int .i64 0, .int .i64 fl, .int .i64 st, .int .i64 pad, .slice A2 nd c2, .slice A3 ns c3, .int .i64 wt, .int .i64 pa, .bool al, .int .i64 pm, .int .i64 la, .int .i64 co, .int .i64 sp]] w (Bd5 (⟨0, fl, st, pad, nd, d, ns, s, g, wt, pa, al, pm, la, co, sp⟩ : Fm5) w) := by
  obtain ⟨i0, hi, hz0, hz1, hz2⟩ := info_parts u8_info
  have e5 : hsB 0 fl 5 = false := hsB5_no (by decide)
  have hpw1 : pw 1 = 256 := by decide
  have hpw4 : pw 4 = 4294967296 := by decide
  obtain ⟨b0, B0⟩ : ∃ b, decide (0 ≤ pad ∧ pad < pw 1) = b := ⟨_, rfl⟩
  have hF : (false || !b0) = true := by
    cases b0 <;> first
      | rfl
      | exact absurd (show (⟨0, fl, st, pad, nd, d, ns, s, g, wt, pa, al, pm, la, co, sp⟩ : Fm5).POk from ⟨fun _ => (by show 0 ≤ pad ∧ pad ≤ 255; have h := of_decide_eq_true (B0.trans rfl); rw [hpw1] at h; omega), fun h => absurd h (by show ¬ (0 = 2 ∨ hsB 0 fl 5 = true); rw [e5]; simp), fun (h : (0 : Int) = 3) => absurd h (by decide), fun (h : (0 : Int) = 4) => absurd h (by decide), fun (h : (0 : Int) = 5) => absurd h (by decide), fun (h : (0 : Int) = 7) => absurd h (by decide), fun (h : (0 : Int) = 8) => absurd h (by decide)⟩) hp
  have HF := hide hF
  clear hF
  have a1 := (Below.refl w.heap.size w).alloc (Nat.le_refl _) (.cells #[.int .i64 0, .int .i64 fl, .int .i64 st, .int .i64 pad, .slice A2 nd c2, .slice A3 ns c3, .int .i64 wt, .int .i64 pa, .bool al, .int .i64 pm, .int .i64 la, .int .i64 co, .int .i64 sp] 25)
  have a2 := a1.alloc (by simp) (.cells #[.slice none 0 0, .bool false] 218)
  have hs1 : (w.alloc (.cells #[.int .i64 0, .int .i64 fl, .int .i64 st, .int .i64 pad, .slice A2 nd c2, .slice A3 ns c3, .int .i64 wt, .int .i64 pa, .bool al, .int .i64 pm, .int .i64 la, .int .i64 co, .int .i64 sp] 25)).heap.size = w.heap.size + 1 := by simp
  have W0 : Hid (WrB ((w.alloc (.cells #[.int .i64 0, .int .i64 fl, .int .i64 st, .int .i64 pad, .slice A2 nd c2, .slice A3 ns c3, .int .i64 wt, .int .i64 pa, .bool al, .int .i64 pm, .int .i64 la, .int .i64 co, .int .i64 sp] 25)).alloc (.cells #[.slice none 0 0, .bool false] 218)) (w.heap.size + 1) false []) := ⟨none, 0, by rw [← hs1]; exact heap_alloc_new _ _, Own.nil _ _ _ _ _⟩
  have R0 := hide (keepRow (heap_alloc_new w (.cells #[.int .i64 0, .int .i64 fl, .int .i64 st, .int .i64 pad, .slice A2 nd c2, .slice A3 ns c3, .int .i64 wt, .int .i64 pa, .bool al, .int .i64 pm, .int .i64 la, .int .i64 co, .int .i64 sp] 25)) ((Below.refl (w.alloc (.cells #[.int .i64 0, .int .i64 fl, .int .i64 st, .int .i64 pad, .slice A2 nd c2, .slice A3 ns c3, .int .i64 wt, .int .i64 pa, .bool al, .int .i64 pm, .int .i64 la, .int .i64 co, .int .i64 sp] 25)).heap.size _).alloc (Nat.le_refl _) (.cells #[.slice none 0 0, .bool false] 218)))
  have E0 := hide a2
  have HD := hide hd
  have HS2 := hide hs2
  have V0 : Hid (∀ i, i ≠ w.heap.size + 1 → i = i) := fun _ _ => rfl
  obtain ⟨x0_0, x0_1, x0_2, x0_3, x0_4, x0_5, x0_6, x0_7, x0_8, x0_9, x0_10, x0_11, x0_12⟩ := row13 R0.out
  clear a1 a2 hs1 hd hs2 V0
  have HP := hide hp
  clear hp
  go_enter Try.func101, Try.ntmps101
  go_upto_region 3 with (fail)
  generalize hW : (w.alloc (.cells #[.int .i64 0, .int .i64 fl, .int .i64 st, .int .i64 pad, .slice A2 nd c2, .slice A3 ns c3, .int .i64 wt, .int .i64 pa, .bool al, .int .i64 pm, .int .i64 la, .int .i64 co, .int .i64 sp] 25)).alloc (.cells #[.slice none 0 0, .bool false] 218) = U0 at *
  clear hW
  go_wp2_with fail
  refine (has8 0 fl 3 (by decide) 8 rfl hfl _).mono ?_
  rintro e u0 ⟨rfl, rfl⟩
  rw [e3]
  go_wp2_with fail
  refine (number15 W0.out pad 1 1 rfl (by decide) (by decide) (by simp) _ B0).mono ?_
  rintro e U1 ⟨rfl, hw, hb, hv⟩
  have W1 := hide hw
  have E1 := hide (E0.out.trans (hb.mono (Nat.le_succ _)))
  have R1 := hide (hv _ _ _ (by omega) bne_u8 R0.out)
  clear hw hb hv
  obtain ⟨x1_0, x1_1, x1_2, x1_3, x1_4, x1_5, x1_6, x1_7, x1_8, x1_9, x1_10, x1_11, x1_12⟩ := row13 R1.out
  obtain ⟨Aw, cw, hwr, how⟩ := W1.out
  obtain ⟨y0, y1⟩ := row2 hwr
  rw [HF.out] at y1
  clear hwr how
  go_wp2_with fail
  go_ret2
  exact ⟨E1.out, .inr ⟨HP.out, rfl⟩⟩
set_option maxRecDepth 20000 in
set_option maxHeartbeats 1600000 in
theorem body_d0_y (fl st pad : Int) (A2 : Option Addr) (nd c2 : Nat) (d : Nat → Int) (A3 : Option Addr) (ns c3 : Nat) (s g : Nat → Int) (wt pa : Int) (al : Bool) (pm la co sp : Int) (hfl : fl ≤ 9223372036854775807) (hnd : nd ≤ 100000) (hns : ns ≤ 1000) (e3 : hsB 0 fl 3 = false) (hp : (⟨0, fl, st, pad, nd, d, ns, s, g, wt, pa, al, pm, la, co, sp⟩ : Fm5).POk) (w : World) (hd : Rd .u8 w A2 nd c2 d) (hs2 : Rd2 w A3 ns c3 s g) :
    Calls Try.prog 101 #[.agg #[.int .i64 0, .int .i64 fl, .int .i64 st, .int .i64 pad, .slice A2 nd c2, .slice A3 ns c3, .int .i64 wt, .int .i64 pa, .bool al, .int .i64 pm, .int .i64 la, .int .i64 co, .int .i64 sp]] w (Bd5 (⟨0, fl, st, pad, nd, d, ns, s, g, wt, pa, al, pm, la, co, sp⟩ : Fm5) w) := by
  obtain ⟨i0, hi, hz0, hz1, hz2⟩ := info_parts u8_info
  have e5 : hsB 0 fl 5 = false := hsB5_no (by decide)
  have hp1 := hp
  obtain ⟨g3, g5, gco, gs, gpm, gla, gsp⟩ := hp1
  simp only [Fm5.P3, Fm5.P5, Fm5.A5, Fm5.S5] at g3 g5 gco gs gpm gla gsp
  have hpw1 : pw 1 = 256 := by decide
  have hpw4 : pw 4 = 4294967296 := by decide
  have a1 := (Below.refl w.heap.size w).alloc (Nat.le_refl _) (.cells #[.int .i64 0, .int .i64 fl, .int .i64 st, .int .i64 pad, .slice A2 nd c2, .slice A3 ns c3, .int .i64 wt, .int .i64 pa, .bool al, .int .i64 pm, .int .i64 la, .int .i64 co, .int .i64 sp] 25)
  have a2 := a1.alloc (by simp) (.cells #[.slice none 0 0, .bool false] 218)
  have hs1 : (w.alloc (.cells #[.int .i64 0, .int .i64 fl, .int .i64 st, .int .i64 pad, .slice A2 nd c2, .slice A3 ns c3, .int .i64 wt, .int .i64 pa, .bool al, .int .i64 pm, .int .i64 la, .int .i64 co, .int .i64 sp] 25)).heap.size = w.heap.size + 1 := by simp
  have W0 : Hid (WrB ((w.alloc (.cells #[.int .i64 0, .int .i64 fl, .int .i64 st, .int .i64 pad, .slice A2 nd c2, .slice A3 ns c3, .int .i64 wt, .int .i64 pa, .bool al, .int .i64 pm, .int .i64 la, .int .i64 co, .int .i64 sp] 25)).alloc (.cells #[.slice none 0 0, .bool false] 218)) (w.heap.size + 1) false []) := ⟨none, 0, by rw [← hs1]; exact heap_alloc_new _ _, Own.nil _ _ _ _ _⟩
  have R0 := hide (keepRow (heap_alloc_new w (.cells #[.int .i64 0, .int .i64 fl, .int .i64 st, .int .i64 pad, .slice A2 nd c2, .slice A3 ns c3, .int .i64 wt, .int .i64 pa, .bool al, .int .i64 pm, .int .i64 la, .int .i64 co, .int .i64 sp] 25)) ((Below.refl (w.alloc (.cells #[.int .i64 0, .int .i64 fl, .int .i64 st, .int .i64 pad, .slice A2 nd c2, .slice A3 ns c3, .int .i64 wt, .int .i64 pa, .bool al, .int .i64 pm, .int .i64 la, .int .i64 co, .int .i64 sp] 25)).heap.size _).alloc (Nat.le_refl _) (.cells #[.slice none 0 0, .bool false] 218)))
  have E0 := hide a2
  have HD := hide hd
  have HS2 := hide hs2
  have V0 : Hid (∀ i, i ≠ w.heap.size + 1 → i = i) := fun _ _ => rfl
  obtain ⟨x0_0, x0_1, x0_2, x0_3, x0_4, x0_5, x0_6, x0_7, x0_8, x0_9, x0_10, x0_11, x0_12⟩ := row13 R0.out
  clear a1 a2 hs1 hd hs2 V0
  have HP := hide hp
  clear hp
  go_enter Try.func101, Try.ntmps101
  go_upto_region 3 with (fail)
  generalize hW : (w.alloc (.cells #[.int .i64 0, .int .i64 fl, .int .i64 st, .int .i64 pad, .slice A2 nd c2, .slice A3 ns c3, .int .i64 wt, .int .i64 pa, .bool al, .int .i64 pm, .int .i64 la, .int .i64 co, .int .i64 sp] 25)).alloc (.cells #[.slice none 0 0, .bool false] 218) = U0 at *
  clear hW
  go_wp2_with fail
  refine (has8 0 fl 3 (by decide) 8 rfl hfl _).mono ?_
  rintro e u0 ⟨rfl, rfl⟩
  rw [e3]
  obtain ⟨L, hL⟩ : ∃ L, L = [] := ⟨_, rfl⟩
  have hem : (⟨0, fl, st, pad, nd, d, ns, s, g, wt, pa, al, pm, la, co, sp⟩ : Fm5).emL = L ++ (List.range nd).map d ++ [] := by
    rw [hL]
    simp [Fm5.emL, Fm5.padL, Fm5.prL, Fm5.tyL, Fm5.dL, Fm5.zL, Fm5.setL, Fm5.P3, Fm5.P5, prL5, e3, e5]
  have hLl : L.length ≤ 7000 := by rw [hL]; simp [numL_len, prL5_len]
  have WL : Hid (WrB U0 (w.heap.size + 1) false L) := by rw [hL]; exact W0.out
  have HL := hide hem
  have hltp := WL.out.lt
  clear hL hem W0
  obtain ⟨Aw, cw, hwr, how⟩ := WL.out
  obtain ⟨y0, y1⟩ := row2 hwr
  have zw := frozenRow hwr 0
  have HO := hide how
  have HWR := hide hwr
  have hne : (Value.slice Aw L.length cw).ownBlock ≠ some (w.heap.size + 1) := fun e => by have := (World.ownsRow.lt how _ e).1; omega
  have HDc := hide (rd_list (HD.out.below E0.out))
  clear hwr how WL
  obtain ⟨N, hN0⟩ : ∃ N : Nat, N = 0 := ⟨0, rfl⟩
  have hN : N ≤ 255 := by omega
  have HN0 := hide hN0
  clear g3 g5 gco gs gpm gla gsp
  clear hN0
  go_wp2_with (first | (at_builtin; refine wp_appZ rfl (.tmp 70) (.tmp 71) _ _ 9 rfl i0 Try.underlying22 Try.underlying3 Try.underlying9 hi hz0 hz1 hz2 (w.heap.size + 1 + 1) _ (L.length + nd) _ rfl HO3.out 0 rfl (by omega) (by omega) ?_; intro v4 w4 hown4 hg4; obtain ⟨A8, c8, rfl, _, _⟩ := hown4.rd; have HO4 := hide hown4; have E4 := hide (E3.out.grown hg4 (by omega) (fun k e => by have := (World.ownsRow.lt HO3.out k e).1; omega)); clear hown4 hg4) | (at_builtin; refine wp_app rfl (.tmp 64) (.tmp 66) _ rfl i0 0 1 Try.underlying22 hi hz0 hz1 hz2 (w.heap.size + 1 + 1) _ L.length (lF L) rfl HO.out A2 nd c2 _ rfl HDc.out (by simp only [maxLen]; omega) (by omega) (by omega) ?_; intro v2 w2 hown2 hg2; obtain ⟨A7, c7, rfl, _, _⟩ := hown2.rd; have hr2 := keepGrown HWR.out hg2 hne; obtain ⟨q0, q1⟩ := row2 hr2; have zq := frozenRow hr2 0; have hr3 := setRow w2 (w.heap.size + 1) 0 (.slice A7 (L.length + nd) c7) hr2; simp only [List.setIfInBounds_toArray, List.set_cons_zero, List.set_cons_succ] at hr3; have hne2 : (Value.slice A7 (L.length + nd) c7).ownBlock ≠ some (w.heap.size + 1) := (fun e => by have := (World.ownsRow.lt hown2 _ e).1; omega); have HO3 : Hid (Own .u8 5 (w.heap.size + 1 + 1) (w2.setCell ⟨w.heap.size + 1, 0, none⟩ (.slice A7 (L.length + nd) c7)) (.slice A7 (L.length + nd) c7) (L.length + nd) (catF L.length (lF L) (lF ((List.range nd).map d)))) := World.ownsRow.kept hown2 (grown_set w2 (w.heap.size + 1) 0 (.slice A7 (L.length + nd) c7)) (.inr hne2); have E3 := hide ((E0.out.grown hg2 (by omega) (fun k e => by have := (World.ownsRow.lt HO.out k e).1; omega)).setCell (p := ⟨w.heap.size + 1, 0, none⟩) (Nat.le_succ _) (.slice A7 (L.length + nd) c7)); obtain ⟨p0, p1⟩ := row2 hr3; have hs3 : w.heap.size + 1 < (w2.setCell ⟨w.heap.size + 1, 0, none⟩ (.slice A7 (L.length + nd) c7)).heap.size := rowLt hr3; clear hr2 hg2 hown2))
  go_ret2
  refine ⟨E4.out, .inl ⟨HP.out, A8, c8, ?_, ?_⟩⟩
  · rw [HL.out]
    first
      | (simp; done)
      | (simp; omega)
  · rw [HL.out]
    refine rd_congr5 HO4.out.rdS (by first | (simp; done) | (simp; omega)) fun i hi => ?_
    exact cat5 L ((List.range nd).map d) [] (by simp) (by simp) i hi
set_option maxRecDepth 20000 in
set_option maxHeartbeats 1600000 in
theorem body_d0_n (fl st pad : Int) (A2 : Option Addr) (nd c2 : Nat) (d : Nat → Int) (A3 : Option Addr) (ns c3 : Nat) (s g : Nat → Int) (wt pa : Int) (al : Bool) (pm la co sp : Int) (hfl : fl ≤ 9223372036854775807) (hnd : nd ≤ 100000) (hns : ns ≤ 1000) (e3 : hsB 0 fl 3 = false) (hp : ¬ (⟨0, fl, st, pad, nd, d, ns, s, g, wt, pa, al, pm, la, co, sp⟩ : Fm5).POk) (w : World) (hd : Rd .u8 w A2 nd c2 d) (hs2 : Rd2 w A3 ns c3 s g) :
    Calls Try.prog 101 #[.agg #[.int .i64 0, .int .i64 fl, .int .i64 st, .int .i64 pad, .slice A2 nd c2, .slice A3 ns c3, .int .i64 wt, .int .i64 pa, .bool al, .int .i64 pm, .int .i64 la, .int .i64 co, .int .i64 sp]] w (Bd5 (⟨0, fl, st, pad, nd, d, ns, s, g, wt, pa, al, pm, la, co, sp⟩ : Fm5) w) := by
  obtain ⟨i0, hi, hz0, hz1, hz2⟩ := info_parts u8_info
  have e5 : hsB 0 fl 5 = false := hsB5_no (by decide)
  have hpw1 : pw 1 = 256 := by decide
  have hpw4 : pw 4 = 4294967296 := by decide
  exact absurd (show (⟨0, fl, st, pad, nd, d, ns, s, g, wt, pa, al, pm, la, co, sp⟩ : Fm5).POk from ⟨fun h => absurd h (by show ¬ (hsB 0 fl 3 = true); rw [e3]; decide), fun h => absurd h (by show ¬ (0 = 2 ∨ hsB 0 fl 5 = true); rw [e5]; simp), fun (h : (0 : Int) = 3) => absurd h (by decide), fun (h : (0 : Int) = 4) => absurd h (by decide), fun (h : (0 : Int) = 5) => absurd h (by decide), fun (h : (0 : Int) = 7) => absurd h (by decide), fun (h : (0 : Int) = 8) => absurd h (by decide)⟩) hp
set_option maxRecDepth 20000 in
set_option maxHeartbeats 1600000 in
theorem body_h11_y (fl st pad : Int) (A2 : Option Addr) (nd c2 : Nat) (d : Nat → Int) (A3 : Option Addr) (ns c3 : Nat) (s g : Nat → Int) (wt pa : Int) (al : Bool) (pm la co sp : Int) (hfl : fl ≤ 9223372036854775807) (hnd : nd ≤ 100000) (hns : ns ≤ 1000) (e3 : hsB 1 fl 3 = true) (e5 : hsB 1 fl 5 = true) (hp : (⟨1, fl, st, pad, nd, d, ns, s, g, wt, pa, al, pm, la, co, sp⟩ : Fm5).POk) (w : World) (hd : Rd .u8 w A2 nd c2 d) (hs2 : Rd2 w A3 ns c3 s g) :
    Calls Try.prog 101 #[.agg #[.int .i64 1, .int .i64 fl, .int .i64 st, .int .i64 pad, .slice A2 nd c2, .slice A3 ns c3, .int .i64 wt, .int .i64 pa, .bool al, .int .i64 pm, .int .i64 la, .int .i64 co, .int .i64 sp]] w (Bd5 (⟨1, fl, st, pad, nd, d, ns, s, g, wt, pa, al, pm, la, co, sp⟩ : Fm5) w) := by
  obtain ⟨i0, hi, hz0, hz1, hz2⟩ := info_parts u8_info
  have hp1 := hp
  obtain ⟨g3, g5, gco, gs, gpm, gla, gsp⟩ := hp1
  simp only [Fm5.P3, Fm5.P5, Fm5.A5, Fm5.S5] at g3 g5 gco gs gpm gla gsp
  have hpw1 : pw 1 = 256 := by decide
  have hpw4 : pw 4 = 4294967296 := by decide
  have B0 : decide (0 ≤ pad ∧ pad < pw 1) = true := decide_eq_true (by have h := g3 e3; rw [hpw1]; omega)
  have B1 : decide (0 ≤ pa ∧ pa ≤ 2147483647 ∧ 0 ≤ wt ∧ wt ≤ 255) = true := decide_eq_true (g5 (.inr e5))
  have a1 := (Below.refl w.heap.size w).alloc (Nat.le_refl _) (.cells #[.int .i64 1, .int .i64 fl, .int .i64 st, .int .i64 pad, .slice A2 nd c2, .slice A3 ns c3, .int .i64 wt, .int .i64 pa, .bool al, .int .i64 pm, .int .i64 la, .int .i64 co, .int .i64 sp] 25)
  have a2 := a1.alloc (by simp) (.cells #[.slice none 0 0, .bool false] 218)
  have hs1 : (w.alloc (.cells #[.int .i64 1, .int .i64 fl, .int .i64 st, .int .i64 pad, .slice A2 nd c2, .slice A3 ns c3, .int .i64 wt, .int .i64 pa, .bool al, .int .i64 pm, .int .i64 la, .int .i64 co, .int .i64 sp] 25)).heap.size = w.heap.size + 1 := by simp
  have W0 : Hid (WrB ((w.alloc (.cells #[.int .i64 1, .int .i64 fl, .int .i64 st, .int .i64 pad, .slice A2 nd c2, .slice A3 ns c3, .int .i64 wt, .int .i64 pa, .bool al, .int .i64 pm, .int .i64 la, .int .i64 co, .int .i64 sp] 25)).alloc (.cells #[.slice none 0 0, .bool false] 218)) (w.heap.size + 1) false []) := ⟨none, 0, by rw [← hs1]; exact heap_alloc_new _ _, Own.nil _ _ _ _ _⟩
  have R0 := hide (keepRow (heap_alloc_new w (.cells #[.int .i64 1, .int .i64 fl, .int .i64 st, .int .i64 pad, .slice A2 nd c2, .slice A3 ns c3, .int .i64 wt, .int .i64 pa, .bool al, .int .i64 pm, .int .i64 la, .int .i64 co, .int .i64 sp] 25)) ((Below.refl (w.alloc (.cells #[.int .i64 1, .int .i64 fl, .int .i64 st, .int .i64 pad, .slice A2 nd c2, .slice A3 ns c3, .int .i64 wt, .int .i64 pa, .bool al, .int .i64 pm, .int .i64 la, .int .i64 co, .int .i64 sp] 25)).heap.size _).alloc (Nat.le_refl _) (.cells #[.slice none 0 0, .bool false] 218)))
  have E0 := hide a2
  have HD := hide hd
  have HS2 := hide hs2
  have V0 : Hid (∀ i, i ≠ w.heap.size + 1 → i = i) := fun _ _ => rfl
  obtain ⟨x0_0, x0_1, x0_2, x0_3, x0_4, x0_5, x0_6, x0_7, x0_8, x0_9, x0_10, x0_11, x0_12⟩ := row13 R0.out
  clear a1 a2 hs1 hd hs2 V0
  have HP := hide hp
  clear hp
  go_enter Try.func101, Try.ntmps101
  go_upto_region 3 with (fail)
  generalize hW : (w.alloc (.cells #[.int .i64 1, .int .i64 fl, .int .i64 st, .int .i64 pad, .slice A2 nd c2, .slice A3 ns c3, .int .i64 wt, .int .i64 pa, .bool al, .int .i64 pm, .int .i64 la, .int .i64 co, .int .i64 sp] 25)).alloc (.cells #[.slice none 0 0, .bool false] 218) = U0 at *
  clear hW
  go_wp2_with fail
  refine (has8 1 fl 3 (by decide) 8 rfl hfl _).mono ?_
  rintro e u0 ⟨rfl, rfl⟩
  rw [e3]
  go_wp2_with fail
  refine (number15 W0.out pad 1 1 rfl (by decide) (by decide) (by simp [numL_len, prL5_len]) true B0).mono ?_
  rintro e U1 ⟨rfl, hw, hb, hv⟩
  rw [if_pos rfl] at hw
  simp only [Bool.not_true, Bool.or_false] at hw
  have W1 := hide hw
  have E1 := hide (E0.out.trans (hb.mono (Nat.le_succ _)))
  have R1 := hide (hv _ _ _ (by omega) bne_u8 R0.out)
  clear hw hb hv
  obtain ⟨x1_0, x1_1, x1_2, x1_3, x1_4, x1_5, x1_6, x1_7, x1_8, x1_9, x1_10, x1_11, x1_12⟩ := row13 R1.out
  go_wp2_with fail
  refine (has8 1 fl 5 (by decide) 32 rfl hfl _).mono ?_
  rintro e u1 ⟨rfl, rfl⟩
  rw [e5]
  go_wp2_with fail
  refine (priority15 W1.out (by simp [numL_len, prL5_len]) 1 fl st pad A2 nd c2 d A3 ns c3 s g wt pa al pm la co sp true B1).mono ?_
  rintro e U2 ⟨rfl, ⟨l2, hw, hl2, he2⟩, hb, hv⟩
  obtain rfl := he2 rfl
  simp only [Bool.not_true, Bool.or_false] at hw
  have W2 := hide hw
  have E2 := hide (E1.out.trans (hb.mono (Nat.le_succ _)))
  have R2 := hide (hv _ _ _ (by omega) bne_u8 R1.out)
  clear hw hb hv
  obtain ⟨x2_0, x2_1, x2_2, x2_3, x2_4, x2_5, x2_6, x2_7, x2_8, x2_9, x2_10, x2_11, x2_12⟩ := row13 R2.out
  obtain ⟨L, hL⟩ : ∃ L, L = (([] ++ numL pad 1) ++ prL5 pa al wt) := ⟨_, rfl⟩
  have hem : (⟨1, fl, st, pad, nd, d, ns, s, g, wt, pa, al, pm, la, co, sp⟩ : Fm5).emL = L ++ (List.range nd).map d ++ List.replicate pad.toNat 0 := by
    rw [hL]
    simp [Fm5.emL, Fm5.padL, Fm5.prL, Fm5.tyL, Fm5.dL, Fm5.zL, Fm5.setL, Fm5.P3, Fm5.P5, prL5, e3, e5]
  have hLl : L.length ≤ 7000 := by rw [hL]; simp [numL_len, prL5_len]
  have WL : Hid (WrB U2 (w.heap.size + 1) false L) := by rw [hL]; exact W2.out
  have HL := hide hem
  have hltp := WL.out.lt
  clear hL hem W2
  obtain ⟨Aw, cw, hwr, how⟩ := WL.out
  obtain ⟨y0, y1⟩ := row2 hwr
  have zw := frozenRow hwr 0
  have HO := hide how
  have HWR := hide hwr
  have hne : (Value.slice Aw L.length cw).ownBlock ≠ some (w.heap.size + 1) := fun e => by have := (World.ownsRow.lt how _ e).1; omega
  have HDc := hide (rd_list (HD.out.below E2.out))
  clear hwr how WL
  obtain ⟨N, rfl⟩ : ∃ N : Nat, pad = (N : Int) := ⟨pad.toNat, by have h := g3 e3; omega⟩
  have hN : N ≤ 255 := by have h := g3 e3; omega
  clear g3 g5 gco gs gpm gla gsp
  go_wp2_with (first | (at_builtin; refine wp_appZ rfl (.tmp 70) (.tmp 71) _ _ 9 rfl i0 Try.underlying22 Try.underlying3 Try.underlying9 hi hz0 hz1 hz2 (w.heap.size + 1 + 1) _ (L.length + nd) _ rfl HO3.out N rfl (by omega) (by omega) ?_; intro v4 w4 hown4 hg4; obtain ⟨A8, c8, rfl, _, _⟩ := hown4.rd; have HO4 := hide hown4; have E4 := hide (E3.out.grown hg4 (by omega) (fun k e => by have := (World.ownsRow.lt HO3.out k e).1; omega)); clear hown4 hg4) | (at_builtin; refine wp_app rfl (.tmp 64) (.tmp 66) _ rfl i0 0 1 Try.underlying22 hi hz0 hz1 hz2 (w.heap.size + 1 + 1) _ L.length (lF L) rfl HO.out A2 nd c2 _ rfl HDc.out (by simp only [maxLen]; omega) (by omega) (by omega) ?_; intro v2 w2 hown2 hg2; obtain ⟨A7, c7, rfl, _, _⟩ := hown2.rd; have hr2 := keepGrown HWR.out hg2 hne; obtain ⟨q0, q1⟩ := row2 hr2; have zq := frozenRow hr2 0; have hr3 := setRow w2 (w.heap.size + 1) 0 (.slice A7 (L.length + nd) c7) hr2; simp only [List.setIfInBounds_toArray, List.set_cons_zero, List.set_cons_succ] at hr3; have hne2 : (Value.slice A7 (L.length + nd) c7).ownBlock ≠ some (w.heap.size + 1) := (fun e => by have := (World.ownsRow.lt hown2 _ e).1; omega); have HO3 : Hid (Own .u8 5 (w.heap.size + 1 + 1) (w2.setCell ⟨w.heap.size + 1, 0, none⟩ (.slice A7 (L.length + nd) c7)) (.slice A7 (L.length + nd) c7) (L.length + nd) (catF L.length (lF L) (lF ((List.range nd).map d)))) := World.ownsRow.kept hown2 (grown_set w2 (w.heap.size + 1) 0 (.slice A7 (L.length + nd) c7)) (.inr hne2); have E3 := hide ((E2.out.grown hg2 (by omega) (fun k e => by have := (World.ownsRow.lt HO.out k e).1; omega)).setCell (p := ⟨w.heap.size + 1, 0, none⟩) (Nat.le_succ _) (.slice A7 (L.length + nd) c7)); obtain ⟨p0, p1⟩ := row2 hr3; have hs3 : w.heap.size + 1 < (w2.setCell ⟨w.heap.size + 1, 0, none⟩ (.slice A7 (L.length + nd) c7)).heap.size := rowLt hr3; clear hr2 hg2 hown2))
  go_ret2
  refine ⟨E4.out, .inl ⟨HP.out, A8, c8, ?_, ?_⟩⟩
  · rw [HL.out]
    first
      | (simp; done)
      | (simp; omega)
  · rw [HL.out]
    refine rd_congr5 HO4.out.rdS (by first | (simp; done) | (simp; omega)) fun i hi => ?_
    exact cat5 L ((List.range nd).map d) (List.replicate (N : Int).toNat 0) (by simp) (by simp) i hi
set_option maxRecDepth 20000 in
set_option maxHeartbeats 1600000 in
theorem body_h11_n (fl st pad : Int) (A2 : Option Addr) (nd c2 : Nat) (d : Nat → Int) (A3 : Option Addr) (ns c3 : Nat) (s g : Nat → Int) (wt pa : Int) (al : Bool) (pm la co sp : Int) (hfl : fl ≤ 9223372036854775807) (hnd : nd ≤ 100000) (hns : ns ≤ 1000) (e3 : hsB 1 fl 3 = true) (e5 : hsB 1 fl 5 = true) (hp : ¬ (⟨1, fl, st, pad, nd, d, ns, s, g, wt, pa, al, pm, la, co, sp⟩ : Fm5).POk) (w : World) (hd : Rd .u8 w A2 nd c2 d) (hs2 : Rd2 w A3 ns c3 s g) :
    Calls Try.prog 101 #[.agg #[.int .i64 1, .int .i64 fl, .int .i64 st, .int .i64 pad, .slice A2 nd c2, .slice A3 ns c3, .int .i64 wt, .int .i64 pa, .bool al, .int .i64 pm, .int .i64 la, .int .i64 co, .int .i64 sp]] w (Bd5 (⟨1, fl, st, pad, nd, d, ns, s, g, wt, pa, al, pm, la, co, sp⟩ : Fm5) w) := by
  obtain ⟨i0, hi, hz0, hz1, hz2⟩ := info_parts u8_info
  have hpw1 : pw 1 = 256 := by decide
  have hpw4 : pw 4 = 4294967296 := by decide
  obtain ⟨b0, B0⟩ : ∃ b, decide (0 ≤ pad ∧ pad < pw 1) = b := ⟨_, rfl⟩
  obtain ⟨b1, B1⟩ : ∃ b, decide (0 ≤ pa ∧ pa ≤ 2147483647 ∧ 0 ≤ wt ∧ wt ≤ 255) = b := ⟨_, rfl⟩
  have hF : ((false || !b0) || !b1) = true := by
    cases b0 <;> cases b1 <;> first
      | rfl
      | exact absurd (show (⟨1, fl, st, pad, nd, d, ns, s, g, wt, pa, al, pm, la, co, sp⟩ : Fm5).POk from ⟨fun _ => (by show 0 ≤ pad ∧ pad ≤ 255; have h := of_decide_eq_true (B0.trans rfl); rw [hpw1] at h; omega), fun _ => (show 0 ≤ pa ∧ pa ≤ 2147483647 ∧ 0 ≤ wt ∧ wt ≤ 255 from of_decide_eq_true (B1.trans rfl)), fun (h : (1 : Int) = 3) => absurd h (by decide), fun (h : (1 : Int) = 4) => absurd h (by decide), fun (h : (1 : Int) = 5) => absurd h (by decide), fun (h : (1 : Int) = 7) => absurd h (by decide), fun (h : (1 : Int) = 8) => absurd h (by decide)⟩) hp
  have HF := hide hF
  clear hF
  have a1 := (Below.refl w.heap.size w).alloc (Nat.le_refl _) (.cells #[.int .i64 1, .int .i64 fl, .int .i64 st, .int .i64 pad, .slice A2 nd c2, .slice A3 ns c3, .int .i64 wt, .int .i64 pa, .bool al, .int .i64 pm, .int .i64 la, .int .i64 co, .int .i64 sp] 25)
  have a2 := a1.alloc (by simp) (.cells #[.slice none 0 0, .bool false] 218)
  have hs1 : (w.alloc (.cells #[.int .i64 1, .int .i64 fl, .int .i64 st, .int .i64 pad, .slice A2 nd c2, .slice A3 ns c3, .int .i64 wt, .int .i64 pa, .bool al, .int .i64 pm, .int .i64 la, .int .i64 co, .int .i64 sp] 25)).heap.size = w.heap.size + 1 := by simp
  have W0 : Hid (WrB ((w.alloc (.cells #[.int .i64 1, .int .i64 fl, .int .i64 st, .int .i64 pad, .slice A2 nd c2, .slice A3 ns c3, .int .i64 wt, .int .i64 pa, .bool al, .int .i64 pm, .int .i64 la, .int .i64 co, .int .i64 sp] 25)).alloc (.cells #[.slice none 0 0, .bool false] 218)) (w.heap.size + 1) false []) := ⟨none, 0, by rw [← hs1]; exact heap_alloc_new _ _, Own.nil _ _ _ _ _⟩
  have R0 := hide (keepRow (heap_alloc_new w (.cells #[.int .i64 1, .int .i64 fl, .int .i64 st, .int .i64 pad, .slice A2 nd c2, .slice A3 ns c3, .int .i64 wt, .int .i64 pa, .bool al, .int .i64 pm, .int .i64 la, .int .i64 co, .int .i64 sp] 25)) ((Below.refl (w.alloc (.cells #[.int .i64 1, .int .i64 fl, .int .i64 st, .int .i64 pad, .slice A2 nd c2, .slice A3 ns c3, .int .i64 wt, .int .i64 pa, .bool al, .int .i64 pm, .int .i64 la, .int .i64 co, .int .i64 sp] 25)).heap.size _).alloc (Nat.le_refl _) (.cells #[.slice none 0 0, .bool false] 218)))
  have E0 := hide a2
  have HD := hide hd
  have HS2 := hide hs2
  have V0 : Hid (∀ i, i ≠ w.heap.size + 1 → i = i) := fun _ _ => rfl
  obtain ⟨x0_0, x0_1, x0_2, x0_3, x0_4, x0_5, x0_6, x0_7, x0_8, x0_9, x0_10, x0_11, x0_12⟩ := row13 R0.out
  clear a1 a2 hs1 hd hs2 V0
  have HP := hide hp
  clear hp
  go_enter Try.func101, Try.ntmps101
  go_upto_region 3 with (fail)
  generalize hW : (w.alloc (.cells #[.int .i64 1, .int .i64 fl, .int .i64 st, .int .i64 pad, .slice A2 nd c2, .slice A3 ns c3, .int .i64 wt, .int .i64 pa, .bool al, .int .i64 pm, .int .i64 la, .int .i64 co, .int .i64 sp] 25)).alloc (.cells #[.slice none 0 0, .bool false] 218) = U0 at *
  clear hW
  go_wp2_with fail
  refine (has8 1 fl 3 (by decide) 8 rfl hfl _).mono ?_
  rintro e u0 ⟨rfl, rfl⟩
  rw [e3]
  go_wp2_with fail
  refine (number15 W0.out pad 1 1 rfl (by decide) (by decide) (by simp) _ B0).mono ?_
  rintro e U1 ⟨rfl, hw, hb, hv⟩
  have W1 := hide hw
  have E1 := hide (E0.out.trans (hb.mono (Nat.le_succ _)))
  have R1 := hide (hv _ _ _ (by omega) bne_u8 R0.out)
  clear hw hb hv
  obtain ⟨x1_0, x1_1, x1_2, x1_3, x1_4, x1_5, x1_6, x1_7, x1_8, x1_9, x1_10, x1_11, x1_12⟩ := row13 R1.out
  have LEN1 : (if b0 = true then [] ++ numL pad 1 else []).length ≤ 4 := by split <;> simp [numL_len]
  go_wp2_with fail
  refine (has8 1 fl 5 (by decide) 32 rfl hfl _).mono ?_
  rintro e u1 ⟨rfl, rfl⟩
  rw [e5]
  go_wp2_with fail
  refine (priority15 W1.out (by have h := LEN1; omega) 1 fl st pad A2 nd c2 d A3 ns c3 s g wt pa al pm la co sp _ B1).mono ?_
  rintro e U2 ⟨rfl, ⟨l2, hw, hl2, he2⟩, hb, hv⟩
  have W2 := hide hw
  have E2 := hide (E1.out.trans (hb.mono (Nat.le_succ _)))
  have R2 := hide (hv _ _ _ (by omega) bne_u8 R1.out)
  clear hw hb hv
  obtain ⟨x2_0, x2_1, x2_2, x2_3, x2_4, x2_5, x2_6, x2_7, x2_8, x2_9, x2_10, x2_11, x2_12⟩ := row13 R2.out
  obtain ⟨Aw, cw, hwr, how⟩ := W2.out
  obtain ⟨y0, y1⟩ := row2 hwr
  rw [HF.out] at y1
  clear hwr how
  go_wp2_with fail
  go_ret2
  exact ⟨E2.out, .inr ⟨HP.out, rfl⟩⟩
set_option maxRecDepth 20000 in
set_option maxHeartbeats 1600000 in
theorem body_h10_y (fl st pad : Int) (A2 : Option Addr) (nd c2 : Nat) (d : Nat → Int) (A3 : Option Addr) (ns c3 : Nat) (s g : Nat → Int) (wt pa : Int) (al : Bool) (pm la co sp : Int) (hfl : fl ≤ 9223372036854775807) (hnd : nd ≤ 100000) (hns : ns ≤ 1000) (e3 : hsB 1 fl 3 = true) (e5 : hsB 1 fl 5 = false) (hp : (⟨1, fl, st, pad, nd, d, ns, s, g, wt, pa, al, pm, la, co, sp⟩ : Fm5).POk) (w : World) (hd : Rd .u8 w A2 nd c2 d) (hs2 : Rd2 w A3 ns c3 s g) :
    Calls Try.prog 101 #[.agg #[.int .i64 1, .int .i64 fl, .int .i64 st, .int .i64 pad, .slice A2 nd c2, .slice A3 ns c3, .int .i64 wt, .int .i64 pa, .bool al, .int .i64 pm, .int .i64 la, .int .i64 co, .int .i64 sp]] w (Bd5 (⟨1, fl, st, pad, nd, d, ns, s, g, wt, pa, al, pm, la, co, sp⟩ : Fm5) w) := by
  obtain ⟨i0, hi, hz0, hz1, hz2⟩ := info_parts u8_info
  have hp1 := hp
  obtain ⟨g3, g5, gco, gs, gpm, gla, gsp⟩ := hp1
  simp only [Fm5.P3, Fm5.P5, Fm5.A5, Fm5.S5] at g3 g5 gco gs gpm gla gsp
  have hpw1 : pw 1 = 256 := by decide
  have hpw4 : pw 4 = 4294967296 := by decide
  have B0 : decide (0 ≤ pad ∧ pad < pw 1) = true := decide_eq_true (by have h := g3 e3; rw [hpw1]; omega)
  have a1 := (Below.refl w.heap.size w).alloc (Nat.le_refl _) (.cells #[.int .i64 1, .int .i64 fl, .int .i64 st, .int .i64 pad, .slice A2 nd c2, .slice A3 ns c3, .int .i64 wt, .int .i64 pa, .bool al, .int .i64 pm, .int .i64 la, .int .i64 co, .int .i64 sp] 25)
  have a2 := a1.alloc (by simp) (.cells #[.slice none 0 0, .bool false] 218)
  have hs1 : (w.alloc (.cells #[.int .i64 1, .int .i64 fl, .int .i64 st, .int .i64 pad, .slice A2 nd c2, .slice A3 ns c3, .int .i64 wt, .int .i64 pa, .bool al, .int .i64 pm, .int .i64 la, .int .i64 co, .int .i64 sp] 25)).heap.size = w.heap.size + 1 := by simp
  have W0 : Hid (WrB ((w.alloc (.cells #[.int .i64 1, .int .i64 fl, .int .i64 st, .int .i64 pad, .slice A2 nd c2, .slice A3 ns c3, .int .i64 wt, .int .i64 pa, .bool al, .int .i64 pm, .int .i64 la, .int .i64 co, .int .i64 sp] 25)).alloc (.cells #[.slice none 0 0, .bool false] 218)) (w.heap.size + 1) false []) := ⟨none, 0, by rw [← hs1]; exact heap_alloc_new _ _, Own.nil _ _ _ _ _⟩
  have R0 := hide (keepRow (heap_alloc_new w (.cells #[.int .i64 1, .int .i64 fl, .int .i64 st, .int .i64 pad, .slice A2 nd c2, .slice A3 ns c3, .int .i64 wt, .int .i64 pa, .bool al, .int .i64 pm, .int .i64 la, .int .i64 co, .int .i64 sp] 25)) ((Below.refl (w.alloc (.cells #[.int .i64 1, .int .i64 fl, .int .i64 st, .int .i64 pad, .slice A2 nd c2, .slice A3 ns c3, .int .i64 wt, .int .i64 pa, .bool al, .int .i64 pm, .int .i64 la, .int .i64 co, .int .i64 sp] 25)).heap.size _).alloc (Nat.le_refl _) (.cells #[.slice none 0 0, .bool false] 218)))
  have E0 := hide a2
  have HD := hide hd
  have HS2 := hide hs2
  have V0 : Hid (∀ i, i ≠ w.heap.size + 1 → i = i) := fun _ _ => rfl
  obtain ⟨x0_0, x0_1, x0_2, x0_3, x0_4, x0_5, x0_6, x0_7, x0_8, x0_9, x0_10, x0_11, x0_12⟩ := row13 R0.out
  clear a1 a2 hs1 hd hs2 V0
  have HP := hide hp
  clear hp
  go_enter Try.func101, Try.ntmps101
  go_upto_region 3 with (fail)
  generalize hW : (w.alloc (.cells #[.int .i64 1, .int .i64 fl, .int .i64 st, .int .i64 pad, .slice A2 nd c2, .slice A3 ns c3, .int .i64 wt, .int .i64 pa, .bool al, .int .i64 pm, .int .i64 la, .int .i64 co, .int .i64 sp] 25)).alloc (.cells #[.slice none 0 0, .bool false] 218) = U0 at *
  clear hW
  go_wp2_with fail
  refine (has8 1 fl 3 (by decide) 8 rfl hfl _).mono ?_
  rintro e u0 ⟨rfl, rfl⟩
  rw [e3]
  go_wp2_with fail
  refine (number15 W0.out pad 1 1 rfl (by decide) (by decide) (by simp [numL_len, prL5_len]) true B0).mono ?_
  rintro e U1 ⟨rfl, hw, hb, hv⟩
  rw [if_pos rfl] at hw
  simp only [Bool.not_true, Bool.or_false] at hw
  have W1 := hide hw
  have E1 := hide (E0.out.trans (hb.mono (Nat.le_succ _)))
  have R1 := hide (hv _ _ _ (by omega) bne_u8 R0.out)
  clear hw hb hv
  obtain ⟨x1_0, x1_1, x1_2, x1_3, x1_4, x1_5, x1_6, x1_7, x1_8, x1_9, x1_10, x1_11, x1_12⟩ := row13 R1.out
  go_wp2_with fail
  refine (has8 1 fl 5 (by decide) 32 rfl hfl _).mono ?_
  rintro e u1 ⟨rfl, rfl⟩
  rw [e5]
  obtain ⟨L, hL⟩ : ∃ L, L = ([] ++ numL pad 1) := ⟨_, rfl⟩
  have hem : (⟨1, fl, st, pad, nd, d, ns, s, g, wt, pa, al, pm, la, co, sp⟩ : Fm5).emL = L ++ (List.range nd).map d ++ List.replicate pad.toNat 0 := by
    rw [hL]
    simp [Fm5.emL, Fm5.padL, Fm5.prL, Fm5.tyL, Fm5.dL, Fm5.zL, Fm5.setL, Fm5.P3, Fm5.P5, prL5, e3, e5]
  have hLl : L.length ≤ 7000 := by rw [hL]; simp [numL_len, prL5_len]
  have WL : Hid (WrB U1 (w.heap.size + 1) false L) := by rw [hL]; exact W1.out
  have HL := hide hem
  have hltp := WL.out.lt
  clear hL hem W1
  obtain ⟨Aw, cw, hwr, how⟩ := WL.out
  obtain ⟨y0, y1⟩ := row2 hwr
  have zw := frozenRow hwr 0
  have HO := hide how
  have HWR := hide hwr
  have hne : (Value.slice Aw L.length cw).ownBlock ≠ some (w.heap.size + 1) := fun e => by have := (World.ownsRow.lt how _ e).1; omega
  have HDc := hide (rd_list (HD.out.below E1.out))
  clear hwr how WL
  obtain ⟨N, rfl⟩ : ∃ N : Nat, pad = (N : Int) := ⟨pad.toNat, by have h := g3 e3; omega⟩
  have hN : N ≤ 255 := by have h := g3 e3; omega
  clear g3 g5 gco gs gpm gla gsp
  go_wp2_with (first | (at_builtin; refine wp_appZ rfl (.tmp 70) (.tmp 71) _ _ 9 rfl i0 Try.underlying22 Try.underlying3 Try.underlying9 hi hz0 hz1 hz2 (w.heap.size + 1 + 1) _ (L.length + nd) _ rfl HO3.out N rfl (by omega) (by omega) ?_; intro v4 w4 hown4 hg4; obtain ⟨A8, c8, rfl, _, _⟩ := hown4.rd; have HO4 := hide hown4; have E4 := hide (E3.out.grown hg4 (by omega) (fun k e => by have := (World.ownsRow.lt HO3.out k e).1; omega)); clear hown4 hg4) | (at_builtin; refine wp_app rfl (.tmp 64) (.tmp 66) _ rfl i0 0 1 Try.underlying22 hi hz0 hz1 hz2 (w.heap.size + 1 + 1) _ L.length (lF L) rfl HO.out A2 nd c2 _ rfl HDc.out (by simp only [maxLen]; omega) (by omega) (by omega) ?_; intro v2 w2 hown2 hg2; obtain ⟨A7, c7, rfl, _, _⟩ := hown2.rd; have hr2 := keepGrown HWR.out hg2 hne; obtain ⟨q0, q1⟩ := row2 hr2; have zq := frozenRow hr2 0; have hr3 := setRow w2 (w.heap.size + 1) 0 (.slice A7 (L.length + nd) c7) hr2; simp only [List.setIfInBounds_toArray, List.set_cons_zero, List.set_cons_succ] at hr3; have hne2 : (Value.slice A7 (L.length + nd) c7).ownBlock ≠ some (w.heap.size + 1) := (fun e => by have := (World.ownsRow.lt hown2 _ e).1; omega); have HO3 : Hid (Own .u8 5 (w.heap.size + 1 + 1) (w2.setCell ⟨w.heap.size + 1, 0, none⟩ (.slice A7 (L.length + nd) c7)) (.slice A7 (L.length + nd) c7) (L.length + nd) (catF L.length (lF L) (lF ((List.range nd).map d)))) := World.ownsRow.kept hown2 (grown_set w2 (w.heap.size + 1) 0 (.slice A7 (L.length + nd) c7)) (.inr hne2); have E3 := hide ((E1.out.grown hg2 (by omega) (fun k e => by have := (World.ownsRow.lt HO.out k e).1; omega)).setCell (p := ⟨w.heap.size + 1, 0, none⟩) (Nat.le_succ _) (.slice A7 (L.length + nd) c7)); obtain ⟨p0, p1⟩ := row2 hr3; have hs3 : w.heap.size + 1 < (w2.setCell ⟨w.heap.size + 1, 0, none⟩ (.slice A7 (L.length + nd) c7)).heap.size := rowLt hr3; clear hr2 hg2 hown2))
  go_ret2
  refine ⟨E4.out, .inl ⟨HP.out, A8, c8, ?_, ?_⟩⟩
  · rw [HL.out]
    first
      | (simp; done)
      | (simp; omega)
  · rw [HL.out]
    refine rd_congr5 HO4.out.rdS (by first | (simp; done) | (simp; omega)) fun i hi => ?_
    exact cat5 L ((List.range nd).map d) (List.replicate (N : Int).toNat 0) (by simp) (by simp) i hi
set_option maxRecDepth 20000 in
set_option maxHeartbeats 1600000 in
theorem body_h10_n (fl st pad : Int) (A2 : Option Addr) (nd c2 : Nat) (d : Nat → Int) (A3 : Option Addr) (ns c3 : Nat) (s g : Nat → Int) (wt pa : Int) (al : Bool) (pm la co sp : Int) (hfl : fl ≤ 9223372036854775807) (hnd : nd ≤ 100000) (hns : ns ≤ 1000) (e3 : hsB 1 fl 3 = true) (e5 : hsB 1 fl 5 = false) (hp : ¬ (⟨1, fl, st, pad, nd, d, ns, s, g, wt, pa, al, pm, la, co, sp⟩ : Fm5).POk) (w : World) (hd : Rd .u8 w A2 nd c2 d) (hs2 : Rd2 w A3 ns c3 s g) :
    Calls Try.prog 101 #[.agg #[.int .i64 1, .int .i64 fl, .int .i64 st, .int .i64 pad, .slice A2 nd c2, .slice A3 ns c3, .int .i64 wt, .int .i64 pa, .bool al, .int .i64 pm, .int .i64 la, .int .i64 co, .int .i64 sp]] w (Bd5 (⟨1, fl, st, pad, nd, d, ns, s, g, wt, pa, al, pm, la, co, sp⟩ : Fm5) w) := by
  obtain ⟨i0, hi, hz0, hz1, hz2⟩ := info_parts u8_info
  have hpw1 : pw 1 = 256 := by decide
  have hpw4 : pw 4 = 4294967296 := by decide
  obtain ⟨b0, B0⟩ : ∃ b, decide (0 ≤ pad ∧ pad < pw 1) = b := ⟨_, rfl⟩
  have hF : (false || !b0) = true := by
    cases b0 <;> first
      | rfl
      | exact absurd (show (⟨1, fl, st, pad, nd, d, ns, s, g, wt, pa, al, pm, la, co, sp⟩ : Fm5).POk from ⟨fun _ => (by show 0 ≤ pad ∧ pad ≤ 255; have h := of_decide_eq_true (B0.trans rfl); rw [hpw1] at h; omega), fun h => absurd h (by show ¬ (1 = 2 ∨ hsB 1 fl 5 = true); rw [e5]; simp), fun (h : (1 : Int) = 3) => absurd h (by decide), fun (h : (1 : Int) = 4) => absurd h (by decide), fun (h : (1 : Int) = 5) => absurd h (by decide), fun (h : (1 : Int) = 7) => absurd h (by decide), fun (h : (1 : Int) = 8) => absurd h (by decide)⟩) hp
  have HF := hide hF
  clear hF
  have a1 := (Below.refl w.heap.size w).alloc (Nat.le_refl _) (.cells #[.int .i64 1, .int .i64 fl, .int .i64 st, .int .i64 pad, .slice A2 nd c2, .slice A3 ns c3, .int .i64 wt, .int .i64 pa, .bool al, .int .i64 pm, .int .i64 la, .int .i64 co, .int .i64 sp] 25)
  have a2 := a1.alloc (by simp) (.cells #[.slice none 0 0, .bool false] 218)
  have hs1 : (w.alloc (.cells #[.int .i64 1, .int .i64 fl, .int .i64 st, .int .i64 pad, .slice A2 nd c2, .slice A3 ns c3, .int .i64 wt, .int .i64 pa, .bool al, .int .i64 pm, .int .i64 la, .int .i64 co, .int .i64 sp] 25)).heap.size = w.heap.size + 1 := by simp
  have W0 : Hid (WrB ((w.alloc (.cells #[.int .i64 1, .int .i64 fl, .int .i64 st, .int .i64 pad, .slice A2 nd c2, .slice A3 ns c3, .int .i64 wt, .int .i64 pa, .bool al, .int .i64 pm, .int .i64 la, .int .i64 co, .int .i64 sp] 25)).alloc (.cells #[.slice none 0 0, .bool false] 218)) (w.heap.size + 1) false []) := ⟨none, 0, by rw [← hs1]; exact heap_alloc_new _ _, Own.nil _ _ _ _ _⟩
  have R0 := hide (keepRow (heap_alloc_new w (.cells #[.int .i64 1, .int .i64 fl, .int .i64 st, .int .i64 pad, .slice A2 nd c2, .slice A3 ns c3, .int .i64 wt, .int .i64 pa, .bool al, .int .i64 pm, .int .i64 la, .int .i64 co, .int .i64 sp] 25)) ((Below.refl (w.alloc (.cells #[.int .i64 1, .int .i64 fl, .int .i64 st, .int .i64 pad, .slice A2 nd c2, .slice A3 ns c3, .int .i64 wt, .int .i64 pa, .bool al, .int .i64 pm, .int .i64 la, .int .i64 co, .int .i64 sp] 25)).heap.size _).alloc (Nat.le_refl _) (.cells #[.slice none 0 0, .bool false] 218)))
  have E0 := hide a2
  have HD := hide hd
  have HS2 := hide hs2
  have V0 : Hid (∀ i, i ≠ w.heap.size + 1 → i = i) := fun _ _ => rfl
  obtain ⟨x0_0, x0_1, x0_2, x0_3, x0_4, x0_5, x0_6, x0_7, x0_8, x0_9, x0_10, x0_11, x0_12⟩ := row13 R0.out
  clear a1 a2 hs1 hd hs2 V0
  have HP := hide hp
  clear hp
  go_enter Try.func101, Try.ntmps101
  go_upto_region 3 with (fail)
  generalize hW : (w.alloc (.cells #[.int .i64 1, .int .i64 fl, .int .i64 st, .int .i64 pad, .slice A2 nd c2, .slice A3 ns c3, .int .i64 wt, .int .i64 pa, .bool al, .int .i64 pm, .int .i64 la, .int .i64 co, .int .i64 sp] 25)).alloc (.cells #[.slice none 0 0, .bool false] 218) = U0 at *
  clear hW
  go_wp2_with fail
  refine (has8 1 fl 3 (by decide) 8 rfl hfl _).mono ?_
  rintro e u0 ⟨rfl, rfl⟩
  rw [e3]
  go_wp2_with fail
  refine (number15 W0.out pad 1 1 rfl (by decide) (by decide) (by simp) _ B0).mono ?_
  rintro e U1 ⟨rfl, hw, hb, hv⟩
  have W1 := hide hw
  have E1 := hide (E0.out.trans (hb.mono (Nat.le_succ _)))
  have R1 := hide (hv _ _ _ (by omega) bne_u8 R0.out)
  clear hw hb hv
  obtain ⟨x1_0, x1_1, x1_2, x1_3, x1_4, x1_5, x1_6, x1_7, x1_8, x1_9, x1_10, x1_11, x1_12⟩ := row13 R1.out
  go_wp2_with fail
  refine (has8 1 fl 5 (by decide) 32 rfl hfl _).mono ?_
  rintro e u1 ⟨rfl, rfl⟩
  rw [e5]
  obtain ⟨Aw, cw, hwr, how⟩ := W1.out
  obtain ⟨y0, y1⟩ := row2 hwr
  rw [HF.out] at y1
  clear hwr how
  go_wp2_with fail
  go_ret2
  exact ⟨E1.out, .inr ⟨HP.out, rfl⟩⟩
set_option maxRecDepth 20000 in
set_option maxHeartbeats 1600000 in
theorem body_h01_y (fl st pad : Int) (A2 : Option Addr) (nd c2 : Nat) (d : Nat → Int) (A3 : Option Addr) (ns c3 : Nat) (s g : Nat → Int) (wt pa : Int) (al : Bool) (pm la co sp : Int) (hfl : fl ≤ 9223372036854775807) (hnd : nd ≤ 100000) (hns : ns ≤ 1000) (e3 : hsB 1 fl 3 = false) (e5 : hsB 1 fl 5 = true) (hp : (⟨1, fl, st, pad, nd, d, ns, s, g, wt, pa, al, pm, la, co, sp⟩ : Fm5).POk) (w : World) (hd : Rd .u8 w A2 nd c2 d) (hs2 : Rd2 w A3 ns c3 s g) :
    Calls Try.prog 101 #[.agg #[.int .i64 1, .int .i64 fl, .int .i64 st, .int .i64 pad, .slice A2 nd c2, .slice A3 ns c3, .int .i64 wt, .int .i64 pa, .bool al, .int .i64 pm, .int .i64 la, .int .i64 co, .int .i64 sp]] w (Bd5 (⟨1, fl, st, pad, nd, d, ns, s, g, wt, pa, al, pm, la, co, sp⟩ : Fm5) w) := by
  obtain ⟨i0, hi, hz0, hz1, hz2⟩ := info_parts u8_info
  have hp1 := hp
  obtain ⟨g3, g5, gco, gs, gpm, gla, gsp⟩ := hp1
  simp only [Fm5.P3, Fm5.P5, Fm5.A5, Fm5.S5] at g3 g5 gco gs gpm gla gsp
  have hpw1 : pw 1 = 256 := by decide
  have hpw4 : pw 4 = 4294967296 := by decide
  have B0 : decide (0 ≤ pa ∧ pa ≤ 2147483647 ∧ 0 ≤ wt ∧ wt ≤ 255) = true := decide_eq_true (g5 (.inr e5))
  have a1 := (Below.refl w.heap.size w).alloc (Nat.le_refl _) (.cells #[.int .i64 1, .int .i64 fl, .int .i64 st, .int .i64 pad, .slice A2 nd c2, .slice A3 ns c3, .int .i64 wt, .int .i64 pa, .bool al, .int .i64 pm, .int .i64 la, .int .i64 co, .int .i64 sp] 25)
  have a2 := a1.alloc (by simp) (.cells #[.slice none 0 0, .bool false] 218)
  have hs1 : (w.alloc (.cells #[.int .i64 1, .int .i64 fl, .int .i64 st, .int .i64 pad, .slice A2 nd c2, .slice A3 ns c3, .int .i64 wt, .int .i64 pa, .bool al, .int .i64 pm, .int .i64 la, .int .i64 co, .int .i64 sp] 25)).heap.size = w.heap.size + 1 := by simp
  have W0 : Hid (WrB ((w.alloc (.cells #[.int .i64 1, .int .i64 fl, .int .i64 st, .int .i64 pad, .slice A2 nd c2, .slice A3 ns c3, .int .i64 wt, .int .i64 pa, .bool al, .int .i64 pm, .int .i64 la, .int .i64 co, .int .i64 sp] 25)).alloc (.cells #[.slice none 0 0, .bool false] 218)) (w.heap.size + 1) false []) := ⟨none, 0, by rw [← hs1]; exact heap_alloc_new _ _, Own.nil _ _ _ _ _⟩
  have R0 := hide (keepRow (heap_alloc_new w (.cells #[.int .i64 1, .int .i64 fl, .int .i64 st, .int .i64 pad, .slice A2 nd c2, .slice A3 ns c3, .int .i64 wt, .int .i64 pa, .bool al, .int .i64 pm, .int .i64 la, .int .i64 co, .int .i64 sp] 25)) ((Below.refl (w.alloc (.cells #[.int .i64 1, .int .i64 fl, .int .i64 st, .int .i64 pad, .slice A2 nd c2, .slice A3 ns c3, .int .i64 wt, .int .i64 pa, .bool al, .int .i64 pm, .int .i64 la, .int .i64 co, .int .i64 sp] 25)).heap.size _).alloc (Nat.le_refl _) (.cells #[.slice none 0 0, .bool false] 218)))
  have E0 := hide a2
  have HD := hide hd
  have HS2 := hide hs2
  have V0 : Hid (∀ i, i ≠ w.heap.size + 1 → i = i) := fun _ _ => rfl
  obtain ⟨x0_0, x0_1, x0_2, x0_3, x0_4, x0_5, x0_6, x0_7, x0_8, x0_9, x0_10, x0_11, x0_12⟩ := row13 R0.out
  clear a1 a2 hs1 hd hs2 V0
  have HP := hide hp
  clear hp
  go_enter Try.func101, Try.ntmps101
  go_upto_region 3 with (fail)
  generalize hW : (w.alloc (.cells #[.int .i64 1, .int .i64 fl, .int .i64 st, .int .i64 pad, .slice A2 nd c2, .slice A3 ns c3, .int .i64 wt, .int .i64 pa, .bool al, .int .i64 pm, .int .i64 la, .int .i64 co, .int .i64 sp] 25)).alloc (.cells #[.slice none 0 0, .bool false] 218) = U0 at *
  clear hW
  go_wp2_with fail
  refine (has8 1 fl 3 (by decide) 8 rfl hfl _).mono ?_
  rintro e u0 ⟨rfl, rfl⟩
  rw [e3]
  go_wp2_with fail
  refine (has8 1 fl 5 (by decide) 32 rfl hfl _).mono ?_
  rintro e u1 ⟨rfl, rfl⟩
  rw [e5]
  go_wp2_with fail
  refine (priority15 W0.out (by simp [numL_len, prL5_len]) 1 fl st pad A2 nd c2 d A3 ns c3 s g wt pa al pm la co sp true B0).mono ?_
  rintro e U1 ⟨rfl, ⟨l1, hw, hl1, he1⟩, hb, hv⟩
  obtain rfl := he1 rfl
  simp only [Bool.not_true, Bool.or_false] at hw
  have W1 := hide hw
  have E1 := hide (E0.out.trans (hb.mono (Nat.le_succ _)))
  have R1 := hide (hv _ _ _ (by omega) bne_u8 R0.out)
  clear hw hb hv
  obtain ⟨x1_0, x1_1, x1_2, x1_3, x1_4, x1_5, x1_6, x1_7, x1_8, x1_9, x1_10, x1_11, x1_12⟩ := row13 R1.out
  obtain ⟨L, hL⟩ : ∃ L, L = ([] ++ prL5 pa al wt) := ⟨_, rfl⟩
  have hem : (⟨1, fl, st, pad, nd, d, ns, s, g, wt, pa, al, pm, la, co, sp⟩ : Fm5).emL = L ++ (List.range nd).map d ++ [] := by
    rw [hL]
    simp [Fm5.emL, Fm5.padL, Fm5.prL, Fm5.tyL, Fm5.dL, Fm5.zL, Fm5.setL, Fm5.P3, Fm5.P5, prL5, e3, e5]
  have hLl : L.length ≤ 7000 := by rw [hL]; simp [numL_len, prL5_len]
  have WL : Hid (WrB U1 (w.heap.size + 1) false L) := by rw [hL]; exact W1.out
  have HL := hide hem
  have hltp := WL.out.lt
  clear hL hem W1
  obtain ⟨Aw, cw, hwr, how⟩ := WL.out
  obtain ⟨y0, y1⟩ := row2 hwr
  have zw := frozenRow hwr 0
  have HO := hide how
  have HWR := hide hwr
  have hne : (Value.slice Aw L.length cw).ownBlock ≠ some (w.heap.size + 1) := fun e => by have := (World.ownsRow.lt how _ e).1; omega
  have HDc := hide (rd_list (HD.out.below E1.out))
  clear hwr how WL
  obtain ⟨N, hN0⟩ : ∃ N : Nat, N = 0 := ⟨0, rfl⟩
  have hN : N ≤ 255 := by omega
  have HN0 := hide hN0
  clear g3 g5 gco gs gpm gla gsp
  clear hN0
  go_wp2_with (first | (at_builtin; refine wp_appZ rfl (.tmp 70) (.tmp 71) _ _ 9 rfl i0 Try.underlying22 Try.underlying3 Try.underlying9 hi hz0 hz1 hz2 (w.heap.size + 1 + 1) _ (L.length + nd) _ rfl HO3.out 0 rfl (by omega) (by omega) ?_; intro v4 w4 hown4 hg4; obtain ⟨A8, c8, rfl, _, _⟩ := hown4.rd; have HO4 := hide hown4; have E4 := hide (E3.out.grown hg4 (by omega) (fun k e => by have := (World.ownsRow.lt HO3.out k e).1; omega)); clear hown4 hg4) | (at_builtin; refine wp_app rfl (.tmp 64) (.tmp 66) _ rfl i0 0 1 Try.underlying22 hi hz0 hz1 hz2 (w.heap.size + 1 + 1) _ L.length (lF L) rfl HO.out A2 nd c2 _ rfl HDc.out (by simp only [maxLen]; omega) (by omega) (by omega) ?_; intro v2 w2 hown2 hg2; obtain ⟨A7, c7, rfl, _, _⟩ := hown2.rd; have hr2 := keepGrown HWR.out hg2 hne; obtain ⟨q0, q1⟩ := row2 hr2; have zq := frozenRow hr2 0; have hr3 := setRow w2 (w.heap.size + 1) 0 (.slice A7 (L.length + nd) c7) hr2; simp only [List.setIfInBounds_toArray, List.set_cons_zero, List.set_cons_succ] at hr3; have hne2 : (Value.slice A7 (L.length + nd) c7).ownBlock ≠ some (w.heap.size + 1) := (fun e => by have := (World.ownsRow.lt hown2 _ e).1; omega); have HO3 : Hid (Own .u8 5 (w.heap.size + 1 + 1) (w2.setCell ⟨w.heap.size + 1, 0, none⟩ (.slice A7 (L.length + nd) c7)) (.slice A7 (L.length + nd) c7) (L.length + nd) (catF L.length (lF L) (lF ((List.range nd).map d)))) := World.ownsRow.kept hown2 (grown_set w2 (w.heap.size + 1) 0 (.slice A7 (L.length + nd) c7)) (.inr hne2); have E3 := hide ((E1.out.grown hg2 (by omega) (fun k e => by have := (World.ownsRow.lt HO.out k e).1; omega)).setCell (p := ⟨w.heap.size + 1, 0, none⟩) (Nat.le_succ _) (.slice A7 (L.length + nd) c7)); obtain ⟨p0, p1⟩ := row2 hr3; have hs3 : w.heap.size + 1 < (w2.setCell ⟨w.heap.size + 1, 0, none⟩ (.slice A7 (L.length + nd) c7)).heap.size := rowLt hr3; clear hr2 hg2 hown2))
  go_ret2
  refine ⟨E4.out, .inl ⟨HP.out, A8, c8, ?_, ?_⟩⟩
  · rw [HL.out]
    first
      | (simp; done)
      | (simp; omega)
  · rw [HL.out]
    refine rd_congr5 HO4.out.rdS (by first | (simp; done) | (simp; omega)) fun i hi => ?_
    exact cat5 L ((List.range nd).map d) [] (by simp) (by simp) i hi
set_option maxRecDepth 20000 in
set_option maxHeartbeats 1600000 in
theorem body_h01_n (fl st pad : Int) (A2 : Option Addr) (nd c2 : Nat) (d : Nat → Int) (A3 : Option Addr) (ns c3 : Nat) (s g : Nat → Int) (wt pa : Int) (al : Bool) (pm la co sp : Int) (hfl : fl ≤ 9223372036854775807) (hnd : nd ≤ 100000) (hns : ns ≤ 1000) (e3 : hsB 1 fl 3 = false) (e5 : hsB 1 fl 5 = true) (hp : ¬ (⟨1, fl, st, pad, nd, d, ns, s, g, wt, pa, al, pm, la, co, sp⟩ : Fm5).POk) (w : World) (hd : Rd .u8 w A2 nd c2 d) (hs2 : Rd2 w A3 ns c3 s g) :
    Calls Try.prog 101 #[.agg #[.int .i64 1, .int .i64 fl, .int .i64 st, .int .i64 pad, .slice A2 nd c2, .slice A3 ns c3, .int .i64 wt, .int .i64 pa, .bool al, .int .i64 pm, .int .i64 la, .int .i64 co, .int .i64 sp]] w (Bd5 (⟨1, fl, st, pad, nd, d, ns, s, g, wt, pa, al, pm, la, co, sp⟩ : Fm5) w) := by
  obtain ⟨i0, hi, hz0, hz1, hz2⟩ := info_parts u8_info
  have hpw1 : pw 1 = 256 := by decide
  have hpw4 : pw 4 = 4294967296 := by decide
  obtain ⟨b0, B0⟩ : ∃ b, decide (0 ≤ pa ∧ pa ≤ 2147483647 ∧ 0 ≤ wt ∧ wt ≤ 255) = b := ⟨_, rfl⟩
  have hF : (false || !b0) = true := by
    cases b0 <;> first
      | rfl
      | exact absurd (show (⟨1, fl, st, pad, nd, d, ns, s, g, wt, pa, al, pm, la, co, sp⟩ : Fm5).POk from ⟨fun h => absurd h (by show ¬ (hsB 1 fl 3 = true); rw [e3]; decide), fun _ => (show 0 ≤ pa ∧ pa ≤ 2147483647 ∧ 0 ≤ wt ∧ wt ≤ 255 from of_decide_eq_true (B0.trans rfl)), fun (h : (1 : Int) = 3) => absurd h (by decide), fun (h : (1 : Int) = 4) => absurd h (by decide), fun (h : (1 : Int) = 5) => absurd h (by decide), fun (h : (1 : Int) = 7) => absurd h (by decide), fun (h : (1 : Int) = 8) => absurd h (by decide)⟩) hp
  have HF := hide hF
  clear hF
  have a1 := (Below.refl w.heap.size w).alloc (Nat.le_refl _) (.cells #[.int .i64 1, .int .i64 fl, .int .i64 st, .int .i64 pad, .slice A2 nd c2, .slice A3 ns c3, .int .i64 wt, .int .i64 pa, .bool al, .int .i64 pm, .int .i64 la, .int .i64 co, .int .i64 sp] 25)
  have a2 := a1.alloc (by simp) (.cells #[.slice none 0 0, .bool false] 218)
  have hs1 : (w.alloc (.cells #[.int .i64 1, .int .i64 fl, .int .i64 st, .int .i64 pad, .slice A2 nd c2, .slice A3 ns c3, .int .i64 wt, .int .i64 pa, .bool al, .int .i64 pm, .int .i64 la, .int .i64 co, .int .i64 sp] 25)).heap.size = w.heap.size + 1 := by simp
  have W0 : Hid (WrB ((w.alloc (.cells #[.int .i64 1, .int .i64 fl, .int .i64 st, .int .i64 pad, .slice A2 nd c2, .slice A3 ns c3, .int .i64 wt, .int .i64 pa, .bool al, .int .i64 pm, .int .i64 la, .int .i64 co, .int .i64 sp] 25)).alloc (.cells #[.slice none 0 0, .bool false] 218)) (w.heap.size + 1) false []) := ⟨none, 0, by rw [← hs1]; exact heap_alloc_new _ _, Own.nil _ _ _ _ _⟩
  have R0 := hide (keepRow (heap_alloc_new w (.cells #[.int .i64 1, .int .i64 fl, .int .i64 st, .int .i64 pad, .slice A2 nd c2, .slice A3 ns c3, .int .i64 wt, .int .i64 pa, .bool al, .int .i64 pm, .int .i64 la, .int .i64 co, .int .i64 sp] 25)) ((Below.refl (w.alloc (.cells #[.int .i64 1, .int .i64 fl, .int .i64 st, .int .i64 pad, .slice A2 nd c2, .slice A3 ns c3, .int .i64 wt, .int .i64 pa, .bool al, .int .i64 pm, .int .i64 la, .int .i64 co, .int .i64 sp] 25)).heap.size _).alloc (Nat.le_refl _) (.cells #[.slice none 0 0, .bool false] 218)))
  have E0 := hide a2
  have HD := hide hd
  have HS2 := hide hs2
  have V0 : Hid (∀ i, i ≠ w.heap.size + 1 → i = i) := fun _ _ => rfl
  obtain ⟨x0_0, x0_1, x0_2, x0_3, x0_4, x0_5, x0_6, x0_7, x0_8, x0_9, x0_10, x0_11, x0_12⟩ := row13 R0.out
  clear a1 a2 hs1 hd hs2 V0
  have HP := hide hp
  clear hp
  go_enter Try.func101, Try.ntmps101
  go_upto_region 3 with (fail)
  generalize hW : (w.alloc (.cells #[.int .i64 1, .int .i64 fl, .int .i64 st, .int .i64 pad, .slice A2 nd c2, .slice A3 ns c3, .int .i64 wt, .int .i64 pa, .bool al, .int .i64 pm, .int .i64 la, .int .i64 co, .int .i64 sp] 25)).alloc (.cells #[.slice none 0 0, .bool false] 218) = U0 at *
  clear hW
  go_wp2_with fail
  refine (has8 1 fl 3 (by decide) 8 rfl hfl _).mono ?_
  rintro e u0 ⟨rfl, rfl⟩
  rw [e3]
  go_wp2_with fail
  refine (has8 1 fl 5 (by decide) 32 rfl hfl _).mono ?_
  rintro e u1 ⟨rfl, rfl⟩
  rw [e5]
  go_wp2_with fail
  refine (priority15 W0.out (by simp) 1 fl st pad A2 nd c2 d A3 ns c3 s g wt pa al pm la co sp _ B0).mono ?_
  rintro e U1 ⟨rfl, ⟨l1, hw, hl1, he1⟩, hb, hv⟩
  have W1 := hide hw
  have E1 := hide (E0.out.trans (hb.mono (Nat.le_succ _)))
  have R1 := hide (hv _ _ _ (by omega) bne_u8 R0.out)
  clear hw hb hv
  obtain ⟨x1_0, x1_1, x1_2, x1_3, x1_4, x1_5, x1_6, x1_7, x1_8, x1_9, x1_10, x1_11, x1_12⟩ := row13 R1.out
  obtain ⟨Aw, cw, hwr, how⟩ := W1.out
  obtain ⟨y0, y1⟩ := row2 hwr
  rw [HF.out] at y1
  clear hwr how
  go_wp2_with fail
  go_ret2
  exact ⟨E1.out, .inr ⟨HP.out, rfl⟩⟩
set_option maxRecDepth 20000 in
set_option maxHeartbeats 1600000 in
theorem body_h00_y (fl st pad : Int) (A2 : Option Addr) (nd c2 : Nat) (d : Nat → Int) (A3 : Option Addr) (ns c3 : Nat) (s g : Nat → Int) (wt pa : Int) (al : Bool) (pm la co sp : Int) (hfl : fl ≤ 9223372036854775807) (hnd : nd ≤ 100000) (hns : ns ≤ 1000) (e3 : hsB 1 fl 3 = false) (e5 : hsB 1 fl 5 = false) (hp : (⟨1, fl, st, pad, nd, d, ns, s, g, wt, pa, al, pm, la, co, sp⟩ : Fm5).POk) (w : World) (hd : Rd .u8 w A2 nd c2 d) (hs2 : Rd2 w A3 ns c3 s g) :
    Calls Try.prog 101 #[.agg #[.int .i64 1, .int .i64 fl, .int .i64 st, .int .i64 pad, .slice A2 nd c2, .slice A3 ns c3, .int .i64 wt, .int .i64 pa, .bool al, .int .i64 pm, .int .i64 la, .int .i64 co, .int .i64 sp]] w (Bd5 (⟨1, fl, st, pad, nd, d, ns, s, g, wt, pa, al, pm, la, co, sp⟩ : Fm5) w) := by
  obtain ⟨i0, hi, hz0, hz1, hz2⟩ := info_parts u8_info
  have hp1 := hp
  obtain ⟨g3, g5, gco, gs, gpm, gla, gsp⟩ := hp1
  simp only [Fm5.P3, Fm5.P5, Fm5.A5, Fm5.S5] at g3 g5 gco gs gpm gla gsp
  have hpw1 : pw 1 = 256 := by decide
  have hpw4 : pw 4 = 4294967296 := by decide
  have a1 := (Below.refl w.heap.size w).alloc (Nat.le_refl _) (.cells #[.int .i64 1, .int .i64 fl, .int .i64 st, .int .i64 pad, .slice A2 nd c2, .slice A3 ns c3, .int .i64 wt, .int .i64 pa, .bool al, .int .i64 pm, .int .i64 la, .int .i64 co, .int .i64 sp] 25)
  have a2 := a1.alloc (by simp) (.cells #[.slice none 0 0, .bool false] 218)
  have hs1 : (w.alloc (.cells #[.int .i64 1, .int .i64 fl, .int .i64 st, .int .i64 pad, .slice A2 nd c2, .slice A3 ns c3, .int .i64 wt, .int .i64 pa, .bool al, .int .i64 pm, .int .i64 la, .int .i64 co, .int .i64 sp] 25)).heap.size = w.heap.size + 1 := by simp
  have W0 : Hid (WrB ((w.alloc (.cells #[.int .i64 1, .int .i64 fl, .int .i64 st, .int .i64 pad, .slice A2 nd c2, .slice A3 ns c3, .int .i64 wt, .int .i64 pa, .bool al, .int .i64 pm, .int .i64 la, .int .i64 co, .int .i64 sp] 25)).alloc (.cells #[.slice none 0 0, .bool false] 218)) (w.heap.size + 1) false []) := ⟨none, 0, by rw [← hs1]; exact heap_alloc_new _ _, Own.nil _ _ _ _ _⟩
  have R0 := hide (keepRow (heap_alloc_new w (.cells #[.int .i64 1, .int .i64 fl, .int .i64 st, .int .i64 pad, .slice A2 nd c2, .slice A3 ns c3, .int .i64 wt, .int .i64 pa, .bool al, .int .i64 pm, .int .i64 la, .int .i64 co, .int .i64 sp] 25)) ((Below.refl (w.alloc (.cells #[.int .i64 1, .int .i64 fl, .int .i64 st, .int .i64 pad, .slice A2 nd c2, .slice A3 ns c3, .int .i64 wt, .int .i64 pa, .bool al, .int .i64 pm, .int .i64 la, .int .i64 co, .int .i64 sp] 25)).heap.size _).alloc (Nat.le_refl _) (.cells #[.slice none 0 0, .bool false] 218)))
  have E0 := hide a2
  have HD := hide hd
  have HS2 := hide hs2
  have V0 : Hid (∀ i, i ≠ w.heap.size + 1 → i = i) := fun _ _ => rfl
  obtain ⟨x0_0, x0_1, x0_2, x0_3, x0_4, x0_5, x0_6, x0_7, x0_8, x0_9, x0_10, x0_11, x0_12⟩ := row13 R0.out
  clear a1 a2 hs1 hd hs2 V0
  have HP := hide hp
  clear hp
  go_enter Try.func101, Try.ntmps101
  go_upto_region 3 with (fail)
  generalize hW : (w.alloc (.cells #[.int .i64 1, .int .i64 fl, .int .i64 st, .int .i64 pad, .slice A2 nd c2, .slice A3 ns c3, .int .i64 wt, .int .i64 pa, .bool al, .int .i64 pm, .int .i64 la, .int .i64 co, .int .i64 sp] 25)).alloc (.cells #[.slice none 0 0, .bool false] 218) = U0 at *
  clear hW
  go_wp2_with fail
  refine (has8 1 fl 3 (by decide) 8 rfl hfl _).mono ?_
  rintro e u0 ⟨rfl, rfl⟩
  rw [e3]
  go_wp2_with fail
  refine (has8 1 fl 5 (by decide) 32 rfl hfl _).mono ?_
  rintro e u1 ⟨rfl, rfl⟩
  rw [e5]
  obtain ⟨L, hL⟩ : ∃ L, L = [] := ⟨_, rfl⟩
  have hem : (⟨1, fl, st, pad, nd, d, ns, s, g, wt, pa, al, pm, la, co, sp⟩ : Fm5).emL = L ++ (List.range nd).map d ++ [] := by
    rw [hL]
    simp [Fm5.emL, Fm5.padL, Fm5.prL, Fm5.tyL, Fm5.dL, Fm5.zL, Fm5.setL, Fm5.P3, Fm5.P5, prL5, e3, e5]
  have hLl : L.length ≤ 7000 := by rw [hL]; simp [numL_len, prL5_len]
  have WL : Hid (WrB U0 (w.heap.size + 1) false L) := by rw [hL]; exact W0.out
  have HL := hide hem
  have hltp := WL.out.lt
  clear hL hem W0
  obtain ⟨Aw, cw, hwr, how⟩ := WL.out
  obtain ⟨y0, y1⟩ := row2 hwr
  have zw := frozenRow hwr 0
  have HO := hide how
  have HWR := hide hwr
  have hne : (Value.slice Aw L.length cw).ownBlock ≠ some (w.heap.size + 1) := fun e => by have := (World.ownsRow.lt how _ e).1; omega
  have HDc := hide (rd_list (HD.out.below E0.out))
  clear hwr how WL
  obtain ⟨N, hN0⟩ : ∃ N : Nat, N = 0 := ⟨0, rfl⟩
  have hN : N ≤ 255 := by omega
  have HN0 := hide hN0
  clear g3 g5 gco gs gpm gla gsp
  clear hN0
  go_wp2_with (first | (at_builtin; refine wp_appZ rfl (.tmp 70) (.tmp 71) _ _ 9 rfl i0 Try.underlying22 Try.underlying3 Try.underlying9 hi hz0 hz1 hz2 (w.heap.size + 1 + 1) _ (L.length + nd) _ rfl HO3.out 0 rfl (by omega) (by omega) ?_; intro v4 w4 hown4 hg4; obtain ⟨A8, c8, rfl, _, _⟩ := hown4.rd; have HO4 := hide hown4; have E4 := hide (E3.out.grown hg4 (by omega) (fun k e => by have := (World.ownsRow.lt HO3.out k e).1; omega)); clear hown4 hg4) | (at_builtin; refine wp_app rfl (.tmp 64) (.tmp 66) _ rfl i0 0 1 Try.underlying22 hi hz0 hz1 hz2 (w.heap.size + 1 + 1) _ L.length (lF L) rfl HO.out A2 nd c2 _ rfl HDc.out (by simp only [maxLen]; omega) (by omega) (by omega) ?_; intro v2 w2 hown2 hg2; obtain ⟨A7, c7, rfl, _, _⟩ := hown2.rd; have hr2 := keepGrown HWR.out hg2 hne; obtain ⟨q0, q1⟩ := row2 hr2; have zq := frozenRow hr2 0; have hr3 := setRow w2 (w.heap.size + 1) 0 (.slice A7 (L.length + nd) c7) hr2; simp only [List.setIfInBounds_toArray, List.set_cons_zero, List.set_cons_succ] at hr3; have hne2 : (Value.slice A7 (L.length + nd) c7).ownBlock ≠ some (w.heap.size + 1) := (fun e => by have := (World.ownsRow.lt hown2 _ e).1; omega); have HO3 : Hid (Own .u8 5 (w.heap.size + 1 + 1) (w2.setCell ⟨w.heap.size + 1, 0, none⟩ (.slice A7 (L.length + nd) c7)) (.slice A7 (L.length + nd) c7) (L.length + nd) (catF L.length (lF L) (lF ((List.range nd).map d)))) := World.ownsRow.kept hown2 (grown_set w2 (w.heap.size + 1) 0 (.slice A7 (L.length + nd) c7)) (.inr hne2); have E3 := hide ((E0.out.grown hg2 (by omega) (fun k e => by have := (World.ownsRow.lt HO.out k e).1; omega)).setCell (p := ⟨w.heap.size + 1, 0, none⟩) (Nat.le_succ _) (.slice A7 (L.length + nd) c7)); obtain ⟨p0, p1⟩ := row2 hr3; have hs3 : w.heap.size + 1 < (w2.setCell ⟨w.heap.size + 1, 0, none⟩ (.slice A7 (L.length + nd) c7)).heap.size := rowLt hr3; clear hr2 hg2 hown2))
  go_ret2
  refine ⟨E4.out, .inl ⟨HP.out, A8, c8, ?_, ?_⟩⟩
  · rw [HL.out]
    first
      | (simp; done)
      | (simp; omega)
  · rw [HL.out]
    refine rd_congr5 HO4.out.rdS (by first | (simp; done) | (simp; omega)) fun i hi => ?_
    exact cat5 L ((List.range nd).map d) [] (by simp) (by simp) i hi
set_option maxRecDepth 20000 in
set_option maxHeartbeats 1600000 in
theorem body_h00_n (fl st pad : Int) (A2 : Option Addr) (nd c2 : Nat) (d : Nat → Int) (A3 : Option Addr) (ns c3 : Nat) (s g : Nat → Int) (wt pa : Int) (al : Bool) (pm la co sp : Int) (hfl : fl ≤ 9223372036854775807) (hnd : nd ≤ 100000) (hns : ns ≤ 1000) (e3 : hsB 1 fl 3 = false) (e5 : hsB 1 fl 5 = false) (hp : ¬ (⟨1, fl, st, pad, nd, d, ns, s, g, wt, pa, al, pm, la, co, sp⟩ : Fm5).POk) (w : World) (hd : Rd .u8 w A2 nd c2 d) (hs2 : Rd2 w A3 ns c3 s g) :
    Calls Try.prog 101 #[.agg #[.int .i64 1, .int .i64 fl, .int .i64 st, .int .i64 pad, .slice A2 nd c2, .slice A3 ns c3, .int .i64 wt, .int .i64 pa, .bool al, .int .i64 pm, .int .i64 la, .int .i64 co, .int .i64 sp]] w (Bd5 (⟨1, fl, st, pad, nd, d, ns, s, g, wt, pa, al, pm, la, co, sp⟩ : Fm5) w) := by
  obtain ⟨i0, hi, hz0, hz1, hz2⟩ := info_parts u8_info
  have hpw1 : pw 1 = 256 := by decide
  have hpw4 : pw 4 = 4294967296 := by decide
  exact absurd (show (⟨1, fl, st, pad, nd, d, ns, s, g, wt, pa, al, pm, la, co, sp⟩ : Fm5).POk from ⟨fun h => absurd h (by show ¬ (hsB 1 fl 3 = true); rw [e3]; decide), fun h => absurd h (by show ¬ (1 = 2 ∨ hsB 1 fl 5 = true); rw [e5]; simp), fun (h : (1 : Int) = 3) => absurd h (by decide), fun (h : (1 : Int) = 4) => absurd h (by decide), fun (h : (1 : Int) = 5) => absurd h (by decide), fun (h : (1 : Int) = 7) => absurd h (by decide), fun (h : (1 : Int) = 8) => absurd h (by decide)⟩) hp
set_option maxRecDepth 20000 in
set_option maxHeartbeats 1600000 in
theorem body_p_y (fl st pad : Int) (A2 : Option Addr) (nd c2 : Nat) (d : Nat → Int) (A3 : Option Addr) (ns c3 : Nat) (s g : Nat → Int) (wt pa : Int) (al : Bool) (pm la co sp : Int) (hfl : fl ≤ 9223372036854775807) (hnd : nd ≤ 100000) (hns : ns ≤ 1000) (hp : (⟨2, fl, st, pad, nd, d, ns, s, g, wt, pa, al, pm, la, co, sp⟩ : Fm5).POk) (w : World) (hd : Rd .u8 w A2 nd c2 d) (hs2 : Rd2 w A3 ns c3 s g) :
    Calls Try.prog 101 #[.agg #[.int .i64 2, .int .i64 fl, .int .i64 st, .int .i64 pad, .slice A2 nd c2, .slice A3 ns c3, .int .i64 wt, .int .i64 pa, .bool al, .int .i64 pm, .int .i64 la, .int .i64 co, .int .i64 sp]] w (Bd5 (⟨2, fl, st, pad, nd, d, ns, s, g, wt, pa, al, pm, la, co, sp⟩ : Fm5) w) := by
  obtain ⟨i0, hi, hz0, hz1, hz2⟩ := info_parts u8_info
  have e3 : hsB 2 fl 3 = false := hsB3_no (by decide)
  have e5 : hsB 2 fl 5 = false := hsB5_no (by decide)
  have hp1 := hp
  obtain ⟨g3, g5, gco, gs, gpm, gla, gsp⟩ := hp1
  simp only [Fm5.P3, Fm5.P5, Fm5.A5, Fm5.S5] at g3 g5 gco gs gpm gla gsp
  have hpw1 : pw 1 = 256 := by decide
  have hpw4 : pw 4 = 4294967296 := by decide
  have B0 : decide (0 ≤ pa ∧ pa ≤ 2147483647 ∧ 0 ≤ wt ∧ wt ≤ 255) = true := decide_eq_true (g5 (.inl (by trivial)))
  have a1 := (Below.refl w.heap.size w).alloc (Nat.le_refl _) (.cells #[.int .i64 2, .int .i64 fl, .int .i64 st, .int .i64 pad, .slice A2 nd c2, .slice A3 ns c3, .int .i64 wt, .int .i64 pa, .bool al, .int .i64 pm, .int .i64 la, .int .i64 co, .int .i64 sp] 25)
  have a2 := a1.alloc (by simp) (.cells #[.slice none 0 0, .bool false] 218)
  have hs1 : (w.alloc (.cells #[.int .i64 2, .int .i64 fl, .int .i64 st, .int .i64 pad, .slice A2 nd c2, .slice A3 ns c3, .int .i64 wt, .int .i64 pa, .bool al, .int .i64 pm, .int .i64 la, .int .i64 co, .int .i64 sp] 25)).heap.size = w.heap.size + 1 := by simp
  have W0 : Hid (WrB ((w.alloc (.cells #[.int .i64 2, .int .i64 fl, .int .i64 st, .int .i64 pad, .slice A2 nd c2, .slice A3 ns c3, .int .i64 wt, .int .i64 pa, .bool al, .int .i64 pm, .int .i64 la, .int .i64 co, .int .i64 sp] 25)).alloc (.cells #[.slice none 0 0, .bool false] 218)) (w.heap.size + 1) false []) := ⟨none, 0, by rw [← hs1]; exact heap_alloc_new _ _, Own.nil _ _ _ _ _⟩
  have R0 := hide (keepRow (heap_alloc_new w (.cells #[.int .i64 2, .int .i64 fl, .int .i64 st, .int .i64 pad, .slice A2 nd c2, .slice A3 ns c3, .int .i64 wt, .int .i64 pa, .bool al, .int .i64 pm, .int .i64 la, .int .i64 co, .int .i64 sp] 25)) ((Below.refl (w.alloc (.cells #[.int .i64 2, .int .i64 fl, .int .i64 st, .int .i64 pad, .slice A2 nd c2, .slice A3 ns c3, .int .i64 wt, .int .i64 pa, .bool al, .int .i64 pm, .int .i64 la, .int .i64 co, .int .i64 sp] 25)).heap.size _).alloc (Nat.le_refl _) (.cells #[.slice none 0 0, .bool false] 218)))
  have E0 := hide a2
  have HD := hide hd
  have HS2 := hide hs2
  have V0 : Hid (∀ i, i ≠ w.heap.size + 1 → i = i) := fun _ _ => rfl
  obtain ⟨x0_0, x0_1, x0_2, x0_3, x0_4, x0_5, x0_6, x0_7, x0_8, x0_9, x0_10, x0_11, x0_12⟩ := row13 R0.out
  clear a1 a2 hs1 hd hs2 V0
  have HP := hide hp
  clear hp
  go_enter Try.func101, Try.ntmps101
  go_upto_region 3 with (fail)
  generalize hW : (w.alloc (.cells #[.int .i64 2, .int .i64 fl, .int .i64 st, .int .i64 pad, .slice A2 nd c2, .slice A3 ns c3, .int .i64 wt, .int .i64 pa, .bool al, .int .i64 pm, .int .i64 la, .int .i64 co, .int .i64 sp] 25)).alloc (.cells #[.slice none 0 0, .bool false] 218) = U0 at *
  clear hW
  go_wp2_with fail
  refine (has8 2 fl 3 (by decide) 8 rfl hfl _).mono ?_
  rintro e u0 ⟨rfl, rfl⟩
  rw [e3]
  go_wp2_with fail
  refine (priority15 W0.out (by simp [numL_len, prL5_len]) 2 fl st pad A2 nd c2 d A3 ns c3 s g wt pa al pm la co sp true B0).mono ?_
  rintro e U1 ⟨rfl, ⟨l1, hw, hl1, he1⟩, hb, hv⟩
  obtain rfl := he1 rfl
  simp only [Bool.not_true, Bool.or_false] at hw
  have W1 := hide hw
  have E1 := hide (E0.out.trans (hb.mono (Nat.le_succ _)))
  have R1 := hide (hv _ _ _ (by omega) bne_u8 R0.out)
  clear hw hb hv
  obtain ⟨x1_0, x1_1, x1_2, x1_3, x1_4, x1_5, x1_6, x1_7, x1_8, x1_9, x1_10, x1_11, x1_12⟩ := row13 R1.out
  obtain ⟨L, hL⟩ : ∃ L, L = ([] ++ prL5 pa al wt) := ⟨_, rfl⟩
  have hem : (⟨2, fl, st, pad, nd, d, ns, s, g, wt, pa, al, pm, la, co, sp⟩ : Fm5).emL = L ++ (List.range nd).map d ++ [] := by
    rw [hL]
    simp [Fm5.emL, Fm5.padL, Fm5.prL, Fm5.tyL, Fm5.dL, Fm5.zL, Fm5.setL, Fm5.P3, Fm5.P5, prL5, e3, e5]
  have hLl : L.length ≤ 7000 := by rw [hL]; simp [numL_len, prL5_len]
  have WL : Hid (WrB U1 (w.heap.size + 1) false L) := by rw [hL]; exact W1.out
  have HL := hide hem
  have hltp := WL.out.lt
  clear hL hem W1
  obtain ⟨Aw, cw, hwr, how⟩ := WL.out
  obtain ⟨y0, y1⟩ := row2 hwr
  have zw := frozenRow hwr 0
  have HO := hide how
  have HWR := hide hwr
  have hne : (Value.slice Aw L.length cw).ownBlock ≠ some (w.heap.size + 1) := fun e => by have := (World.ownsRow.lt how _ e).1; omega
  have HDc := hide (rd_list (HD.out.below E1.out))
  clear hwr how WL
  obtain ⟨N, hN0⟩ : ∃ N : Nat, N = 0 := ⟨0, rfl⟩
  have hN : N ≤ 255 := by omega
  have HN0 := hide hN0
  clear g3 g5 gco gs gpm gla gsp
  clear hN0
  go_wp2_with (first | (at_builtin; refine wp_appZ rfl (.tmp 70) (.tmp 71) _ _ 9 rfl i0 Try.underlying22 Try.underlying3 Try.underlying9 hi hz0 hz1 hz2 (w.heap.size + 1 + 1) _ (L.length + nd) _ rfl HO3.out 0 rfl (by omega) (by omega) ?_; intro v4 w4 hown4 hg4; obtain ⟨A8, c8, rfl, _, _⟩ := hown4.rd; have HO4 := hide hown4; have E4 := hide (E3.out.grown hg4 (by omega) (fun k e => by have := (World.ownsRow.lt HO3.out k e).1; omega)); clear hown4 hg4) | (at_builtin; refine wp_app rfl (.tmp 64) (.tmp 66) _ rfl i0 0 1 Try.underlying22 hi hz0 hz1 hz2 (w.heap.size + 1 + 1) _ L.length (lF L) rfl HO.out A2 nd c2 _ rfl HDc.out (by simp only [maxLen]; omega) (by omega) (by omega) ?_; intro v2 w2 hown2 hg2; obtain ⟨A7, c7, rfl, _, _⟩ := hown2.rd; have hr2 := keepGrown HWR.out hg2 hne; obtain ⟨q0, q1⟩ := row2 hr2; have zq := frozenRow hr2 0; have hr3 := setRow w2 (w.heap.size + 1) 0 (.slice A7 (L.length + nd) c7) hr2; simp only [List.setIfInBounds_toArray, List.set_cons_zero, List.set_cons_succ] at hr3; have hne2 : (Value.slice A7 (L.length + nd) c7).ownBlock ≠ some (w.heap.size + 1) := (fun e => by have := (World.ownsRow.lt hown2 _ e).1; omega); have HO3 : Hid (Own .u8 5 (w.heap.size + 1 + 1) (w2.setCell ⟨w.heap.size + 1, 0, none⟩ (.slice A7 (L.length + nd) c7)) (.slice A7 (L.length + nd) c7) (L.length + nd) (catF L.length (lF L) (lF ((List.range nd).map d)))) := World.ownsRow.kept hown2 (grown_set w2 (w.heap.size + 1) 0 (.slice A7 (L.length + nd) c7)) (.inr hne2); have E3 := hide ((E1.out.grown hg2 (by omega) (fun k e => by have := (World.ownsRow.lt HO.out k e).1; omega)).setCell (p := ⟨w.heap.size + 1, 0, none⟩) (Nat.le_succ _) (.slice A7 (L.length + nd) c7)); obtain ⟨p0, p1⟩ := row2 hr3; have hs3 : w.heap.size + 1 < (w2.setCell ⟨w.heap.size + 1, 0, none⟩ (.slice A7 (L.length + nd) c7)).heap.size := rowLt hr3; clear hr2 hg2 hown2))
  go_ret2
  refine ⟨E4.out, .inl ⟨HP.out, A8, c8, ?_, ?_⟩⟩
  · rw [HL.out]
    first
      | (simp; done)
      | (simp; omega)
  · rw [HL.out]
    refine rd_congr5 HO4.out.rdS (by first | (simp; done) | (simp; omega)) fun i hi => ?_
    exact cat5 L ((List.range nd).map d) [] (by simp) (by simp) i hi
set_option maxRecDepth 20000 in
set_option maxHeartbeats 1600000 in
theorem body_p_n (fl st pad : Int) (A2 : Option Addr) (nd c2 : Nat) (d : Nat → Int) (A3 : Option Addr) (ns c3 : Nat) (s g : Nat → Int) (wt pa : Int) (al : Bool) (pm la co sp : Int) (hfl : fl ≤ 9223372036854775807) (hnd : nd ≤ 100000) (hns : ns ≤ 1000) (hp : ¬ (⟨2, fl, st, pad, nd, d, ns, s, g, wt, pa, al, pm, la, co, sp⟩ : Fm5).POk) (w : World) (hd : Rd .u8 w A2 nd c2 d) (hs2 : Rd2 w A3 ns c3 s g) :
    Calls Try.prog 101 #[.agg #[.int .i64 2, .int .i64 fl, .int .i64 st, .int .i64 pad, .slice A2 nd c2, .slice A3 ns c3, .int .i64 wt, .int .i64 pa, .bool al, .int .i64 pm, .int .i64 la, .int .i64 co, .int .i64 sp]] w (Bd5 (⟨2, fl, st, pad, nd, d, ns, s, g, wt, pa, al, pm, la, co, sp⟩ : Fm5) w) := by
  obtain ⟨i0, hi, hz0, hz1, hz2⟩ := info_parts u8_info
  have e3 : hsB 2 fl 3 = false := hsB3_no (by decide)
  have e5 : hsB 2 fl 5 = false := hsB5_no (by decide)
  have hpw1 : pw 1 = 256 := by decide
  have hpw4 : pw 4 = 4294967296 := by decide
  obtain ⟨b0, B0⟩ : ∃ b, decide (0 ≤ pa ∧ pa ≤ 2147483647 ∧ 0 ≤ wt ∧ wt ≤ 255) = b := ⟨_, rfl⟩
  have hF : (false || !b0) = true := by
    cases b0 <;> first
      | rfl
      | exact absurd (show (⟨2, fl, st, pad, nd, d, ns, s, g, wt, pa, al, pm, la, co, sp⟩ : Fm5).POk from ⟨fun h => absurd h (by show ¬ (hsB 2 fl 3 = true); rw [e3]; decide), fun _ => (show 0 ≤ pa ∧ pa ≤ 2147483647 ∧ 0 ≤ wt ∧ wt ≤ 255 from of_decide_eq_true (B0.trans rfl)), fun (h : (2 : Int) = 3) => absurd h (by decide), fun (h : (2 : Int) = 4) => absurd h (by decide), fun (h : (2 : Int) = 5) => absurd h (by decide), fun (h : (2 : Int) = 7) => absurd h (by decide), fun (h : (2 : Int) = 8) => absurd h (by decide)⟩) hp
  have HF := hide hF
  clear hF
  have a1 := (Below.refl w.heap.size w).alloc (Nat.le_refl _) (.cells #[.int .i64 2, .int .i64 fl, .int .i64 st, .int .i64 pad, .slice A2 nd c2, .slice A3 ns c3, .int .i64 wt, .int .i64 pa, .bool al, .int .i64 pm, .int .i64 la, .int .i64 co, .int .i64 sp] 25)
  have a2 := a1.alloc (by simp) (.cells #[.slice none 0 0, .bool false] 218)
  have hs1 : (w.alloc (.cells #[.int .i64 2, .int .i64 fl, .int .i64 st, .int .i64 pad, .slice A2 nd c2, .slice A3 ns c3, .int .i64 wt, .int .i64 pa, .bool al, .int .i64 pm, .int .i64 la, .int .i64 co, .int .i64 sp] 25)).heap.size = w.heap.size + 1 := by simp
  have W0 : Hid (WrB ((w.alloc (.cells #[.int .i64 2, .int .i64 fl, .int .i64 st, .int .i64 pad, .slice A2 nd c2, .slice A3 ns c3, .int .i64 wt, .int .i64 pa, .bool al, .int .i64 pm, .int .i64 la, .int .i64 co, .int .i64 sp] 25)).alloc (.cells #[.slice none 0 0, .bool false] 218)) (w.heap.size + 1) false []) := ⟨none, 0, by rw [← hs1]; exact heap_alloc_new _ _, Own.nil _ _ _ _ _⟩
  have R0 := hide (keepRow (heap_alloc_new w (.cells #[.int .i64 2, .int .i64 fl, .int .i64 st, .int .i64 pad, .slice A2 nd c2, .slice A3 ns c3, .int .i64 wt, .int .i64 pa, .bool al, .int .i64 pm, .int .i64 la, .int .i64 co, .int .i64 sp] 25)) ((Below.refl (w.alloc (.cells #[.int .i64 2, .int .i64 fl, .int .i64 st, .int .i64 pad, .slice A2 nd c2, .slice A3 ns c3, .int .i64 wt, .int .i64 pa, .bool al, .int .i64 pm, .int .i64 la, .int .i64 co, .int .i64 sp] 25)).heap.size _).alloc (Nat.le_refl _) (.cells #[.slice none 0 0, .bool false] 218)))
  have E0 := hide a2
  have HD := hide hd
  have HS2 := hide hs2
  have V0 : Hid (∀ i, i ≠ w.heap.size + 1 → i = i) := fun _ _ => rfl
  obtain ⟨x0_0, x0_1, x0_2, x0_3, x0_4, x0_5, x0_6, x0_7, x0_8, x0_9, x0_10, x0_11, x0_12⟩ := row13 R0.out
  clear a1 a2 hs1 hd hs2 V0
  have HP := hide hp
  clear hp
  go_enter Try.func101, Try.ntmps101
  go_upto_region 3 with (fail)
  generalize hW : (w.alloc (.cells #[.int .i64 2, .int .i64 fl, .int .i64 st, .int .i64 pad, .slice A2 nd c2, .slice A3 ns c3, .int .i64 wt, .int .i64 pa, .bool al, .int .i64 pm, .int .i64 la, .int .i64 co, .int .i64 sp] 25)).alloc (.cells #[.slice none 0 0, .bool false] 218) = U0 at *
  clear hW
  go_wp2_with fail
  refine (has8 2 fl 3 (by decide) 8 rfl hfl _).mono ?_
  rintro e u0 ⟨rfl, rfl⟩
  rw [e3]
  go_wp2_with fail
  refine (priority15 W0.out (by simp) 2 fl st pad A2 nd c2 d A3 ns c3 s g wt pa al pm la co sp _ B0).mono ?_
  rintro e U1 ⟨rfl, ⟨l1, hw, hl1, he1⟩, hb, hv⟩
  have W1 := hide hw
  have E1 := hide (E0.out.trans (hb.mono (Nat.le_succ _)))
  have R1 := hide (hv _ _ _ (by omega) bne_u8 R0.out)
  clear hw hb hv
  obtain ⟨x1_0, x1_1, x1_2, x1_3, x1_4, x1_5, x1_6, x1_7, x1_8, x1_9, x1_10, x1_11, x1_12⟩ := row13 R1.out
  obtain ⟨Aw, cw, hwr, how⟩ := W1.out
  obtain ⟨y0, y1⟩ := row2 hwr
  rw [HF.out] at y1
  clear hwr how
  go_wp2_with fail
  go_ret2
  exact ⟨E1.out, .inr ⟨HP.out, rfl⟩⟩
set_option maxRecDepth 20000 in
set_option maxHeartbeats 1600000 in
theorem body_r_y (fl st pad : Int) (A2 : Option Addr) (nd c2 : Nat) (d : Nat → Int) (A3 : Option Addr) (ns c3 : Nat) (s g : Nat → Int) (wt pa : Int) (al : Bool) (pm la co sp : Int) (hfl : fl ≤ 9223372036854775807) (hnd : nd ≤ 100000) (hns : ns ≤ 1000) (hp : (⟨3, fl, st, pad, nd, d, ns, s, g, wt, pa, al, pm, la, co, sp⟩ : Fm5).POk) (w : World) (hd : Rd .u8 w A2 nd c2 d) (hs2 : Rd2 w A3 ns c3 s g) :
    Calls Try.prog 101 #[.agg #[.int .i64 3, .int .i64 fl, .int .i64 st, .int .i64 pad, .slice A2 nd c2, .slice A3 ns c3, .int .i64 wt, .int .i64 pa, .bool al, .int .i64 pm, .int .i64 la, .int .i64 co, .int .i64 sp]] w (Bd5 (⟨3, fl, st, pad, nd, d, ns, s, g, wt, pa, al, pm, la, co, sp⟩ : Fm5) w) := by
  obtain ⟨i0, hi, hz0, hz1, hz2⟩ := info_parts u8_info
  have e3 : hsB 3 fl 3 = false := hsB3_no (by decide)
  have e5 : hsB 3 fl 5 = false := hsB5_no (by decide)
  have hp1 := hp
  obtain ⟨g3, g5, gco, gs, gpm, gla, gsp⟩ := hp1
  simp only [Fm5.P3, Fm5.P5, Fm5.A5, Fm5.S5] at g3 g5 gco gs gpm gla gsp
  have hpw1 : pw 1 = 256 := by decide
  have hpw4 : pw 4 = 4294967296 := by decide
  have B0 : decide (0 ≤ co ∧ co < pw 4) = true := decide_eq_true (by have h := gco (by trivial); rw [hpw4]; omega)
  have a1 := (Below.refl w.heap.size w).alloc (Nat.le_refl _) (.cells #[.int .i64 3, .int .i64 fl, .int .i64 st, .int .i64 pad, .slice A2 nd c2, .slice A3 ns c3, .int .i64 wt, .int .i64 pa, .bool al, .int .i64 pm, .int .i64 la, .int .i64 co, .int .i64 sp] 25)
  have a2 := a1.alloc (by simp) (.cells #[.slice none 0 0, .bool false] 218)
  have hs1 : (w.alloc (.cells #[.int .i64 3, .int .i64 fl, .int .i64 st, .int .i64 pad, .slice A2 nd c2, .slice A3 ns c3, .int .i64 wt, .int .i64 pa, .bool al, .int .i64 pm, .int .i64 la, .int .i64 co, .int .i64 sp] 25)).heap.size = w.heap.size + 1 := by simp
  have W0 : Hid (WrB ((w.alloc (.cells #[.int .i64 3, .int .i64 fl, .int .i64 st, .int .i64 pad, .slice A2 nd c2, .slice A3 ns c3, .int .i64 wt, .int .i64 pa, .bool al, .int .i64 pm, .int .i64 la, .int .i64 co, .int .i64 sp] 25)).alloc (.cells #[.slice none 0 0, .bool false] 218)) (w.heap.size + 1) false []) := ⟨none, 0, by rw [← hs1]; exact heap_alloc_new _ _, Own.nil _ _ _ _ _⟩
  have R0 := hide (keepRow (heap_alloc_new w (.cells #[.int .i64 3, .int .i64 fl, .int .i64 st, .int .i64 pad, .slice A2 nd c2, .slice A3 ns c3, .int .i64 wt, .int .i64 pa, .bool al, .int .i64 pm, .int .i64 la, .int .i64 co, .int .i64 sp] 25)) ((Below.refl (w.alloc (.cells #[.int .i64 3, .int .i64 fl, .int .i64 st, .int .i64 pad, .slice A2 nd c2, .slice A3 ns c3, .int .i64 wt, .int .i64 pa, .bool al, .int .i64 pm, .int .i64 la, .int .i64 co, .int .i64 sp] 25)).heap.size _).alloc (Nat.le_refl _) (.cells #[.slice none 0 0, .bool false] 218)))
  have E0 := hide a2
  have HD := hide hd
  have HS2 := hide hs2
  have V0 : Hid (∀ i, i ≠ w.heap.size + 1 → i = i) := fun _ _ => rfl
  obtain ⟨x0_0, x0_1, x0_2, x0_3, x0_4, x0_5, x0_6, x0_7, x0_8, x0_9, x0_10, x0_11, x0_12⟩ := row13 R0.out
  clear a1 a2 hs1 hd hs2 V0
  have HP := hide hp
  clear hp
  go_enter Try.func101, Try.ntmps101
  go_upto_region 3 with (fail)
  generalize hW : (w.alloc (.cells #[.int .i64 3, .int .i64 fl, .int .i64 st, .int .i64 pad, .slice A2 nd c2, .slice A3 ns c3, .int .i64 wt, .int .i64 pa, .bool al, .int .i64 pm, .int .i64 la, .int .i64 co, .int .i64 sp] 25)).alloc (.cells #[.slice none 0 0, .bool false] 218) = U0 at *
  clear hW
  go_wp2_with fail
  refine (has8 3 fl 3 (by decide) 8 rfl hfl _).mono ?_
  rintro e u0 ⟨rfl, rfl⟩
  rw [e3]
  go_wp2_with fail
  refine (number15 W0.out co 4 4 rfl (by decide) (by decide) (by simp [numL_len, prL5_len]) true B0).mono ?_
  rintro e U1 ⟨rfl, hw, hb, hv⟩
  rw [if_pos rfl] at hw
  simp only [Bool.not_true, Bool.or_false] at hw
  have W1 := hide hw
  have E1 := hide (E0.out.trans (hb.mono (Nat.le_succ _)))
  have R1 := hide (hv _ _ _ (by omega) bne_u8 R0.out)
  clear hw hb hv
  obtain ⟨x1_0, x1_1, x1_2, x1_3, x1_4, x1_5, x1_6, x1_7, x1_8, x1_9, x1_10, x1_11, x1_12⟩ := row13 R1.out
  obtain ⟨L, hL⟩ : ∃ L, L = ([] ++ numL co 4) := ⟨_, rfl⟩
  have hem : (⟨3, fl, st, pad, nd, d, ns, s, g, wt, pa, al, pm, la, co, sp⟩ : Fm5).emL = L ++ (List.range nd).map d ++ [] := by
    rw [hL]
    simp [Fm5.emL, Fm5.padL, Fm5.prL, Fm5.tyL, Fm5.dL, Fm5.zL, Fm5.setL, Fm5.P3, Fm5.P5, prL5, e3, e5]
  have hLl : L.length ≤ 7000 := by rw [hL]; simp [numL_len, prL5_len]
  have WL : Hid (WrB U1 (w.heap.size + 1) false L) := by rw [hL]; exact W1.out
  have HL := hide hem
  have hltp := WL.out.lt
  clear hL hem W1
  obtain ⟨Aw, cw, hwr, how⟩ := WL.out
  obtain ⟨y0, y1⟩ := row2 hwr
  have zw := frozenRow hwr 0
  have HO := hide how
  have HWR := hide hwr
  have hne : (Value.slice Aw L.length cw).ownBlock ≠ some (w.heap.size + 1) := fun e => by have := (World.ownsRow.lt how _ e).1; omega
  have HDc := hide (rd_list (HD.out.below E1.out))
  clear hwr how WL
  obtain ⟨N, hN0⟩ : ∃ N : Nat, N = 0 := ⟨0, rfl⟩
  have hN : N ≤ 255 := by omega
  have HN0 := hide hN0
  clear g3 g5 gco gs gpm gla gsp
  clear hN0
  go_wp2_with (first | (at_builtin; refine wp_appZ rfl (.tmp 70) (.tmp 71) _ _ 9 rfl i0 Try.underlying22 Try.underlying3 Try.underlying9 hi hz0 hz1 hz2 (w.heap.size + 1 + 1) _ (L.length + nd) _ rfl HO3.out 0 rfl (by omega) (by omega) ?_; intro v4 w4 hown4 hg4; obtain ⟨A8, c8, rfl, _, _⟩ := hown4.rd; have HO4 := hide hown4; have E4 := hide (E3.out.grown hg4 (by omega) (fun k e => by have := (World.ownsRow.lt HO3.out k e).1; omega)); clear hown4 hg4) | (at_builtin; refine wp_app rfl (.tmp 64) (.tmp 66) _ rfl i0 0 1 Try.underlying22 hi hz0 hz1 hz2 (w.heap.size + 1 + 1) _ L.length (lF L) rfl HO.out A2 nd c2 _ rfl HDc.out (by simp only [maxLen]; omega) (by omega) (by omega) ?_; intro v2 w2 hown2 hg2; obtain ⟨A7, c7, rfl, _, _⟩ := hown2.rd; have hr2 := keepGrown HWR.out hg2 hne; obtain ⟨q0, q1⟩ := row2 hr2; have zq := frozenRow hr2 0; have hr3 := setRow w2 (w.heap.size + 1) 0 (.slice A7 (L.length + nd) c7) hr2; simp only [List.setIfInBounds_toArray, List.set_cons_zero, List.set_cons_succ] at hr3; have hne2 : (Value.slice A7 (L.length + nd) c7).ownBlock ≠ some (w.heap.size + 1) := (fun e => by have := (World.ownsRow.lt hown2 _ e).1; omega); have HO3 : Hid (Own .u8 5 (w.heap.size + 1 + 1) (w2.setCell ⟨w.heap.size + 1, 0, none⟩ (.slice A7 (L.length + nd) c7)) (.slice A7 (L.length + nd) c7) (L.length + nd) (catF L.length (lF L) (lF ((List.range nd).map d)))) := World.ownsRow.kept hown2 (grown_set w2 (w.heap.size + 1) 0 (.slice A7 (L.length + nd) c7)) (.inr hne2); have E3 := hide ((E1.out.grown hg2 (by omega) (fun k e => by have := (World.ownsRow.lt HO.out k e).1; omega)).setCell (p := ⟨w.heap.size + 1, 0, none⟩) (Nat.le_succ _) (.slice A7 (L.length + nd) c7)); obtain ⟨p0, p1⟩ := row2 hr3; have hs3 : w.heap.size + 1 < (w2.setCell ⟨w.heap.size + 1, 0, none⟩ (.slice A7 (L.length + nd) c7)).heap.size := rowLt hr3; clear hr2 hg2 hown2))
  go_ret2
  refine ⟨E4.out, .inl ⟨HP.out, A8, c8, ?_, ?_⟩⟩
  · rw [HL.out]
    first
      | (simp; done)
      | (simp; omega)
  · rw [HL.out]
    refine rd_congr5 HO4.out.rdS (by first | (simp; done) | (simp; omega)) fun i hi => ?_
    exact cat5 L ((List.range nd).map d) [] (by simp) (by simp) i hi
set_option maxRecDepth 20000 in
set_option maxHeartbeats 1600000 in
theorem body_r_n (fl st pad : Int) (A2 : Option Addr) (nd c2 : Nat) (d : Nat → Int) (A3 : Option Addr) (ns c3 : Nat) (s g : Nat → Int) (wt pa : Int) (al : Bool) (pm la co sp : Int) (hfl : fl ≤ 9223372036854775807) (hnd : nd ≤ 100000) (hns : ns ≤ 1000) (hp : ¬ (⟨3, fl, st, pad, nd, d, ns, s, g, wt, pa, al, pm, la, co, sp⟩ : Fm5).POk) (w : World) (hd : Rd .u8 w A2 nd c2 d) (hs2 : Rd2 w A3 ns c3 s g) :
    Calls Try.prog 101 #[.agg #[.int .i64 3, .int .i64 fl, .int .i64 st, .int .i64 pad, .slice A2 nd c2, .slice A3 ns c3, .int .i64 wt, .int .i64 pa, .bool al, .int .i64 pm, .int .i64 la, .int .i64 co, .int .i64 sp]] w (Bd5 (⟨3, fl, st, pad, nd, d, ns, s, g, wt, pa, al, pm, la, co, sp⟩ : Fm5) w) := by
  obtain ⟨i0, hi, hz0, hz1, hz2⟩ := info_parts u8_info
  have e3 : hsB 3 fl 3 = false := hsB3_no (by decide)
  have e5 : hsB 3 fl 5 = false := hsB5_no (by decide)
  have hpw1 : pw 1 = 256 := by decide
  have hpw4 : pw 4 = 4294967296 := by decide
  obtain ⟨b0, B0⟩ : ∃ b, decide (0 ≤ co ∧ co < pw 4) = b := ⟨_, rfl⟩
  have hF : (false || !b0) = true := by
    cases b0 <;> first
      | rfl
      | exact absurd (show (⟨3, fl, st, pad, nd, d, ns, s, g, wt, pa, al, pm, la, co, sp⟩ : Fm5).POk from ⟨fun h => absurd h (by show ¬ (hsB 3 fl 3 = true); rw [e3]; decide), fun h => absurd h (by show ¬ (3 = 2 ∨ hsB 3 fl 5 = true); rw [e5]; simp), fun _ => (by show 0 ≤ co ∧ co ≤ 4294967295; have h := of_decide_eq_true (B0.trans rfl); rw [hpw4] at h; omega), fun (h : (3 : Int) = 4) => absurd h (by decide), fun (h : (3 : Int) = 5) => absurd h (by decide), fun (h : (3 : Int) = 7) => absurd h (by decide), fun (h : (3 : Int) = 8) => absurd h (by decide)⟩) hp
  have HF := hide hF
  clear hF
  have a1 := (Below.refl w.heap.size w).alloc (Nat.le_refl _) (.cells #[.int .i64 3, .int .i64 fl, .int .i64 st, .int .i64 pad, .slice A2 nd c2, .slice A3 ns c3, .int .i64 wt, .int .i64 pa, .bool al, .int .i64 pm, .int .i64 la, .int .i64 co, .int .i64 sp] 25)
  have a2 := a1.alloc (by simp) (.cells #[.slice none 0 0, .bool false] 218)
  have hs1 : (w.alloc (.cells #[.int .i64 3, .int .i64 fl, .int .i64 st, .int .i64 pad, .slice A2 nd c2, .slice A3 ns c3, .int .i64 wt, .int .i64 pa, .bool al, .int .i64 pm, .int .i64 la, .int .i64 co, .int .i64 sp] 25)).heap.size = w.heap.size + 1 := by simp
  have W0 : Hid (WrB ((w.alloc (.cells #[.int .i64 3, .int .i64 fl, .int .i64 st, .int .i64 pad, .slice A2 nd c2, .slice A3 ns c3, .int .i64 wt, .int .i64 pa, .bool al, .int .i64 pm, .int .i64 la, .int .i64 co, .int .i64 sp] 25)).alloc (.cells #[.slice none 0 0, .bool false] 218)) (w.heap.size + 1) false []) := ⟨none, 0, by rw [← hs1]; exact heap_alloc_new _ _, Own.nil _ _ _ _ _⟩
  have R0 := hide (keepRow (heap_alloc_new w (.cells #[.int .i64 3, .int .i64 fl, .int .i64 st, .int .i64 pad, .slice A2 nd c2, .slice A3 ns c3, .int .i64 wt, .int .i64 pa, .bool al, .int .i64 pm, .int .i64 la, .int .i64 co, .int .i64 sp] 25)) ((Below.refl (w.alloc (.cells #[.int .i64 3, .int .i64 fl, .int .i64 st, .int .i64 pad, .slice A2 nd c2, .slice A3 ns c3, .int .i64 wt, .int .i64 pa, .bool al, .int .i64 pm, .int .i64 la, .int .i64 co, .int .i64 sp] 25)).heap.size _).alloc (Nat.le_refl _) (.cells #[.slice none 0 0, .bool false] 218)))
  have E0 := hide a2
  have HD := hide hd
  have HS2 := hide hs2
  have V0 : Hid (∀ i, i ≠ w.heap.size + 1 → i = i) := fun _ _ => rfl
  obtain ⟨x0_0, x0_1, x0_2, x0_3, x0_4, x0_5, x0_6, x0_7, x0_8, x0_9, x0_10, x0_11, x0_12⟩ := row13 R0.out
  clear a1 a2 hs1 hd hs2 V0
  have HP := hide hp
  clear hp
  go_enter Try.func101, Try.ntmps101
  go_upto_region 3 with (fail)
  generalize hW : (w.alloc (.cells #[.int .i64 3, .int .i64 fl, .int .i64 st, .int .i64 pad, .slice A2 nd c2, .slice A3 ns c3, .int .i64 wt, .int .i64 pa, .bool al, .int .i64 pm, .int .i64 la, .int .i64 co, .int .i64 sp] 25)).alloc (.cells #[.slice none 0 0, .bool false] 218) = U0 at *
  clear hW
  go_wp2_with fail
  refine (has8 3 fl 3 (by decide) 8 rfl hfl _).mono ?_
  rintro e u0 ⟨rfl, rfl⟩
  rw [e3]
  go_wp2_with fail
  refine (number15 W0.out co 4 4 rfl (by decide) (by decide) (by simp) _ B0).mono ?_
  rintro e U1 ⟨rfl, hw, hb, hv⟩
  have W1 := hide hw
  have E1 := hide (E0.out.trans (hb.mono (Nat.le_succ _)))
  have R1 := hide (hv _ _ _ (by omega) bne_u8 R0.out)
  clear hw hb hv
  obtain ⟨x1_0, x1_1, x1_2, x1_3, x1_4, x1_5, x1_6, x1_7, x1_8, x1_9, x1_10, x1_11, x1_12⟩ := row13 R1.out
  obtain ⟨Aw, cw, hwr, how⟩ := W1.out
  obtain ⟨y0, y1⟩ := row2 hwr
  rw [HF.out] at y1
  clear hwr how
  go_wp2_with fail
  go_ret2
  exact ⟨E1.out, .inr ⟨HP.out, rfl⟩⟩
set_option maxRecDepth 20000 in
set_option maxHeartbeats 1600000 in
theorem body_s_y (fl st pad : Int) (A2 : Option Addr) (nd c2 : Nat) (d : Nat → Int) (A3 : Option Addr) (ns c3 : Nat) (s g : Nat → Int) (wt pa : Int) (al : Bool) (pm la co sp : Int) (hfl : fl ≤ 9223372036854775807) (hnd : nd ≤ 100000) (hns : ns ≤ 1000) (hp : (⟨4, fl, st, pad, nd, d, ns, s, g, wt, pa, al, pm, la, co, sp⟩ : Fm5).POk) (w : World) (hd : Rd .u8 w A2 nd c2 d) (hs2 : Rd2 w A3 ns c3 s g) :
    Calls Try.prog 101 #[.agg #[.int .i64 4, .int .i64 fl, .int .i64 st, .int .i64 pad, .slice A2 nd c2, .slice A3 ns c3, .int .i64 wt, .int .i64 pa, .bool al, .int .i64 pm, .int .i64 la, .int .i64 co, .int .i64 sp]] w (Bd5 (⟨4, fl, st, pad, nd, d, ns, s, g, wt, pa, al, pm, la, co, sp⟩ : Fm5) w) := by
  obtain ⟨i0, hi, hz0, hz1, hz2⟩ := info_parts u8_info
  have e3 : hsB 4 fl 3 = false := hsB3_no (by decide)
  have e5 : hsB 4 fl 5 = false := hsB5_no (by decide)
  have hp1 := hp
  obtain ⟨g3, g5, gco, gs, gpm, gla, gsp⟩ := hp1
  simp only [Fm5.P3, Fm5.P5, Fm5.A5, Fm5.S5] at g3 g5 gco gs gpm gla gsp
  have hpw1 : pw 1 = 256 := by decide
  have hpw4 : pw 4 = 4294967296 := by decide
  have B0 : ∀ i, i < ns → okS s g i := gs (by trivial)
  have a1 := (Below.refl w.heap.size w).alloc (Nat.le_refl _) (.cells #[.int .i64 4, .int .i64 fl, .int .i64 st, .int .i64 pad, .slice A2 nd c2, .slice A3 ns c3, .int .i64 wt, .int .i64 pa, .bool al, .int .i64 pm, .int .i64 la, .int .i64 co, .int .i64 sp] 25)
  have a2 := a1.alloc (by simp) (.cells #[.slice none 0 0, .bool false] 218)
  have hs1 : (w.alloc (.cells #[.int .i64 4, .int .i64 fl, .int .i64 st, .int .i64 pad, .slice A2 nd c2, .slice A3 ns c3, .int .i64 wt, .int .i64 pa, .bool al, .int .i64 pm, .int .i64 la, .int .i64 co, .int .i64 sp] 25)).heap.size = w.heap.size + 1 := by simp
  have W0 : Hid (WrB ((w.alloc (.cells #[.int .i64 4, .int .i64 fl, .int .i64 st, .int .i64 pad, .slice A2 nd c2, .slice A3 ns c3, .int .i64 wt, .int .i64 pa, .bool al, .int .i64 pm, .int .i64 la, .int .i64 co, .int .i64 sp] 25)).alloc (.cells #[.slice none 0 0, .bool false] 218)) (w.heap.size + 1) false []) := ⟨none, 0, by rw [← hs1]; exact heap_alloc_new _ _, Own.nil _ _ _ _ _⟩
  have R0 := hide (keepRow (heap_alloc_new w (.cells #[.int .i64 4, .int .i64 fl, .int .i64 st, .int .i64 pad, .slice A2 nd c2, .slice A3 ns c3, .int .i64 wt, .int .i64 pa, .bool al, .int .i64 pm, .int .i64 la, .int .i64 co, .int .i64 sp] 25)) ((Below.refl (w.alloc (.cells #[.int .i64 4, .int .i64 fl, .int .i64 st, .int .i64 pad, .slice A2 nd c2, .slice A3 ns c3, .int .i64 wt, .int .i64 pa, .bool al, .int .i64 pm, .int .i64 la, .int .i64 co, .int .i64 sp] 25)).heap.size _).alloc (Nat.le_refl _) (.cells #[.slice none 0 0, .bool false] 218)))
  have E0 := hide a2
  have HD := hide hd
  have HS2 := hide hs2
  have V0 : Hid (∀ i, i ≠ w.heap.size + 1 → i = i) := fun _ _ => rfl
  obtain ⟨x0_0, x0_1, x0_2, x0_3, x0_4, x0_5, x0_6, x0_7, x0_8, x0_9, x0_10, x0_11, x0_12⟩ := row13 R0.out
  clear a1 a2 hs1 hd hs2 V0
  have HP := hide hp
  clear hp
  go_enter Try.func101, Try.ntmps101
  go_upto_region 3 with (fail)
  generalize hW : (w.alloc (.cells #[.int .i64 4, .int .i64 fl, .int .i64 st, .int .i64 pad, .slice A2 nd c2, .slice A3 ns c3, .int .i64 wt, .int .i64 pa, .bool al, .int .i64 pm, .int .i64 la, .int .i64 co, .int .i64 sp] 25)).alloc (.cells #[.slice none 0 0, .bool false] 218) = U0 at *
  clear hW
  go_wp2_with fail
  refine (has8 4 fl 3 (by decide) 8 rfl hfl _).mono ?_
  rintro e u0 ⟨rfl, rfl⟩
  rw [e3]
  go_wp2_with fail
  refine (sput_any A3 ns c3 s g _ (HS2.out.below E0.out) (by omega)).mono ?_
  rintro e Us (⟨_, As, cs, rfl, hrs, hbs⟩ | ⟨hno, _⟩)
  rotate_left
  · exact absurd B0 hno
  have Ws := hide (W0.out.below hbs)
  have Es := hide (E0.out.of hbs)
  have Rs := hide (keepRow R0.out hbs)
  have Ss := hide (sb_list hrs)
  clear hrs hbs
  go_wp2_with fail
  refine (add15 Ws.out As (ns * 6) cs ((List.range (ns * 6)).map (sB s g)) (by simp) Ss.out (by simp; omega) 0 false rfl).mono ?_
  rintro e U1 ⟨rfl, hw, hb, hv⟩
  simp only [Bool.or_false, List.nil_append] at hw
  have W1 := hide hw
  have E1 := hide (Es.out.trans (hb.mono (Nat.le_succ _)))
  have R1 := hide (hv _ _ _ (by omega) bne_u8 Rs.out)
  clear hw hb hv
  obtain ⟨x1_0, x1_1, x1_2, x1_3, x1_4, x1_5, x1_6, x1_7, x1_8, x1_9, x1_10, x1_11, x1_12⟩ := row13 R1.out
  obtain ⟨L, hL⟩ : ∃ L, L = ((List.range (ns * 6)).map (sB s g)) := ⟨_, rfl⟩
  have hem : (⟨4, fl, st, pad, nd, d, ns, s, g, wt, pa, al, pm, la, co, sp⟩ : Fm5).emL = L ++ (List.range nd).map d ++ [] := by
    rw [hL]
    simp [Fm5.emL, Fm5.padL, Fm5.prL, Fm5.tyL, Fm5.dL, Fm5.zL, Fm5.setL, Fm5.P3, Fm5.P5, prL5, e3, e5]
  have hLl : L.length ≤ 7000 := by rw [hL]; simp [numL_len, prL5_len]; omega
  have WL : Hid (WrB U1 (w.heap.size + 1) false L) := by rw [hL]; exact W1.out
  have HL := hide hem
  have hltp := WL.out.lt
  clear hL hem W1
  obtain ⟨Aw, cw, hwr, how⟩ := WL.out
  obtain ⟨y0, y1⟩ := row2 hwr
  have zw := frozenRow hwr 0
  have HO := hide how
  have HWR := hide hwr
  have hne : (Value.slice Aw L.length cw).ownBlock ≠ some (w.heap.size + 1) := fun e => by have := (World.ownsRow.lt how _ e).1; omega
  have HDc := hide (rd_list (HD.out.below E1.out))
  clear hwr how WL
  obtain ⟨N, hN0⟩ : ∃ N : Nat, N = 0 := ⟨0, rfl⟩
  have hN : N ≤ 255 := by omega
  have HN0 := hide hN0
  clear g3 g5 gco gs gpm gla gsp
  clear hN0
  go_wp2_with (first | (at_builtin; refine wp_appZ rfl (.tmp 70) (.tmp 71) _ _ 9 rfl i0 Try.underlying22 Try.underlying3 Try.underlying9 hi hz0 hz1 hz2 (w.heap.size + 1 + 1) _ (L.length + nd) _ rfl HO3.out 0 rfl (by omega) (by omega) ?_; intro v4 w4 hown4 hg4; obtain ⟨A8, c8, rfl, _, _⟩ := hown4.rd; have HO4 := hide hown4; have E4 := hide (E3.out.grown hg4 (by omega) (fun k e => by have := (World.ownsRow.lt HO3.out k e).1; omega)); clear hown4 hg4) | (at_builtin; refine wp_app rfl (.tmp 64) (.tmp 66) _ rfl i0 0 1 Try.underlying22 hi hz0 hz1 hz2 (w.heap.size + 1 + 1) _ L.length (lF L) rfl HO.out A2 nd c2 _ rfl HDc.out (by simp only [maxLen]; omega) (by omega) (by omega) ?_; intro v2 w2 hown2 hg2; obtain ⟨A7, c7, rfl, _, _⟩ := hown2.rd; have hr2 := keepGrown HWR.out hg2 hne; obtain ⟨q0, q1⟩ := row2 hr2; have zq := frozenRow hr2 0; have hr3 := setRow w2 (w.heap.size + 1) 0 (.slice A7 (L.length + nd) c7) hr2; simp only [List.setIfInBounds_toArray, List.set_cons_zero, List.set_cons_succ] at hr3; have hne2 : (Value.slice A7 (L.length + nd) c7).ownBlock ≠ some (w.heap.size + 1) := (fun e => by have := (World.ownsRow.lt hown2 _ e).1; omega); have HO3 : Hid (Own .u8 5 (w.heap.size + 1 + 1) (w2.setCell ⟨w.heap.size + 1, 0, none⟩ (.slice A7 (L.length + nd) c7)) (.slice A7 (L.length + nd) c7) (L.length + nd) (catF L.length (lF L) (lF ((List.range nd).map d)))) := World.ownsRow.kept hown2 (grown_set w2 (w.heap.size + 1) 0 (.slice A7 (L.length + nd) c7)) (.inr hne2); have E3 := hide ((E1.out.grown hg2 (by omega) (fun k e => by have := (World.ownsRow.lt HO.out k e).1; omega)).setCell (p := ⟨w.heap.size + 1, 0, none⟩) (Nat.le_succ _) (.slice A7 (L.length + nd) c7)); obtain ⟨p0, p1⟩ := row2 hr3; have hs3 : w.heap.size + 1 < (w2.setCell ⟨w.heap.size + 1, 0, none⟩ (.slice A7 (L.length + nd) c7)).heap.size := rowLt hr3; clear hr2 hg2 hown2))
  go_ret2
  refine ⟨E4.out, .inl ⟨HP.out, A8, c8, ?_, ?_⟩⟩
  · rw [HL.out]
    first
      | (simp; done)
      | (simp; omega)
  · rw [HL.out]
    refine rd_congr5 HO4.out.rdS (by first | (simp; done) | (simp; omega)) fun i hi => ?_
    exact cat5 L ((List.range nd).map d) [] (by simp) (by simp) i hi
set_option maxRecDepth 20000 in
set_option maxHeartbeats 1600000 in
theorem body_s_n (fl st pad : Int) (A2 : Option Addr) (nd c2 : Nat) (d : Nat → Int) (A3 : Option Addr) (ns c3 : Nat) (s g : Nat → Int) (wt pa : Int) (al : Bool) (pm la co sp : Int) (hfl : fl ≤ 9223372036854775807) (hnd : nd ≤ 100000) (hns : ns ≤ 1000) (hp : ¬ (⟨4, fl, st, pad, nd, d, ns, s, g, wt, pa, al, pm, la, co, sp⟩ : Fm5).POk) (w : World) (hd : Rd .u8 w A2 nd c2 d) (hs2 : Rd2 w A3 ns c3 s g) :
    Calls Try.prog 101 #[.agg #[.int .i64 4, .int .i64 fl, .int .i64 st, .int .i64 pad, .slice A2 nd c2, .slice A3 ns c3, .int .i64 wt, .int .i64 pa, .bool al, .int .i64 pm, .int .i64 la, .int .i64 co, .int .i64 sp]] w (Bd5 (⟨4, fl, st, pad, nd, d, ns, s, g, wt, pa, al, pm, la, co, sp⟩ : Fm5) w) := by
  obtain ⟨i0, hi, hz0, hz1, hz2⟩ := info_parts u8_info
  have e3 : hsB 4 fl 3 = false := hsB3_no (by decide)
  have e5 : hsB 4 fl 5 = false := hsB5_no (by decide)
  have hpw1 : pw 1 = 256 := by decide
  have hpw4 : pw 4 = 4294967296 := by decide
  have B0 : ¬ ∀ i, i < ns → okS s g i := fun q0 => hp ⟨fun h => absurd h (by show ¬ (hsB 4 fl 3 = true); rw [e3]; decide), fun h => absurd h (by show ¬ (4 = 2 ∨ hsB 4 fl 5 = true); rw [e5]; simp), fun (h : (4 : Int) = 3) => absurd h (by decide), fun _ => q0, fun (h : (4 : Int) = 5) => absurd h (by decide), fun (h : (4 : Int) = 7) => absurd h (by decide), fun (h : (4 : Int) = 8) => absurd h (by decide)⟩
  have a1 := (Below.refl w.heap.size w).alloc (Nat.le_refl _) (.cells #[.int .i64 4, .int .i64 fl, .int .i64 st, .int .i64 pad, .slice A2 nd c2, .slice A3 ns c3, .int .i64 wt, .int .i64 pa, .bool al, .int .i64 pm, .int .i64 la, .int .i64 co, .int .i64 sp] 25)
  have a2 := a1.alloc (by simp) (.cells #[.slice none 0 0, .bool false] 218)
  have hs1 : (w.alloc (.cells #[.int .i64 4, .int .i64 fl, .int .i64 st, .int .i64 pad, .slice A2 nd c2, .slice A3 ns c3, .int .i64 wt, .int .i64 pa, .bool al, .int .i64 pm, .int .i64 la, .int .i64 co, .int .i64 sp] 25)).heap.size = w.heap.size + 1 := by simp
  have W0 : Hid (WrB ((w.alloc (.cells #[.int .i64 4, .int .i64 fl, .int .i64 st, .int .i64 pad, .slice A2 nd c2, .slice A3 ns c3, .int .i64 wt, .int .i64 pa, .bool al, .int .i64 pm, .int .i64 la, .int .i64 co, .int .i64 sp] 25)).alloc (.cells #[.slice none 0 0, .bool false] 218)) (w.heap.size + 1) false []) := ⟨none, 0, by rw [← hs1]; exact heap_alloc_new _ _, Own.nil _ _ _ _ _⟩
  have R0 := hide (keepRow (heap_alloc_new w (.cells #[.int .i64 4, .int .i64 fl, .int .i64 st, .int .i64 pad, .slice A2 nd c2, .slice A3 ns c3, .int .i64 wt, .int .i64 pa, .bool al, .int .i64 pm, .int .i64 la, .int .i64 co, .int .i64 sp] 25)) ((Below.refl (w.alloc (.cells #[.int .i64 4, .int .i64 fl, .int .i64 st, .int .i64 pad, .slice A2 nd c2, .slice A3 ns c3, .int .i64 wt, .int .i64 pa, .bool al, .int .i64 pm, .int .i64 la, .int .i64 co, .int .i64 sp] 25)).heap.size _).alloc (Nat.le_refl _) (.cells #[.slice none 0 0, .bool false] 218)))
  have E0 := hide a2
  have HD := hide hd
  have HS2 := hide hs2
  have V0 : Hid (∀ i, i ≠ w.heap.size + 1 → i = i) := fun _ _ => rfl
  obtain ⟨x0_0, x0_1, x0_2, x0_3, x0_4, x0_5, x0_6, x0_7, x0_8, x0_9, x0_10, x0_11, x0_12⟩ := row13 R0.out
  clear a1 a2 hs1 hd hs2 V0
  have HP := hide hp
  clear hp
  go_enter Try.func101, Try.ntmps101
  go_upto_region 3 with (fail)
  generalize hW : (w.alloc (.cells #[.int .i64 4, .int .i64 fl, .int .i64 st, .int .i64 pad, .slice A2 nd c2, .slice A3 ns c3, .int .i64 wt, .int .i64 pa, .bool al, .int .i64 pm, .int .i64 la, .int .i64 co, .int .i64 sp] 25)).alloc (.cells #[.slice none 0 0, .bool false] 218) = U0 at *
  clear hW
  go_wp2_with fail
  refine (has8 4 fl 3 (by decide) 8 rfl hfl _).mono ?_
  rintro e u0 ⟨rfl, rfl⟩
  rw [e3]
  go_wp2_with fail
  refine (sput_any A3 ns c3 s g _ (HS2.out.below E0.out) (by omega)).mono ?_
  rintro e Us (⟨hyes, _⟩ | ⟨_, rfl, hbs⟩)
  · exact absurd hyes B0
  have Ws := hide (W0.out.below hbs)
  have Es := hide (E0.out.of hbs)
  have Rs := hide (keepRow R0.out hbs)
  clear hbs
  go_wp2_with fail
  refine (add15 Ws.out none 0 0 [] rfl (Rd.nil _ _ _) (by simp) 5 true rfl).mono ?_
  rintro e U1 ⟨rfl, hw, hb, hv⟩
  have W1 := hide hw
  have E1 := hide (Es.out.trans (hb.mono (Nat.le_succ _)))
  have R1 := hide (hv _ _ _ (by omega) bne_u8 Rs.out)
  clear hw hb hv
  obtain ⟨x1_0, x1_1, x1_2, x1_3, x1_4, x1_5, x1_6, x1_7, x1_8, x1_9, x1_10, x1_11, x1_12⟩ := row13 R1.out
  obtain ⟨Aw, cw, hwr, how⟩ := W1.out
  obtain ⟨y0, y1⟩ := row2 hwr
  simp only [Bool.or_true] at y1
  clear hwr how
  go_wp2_with fail
  go_ret2
  exact ⟨E1.out, .inr ⟨HP.out, rfl⟩⟩
set_option maxRecDepth 20000 in
set_option maxHeartbeats 1600000 in
theorem body_u1_y (fl st pad : Int) (A2 : Option Addr) (nd c2 : Nat) (d : Nat → Int) (A3 : Option Addr) (ns c3 : Nat) (s g : Nat → Int) (wt pa : Int) (al : Bool) (pm la co sp : Int) (hfl : fl ≤ 9223372036854775807) (hnd : nd ≤ 100000) (hns : ns ≤ 1000) (e3 : hsB 5 fl 3 = true) (hp : (⟨5, fl, st, pad, nd, d, ns, s, g, wt, pa, al, pm, la, co, sp⟩ : Fm5).POk) (w : World) (hd : Rd .u8 w A2 nd c2 d) (hs2 : Rd2 w A3 ns c3 s g) :
    Calls Try.prog 101 #[.agg #[.int .i64 5, .int .i64 fl, .int .i64 st, .int .i64 pad, .slice A2 nd c2, .slice A3 ns c3, .int .i64 wt, .int .i64 pa, .bool al, .int .i64 pm, .int .i64 la, .int .i64 co, .int .i64 sp]] w (Bd5 (⟨5, fl, st, pad, nd, d, ns, s, g, wt, pa, al, pm, la, co, sp⟩ : Fm5) w) := by
  obtain ⟨i0, hi, hz0, hz1, hz2⟩ := info_parts u8_info
  have e5 : hsB 5 fl 5 = false := hsB5_no (by decide)
  have hp1 := hp
  obtain ⟨g3, g5, gco, gs, gpm, gla, gsp⟩ := hp1
  simp only [Fm5.P3, Fm5.P5, Fm5.A5, Fm5.S5] at g3 g5 gco gs gpm gla gsp
  have hpw1 : pw 1 = 256 := by decide
  have hpw4 : pw 4 = 4294967296 := by decide
  have B0 : decide (0 ≤ pad ∧ pad < pw 1) = true := decide_eq_true (by have h := g3 e3; rw [hpw1]; omega)
  have B1 : decide (0 ≤ pm ∧ pm < pw 4) = true := decide_eq_true (by have h := gpm (by trivial); rw [hpw4]; omega)
  have a1 := (Below.refl w.heap.size w).alloc (Nat.le_refl _) (.cells #[.int .i64 5, .int .i64 fl, .int .i64 st, .int .i64 pad, .slice A2 nd c2, .slice A3 ns c3, .int .i64 wt, .int .i64 pa, .bool al, .int .i64 pm, .int .i64 la, .int .i64 co, .int .i64 sp] 25)
  have a2 := a1.alloc (by simp) (.cells #[.slice none 0 0, .bool false] 218)
  have hs1 : (w.alloc (.cells #[.int .i64 5, .int .i64 fl, .int .i64 st, .int .i64 pad, .slice A2 nd c2, .slice A3 ns c3, .int .i64 wt, .int .i64 pa, .bool al, .int .i64 pm, .int .i64 la, .int .i64 co, .int .i64 sp] 25)).heap.size = w.heap.size + 1 := by simp
  have W0 : Hid (WrB ((w.alloc (.cells #[.int .i64 5, .int .i64 fl, .int .i64 st, .int .i64 pad, .slice A2 nd c2, .slice A3 ns c3, .int .i64 wt, .int .i64 pa, .bool al, .int .i64 pm, .int .i64 la, .int .i64 co, .int .i64 sp] 25)).alloc (.cells #[.slice none 0 0, .bool false] 218)) (w.heap.size + 1) false []) := ⟨none, 0, by rw [← hs1]; exact heap_alloc_new _ _, Own.nil _ _ _ _ _⟩
  have R0 := hide (keepRow (heap_alloc_new w (.cells #[.int .i64 5, .int .i64 fl, .int .i64 st, .int .i64 pad, .slice A2 nd c2, .slice A3 ns c3, .int .i64 wt, .int .i64 pa, .bool al, .int .i64 pm, .int .i64 la, .int .i64 co, .int .i64 sp] 25)) ((Below.refl (w.alloc (.cells #[.int .i64 5, .int .i64 fl, .int .i64 st, .int .i64 pad, .slice A2 nd c2, .slice A3 ns c3, .int .i64 wt, .int .i64 pa, .bool al, .int .i64 pm, .int .i64 la, .int .i64 co, .int .i64 sp] 25)).heap.size _).alloc (Nat.le_refl _) (.cells #[.slice none 0 0, .bool false] 218)))
  have E0 := hide a2
  have HD := hide hd
  have HS2 := hide hs2
  have V0 : Hid (∀ i, i ≠ w.heap.size + 1 → i = i) := fun _ _ => rfl
  obtain ⟨x0_0, x0_1, x0_2, x0_3, x0_4, x0_5, x0_6, x0_7, x0_8, x0_9, x0_10, x0_11, x0_12⟩ := row13 R0.out
  clear a1 a2 hs1 hd hs2 V0
  have HP := hide hp
  clear hp
  go_enter Try.func101, Try.ntmps101
  go_upto_region 3 with (fail)
  generalize hW : (w.alloc (.cells #[.int .i64 5, .int .i64 fl, .int .i64 st, .int .i64 pad, .slice A2 nd c2, .slice A3 ns c3, .int .i64 wt, .int .i64 pa, .bool al, .int .i64 pm, .int .i64 la, .int .i64 co, .int .i64 sp] 25)).alloc (.cells #[.slice none 0 0, .bool false] 218) = U0 at *
  clear hW
  go_wp2_with fail
  refine (has8 5 fl 3 (by decide) 8 rfl hfl _).mono ?_
  rintro e u0 ⟨rfl, rfl⟩
  rw [e3]
  go_wp2_with fail
  refine (number15 W0.out pad 1 1 rfl (by decide) (by decide) (by simp [numL_len, prL5_len]) true B0).mono ?_
  rintro e U1 ⟨rfl, hw, hb, hv⟩
  rw [if_pos rfl] at hw
  simp only [Bool.not_true, Bool.or_false] at hw
  have W1 := hide hw
  have E1 := hide (E0.out.trans (hb.mono (Nat.le_succ _)))
  have R1 := hide (hv _ _ _ (by omega) bne_u8 R0.out)
  clear hw hb hv
  obtain ⟨x1_0, x1_1, x1_2, x1_3, x1_4, x1_5, x1_6, x1_7, x1_8, x1_9, x1_10, x1_11, x1_12⟩ := row13 R1.out
  go_wp2_with fail
  refine (number15 W1.out pm 4 4 rfl (by decide) (by decide) (by simp [numL_len, prL5_len]) true B1).mono ?_
  rintro e U2 ⟨rfl, hw, hb, hv⟩
  rw [if_pos rfl] at hw
  simp only [Bool.not_true, Bool.or_false] at hw
  have W2 := hide hw
  have E2 := hide (E1.out.trans (hb.mono (Nat.le_succ _)))
  have R2 := hide (hv _ _ _ (by omega) bne_u8 R1.out)
  clear hw hb hv
  obtain ⟨x2_0, x2_1, x2_2, x2_3, x2_4, x2_5, x2_6, x2_7, x2_8, x2_9, x2_10, x2_11, x2_12⟩ := row13 R2.out
  obtain ⟨L, hL⟩ : ∃ L, L = (([] ++ numL pad 1) ++ numL pm 4) := ⟨_, rfl⟩
  have hem : (⟨5, fl, st, pad, nd, d, ns, s, g, wt, pa, al, pm, la, co, sp⟩ : Fm5).emL = L ++ (List.range nd).map d ++ List.replicate pad.toNat 0 := by
    rw [hL]
    simp [Fm5.emL, Fm5.padL, Fm5.prL, Fm5.tyL, Fm5.dL, Fm5.zL, Fm5.setL, Fm5.P3, Fm5.P5, prL5, e3, e5]
  have hLl : L.length ≤ 7000 := by rw [hL]; simp [numL_len, prL5_len]
  have WL : Hid (WrB U2 (w.heap.size + 1) false L) := by rw [hL]; exact W2.out
  have HL := hide hem
  have hltp := WL.out.lt
  clear hL hem W2
  obtain ⟨Aw, cw, hwr, how⟩ := WL.out
  obtain ⟨y0, y1⟩ := row2 hwr
  have zw := frozenRow hwr 0
  have HO := hide how
  have HWR := hide hwr
  have hne : (Value.slice Aw L.length cw).ownBlock ≠ some (w.heap.size + 1) := fun e => by have := (World.ownsRow.lt how _ e).1; omega
  have HDc := hide (rd_list (HD.out.below E2.out))
  clear hwr how WL
  obtain ⟨N, rfl⟩ : ∃ N : Nat, pad = (N : Int) := ⟨pad.toNat, by have h := g3 e3; omega⟩
  have hN : N ≤ 255 := by have h := g3 e3; omega
  clear g3 g5 gco gs gpm gla gsp
  go_wp2_with (first | (at_builtin; refine wp_appZ rfl (.tmp 70) (.tmp 71) _ _ 9 rfl i0 Try.underlying22 Try.underlying3 Try.underlying9 hi hz0 hz1 hz2 (w.heap.size + 1 + 1) _ (L.length + nd) _ rfl HO3.out N rfl (by omega) (by omega) ?_; intro v4 w4 hown4 hg4; obtain ⟨A8, c8, rfl, _, _⟩ := hown4.rd; have HO4 := hide hown4; have E4 := hide (E3.out.grown hg4 (by omega) (fun k e => by have := (World.ownsRow.lt HO3.out k e).1; omega)); clear hown4 hg4) | (at_builtin; refine wp_app rfl (.tmp 64) (.tmp 66) _ rfl i0 0 1 Try.underlying22 hi hz0 hz1 hz2 (w.heap.size + 1 + 1) _ L.length (lF L) rfl HO.out A2 nd c2 _ rfl HDc.out (by simp only [maxLen]; omega) (by omega) (by omega) ?_; intro v2 w2 hown2 hg2; obtain ⟨A7, c7, rfl, _, _⟩ := hown2.rd; have hr2 := keepGrown HWR.out hg2 hne; obtain ⟨q0, q1⟩ := row2 hr2; have zq := frozenRow hr2 0; have hr3 := setRow w2 (w.heap.size + 1) 0 (.slice A7 (L.length + nd) c7) hr2; simp only [List.setIfInBounds_toArray, List.set_cons_zero, List.set_cons_succ] at hr3; have hne2 : (Value.slice A7 (L.length + nd) c7).ownBlock ≠ some (w.heap.size + 1) := (fun e => by have := (World.ownsRow.lt hown2 _ e).1; omega); have HO3 : Hid (Own .u8 5 (w.heap.size + 1 + 1) (w2.setCell ⟨w.heap.size + 1, 0, none⟩ (.slice A7 (L.length + nd) c7)) (.slice A7 (L.length + nd) c7) (L.length + nd) (catF L.length (lF L) (lF ((List.range nd).map d)))) := World.ownsRow.kept hown2 (grown_set w2 (w.heap.size + 1) 0 (.slice A7 (L.length + nd) c7)) (.inr hne2); have E3 := hide ((E2.out.grown hg2 (by omega) (fun k e => by have := (World.ownsRow.lt HO.out k e).1; omega)).setCell (p := ⟨w.heap.size + 1, 0, none⟩) (Nat.le_succ _) (.slice A7 (L.length + nd) c7)); obtain ⟨p0, p1⟩ := row2 hr3; have hs3 : w.heap.size + 1 < (w2.setCell ⟨w.heap.size + 1, 0, none⟩ (.slice A7 (L.length + nd) c7)).heap.size := rowLt hr3; clear hr2 hg2 hown2))
  go_ret2
  refine ⟨E4.out, .inl ⟨HP.out, A8, c8, ?_, ?_⟩⟩
  · rw [HL.out]
    first
      | (simp; done)
      | (simp; omega)
  · rw [HL.out]
    refine rd_congr5 HO4.out.rdS (by first | (simp; done) | (simp; omega)) fun i hi => ?_
    exact cat5 L ((List.range nd).map d) (List.replicate (N : Int).toNat 0) (by simp) (by simp) i hi
set_option maxRecDepth 20000 in
set_option maxHeartbeats 1600000 in
theorem body_u1_n (fl st pad : Int) (A2 : Option Addr) (nd c2 : Nat) (d : Nat → Int) (A3 : Option Addr) (ns c3 : Nat) (s g : Nat → Int) (wt pa : Int) (al : Bool) (pm la co sp : Int) (hfl : fl ≤ 9223372036854775807) (hnd : nd ≤ 100000) (hns : ns ≤ 1000) (e3 : hsB 5 fl 3 = true) (hp : ¬ (⟨5, fl, st, pad, nd, d, ns, s, g, wt, pa, al, pm, la, co, sp⟩ : Fm5).POk) (w : World) (hd : Rd .u8 w A2 nd c2 d) (hs2 : Rd2 w A3 ns c3 s g) :
    Calls Try.prog 101 #[.agg #[.int .i64 5, .int .i64 fl, .int .i64 st, .int .i64 pad, .slice A2 nd c2, .slice A3 ns c3, .int .i64 wt, .int .i64 pa, .bool al, .int .i64 pm, .int .i64 la, .int .i64 co, .int .i64 sp]] w (Bd5 (⟨5, fl, st, pad, nd, d, ns, s, g, wt, pa, al, pm, la, co, sp⟩ : Fm5) w) := by
  obtain ⟨i0, hi, hz0, hz1, hz2⟩ := info_parts u8_info
  have e5 : hsB 5 fl 5 = false := hsB5_no (by decide)
  have hpw1 : pw 1 = 256 := by decide
  have hpw4 : pw 4 = 4294967296 := by decide
  obtain ⟨b0, B0⟩ : ∃ b, decide (0 ≤ pad ∧ pad < pw 1) = b := ⟨_, rfl⟩
  obtain ⟨b1, B1⟩ : ∃ b, decide (0 ≤ pm ∧ pm < pw 4) = b := ⟨_, rfl⟩
  have hF : ((false || !b0) || !b1) = true := by
    cases b0 <;> cases b1 <;> first
      | rfl
      | exact absurd (show (⟨5, fl, st, pad, nd, d, ns, s, g, wt, pa, al, pm, la, co, sp⟩ : Fm5).POk from ⟨fun _ => (by show 0 ≤ pad ∧ pad ≤ 255; have h := of_decide_eq_true (B0.trans rfl); rw [hpw1] at h; omega), fun h => absurd h (by show ¬ (5 = 2 ∨ hsB 5 fl 5 = true); rw [e5]; simp), fun (h : (5 : Int) = 3) => absurd h (by decide), fun (h : (5 : Int) = 4) => absurd h (by decide), fun _ => (by show 0 ≤ pm ∧ pm ≤ 4294967295; have h := of_decide_eq_true (B1.trans rfl); rw [hpw4] at h; omega), fun (h : (5 : Int) = 7) => absurd h (by decide), fun (h : (5 : Int) = 8) => absurd h (by decide)⟩) hp
  have HF := hide hF
  clear hF
  have a1 := (Below.refl w.heap.size w).alloc (Nat.le_refl _) (.cells #[.int .i64 5, .int .i64 fl, .int .i64 st, .int .i64 pad, .slice A2 nd c2, .slice A3 ns c3, .int .i64 wt, .int .i64 pa, .bool al, .int .i64 pm, .int .i64 la, .int .i64 co, .int .i64 sp] 25)
  have a2 := a1.alloc (by simp) (.cells #[.slice none 0 0, .bool false] 218)
  have hs1 : (w.alloc (.cells #[.int .i64 5, .int .i64 fl, .int .i64 st, .int .i64 pad, .slice A2 nd c2, .slice A3 ns c3, .int .i64 wt, .int .i64 pa, .bool al, .int .i64 pm, .int .i64 la, .int .i64 co, .int .i64 sp] 25)).heap.size = w.heap.size + 1 := by simp
  have W0 : Hid (WrB ((w.alloc (.cells #[.int .i64 5, .int .i64 fl, .int .i64 st, .int .i64 pad, .slice A2 nd c2, .slice A3 ns c3, .int .i64 wt, .int .i64 pa, .bool al, .int .i64 pm, .int .i64 la, .int .i64 co, .int .i64 sp] 25)).alloc (.cells #[.slice none 0 0, .bool false] 218)) (w.heap.size + 1) false []) := ⟨none, 0, by rw [← hs1]; exact heap_alloc_new _ _, Own.nil _ _ _ _ _⟩
  have R0 := hide (keepRow (heap_alloc_new w (.cells #[.int .i64 5, .int .i64 fl, .int .i64 st, .int .i64 pad, .slice A2 nd c2, .slice A3 ns c3, .int .i64 wt, .int .i64 pa, .bool al, .int .i64 pm, .int .i64 la, .int .i64 co, .int .i64 sp] 25)) ((Below.refl (w.alloc (.cells #[.int .i64 5, .int .i64 fl, .int .i64 st, .int .i64 pad, .slice A2 nd c2, .slice A3 ns c3, .int .i64 wt, .int .i64 pa, .bool al, .int .i64 pm, .int .i64 la, .int .i64 co, .int .i64 sp] 25)).heap.size _).alloc (Nat.le_refl _) (.cells #[.slice none 0 0, .bool false] 218)))
  have E0 := hide a2
  have HD := hide hd
  have HS2 := hide hs2
  have V0 : Hid (∀ i, i ≠ w.heap.size + 1 → i = i) := fun _ _ => rfl
  obtain ⟨x0_0, x0_1, x0_2, x0_3, x0_4, x0_5, x0_6, x0_7, x0_8, x0_9, x0_10, x0_11, x0_12⟩ := row13 R0.out
  clear a1 a2 hs1 hd hs2 V0
  have HP := hide hp
  clear hp
  go_enter Try.func101, Try.ntmps101
  go_upto_region 3 with (fail)
  generalize hW : (w.alloc (.cells #[.int .i64 5, .int .i64 fl, .int .i64 st, .int .i64 pad, .slice A2 nd c2, .slice A3 ns c3, .int .i64 wt, .int .i64 pa, .bool al, .int .i64 pm, .int .i64 la, .int .i64 co, .int .i64 sp] 25)).alloc (.cells #[.slice none 0 0, .bool false] 218) = U0 at *
  clear hW
  go_wp2_with fail
  refine (has8 5 fl 3 (by decide) 8 rfl hfl _).mono ?_
  rintro e u0 ⟨rfl, rfl⟩
  rw [e3]
  go_wp2_with fail
  refine (number15 W0.out pad 1 1 rfl (by decide) (by decide) (by simp) _ B0).mono ?_
  rintro e U1 ⟨rfl, hw, hb, hv⟩
  have W1 := hide hw
  have E1 := hide (E0.out.trans (hb.mono (Nat.le_succ _)))
  have R1 := hide (hv _ _ _ (by omega) bne_u8 R0.out)
  clear hw hb hv
  obtain ⟨x1_0, x1_1, x1_2, x1_3, x1_4, x1_5, x1_6, x1_7, x1_8, x1_9, x1_10, x1_11, x1_12⟩ := row13 R1.out
  have LEN1 : (if b0 = true then [] ++ numL pad 1 else []).length ≤ 4 := by split <;> simp [numL_len]
  go_wp2_with fail
  refine (number15 W1.out pm 4 4 rfl (by decide) (by decide) (by have h := LEN1; omega) _ B1).mono ?_
  rintro e U2 ⟨rfl, hw, hb, hv⟩
  have W2 := hide hw
  have E2 := hide (E1.out.trans (hb.mono (Nat.le_succ _)))
  have R2 := hide (hv _ _ _ (by omega) bne_u8 R1.out)
  clear hw hb hv
  obtain ⟨x2_0, x2_1, x2_2, x2_3, x2_4, x2_5, x2_6, x2_7, x2_8, x2_9, x2_10, x2_11, x2_12⟩ := row13 R2.out
  obtain ⟨Aw, cw, hwr, how⟩ := W2.out
  obtain ⟨y0, y1⟩ := row2 hwr
  rw [HF.out] at y1
  clear hwr how
  go_wp2_with fail
  go_ret2
  exact ⟨E2.out, .inr ⟨HP.out, rfl⟩⟩
set_option maxRecDepth 20000 in
set_option maxHeartbeats 1600000 in
theorem body_u0_y (fl st pad : Int) (A2 : Option Addr) (nd c2 : Nat) (d : Nat → Int) (A3 : Option Addr) (ns c3 : Nat) (s g : Nat → Int) (wt pa : Int) (al : Bool) (pm la co sp : Int) (hfl : fl ≤ 9223372036854775807) (hnd : nd ≤ 100000) (hns : ns ≤ 1000) (e3 : hsB 5 fl 3 = false) (hp : (⟨5, fl, st, pad, nd, d, ns, s, g, wt, pa, al, pm, la, co, sp⟩ : Fm5).POk) (w : World) (hd : Rd .u8 w A2 nd c2 d) (hs2 : Rd2 w A3 ns c3 s g) :
    Calls Try.prog 101 #[.agg #[.int .i64 5, .int .i64 fl, .int .i64 st, .int .i64 pad, .slice A2 nd c2, .slice A3 ns c3, .int .i64 wt, .int .i64 pa, .bool al, .int .i64 pm, .int .i64 la, .int .i64 co, .int .i64 sp]] w (Bd5 (⟨5, fl, st, pad, nd, d, ns, s, g, wt, pa, al, pm, la, co, sp⟩ : Fm5) w) := by
  obtain ⟨i0, hi, hz0, hz1, hz2⟩ := info_parts u8_info
  have e5 : hsB 5 fl 5 = false := hsB5_no (by decide)
  have hp1 := hp
  obtain ⟨g3, g5, gco, gs, gpm, gla, gsp⟩ := hp1
  simp only [Fm5.P3, Fm5.P5, Fm5.A5, Fm5.S5] at g3 g5 gco gs gpm gla gsp
  have hpw1 : pw 1 = 256 := by decide
  have hpw4 : pw 4 = 4294967296 := by decide
  have B0 : decide (0 ≤ pm ∧ pm < pw 4) = true := decide_eq_true (by have h := gpm (by trivial); rw [hpw4]; omega)
  have a1 := (Below.refl w.heap.size w).alloc (Nat.le_refl _) (.cells #[.int .i64 5, .int .i64 fl, .int .i64 st, .int .i64 pad, .slice A2 nd c2, .slice A3 ns c3, .int .i64 wt, .int .i64 pa, .bool al, .int .i64 pm, .int .i64 la, .int .i64 co, .int .i64 sp] 25)
  have a2 := a1.alloc (by simp) (.cells #[.slice none 0 0, .bool false] 218)
  have hs1 : (w.alloc (.cells #[.int .i64 5, .int .i64 fl, .int .i64 st, .int .i64 pad, .slice A2 nd c2, .slice A3 ns c3, .int .i64 wt, .int .i64 pa, .bool al, .int .i64 pm, .int .i64 la, .int .i64 co, .int .i64 sp] 25)).heap.size = w.heap.size + 1 := by simp
  have W0 : Hid (WrB ((w.alloc (.cells #[.int .i64 5, .int .i64 fl, .int .i64 st, .int .i64 pad, .slice A2 nd c2, .slice A3 ns c3, .int .i64 wt, .int .i64 pa, .bool al, .int .i64 pm, .int .i64 la, .int .i64 co, .int .i64 sp] 25)).alloc (.cells #[.slice none 0 0, .bool false] 218)) (w.heap.size + 1) false []) := ⟨none, 0, by rw [← hs1]; exact heap_alloc_new _ _, Own.nil _ _ _ _ _⟩
  have R0 := hide (keepRow (heap_alloc_new w (.cells #[.int .i64 5, .int .i64 fl, .int .i64 st, .int .i64 pad, .slice A2 nd c2, .slice A3 ns c3, .int .i64 wt, .int .i64 pa, .bool al, .int .i64 pm, .int .i64 la, .int .i64 co, .int .i64 sp] 25)) ((Below.refl (w.alloc (.cells #[.int .i64 5, .int .i64 fl, .int .i64 st, .int .i64 pad, .slice A2 nd c2, .slice A3 ns c3, .int .i64 wt, .int .i64 pa, .bool al, .int .i64 pm, .int .i64 la, .int .i64 co, .int .i64 sp] 25)).heap.size _).alloc (Nat.le_refl _) (.cells #[.slice none 0 0, .bool false] 218)))
  have E0 := hide a2
  have HD := hide hd
  have HS2 := hide hs2
  have V0 : Hid (∀ i, i ≠ w.heap.size + 1 → i = i) := fun _ _ => rfl
  obtain ⟨x0_0, x0_1, x0_2, x0_3, x0_4, x0_5, x0_6, x0_7, x0_8, x0_9, x0_10, x0_11, x0_12⟩ := row13 R0.out
  clear a1 a2 hs1 hd hs2 V0
  have HP := hide hp
  clear hp
  go_enter Try.func101, Try.ntmps101
  go_upto_region 3 with (fail)
  generalize hW : (w.alloc (.cells #[.int .i64 5, .int .i64 fl, .int .i64 st, .int .i64 pad, .slice A2 nd c2, .slice A3 ns c3, .int .i64 wt, .int .i64 pa, .bool al, .int .i64 pm, .int .i64 la, .int .i64 co, .int .i64 sp] 25)).alloc (.cells #[.slice none 0 0, .bool false] 218) = U0 at *
  clear hW
  go_wp2_with fail
  refine (has8 5 fl 3 (by decide) 8 rfl hfl _).mono ?_
  rintro e u0 ⟨rfl, rfl⟩
  rw [e3]
  go_wp2_with fail
  refine (number15 W0.out pm 4 4 rfl (by decide) (by decide) (by simp [numL_len, prL5_len]) true B0).mono ?_
  rintro e U1 ⟨rfl, hw, hb, hv⟩
  rw [if_pos rfl] at hw
  simp only [Bool.not_true, Bool.or_false] at hw
  have W1 := hide hw
  have E1 := hide (E0.out.trans (hb.mono (Nat.le_succ _)))
  have R1 := hide (hv _ _ _ (by omega) bne_u8 R0.out)
  clear hw hb hv
  obtain ⟨x1_0, x1_1, x1_2, x1_3, x1_4, x1_5, x1_6, x1_7, x1_8, x1_9, x1_10, x1_11, x1_12⟩ := row13 R1.out
  obtain ⟨L, hL⟩ : ∃ L, L = ([] ++ numL pm 4) := ⟨_, rfl⟩
  have hem : (⟨5, fl, st, pad, nd, d, ns, s, g, wt, pa, al, pm, la, co, sp⟩ : Fm5).emL = L ++ (List.range nd).map d ++ [] := by
    rw [hL]
    simp [Fm5.emL, Fm5.padL, Fm5.prL, Fm5.tyL, Fm5.dL, Fm5.zL, Fm5.setL, Fm5.P3, Fm5.P5, prL5, e3, e5]
  have hLl : L.length ≤ 7000 := by rw [hL]; simp [numL_len, prL5_len]
  have WL : Hid (WrB U1 (w.heap.size + 1) false L) := by rw [hL]; exact W1.out
  have HL := hide hem
  have hltp := WL.out.lt
  clear hL hem W1
  obtain ⟨Aw, cw, hwr, how⟩ := WL.out
  obtain ⟨y0, y1⟩ := row2 hwr
  have zw := frozenRow hwr 0
  have HO := hide how
  have HWR := hide hwr
  have hne : (Value.slice Aw L.length cw).ownBlock ≠ some (w.heap.size + 1) := fun e => by have := (World.ownsRow.lt how _ e).1; omega
  have HDc := hide (rd_list (HD.out.below E1.out))
  clear hwr how WL
  obtain ⟨N, hN0⟩ : ∃ N : Nat, N = 0 := ⟨0, rfl⟩
  have hN : N ≤ 255 := by omega
  have HN0 := hide hN0
  clear g3 g5 gco gs gpm gla gsp
  clear hN0
  go_wp2_with (first | (at_builtin; refine wp_appZ rfl (.tmp 70) (.tmp 71) _ _ 9 rfl i0 Try.underlying22 Try.underlying3 Try.underlying9 hi hz0 hz1 hz2 (w.heap.size + 1 + 1) _ (L.length + nd) _ rfl HO3.out 0 rfl (by omega) (by omega) ?_; intro v4 w4 hown4 hg4; obtain ⟨A8, c8, rfl, _, _⟩ := hown4.rd; have HO4 := hide hown4; have E4 := hide (E3.out.grown hg4 (by omega) (fun k e => by have := (World.ownsRow.lt HO3.out k e).1; omega)); clear hown4 hg4) | (at_builtin; refine wp_app rfl (.tmp 64) (.tmp 66) _ rfl i0 0 1 Try.underlying22 hi hz0 hz1 hz2 (w.heap.size + 1 + 1) _ L.length (lF L) rfl HO.out A2 nd c2 _ rfl HDc.out (by simp only [maxLen]; omega) (by omega) (by omega) ?_; intro v2 w2 hown2 hg2; obtain ⟨A7, c7, rfl, _, _⟩ := hown2.rd; have hr2 := keepGrown HWR.out hg2 hne; obtain ⟨q0, q1⟩ := row2 hr2; have zq := frozenRow hr2 0; have hr3 := setRow w2 (w.heap.size + 1) 0 (.slice A7 (L.length + nd) c7) hr2; simp only [List.setIfInBounds_toArray, List.set_cons_zero, List.set_cons_succ] at hr3; have hne2 : (Value.slice A7 (L.length + nd) c7).ownBlock ≠ some (w.heap.size + 1) := (fun e => by have := (World.ownsRow.lt hown2 _ e).1; omega); have HO3 : Hid (Own .u8 5 (w.heap.size + 1 + 1) (w2.setCell ⟨w.heap.size + 1, 0, none⟩ (.slice A7 (L.length + nd) c7)) (.slice A7 (L.length + nd) c7) (L.length + nd) (catF L.length (lF L) (lF ((List.range nd).map d)))) := World.ownsRow.kept hown2 (grown_set w2 (w.heap.size + 1) 0 (.slice A7 (L.length + nd) c7)) (.inr hne2); have E3 := hide ((E1.out.grown hg2 (by omega) (fun k e => by have := (World.ownsRow.lt HO.out k e).1; omega)).setCell (p := ⟨w.heap.size + 1, 0, none⟩) (Nat.le_succ _) (.slice A7 (L.length + nd) c7)); obtain ⟨p0, p1⟩ := row2 hr3; have hs3 : w.heap.size + 1 < (w2.setCell ⟨w.heap.size + 1, 0, none⟩ (.slice A7 (L.length + nd) c7)).heap.size := rowLt hr3; clear hr2 hg2 hown2))
  go_ret2
  refine ⟨E4.out, .inl ⟨HP.out, A8, c8, ?_, ?_⟩⟩
  · rw [HL.out]
    first
      | (simp; done)
      | (simp; omega)
  · rw [HL.out]
    refine rd_congr5 HO4.out.rdS (by first | (simp; done) | (simp; omega)) fun i hi => ?_
    exact cat5 L ((List.range nd).map d) [] (by simp) (by simp) i hi
set_option maxRecDepth 20000 in
set_option maxHeartbeats 1600000 in
theorem body_u0_n (fl st pad : Int) (A2 : Option Addr) (nd c2 : Nat) (d : Nat → Int) (A3 : Option Addr) (ns c3 : Nat) (s g : Nat → Int) (wt pa : Int) (al : Bool) (pm la co sp : Int) (hfl : fl ≤ 9223372036854775807) (hnd : nd ≤ 100000) (hns : ns ≤ 1000) (e3 : hsB 5 fl 3 = false) (hp : ¬ (⟨5, fl, st, pad, nd, d, ns, s, g, wt, pa, al, pm, la, co, sp⟩ : Fm5).POk) (w : World) (hd : Rd .u8 w A2 nd c2 d) (hs2 : Rd2 w A3 ns c3 s g) :
    Calls Try.prog 101 #[.agg #[.int .i64 5, .int .i64 fl, .int .i64 st, .int .i64 pad, .slice A2 nd c2, .slice A3 ns c3, .int .i64 wt, .int .i64 pa, .bool al, .int .i64 pm, .int .i64 la, .int .i64 co, .int .i64 sp]] w (Bd5 (⟨5, fl, st, pad, nd, d, ns, s, g, wt, pa, al, pm, la, co, sp⟩ : Fm5) w) := by
  obtain ⟨i0, hi, hz0, hz1, hz2⟩ := info_parts u8_info
  have e5 : hsB 5 fl 5 = false := hsB5_no (by decide)
  have hpw1 : pw 1 = 256 := by decide
  have hpw4 : pw 4 = 4294967296 := by decide
  obtain ⟨b0, B0⟩ : ∃ b, decide (0 ≤ pm ∧ pm < pw 4) = b := ⟨_, rfl⟩
  have hF : (false || !b0) = true := by
    cases b0 <;> first
      | rfl
      | exact absurd (show (⟨5, fl, st, pad, nd, d, ns, s, g, wt, pa, al, pm, la, co, sp⟩ : Fm5).POk from ⟨fun h => absurd h (by show ¬ (hsB 5 fl 3 = true); rw [e3]; decide), fun h => absurd h (by show ¬ (5 = 2 ∨ hsB 5 fl 5 = true); rw [e5]; simp), fun (h : (5 : Int) = 3) => absurd h (by decide), fun (h : (5 : Int) = 4) => absurd h (by decide), fun _ => (by show 0 ≤ pm ∧ pm ≤ 4294967295; have h := of_decide_eq_true (B0.trans rfl); rw [hpw4] at h; omega), fun (h : (5 : Int) = 7) => absurd h (by decide), fun (h : (5 : Int) = 8) => absurd h (by decide)⟩) hp
  have HF := hide hF
  clear hF
  have a1 := (Below.refl w.heap.size w).alloc (Nat.le_refl _) (.cells #[.int .i64 5, .int .i64 fl, .int .i64 st, .int .i64 pad, .slice A2 nd c2, .slice A3 ns c3, .int .i64 wt, .int .i64 pa, .bool al, .int .i64 pm, .int .i64 la, .int .i64 co, .int .i64 sp] 25)
  have a2 := a1.alloc (by simp) (.cells #[.slice none 0 0, .bool false] 218)
  have hs1 : (w.alloc (.cells #[.int .i64 5, .int .i64 fl, .int .i64 st, .int .i64 pad, .slice A2 nd c2, .slice A3 ns c3, .int .i64 wt, .int .i64 pa, .bool al, .int .i64 pm, .int .i64 la, .int .i64 co, .int .i64 sp] 25)).heap.size = w.heap.size + 1 := by simp
  have W0 : Hid (WrB ((w.alloc (.cells #[.int .i64 5, .int .i64 fl, .int .i64 st, .int .i64 pad, .slice A2 nd c2, .slice A3 ns c3, .int .i64 wt, .int .i64 pa, .bool al, .int .i64 pm, .int .i64 la, .int .i64 co, .int .i64 sp] 25)).alloc (.cells #[.slice none 0 0, .bool false] 218)) (w.heap.size + 1) false []) := ⟨none, 0, by rw [← hs1]; exact heap_alloc_new _ _, Own.nil _ _ _ _ _⟩
  have R0 := hide (keepRow (heap_alloc_new w (.cells #[.int .i64 5, .int .i64 fl, .int .i64 st, .int .i64 pad, .slice A2 nd c2, .slice A3 ns c3, .int .i64 wt, .int .i64 pa, .bool al, .int .i64 pm, .int .i64 la, .int .i64 co, .int .i64 sp] 25)) ((Below.refl (w.alloc (.cells #[.int .i64 5, .int .i64 fl, .int .i64 st, .int .i64 pad, .slice A2 nd c2, .slice A3 ns c3, .int .i64 wt, .int .i64 pa, .bool al, .int .i64 pm, .int .i64 la, .int .i64 co, .int .i64 sp] 25)).heap.size _).alloc (Nat.le_refl _) (.cells #[.slice none 0 0, .bool false] 218)))
  have E0 := hide a2
  have HD := hide hd
  have HS2 := hide hs2
  have V0 : Hid (∀ i, i ≠ w.heap.size + 1 → i = i) := fun _ _ => rfl
  obtain ⟨x0_0, x0_1, x0_2, x0_3, x0_4, x0_5, x0_6, x0_7, x0_8, x0_9, x0_10, x0_11, x0_12⟩ := row13 R0.out
  clear a1 a2 hs1 hd hs2 V0
  have HP := hide hp
  clear hp
  go_enter Try.func101, Try.ntmps101
  go_upto_region 3 with (fail)
  generalize hW : (w.alloc (.cells #[.int .i64 5, .int .i64 fl, .int .i64 st, .int .i64 pad, .slice A2 nd c2, .slice A3 ns c3, .int .i64 wt, .int .i64 pa, .bool al, .int .i64 pm, .int .i64 la, .int .i64 co, .int .i64 sp] 25)).alloc (.cells #[.slice none 0 0, .bool false] 218) = U0 at *
  clear hW
  go_wp2_with fail
  refine (has8 5 fl 3 (by decide) 8 rfl hfl _).mono ?_
  rintro e u0 ⟨rfl, rfl⟩
  rw [e3]
  go_wp2_with fail
  refine (number15 W0.out pm 4 4 rfl (by decide) (by decide) (by simp) _ B0).mono ?_
  rintro e U1 ⟨rfl, hw, hb, hv⟩
  have W1 := hide hw
  have E1 := hide (E0.out.trans (hb.mono (Nat.le_succ _)))
  have R1 := hide (hv _ _ _ (by omega) bne_u8 R0.out)
  clear hw hb hv
  obtain ⟨x1_0, x1_1, x1_2, x1_3, x1_4, x1_5, x1_6, x1_7, x1_8, x1_9, x1_10, x1_11, x1_12⟩ := row13 R1.out
  obtain ⟨Aw, cw, hwr, how⟩ := W1.out
  obtain ⟨y0, y1⟩ := row2 hwr
  rw [HF.out] at y1
  clear hwr how
  go_wp2_with fail
  go_ret2
  exact ⟨E1.out, .inr ⟨HP.out, rfl⟩⟩
set_option maxRecDepth 20000 in
set_option maxHeartbeats 1600000 in
theorem body_g_y (fl st pad : Int) (A2 : Option Addr) (nd c2 : Nat) (d : Nat → Int) (A3 : Option Addr) (ns c3 : Nat) (s g : Nat → Int) (wt pa : Int) (al : Bool) (pm la co sp : Int) (hfl : fl ≤ 9223372036854775807) (hnd : nd ≤ 100000) (hns : ns ≤ 1000) (hp : (⟨7, fl, st, pad, nd, d, ns, s, g, wt, pa, al, pm, la, co, sp⟩ : Fm5).POk) (w : World) (hd : Rd .u8 w A2 nd c2 d) (hs2 : Rd2 w A3 ns c3 s g) :
    Calls Try.prog 101 #[.agg #[.int .i64 7, .int .i64 fl, .int .i64 st, .int .i64 pad, .slice A2 nd c2, .slice A3 ns c3, .int .i64 wt, .int .i64 pa, .bool al, .int .i64 pm, .int .i64 la, .int .i64 co, .int .i64 sp]] w (Bd5 (⟨7, fl, st, pad, nd, d, ns, s, g, wt, pa, al, pm, la, co, sp⟩ : Fm5) w) := by
  obtain ⟨i0, hi, hz0, hz1, hz2⟩ := info_parts u8_info
  have e3 : hsB 7 fl 3 = false := hsB3_no (by decide)
  have e5 : hsB 7 fl 5 = false := hsB5_no (by decide)
  have hp1 := hp
  obtain ⟨g3, g5, gco, gs, gpm, gla, gsp⟩ := hp1
  simp only [Fm5.P3, Fm5.P5, Fm5.A5, Fm5.S5] at g3 g5 gco gs gpm gla gsp
  have hpw1 : pw 1 = 256 := by decide
  have hpw4 : pw 4 = 4294967296 := by decide
  have B0 : decide (0 ≤ la ∧ la < pw 4) = true := decide_eq_true (by have h := (gla (by trivial)).1; rw [hpw4]; omega)
  have B1 : decide (0 ≤ co ∧ co < pw 4) = true := decide_eq_true (by have h := (gla (by trivial)).2; rw [hpw4]; omega)
  have a1 := (Below.refl w.heap.size w).alloc (Nat.le_refl _) (.cells #[.int .i64 7, .int .i64 fl, .int .i64 st, .int .i64 pad, .slice A2 nd c2, .slice A3 ns c3, .int .i64 wt, .int .i64 pa, .bool al, .int .i64 pm, .int .i64 la, .int .i64 co, .int .i64 sp] 25)
  have a2 := a1.alloc (by simp) (.cells #[.slice none 0 0, .bool false] 218)
  have hs1 : (w.alloc (.cells #[.int .i64 7, .int .i64 fl, .int .i64 st, .int .i64 pad, .slice A2 nd c2, .slice A3 ns c3, .int .i64 wt, .int .i64 pa, .bool al, .int .i64 pm, .int .i64 la, .int .i64 co, .int .i64 sp] 25)).heap.size = w.heap.size + 1 := by simp
  have W0 : Hid (WrB ((w.alloc (.cells #[.int .i64 7, .int .i64 fl, .int .i64 st, .int .i64 pad, .slice A2 nd c2, .slice A3 ns c3, .int .i64 wt, .int .i64 pa, .bool al, .int .i64 pm, .int .i64 la, .int .i64 co, .int .i64 sp] 25)).alloc (.cells #[.slice none 0 0, .bool false] 218)) (w.heap.size + 1) false []) := ⟨none, 0, by rw [← hs1]; exact heap_alloc_new _ _, Own.nil _ _ _ _ _⟩
  have R0 := hide (keepRow (heap_alloc_new w (.cells #[.int .i64 7, .int .i64 fl, .int .i64 st, .int .i64 pad, .slice A2 nd c2, .slice A3 ns c3, .int .i64 wt, .int .i64 pa, .bool al, .int .i64 pm, .int .i64 la, .int .i64 co, .int .i64 sp] 25)) ((Below.refl (w.alloc (.cells #[.int .i64 7, .int .i64 fl, .int .i64 st, .int .i64 pad, .slice A2 nd c2, .slice A3 ns c3, .int .i64 wt, .int .i64 pa, .bool al, .int .i64 pm, .int .i64 la, .int .i64 co, .int .i64 sp] 25)).heap.size _).alloc (Nat.le_refl _) (.cells #[.slice none 0 0, .bool false] 218)))
  have E0 := hide a2
  have HD := hide hd
  have HS2 := hide hs2
  have V0 : Hid (∀ i, i ≠ w.heap.size + 1 → i = i) := fun _ _ => rfl
  obtain ⟨x0_0, x0_1, x0_2, x0_3, x0_4, x0_5, x0_6, x0_7, x0_8, x0_9, x0_10, x0_11, x0_12⟩ := row13 R0.out
  clear a1 a2 hs1 hd hs2 V0
  have HP := hide hp
  clear hp
  go_enter Try.func101, Try.ntmps101
  go_upto_region 3 with (fail)
  generalize hW : (w.alloc (.cells #[.int .i64 7, .int .i64 fl, .int .i64 st, .int .i64 pad, .slice A2 nd c2, .slice A3 ns c3, .int .i64 wt, .int .i64 pa, .bool al, .int .i64 pm, .int .i64 la, .int .i64 co, .int .i64 sp] 25)).alloc (.cells #[.slice none 0 0, .bool false] 218) = U0 at *
  clear hW
  go_wp2_with fail
  refine (has8 7 fl 3 (by decide) 8 rfl hfl _).mono ?_
  rintro e u0 ⟨rfl, rfl⟩
  rw [e3]
  go_wp2_with fail
  refine (number15 W0.out la 4 4 rfl (by decide) (by decide) (by simp [numL_len, prL5_len]) true B0).mono ?_
  rintro e U1 ⟨rfl, hw, hb, hv⟩
  rw [if_pos rfl] at hw
  simp only [Bool.not_true, Bool.or_false] at hw
  have W1 := hide hw
  have E1 := hide (E0.out.trans (hb.mono (Nat.le_succ _)))
  have R1 := hide (hv _ _ _ (by omega) bne_u8 R0.out)
  clear hw hb hv
  obtain ⟨x1_0, x1_1, x1_2, x1_3, x1_4, x1_5, x1_6, x1_7, x1_8, x1_9, x1_10, x1_11, x1_12⟩ := row13 R1.out
  go_wp2_with fail
  refine (number15 W1.out co 4 4 rfl (by decide) (by decide) (by simp [numL_len, prL5_len]) true B1).mono ?_
  rintro e U2 ⟨rfl, hw, hb, hv⟩
  rw [if_pos rfl] at hw
  simp only [Bool.not_true, Bool.or_false] at hw
  have W2 := hide hw
  have E2 := hide (E1.out.trans (hb.mono (Nat.le_succ _)))
  have R2 := hide (hv _ _ _ (by omega) bne_u8 R1.out)
  clear hw hb hv
  obtain ⟨x2_0, x2_1, x2_2, x2_3, x2_4, x2_5, x2_6, x2_7, x2_8, x2_9, x2_10, x2_11, x2_12⟩ := row13 R2.out
  obtain ⟨L, hL⟩ : ∃ L, L = (([] ++ numL la 4) ++ numL co 4) := ⟨_, rfl⟩
  have hem : (⟨7, fl, st, pad, nd, d, ns, s, g, wt, pa, al, pm, la, co, sp⟩ : Fm5).emL = L ++ (List.range nd).map d ++ [] := by
    rw [hL]
    simp [Fm5.emL, Fm5.padL, Fm5.prL, Fm5.tyL, Fm5.dL, Fm5.zL, Fm5.setL, Fm5.P3, Fm5.P5, prL5, e3, e5]
  have hLl : L.length ≤ 7000 := by rw [hL]; simp [numL_len, prL5_len]
  have WL : Hid (WrB U2 (w.heap.size + 1) false L) := by rw [hL]; exact W2.out
  have HL := hide hem
  have hltp := WL.out.lt
  clear hL hem W2
  obtain ⟨Aw, cw, hwr, how⟩ := WL.out
  obtain ⟨y0, y1⟩ := row2 hwr
  have zw := frozenRow hwr 0
  have HO := hide how
  have HWR := hide hwr
  have hne : (Value.slice Aw L.length cw).ownBlock ≠ some (w.heap.size + 1) := fun e => by have := (World.ownsRow.lt how _ e).1; omega
  have HDc := hide (rd_list (HD.out.below E2.out))
  clear hwr how WL
  obtain ⟨N, hN0⟩ : ∃ N : Nat, N = 0 := ⟨0, rfl⟩
  have hN : N ≤ 255 := by omega
  have HN0 := hide hN0
  clear g3 g5 gco gs gpm gla gsp
  clear hN0
  go_wp2_with (first | (at_builtin; refine wp_appZ rfl (.tmp 70) (.tmp 71) _ _ 9 rfl i0 Try.underlying22 Try.underlying3 Try.underlying9 hi hz0 hz1 hz2 (w.heap.size + 1 + 1) _ (L.length + nd) _ rfl HO3.out 0 rfl (by omega) (by omega) ?_; intro v4 w4 hown4 hg4; obtain ⟨A8, c8, rfl, _, _⟩ := hown4.rd; have HO4 := hide hown4; have E4 := hide (E3.out.grown hg4 (by omega) (fun k e => by have := (World.ownsRow.lt HO3.out k e).1; omega)); clear hown4 hg4) | (at_builtin; refine wp_app rfl (.tmp 64) (.tmp 66) _ rfl i0 0 1 Try.underlying22 hi hz0 hz1 hz2 (w.heap.size + 1 + 1) _ L.length (lF L) rfl HO.out A2 nd c2 _ rfl HDc.out (by simp only [maxLen]; omega) (by omega) (by omega) ?_; intro v2 w2 hown2 hg2; obtain ⟨A7, c7, rfl, _, _⟩ := hown2.rd; have hr2 := keepGrown HWR.out hg2 hne; obtain ⟨q0, q1⟩ := row2 hr2; have zq := frozenRow hr2 0; have hr3 := setRow w2 (w.heap.size + 1) 0 (.slice A7 (L.length + nd) c7) hr2; simp only [List.setIfInBounds_toArray, List.set_cons_zero, List.set_cons_succ] at hr3; have hne2 : (Value.slice A7 (L.length + nd) c7).ownBlock ≠ some (w.heap.size + 1) := (fun e => by have := (World.ownsRow.lt hown2 _ e).1; omega); have HO3 : Hid (Own .u8 5 (w.heap.size + 1 + 1) (w2.setCell ⟨w.heap.size + 1, 0, none⟩ (.slice A7 (L.length + nd) c7)) (.slice A7 (L.length + nd) c7) (L.length + nd) (catF L.length (lF L) (lF ((List.range nd).map d)))) := World.ownsRow.kept hown2 (grown_set w2 (w.heap.size + 1) 0 (.slice A7 (L.length + nd) c7)) (.inr hne2); have E3 := hide ((E2.out.grown hg2 (by omega) (fun k e => by have := (World.ownsRow.lt HO.out k e).1; omega)).setCell (p := ⟨w.heap.size + 1, 0, none⟩) (Nat.le_succ _) (.slice A7 (L.length + nd) c7)); obtain ⟨p0, p1⟩ := row2 hr3; have hs3 : w.heap.size + 1 < (w2.setCell ⟨w.heap.size + 1, 0, none⟩ (.slice A7 (L.length + nd) c7)).heap.size := rowLt hr3; clear hr2 hg2 hown2))
  go_ret2
  refine ⟨E4.out, .inl ⟨HP.out, A8, c8, ?_, ?_⟩⟩
  · rw [HL.out]
    first
      | (simp; done)
      | (simp; omega)
  · rw [HL.out]
    refine rd_congr5 HO4.out.rdS (by first | (simp; done) | (simp; omega)) fun i hi => ?_
    exact cat5 L ((List.range nd).map d) [] (by simp) (by simp) i hi
set_option maxRecDepth 20000 in
set_option maxHeartbeats 1600000 in
theorem body_g_n (fl st pad : Int) (A2 : Option Addr) (nd c2 : Nat) (d : Nat → Int) (A3 : Option Addr) (ns c3 : Nat) (s g : Nat → Int) (wt pa : Int) (al : Bool) (pm la co sp : Int) (hfl : fl ≤ 9223372036854775807) (hnd : nd ≤ 100000) (hns : ns ≤ 1000) (hp : ¬ (⟨7, fl, st, pad, nd, d, ns, s, g, wt, pa, al, pm, la, co, sp⟩ : Fm5).POk) (w : World) (hd : Rd .u8 w A2 nd c2 d) (hs2 : Rd2 w A3 ns c3 s g) :
    Calls Try.prog 101 #[.agg #[.int .i64 7, .int .i64 fl, .int .i64 st, .int .i64 pad, .slice A2 nd c2, .slice A3 ns c3, .int .i64 wt, .int .i64 pa, .bool al, .int .i64 pm, .int .i64 la, .int .i64 co, .int .i64 sp]] w (Bd5 (⟨7, fl, st, pad, nd, d, ns, s, g, wt, pa, al, pm, la, co, sp⟩ : Fm5) w) := by
  obtain ⟨i0, hi, hz0, hz1, hz2⟩ := info_parts u8_info
  have e3 : hsB 7 fl 3 = false := hsB3_no (by decide)
  have e5 : hsB 7 fl 5 = false := hsB5_no (by decide)
  have hpw1 : pw 1 = 256 := by decide
  have hpw4 : pw 4 = 4294967296 := by decide
  obtain ⟨b0, B0⟩ : ∃ b, decide (0 ≤ la ∧ la < pw 4) = b := ⟨_, rfl⟩
  obtain ⟨b1, B1⟩ : ∃ b, decide (0 ≤ co ∧ co < pw 4) = b := ⟨_, rfl⟩
  have hF : ((false || !b0) || !b1) = true := by
    cases b0 <;> cases b1 <;> first
      | rfl
      | exact absurd (show (⟨7, fl, st, pad, nd, d, ns, s, g, wt, pa, al, pm, la, co, sp⟩ : Fm5).POk from ⟨fun h => absurd h (by show ¬ (hsB 7 fl 3 = true); rw [e3]; decide), fun h => absurd h (by show ¬ (7 = 2 ∨ hsB 7 fl 5 = true); rw [e5]; simp), fun (h : (7 : Int) = 3) => absurd h (by decide), fun (h : (7 : Int) = 4) => absurd h (by decide), fun (h : (7 : Int) = 5) => absurd h (by decide), fun _ => ⟨(by show 0 ≤ la ∧ la ≤ 4294967295; have h := of_decide_eq_true (B0.trans rfl); rw [hpw4] at h; omega), (by show 0 ≤ co ∧ co ≤ 4294967295; have h := of_decide_eq_true (B1.trans rfl); rw [hpw4] at h; omega)⟩, fun (h : (7 : Int) = 8) => absurd h (by decide)⟩) hp
  have HF := hide hF
  clear hF
  have a1 := (Below.refl w.heap.size w).alloc (Nat.le_refl _) (.cells #[.int .i64 7, .int .i64 fl, .int .i64 st, .int .i64 pad, .slice A2 nd c2, .slice A3 ns c3, .int .i64 wt, .int .i64 pa, .bool al, .int .i64 pm, .int .i64 la, .int .i64 co, .int .i64 sp] 25)
  have a2 := a1.alloc (by simp) (.cells #[.slice none 0 0, .bool false] 218)
  have hs1 : (w.alloc (.cells #[.int .i64 7, .int .i64 fl, .int .i64 st, .int .i64 pad, .slice A2 nd c2, .slice A3 ns c3, .int .i64 wt, .int .i64 pa, .bool al, .int .i64 pm, .int .i64 la, .int .i64 co, .int .i64 sp] 25)).heap.size = w.heap.size + 1 := by simp
  have W0 : Hid (WrB ((w.alloc (.cells #[.int .i64 7, .int .i64 fl, .int .i64 st, .int .i64 pad, .slice A2 nd c2, .slice A3 ns c3, .int .i64 wt, .int .i64 pa, .bool al, .int .i64 pm, .int .i64 la, .int .i64 co, .int .i64 sp] 25)).alloc (.cells #[.slice none 0 0, .bool false] 218)) (w.heap.size + 1) false []) := ⟨none, 0, by rw [← hs1]; exact heap_alloc_new _ _, Own.nil _ _ _ _ _⟩
  have R0 := hide (keepRow (heap_alloc_new w (.cells #[.int .i64 7, .int .i64 fl, .int .i64 st, .int .i64 pad, .slice A2 nd c2, .slice A3 ns c3, .int .i64 wt, .int .i64 pa, .bool al, .int .i64 pm, .int .i64 la, .int .i64 co, .int .i64 sp] 25)) ((Below.refl (w.alloc (.cells #[.int .i64 7, .int .i64 fl, .int .i64 st, .int .i64 pad, .slice A2 nd c2, .slice A3 ns c3, .int .i64 wt, .int .i64 pa, .bool al, .int .i64 pm, .int .i64 la, .int .i64 co, .int .i64 sp] 25)).heap.size _).alloc (Nat.le_refl _) (.cells #[.slice none 0 0, .bool false] 218)))
  have E0 := hide a2
  have HD := hide hd
  have HS2 := hide hs2
  have V0 : Hid (∀ i, i ≠ w.heap.size + 1 → i = i) := fun _ _ => rfl
  obtain ⟨x0_0, x0_1, x0_2, x0_3, x0_4, x0_5, x0_6, x0_7, x0_8, x0_9, x0_10, x0_11, x0_12⟩ := row13 R0.out
  clear a1 a2 hs1 hd hs2 V0
  have HP := hide hp
  clear hp
  go_enter Try.func101, Try.ntmps101
  go_upto_region 3 with (fail)
  generalize hW : (w.alloc (.cells #[.int .i64 7, .int .i64 fl, .int .i64 st, .int .i64 pad, .slice A2 nd c2, .slice A3 ns c3, .int .i64 wt, .int .i64 pa, .bool al, .int .i64 pm, .int .i64 la, .int .i64 co, .int .i64 sp] 25)).alloc (.cells #[.slice none 0 0, .bool false] 218) = U0 at *
  clear hW
  go_wp2_with fail
  refine (has8 7 fl 3 (by decide) 8 rfl hfl _).mono ?_
  rintro e u0 ⟨rfl, rfl⟩
  rw [e3]
  go_wp2_with fail
  refine (number15 W0.out la 4 4 rfl (by decide) (by decide) (by simp) _ B0).mono ?_
  rintro e U1 ⟨rfl, hw, hb, hv⟩
  have W1 := hide hw
  have E1 := hide (E0.out.trans (hb.mono (Nat.le_succ _)))
  have R1 := hide (hv _ _ _ (by omega) bne_u8 R0.out)
  clear hw hb hv
  obtain ⟨x1_0, x1_1, x1_2, x1_3, x1_4, x1_5, x1_6, x1_7, x1_8, x1_9, x1_10, x1_11, x1_12⟩ := row13 R1.out
  have LEN1 : (if b0 = true then [] ++ numL la 4 else []).length ≤ 4 := by split <;> simp [numL_len]
  go_wp2_with fail
  refine (number15 W1.out co 4 4 rfl (by decide) (by decide) (by have h := LEN1; omega) _ B1).mono ?_
  rintro e U2 ⟨rfl, hw, hb, hv⟩
  have W2 := hide hw
  have E2 := hide (E1.out.trans (hb.mono (Nat.le_succ _)))
  have R2 := hide (hv _ _ _ (by omega) bne_u8 R1.out)
  clear hw hb hv
  obtain ⟨x2_0, x2_1, x2_2, x2_3, x2_4, x2_5, x2_6, x2_7, x2_8, x2_9, x2_10, x2_11, x2_12⟩ := row13 R2.out
  obtain ⟨Aw, cw, hwr, how⟩ := W2.out
  obtain ⟨y0, y1⟩ := row2 hwr
  rw [HF.out] at y1
  clear hwr how
  go_wp2_with fail
  go_ret2
  exact ⟨E2.out, .inr ⟨HP.out, rfl⟩⟩
set_option maxRecDepth 20000 in
set_option maxHeartbeats 1600000 in
theorem body_w_y (fl st pad : Int) (A2 : Option Addr) (nd c2 : Nat) (d : Nat → Int) (A3 : Option Addr) (ns c3 : Nat) (s g : Nat → Int) (wt pa : Int) (al : Bool) (pm la co sp : Int) (hfl : fl ≤ 9223372036854775807) (hnd : nd ≤ 100000) (hns : ns ≤ 1000) (hp : (⟨8, fl, st, pad, nd, d, ns, s, g, wt, pa, al, pm, la, co, sp⟩ : Fm5).POk) (w : World) (hd : Rd .u8 w A2 nd c2 d) (hs2 : Rd2 w A3 ns c3 s g) :
    Calls Try.prog 101 #[.agg #[.int .i64 8, .int .i64 fl, .int .i64 st, .int .i64 pad, .slice A2 nd c2, .slice A3 ns c3, .int .i64 wt, .int .i64 pa, .bool al, .int .i64 pm, .int .i64 la, .int .i64 co, .int .i64 sp]] w (Bd5 (⟨8, fl, st, pad, nd, d, ns, s, g, wt, pa, al, pm, la, co, sp⟩ : Fm5) w) := by
  obtain ⟨i0, hi, hz0, hz1, hz2⟩ := info_parts u8_info
  have e3 : hsB 8 fl 3 = false := hsB3_no (by decide)
  have e5 : hsB 8 fl 5 = false := hsB5_no (by decide)
  have hp1 := hp
  obtain ⟨g3, g5, gco, gs, gpm, gla, gsp⟩ := hp1
  simp only [Fm5.P3, Fm5.P5, Fm5.A5, Fm5.S5] at g3 g5 gco gs gpm gla gsp
  have hpw1 : pw 1 = 256 := by decide
  have hpw4 : pw 4 = 4294967296 := by decide
  have B0 : decide (0 ≤ sp ∧ sp < pw 4) = true := decide_eq_true (by have h := gsp (by trivial); rw [hpw4]; omega)
  have a1 := (Below.refl w.heap.size w).alloc (Nat.le_refl _) (.cells #[.int .i64 8, .int .i64 fl, .int .i64 st, .int .i64 pad, .slice A2 nd c2, .slice A3 ns c3, .int .i64 wt, .int .i64 pa, .bool al, .int .i64 pm, .int .i64 la, .int .i64 co, .int .i64 sp] 25)
  have a2 := a1.alloc (by simp) (.cells #[.slice none 0 0, .bool false] 218)
  have hs1 : (w.alloc (.cells #[.int .i64 8, .int .i64 fl, .int .i64 st, .int .i64 pad, .slice A2 nd c2, .slice A3 ns c3, .int .i64 wt, .int .i64 pa, .bool al, .int .i64 pm, .int .i64 la, .int .i64 co, .int .i64 sp] 25)).heap.size = w.heap.size + 1 := by simp
  have W0 : Hid (WrB ((w.alloc (.cells #[.int .i64 8, .int .i64 fl, .int .i64 st, .int .i64 pad, .slice A2 nd c2, .slice A3 ns c3, .int .i64 wt, .int .i64 pa, .bool al, .int .i64 pm, .int .i64 la, .int .i64 co, .int .i64 sp] 25)).alloc (.cells #[.slice none 0 0, .bool false] 218)) (w.heap.size + 1) false []) := ⟨none, 0, by rw [← hs1]; exact heap_alloc_new _ _, Own.nil _ _ _ _ _⟩
  have R0 := hide (keepRow (heap_alloc_new w (.cells #[.int .i64 8, .int .i64 fl, .int .i64 st, .int .i64 pad, .slice A2 nd c2, .slice A3 ns c3, .int .i64 wt, .int .i64 pa, .bool al, .int .i64 pm, .int .i64 la, .int .i64 co, .int .i64 sp] 25)) ((Below.refl (w.alloc (.cells #[.int .i64 8, .int .i64 fl, .int .i64 st, .int .i64 pad, .slice A2 nd c2, .slice A3 ns c3, .int .i64 wt, .int .i64 pa, .bool al, .int .i64 pm, .int .i64 la, .int .i64 co, .int .i64 sp] 25)).heap.size _).alloc (Nat.le_refl _) (.cells #[.slice none 0 0, .bool false] 218)))
  have E0 := hide a2
  have HD := hide hd
  have HS2 := hide hs2
  have V0 : Hid (∀ i, i ≠ w.heap.size + 1 → i = i) := fun _ _ => rfl
  obtain ⟨x0_0, x0_1, x0_2, x0_3, x0_4, x0_5, x0_6, x0_7, x0_8, x0_9, x0_10, x0_11, x0_12⟩ := row13 R0.out
  clear a1 a2 hs1 hd hs2 V0
  have HP := hide hp
  clear hp
  go_enter Try.func101, Try.ntmps101
  go_upto_region 3 with (fail)
  generalize hW : (w.alloc (.cells #[.int .i64 8, .int .i64 fl, .int .i64 st, .int .i64 pad, .slice A2 nd c2, .slice A3 ns c3, .int .i64 wt, .int .i64 pa, .bool al, .int .i64 pm, .int .i64 la, .int .i64 co, .int .i64 sp] 25)).alloc (.cells #[.slice none 0 0, .bool false] 218) = U0 at *
  clear hW
  go_wp2_with fail
  refine (has8 8 fl 3 (by decide) 8 rfl hfl _).mono ?_
  rintro e u0 ⟨rfl, rfl⟩
  rw [e3]
  go_wp2_with fail
  refine (number15 W0.out sp 4 4 rfl (by decide) (by decide) (by simp [numL_len, prL5_len]) true B0).mono ?_
  rintro e U1 ⟨rfl, hw, hb, hv⟩
  rw [if_pos rfl] at hw
  simp only [Bool.not_true, Bool.or_false] at hw
  have W1 := hide hw
  have E1 := hide (E0.out.trans (hb.mono (Nat.le_succ _)))
  have R1 := hide (hv _ _ _ (by omega) bne_u8 R0.out)
  clear hw hb hv
  obtain ⟨x1_0, x1_1, x1_2, x1_3, x1_4, x1_5, x1_6, x1_7, x1_8, x1_9, x1_10, x1_11, x1_12⟩ := row13 R1.out
  obtain ⟨L, hL⟩ : ∃ L, L = ([] ++ numL sp 4) := ⟨_, rfl⟩
  have hem : (⟨8, fl, st, pad, nd, d, ns, s, g, wt, pa, al, pm, la, co, sp⟩ : Fm5).emL = L ++ (List.range nd).map d ++ [] := by
    rw [hL]
    simp [Fm5.emL, Fm5.padL, Fm5.prL, Fm5.tyL, Fm5.dL, Fm5.zL, Fm5.setL, Fm5.P3, Fm5.P5, prL5, e3, e5]
  have hLl : L.length ≤ 7000 := by rw [hL]; simp [numL_len, prL5_len]
  have WL : Hid (WrB U1 (w.heap.size + 1) false L) := by rw [hL]; exact W1.out
  have HL := hide hem
  have hltp := WL.out.lt
  clear hL hem W1
  obtain ⟨Aw, cw, hwr, how⟩ := WL.out
  obtain ⟨y0, y1⟩ := row2 hwr
  have zw := frozenRow hwr 0
  have HO := hide how
  have HWR := hide hwr
  have hne : (Value.slice Aw L.length cw).ownBlock ≠ some (w.heap.size + 1) := fun e => by have := (World.ownsRow.lt how _ e).1; omega
  have HDc := hide (rd_list (HD.out.below E1.out))
  clear hwr how WL
  obtain ⟨N, hN0⟩ : ∃ N : Nat, N = 0 := ⟨0, rfl⟩
  have hN : N ≤ 255 := by omega
  have HN0 := hide hN0
  clear g3 g5 gco gs gpm gla gsp
  clear hN0
  go_wp2_with (first | (at_builtin; refine wp_appZ rfl (.tmp 70) (.tmp 71) _ _ 9 rfl i0 Try.underlying22 Try.underlying3 Try.underlying9 hi hz0 hz1 hz2 (w.heap.size + 1 + 1) _ (L.length + nd) _ rfl HO3.out 0 rfl (by omega) (by omega) ?_; intro v4 w4 hown4 hg4; obtain ⟨A8, c8, rfl, _, _⟩ := hown4.rd; have HO4 := hide hown4; have E4 := hide (E3.out.grown hg4 (by omega) (fun k e => by have := (World.ownsRow.lt HO3.out k e).1; omega)); clear hown4 hg4) | (at_builtin; refine wp_app rfl (.tmp 64) (.tmp 66) _ rfl i0 0 1 Try.underlying22 hi hz0 hz1 hz2 (w.heap.size + 1 + 1) _ L.length (lF L) rfl HO.out A2 nd c2 _ rfl HDc.out (by simp only [maxLen]; omega) (by omega) (by omega) ?_; intro v2 w2 hown2 hg2; obtain ⟨A7, c7, rfl, _, _⟩ := hown2.rd; have hr2 := keepGrown HWR.out hg2 hne; obtain ⟨q0, q1⟩ := row2 hr2; have zq := frozenRow hr2 0; have hr3 := setRow w2 (w.heap.size + 1) 0 (.slice A7 (L.length + nd) c7) hr2; simp only [List.setIfInBounds_toArray, List.set_cons_zero, List.set_cons_succ] at hr3; have hne2 : (Value.slice A7 (L.length + nd) c7).ownBlock ≠ some (w.heap.size + 1) := (fun e => by have := (World.ownsRow.lt hown2 _ e).1; omega); have HO3 : Hid (Own .u8 5 (w.heap.size + 1 + 1) (w2.setCell ⟨w.heap.size + 1, 0, none⟩ (.slice A7 (L.length + nd) c7)) (.slice A7 (L.length + nd) c7) (L.length + nd) (catF L.length (lF L) (lF ((List.range nd).map d)))) := World.ownsRow.kept hown2 (grown_set w2 (w.heap.size + 1) 0 (.slice A7 (L.length + nd) c7)) (.inr hne2); have E3 := hide ((E1.out.grown hg2 (by omega) (fun k e => by have := (World.ownsRow.lt HO.out k e).1; omega)).setCell (p := ⟨w.heap.size + 1, 0, none⟩) (Nat.le_succ _) (.slice A7 (L.length + nd) c7)); obtain ⟨p0, p1⟩ := row2 hr3; have hs3 : w.heap.size + 1 < (w2.setCell ⟨w.heap.size + 1, 0, none⟩ (.slice A7 (L.length + nd) c7)).heap.size := rowLt hr3; clear hr2 hg2 hown2))
  go_ret2
  refine ⟨E4.out, .inl ⟨HP.out, A8, c8, ?_, ?_⟩⟩
  · rw [HL.out]
    first
      | (simp; done)
      | (simp; omega)
  · rw [HL.out]
    refine rd_congr5 HO4.out.rdS (by first | (simp; done) | (simp; omega)) fun i hi => ?_
    exact cat5 L ((List.range nd).map d) [] (by simp) (by simp) i hi
set_option maxRecDepth 20000 in
set_option maxHeartbeats 1600000 in
theorem body_w_n (fl st pad : Int) (A2 : Option Addr) (nd c2 : Nat) (d : Nat → Int) (A3 : Option Addr) (ns c3 : Nat) (s g : Nat → Int) (wt pa : Int) (al : Bool) (pm la co sp : Int) (hfl : fl ≤ 9223372036854775807) (hnd : nd ≤ 100000) (hns : ns ≤ 1000) (hp : ¬ (⟨8, fl, st, pad, nd, d, ns, s, g, wt, pa, al, pm, la, co, sp⟩ : Fm5).POk) (w : World) (hd : Rd .u8 w A2 nd c2 d) (hs2 : Rd2 w A3 ns c3 s g) :
    Calls Try.prog 101 #[.agg #[.int .i64 8, .int .i64 fl, .int .i64 st, .int .i64 pad, .slice A2 nd c2, .slice A3 ns c3, .int .i64 wt, .int .i64 pa, .bool al, .int .i64 pm, .int .i64 la, .int .i64 co, .int .i64 sp]] w (Bd5 (⟨8, fl, st, pad, nd, d, ns, s, g, wt, pa, al, pm, la, co, sp⟩ : Fm5) w) := by
  obtain ⟨i0, hi, hz0, hz1, hz2⟩ := info_parts u8_info
  have e3 : hsB 8 fl 3 = false := hsB3_no (by decide)
  have e5 : hsB 8 fl 5 = false := hsB5_no (by decide)
  have hpw1 : pw 1 = 256 := by decide
  have hpw4 : pw 4 = 4294967296 := by decide
  obtain ⟨b0, B0⟩ : ∃ b, decide (0 ≤ sp ∧ sp < pw 4) = b := ⟨_, rfl⟩
  have hF : (false || !b0) = true := by
    cases b0 <;> first
      | rfl
      | exact absurd (show (⟨8, fl, st, pad, nd, d, ns, s, g, wt, pa, al, pm, la, co, sp⟩ : Fm5).POk from ⟨fun h => absurd h (by show ¬ (hsB 8 fl 3 = true); rw [e3]; decide), fun h => absurd h (by show ¬ (8 = 2 ∨ hsB 8 fl 5 = true); rw [e5]; simp), fun (h : (8 : Int) = 3) => absurd h (by decide), fun (h : (8 : Int) = 4) => absurd h (by decide), fun (h : (8 : Int) = 5) => absurd h (by decide), fun (h : (8 : Int) = 7) => absurd h (by decide), fun _ => (by show 0 ≤ sp ∧ sp ≤ 4294967295; have h := of_decide_eq_true (B0.trans rfl); rw [hpw4] at h; omega)⟩) hp
  have HF := hide hF
  clear hF
  have a1 := (Below.refl w.heap.size w).alloc (Nat.le_refl _) (.cells #[.int .i64 8, .int .i64 fl, .int .i64 st, .int .i64 pad, .slice A2 nd c2, .slice A3 ns c3, .int .i64 wt, .int .i64 pa, .bool al, .int .i64 pm, .int .i64 la, .int .i64 co, .int .i64 sp] 25)
  have a2 := a1.alloc (by simp) (.cells #[.slice none 0 0, .bool false] 218)
  have hs1 : (w.alloc (.cells #[.int .i64 8, .int .i64 fl, .int .i64 st, .int .i64 pad, .slice A2 nd c2, .slice A3 ns c3, .int .i64 wt, .int .i64 pa, .bool al, .int .i64 pm, .int .i64 la, .int .i64 co, .int .i64 sp] 25)).heap.size = w.heap.size + 1 := by simp
  have W0 : Hid (WrB ((w.alloc (.cells #[.int .i64 8, .int .i64 fl, .int .i64 st, .int .i64 pad, .slice A2 nd c2, .slice A3 ns c3, .int .i64 wt, .int .i64 pa, .bool al, .int .i64 pm, .int .i64 la, .int .i64 co, .int .i64 sp] 25)).alloc (.cells #[.slice none 0 0, .bool false] 218)) (w.heap.size + 1) false []) := ⟨none, 0, by rw [← hs1]; exact heap_alloc_new _ _, Own.nil _ _ _ _ _⟩
  have R0 := hide (keepRow (heap_alloc_new w (.cells #[.int .i64 8, .int .i64 fl, .int .i64 st, .int .i64 pad, .slice A2 nd c2, .slice A3 ns c3, .int .i64 wt, .int .i64 pa, .bool al, .int .i64 pm, .int .i64 la, .int .i64 co, .int .i64 sp] 25)) ((Below.refl (w.alloc (.cells #[.int .i64 8, .int .i64 fl, .int .i64 st, .int .i64 pad, .slice A2 nd c2, .slice A3 ns c3, .int .i64 wt, .int .i64 pa, .bool al, .int .i64 pm, .int .i64 la, .int .i64 co, .int .i64 sp] 25)).heap.size _).alloc (Nat.le_refl _) (.cells #[.slice none 0 0, .bool false] 218)))
  have E0 := hide a2
  have HD := hide hd
  have HS2 := hide hs2
  have V0 : Hid (∀ i, i ≠ w.heap.size + 1 → i = i) := fun _ _ => rfl
  obtain ⟨x0_0, x0_1, x0_2, x0_3, x0_4, x0_5, x0_6, x0_7, x0_8, x0_9, x0_10, x0_11, x0_12⟩ := row13 R0.out
  clear a1 a2 hs1 hd hs2 V0
  have HP := hide hp
  clear hp
  go_enter Try.func101, Try.ntmps101
  go_upto_region 3 with (fail)
  generalize hW : (w.alloc (.cells #[.int .i64 8, .int .i64 fl, .int .i64 st, .int .i64 pad, .slice A2 nd c2, .slice A3 ns c3, .int .i64 wt, .int .i64 pa, .bool al, .int .i64 pm, .int .i64 la, .int .i64 co, .int .i64 sp] 25)).alloc (.cells #[.slice none 0 0, .bool false] 218) = U0 at *
  clear hW
  go_wp2_with fail
  refine (has8 8 fl 3 (by decide) 8 rfl hfl _).mono ?_
  rintro e u0 ⟨rfl, rfl⟩
  rw [e3]
  go_wp2_with fail
  refine (number15 W0.out sp 4 4 rfl (by decide) (by decide) (by simp) _ B0).mono ?_
  rintro e U1 ⟨rfl, hw, hb, hv⟩
  have W1 := hide hw
  have E1 := hide (E0.out.trans (hb.mono (Nat.le_succ _)))
  have R1 := hide (hv _ _ _ (by omega) bne_u8 R0.out)
  clear hw hb hv
  obtain ⟨x1_0, x1_1, x1_2, x1_3, x1_4, x1_5, x1_6, x1_7, x1_8, x1_9, x1_10, x1_11, x1_12⟩ := row13 R1.out
  obtain ⟨Aw, cw, hwr, how⟩ := W1.out
  obtain ⟨y0, y1⟩ := row2 hwr
  rw [HF.out] at y1
  clear hwr how
  go_wp2_with fail
  go_ret2
  exact ⟨E1.out, .inr ⟨HP.out, rfl⟩⟩
set_option maxRecDepth 20000 in
set_option maxHeartbeats 1600000 in
theorem body_o_y (T fl st pad : Int) (A2 : Option Addr) (nd c2 : Nat) (d : Nat → Int) (A3 : Option Addr) (ns c3 : Nat) (s g : Nat → Int) (wt pa : Int) (al : Bool) (pm la co sp : Int) (hfl : fl ≤ 9223372036854775807) (hnd : nd ≤ 100000) (hns : ns ≤ 1000) (hT : ¬ (T = 0 ∨ T = 1 ∨ T = 2 ∨ T = 3 ∨ T = 4 ∨ T = 5 ∨ T = 7 ∨ T = 8)) (hp : (⟨T, fl, st, pad, nd, d, ns, s, g, wt, pa, al, pm, la, co, sp⟩ : Fm5).POk) (w : World) (hd : Rd .u8 w A2 nd c2 d) (hs2 : Rd2 w A3 ns c3 s g) :
    Calls Try.prog 101 #[.agg #[.int .i64 T, .int .i64 fl, .int .i64 st, .int .i64 pad, .slice A2 nd c2, .slice A3 ns c3, .int .i64 wt, .int .i64 pa, .bool al, .int .i64 pm, .int .i64 la, .int .i64 co, .int .i64 sp]] w (Bd5 (⟨T, fl, st, pad, nd, d, ns, s, g, wt, pa, al, pm, la, co, sp⟩ : Fm5) w) := by
  obtain ⟨i0, hi, hz0, hz1, hz2⟩ := info_parts u8_info
  obtain ⟨hT0, hT1, hT2, hT3, hT4, hT5, hT7, hT8⟩ : T ≠ 0 ∧ T ≠ 1 ∧ T ≠ 2 ∧ T ≠ 3 ∧ T ≠ 4 ∧ T ≠ 5 ∧ T ≠ 7 ∧ T ≠ 8 := by omega
  have e3 : hsB T fl 3 = false := hsB3_no ⟨hT0, hT1, hT5⟩
  have e5 : hsB T fl 5 = false := hsB5_no hT1
  have hp1 := hp
  obtain ⟨g3, g5, gco, gs, gpm, gla, gsp⟩ := hp1
  simp only [Fm5.P3, Fm5.P5, Fm5.A5, Fm5.S5] at g3 g5 gco gs gpm gla gsp
  have hpw1 : pw 1 = 256 := by decide
  have hpw4 : pw 4 = 4294967296 := by decide
  have a1 := (Below.refl w.heap.size w).alloc (Nat.le_refl _) (.cells #[.int .i64 T, .int .i64 fl, .int .i64 st, .int .i64 pad, .slice A2 nd c2, .slice A3 ns c3, .int .i64 wt, .int .i64 pa, .bool al, .int .i64 pm, .int .i64 la, .int .i64 co, .int .i64 sp] 25)
  have a2 := a1.alloc (by simp) (.cells #[.slice none 0 0, .bool false] 218)
  have hs1 : (w.alloc (.cells #[.int .i64 T, .int .i64 fl, .int .i64 st, .int .i64 pad, .slice A2 nd c2, .slice A3 ns c3, .int .i64 wt, .int .i64 pa, .bool al, .int .i64 pm, .int .i64 la, .int .i64 co, .int .i64 sp] 25)).heap.size = w.heap.size + 1 := by simp
  have W0 : Hid (WrB ((w.alloc (.cells #[.int .i64 T, .int .i64 fl, .int .i64 st, .int .i64 pad, .slice A2 nd c2, .slice A3 ns c3, .int .i64 wt, .int .i64 pa, .bool al, .int .i64 pm, .int .i64 la, .int .i64 co, .int .i64 sp] 25)).alloc (.cells #[.slice none 0 0, .bool false] 218)) (w.heap.size + 1) false []) := ⟨none, 0, by rw [← hs1]; exact heap_alloc_new _ _, Own.nil _ _ _ _ _⟩
  have R0 := hide (keepRow (heap_alloc_new w (.cells #[.int .i64 T, .int .i64 fl, .int .i64 st, .int .i64 pad, .slice A2 nd c2, .slice A3 ns c3, .int .i64 wt, .int .i64 pa, .bool al, .int .i64 pm, .int .i64 la, .int .i64 co, .int .i64 sp] 25)) ((Below.refl (w.alloc (.cells #[.int .i64 T, .int .i64 fl, .int .i64 st, .int .i64 pad, .slice A2 nd c2, .slice A3 ns c3, .int .i64 wt, .int .i64 pa, .bool al, .int .i64 pm, .int .i64 la, .int .i64 co, .int .i64 sp] 25)).heap.size _).alloc (Nat.le_refl _) (.cells #[.slice none 0 0, .bool false] 218)))
  have E0 := hide a2
  have HD := hide hd
  have HS2 := hide hs2
  have V0 : Hid (∀ i, i ≠ w.heap.size + 1 → i = i) := fun _ _ => rfl
  obtain ⟨x0_0, x0_1, x0_2, x0_3, x0_4, x0_5, x0_6, x0_7, x0_8, x0_9, x0_10, x0_11, x0_12⟩ := row13 R0.out
  clear a1 a2 hs1 hd hs2 V0
  have HP := hide hp
  clear hp
  go_enter Try.func101, Try.ntmps101
  go_upto_region 3 with (fail)
  generalize hW : (w.alloc (.cells #[.int .i64 T, .int .i64 fl, .int .i64 st, .int .i64 pad, .slice A2 nd c2, .slice A3 ns c3, .int .i64 wt, .int .i64 pa, .bool al, .int .i64 pm, .int .i64 la, .int .i64 co, .int .i64 sp] 25)).alloc (.cells #[.slice none 0 0, .bool false] 218) = U0 at *
  clear hW
  have t1 : (T == 1) = false := by simpa using hT1
  have t2 : (T == 2) = false := by simpa using hT2
  have t3 : (T == 3) = false := by simpa using hT3
  have t4 : (T == 4) = false := by simpa using hT4
  have t5 : (T == 5) = false := by simpa using hT5
  have t7 : (T == 7) = false := by simpa using hT7
  have t8 : (T == 8) = false := by simpa using hT8
  go_wp2_with fail
  refine (has8 T fl 3 (by decide) 8 rfl hfl _).mono ?_
  rintro e u0 ⟨rfl, rfl⟩
  rw [e3]
  obtain ⟨L, hL⟩ : ∃ L, L = [] := ⟨_, rfl⟩
  have hem : (⟨T, fl, st, pad, nd, d, ns, s, g, wt, pa, al, pm, la, co, sp⟩ : Fm5).emL = L ++ (List.range nd).map d ++ [] := by
    rw [hL]
    simp [Fm5.emL, Fm5.padL, Fm5.prL, Fm5.tyL, Fm5.dL, Fm5.zL, Fm5.setL, Fm5.P3, Fm5.P5, prL5, e3, e5, hT2, hT3, hT4, hT5, hT7, hT8]
  have hLl : L.length ≤ 7000 := by rw [hL]; simp [numL_len, prL5_len]
  have WL : Hid (WrB U0 (w.heap.size + 1) false L) := by rw [hL]; exact W0.out
  have HL := hide hem
  have hltp := WL.out.lt
  clear hL hem W0
  obtain ⟨Aw, cw, hwr, how⟩ := WL.out
  obtain ⟨y0, y1⟩ := row2 hwr
  have zw := frozenRow hwr 0
  have HO := hide how
  have HWR := hide hwr
  have hne : (Value.slice Aw L.length cw).ownBlock ≠ some (w.heap.size + 1) := fun e => by have := (World.ownsRow.lt how _ e).1; omega
  have HDc := hide (rd_list (HD.out.below E0.out))
  clear hwr how WL
  obtain ⟨N, hN0⟩ : ∃ N : Nat, N = 0 := ⟨0, rfl⟩
  have hN : N ≤ 255 := by omega
  have HN0 := hide hN0
  clear g3 g5 gco gs gpm gla gsp
  clear hN0
  go_wp2_with (first | (at_builtin; refine wp_appZ rfl (.tmp 70) (.tmp 71) _ _ 9 rfl i0 Try.underlying22 Try.underlying3 Try.underlying9 hi hz0 hz1 hz2 (w.heap.size + 1 + 1) _ (L.length + nd) _ rfl HO3.out 0 rfl (by omega) (by omega) ?_; intro v4 w4 hown4 hg4; obtain ⟨A8, c8, rfl, _, _⟩ := hown4.rd; have HO4 := hide hown4; have E4 := hide (E3.out.grown hg4 (by omega) (fun k e => by have := (World.ownsRow.lt HO3.out k e).1; omega)); clear hown4 hg4) | (at_builtin; refine wp_app rfl (.tmp 64) (.tmp 66) _ rfl i0 0 1 Try.underlying22 hi hz0 hz1 hz2 (w.heap.size + 1 + 1) _ L.length (lF L) rfl HO.out A2 nd c2 _ rfl HDc.out (by simp only [maxLen]; omega) (by omega) (by omega) ?_; intro v2 w2 hown2 hg2; obtain ⟨A7, c7, rfl, _, _⟩ := hown2.rd; have hr2 := keepGrown HWR.out hg2 hne; obtain ⟨q0, q1⟩ := row2 hr2; have zq := frozenRow hr2 0; have hr3 := setRow w2 (w.heap.size + 1) 0 (.slice A7 (L.length + nd) c7) hr2; simp only [List.setIfInBounds_toArray, List.set_cons_zero, List.set_cons_succ] at hr3; have hne2 : (Value.slice A7 (L.length + nd) c7).ownBlock ≠ some (w.heap.size + 1) := (fun e => by have := (World.ownsRow.lt hown2 _ e).1; omega); have HO3 : Hid (Own .u8 5 (w.heap.size + 1 + 1) (w2.setCell ⟨w.heap.size + 1, 0, none⟩ (.slice A7 (L.length + nd) c7)) (.slice A7 (L.length + nd) c7) (L.length + nd) (catF L.length (lF L) (lF ((List.range nd).map d)))) := World.ownsRow.kept hown2 (grown_set w2 (w.heap.size + 1) 0 (.slice A7 (L.length + nd) c7)) (.inr hne2); have E3 := hide ((E0.out.grown hg2 (by omega) (fun k e => by have := (World.ownsRow.lt HO.out k e).1; omega)).setCell (p := ⟨w.heap.size + 1, 0, none⟩) (Nat.le_succ _) (.slice A7 (L.length + nd) c7)); obtain ⟨p0, p1⟩ := row2 hr3; have hs3 : w.heap.size + 1 < (w2.setCell ⟨w.heap.size + 1, 0, none⟩ (.slice A7 (L.length + nd) c7)).heap.size := rowLt hr3; clear hr2 hg2 hown2))
  go_ret2
  refine ⟨E4.out, .inl ⟨HP.out, A8, c8, ?_, ?_⟩⟩
  · rw [HL.out]
    first
      | (simp; done)
      | (simp; omega)
  · rw [HL.out]
    refine rd_congr5 HO4.out.rdS (by first | (simp; done) | (simp; omega)) fun i hi => ?_
    exact cat5 L ((List.range nd).map d) [] (by simp) (by simp) i hi
set_option maxRecDepth 20000 in
set_option maxHeartbeats 1600000 in
theorem body_o_n (T fl st pad : Int) (A2 : Option Addr) (nd c2 : Nat) (d : Nat → Int) (A3 : Option Addr) (ns c3 : Nat) (s g : Nat → Int) (wt pa : Int) (al : Bool) (pm la co sp : Int) (hfl : fl ≤ 9223372036854775807) (hnd : nd ≤ 100000) (hns : ns ≤ 1000) (hT : ¬ (T = 0 ∨ T = 1 ∨ T = 2 ∨ T = 3 ∨ T = 4 ∨ T = 5 ∨ T = 7 ∨ T = 8)) (hp : ¬ (⟨T, fl, st, pad, nd, d, ns, s, g, wt, pa, al, pm, la, co, sp⟩ : Fm5).POk) (w : World) (hd : Rd .u8 w A2 nd c2 d) (hs2 : Rd2 w A3 ns c3 s g) :
    Calls Try.prog 101 #[.agg #[.int .i64 T, .int .i64 fl, .int .i64 st, .int .i64 pad, .slice A2 nd c2, .slice A3 ns c3, .int .i64 wt, .int .i64 pa, .bool al, .int .i64 pm, .int .i64 la, .int .i64 co, .int .i64 sp]] w (Bd5 (⟨T, fl, st, pad, nd, d, ns, s, g, wt, pa, al, pm, la, co, sp⟩ : Fm5) w) := by
  obtain ⟨i0, hi, hz0, hz1, hz2⟩ := info_parts u8_info
  obtain ⟨hT0, hT1, hT2, hT3, hT4, hT5, hT7, hT8⟩ : T ≠ 0 ∧ T ≠ 1 ∧ T ≠ 2 ∧ T ≠ 3 ∧ T ≠ 4 ∧ T ≠ 5 ∧ T ≠ 7 ∧ T ≠ 8 := by omega
  have e3 : hsB T fl 3 = false := hsB3_no ⟨hT0, hT1, hT5⟩
  have e5 : hsB T fl 5 = false := hsB5_no hT1
  have hpw1 : pw 1 = 256 := by decide
  have hpw4 : pw 4 = 4294967296 := by decide
  exact absurd (show (⟨T, fl, st, pad, nd, d, ns, s, g, wt, pa, al, pm, la, co, sp⟩ : Fm5).POk from ⟨fun h => absurd h (by show ¬ (hsB T fl 3 = true); rw [e3]; decide), fun h => absurd h (by show ¬ (T = 2 ∨ hsB T fl 5 = true); rw [e5]; simp [hT2]), fun (h : (T : Int) = 3) => absurd h (by exact hT3), fun (h : (T : Int) = 4) => absurd h (by exact hT4), fun (h : (T : Int) = 5) => absurd h (by exact hT5), fun (h : (T : Int) = 7) => absurd h (by exact hT7), fun (h : (T : Int) = 8) => absurd h (by exact hT8)⟩) hp
end Go.Proofs.Ytpnjamomkpkkeaa
