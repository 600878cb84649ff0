/- Layer 24: how the program writes a field. -/
import Derived.Test.YtnkcbljhgcgpaaaDoorEn2
import Derived.Test.YtnkcbljhgcgpaaaDoorMU
namespace Go.Proofs.YtnkcbljhgcgpaaaDoor
set_option linter.unusedVariables false
set_option linter.unusedSimpArgs false
open Go.RowKit Go.Deep Go.ChangeShapes Go.WideShapes

theorem row4e {w : World} {p : Nat} {T : TypeId} {a b c d : Value} (h : w.heap[p]? = some (.cells #[a, b, c, d] T (0, 0))) : w.cell? ⟨p, 0, none⟩ = some a ∧ w.cell? ⟨p, 1, none⟩ = some b ∧ w.cell? ⟨p, 2, none⟩ = some c ∧ w.cell? ⟨p, 3, none⟩ = some d := by
  refine ⟨?_, ?_, ?_, ?_⟩ <;> simp [World.cell?, h]
theorem set1_7 {w : World} {p : Nat} {T : TypeId} {a0 a1 a2 a3 a4 a5 a6 : Value} (h : w.heap[p]? = some (.cells #[a0, a1, a2, a3, a4, a5, a6] T (0, 0))) (b : Value) :
    (w.cell? ⟨p, 1, none⟩ = some a1 ∧ w.frozen? ⟨p, 1, none⟩ = false) ∧ (w.setCell ⟨p, 1, none⟩ b).heap[p]? = some (.cells #[a0, b, a2, a3, a4, a5, a6] T (0, 0)) := by
  have h1 := setRow w p 1 b h
  simp only [List.setIfInBounds_toArray, List.set_cons_zero, List.set_cons_succ] at h1
  exact ⟨⟨(row7D h).2.1, frozenRow h 1⟩, h1⟩
theorem set23_7 {w : World} {p : Nat} {T : TypeId} {a0 a1 a2 a3 a4 a5 a6 : Value} (h : w.heap[p]? = some (.cells #[a0, a1, a2, a3, a4, a5, a6] T (0, 0))) (b c : Value) :
    (w.cell? ⟨p, 2, none⟩ = some a2 ∧ w.frozen? ⟨p, 2, none⟩ = false) ∧ ((w.setCell ⟨p, 2, none⟩ b).cell? ⟨p, 3, none⟩ = some a3 ∧ (w.setCell ⟨p, 2, none⟩ b).frozen? ⟨p, 3, none⟩ = false) ∧ ((w.setCell ⟨p, 2, none⟩ b).setCell ⟨p, 3, none⟩ c).heap[p]? = some (.cells #[a0, a1, b, c, a4, a5, a6] T (0, 0)) := by
  have h1 := setRow w p 2 b h
  have h2 := setRow _ p 3 c h1
  simp only [List.setIfInBounds_toArray, List.set_cons_zero, List.set_cons_succ] at h1 h2
  exact ⟨⟨(row7D h).2.2.1, frozenRow h 2⟩, ⟨(row7D h1).2.2.2.1, frozenRow h1 3⟩, h2⟩
/-- What lies behind a field that is being written. -/
structure WrS (B : Nat) (w : World) (p : Nat) (g : Option Nat) (mx : Nat) (l : List Fd) (nm vl : ByteArray) (nv : Bool) (way : Int) (nn sn sv : Bool) (W : World) : Prop where
  tl : TL B W p g mx l
  rf : W.heap[w.heap.size]? = some (.cells #[.string nm, .string vl, .bool nv] 51 (0, 0))
  ro : W.heap[w.heap.size + 1]? = some (.cells #[.int .i64 way, .bool nn, .bool sn, .bool sv] 99 (0, 0))
  rq : W.heap[w.heap.size + 1 + 1]? = some (.cells #[.int .i64 0, .int .i64 0, .string ⟨#[]⟩, .bool false, .string ⟨#[]⟩, .bool false, .int .i64 0] 81 (0, 0))
  e : Below w.heap.size w W
  lt : ∀ i, tfp p g i → i < w.heap.size
section
variable {B : Nat} {w W W' : World} {p : Nat} {g : Option Nat} {mx : Nat} {l : List Fd} {nm vl : ByteArray} {nv : Bool} {way : Int} {nn sn sv : Bool}
theorem WrS.below (h : WrS B w p g mx l nm vl nv way nn sn sv W) (hb : Below W.heap.size W W') : WrS B w p g mx l nm vl nv way nn sn sv W' :=
  ⟨h.tl.below hb, keepRow h.rf hb, keepRow h.ro hb, keepRow h.rq hb, h.e.of hb, h.lt⟩
/-- Only a new block has turned. -/
theorem WrS.free {q : Nat} (h : WrS B w p g mx l nm vl nv way nn sn sv W) (hq : w.heap.size + 3 ≤ q) (hk : ∀ i, i ≠ q → W'.heap[i]? = W.heap[i]?) (he : Below w.heap.size w W') : WrS B w p g mx l nm vl nv way nn sn sv W' :=
  ⟨h.tl.at_ fun i hi => hk i (by have := h.lt i hi; omega), (hk _ (by omega)).trans h.rf, (hk _ (by omega)).trans h.ro, (hk _ (by omega)).trans h.rq, he, h.lt⟩
end
/-- What comes of it. -/
def WrG (B : Nat) (p : Nat) (g : Option Nat) (mx : Nat) (l : List Fd) (f : Fd) (way : Int) (nn sn sv : Bool) (w : World) (e : Ending) (w' : World) : Prop :=
  ∃ k i ns a vs b l' g', e = .returned (.agg #[.int .i64 k, .int .i64 i, .string ns, .bool a, .string vs, .bool b, .int .i64 0]) ∧ WrR mx l f way nn sn sv k i ns a vs b l' ∧ TL B w' p g' mx l' ∧ FrO B (tfp p g) w w' ∧ (g' = g ∨ ∀ b, g' = some b → w.heap.size ≤ b)
theorem results_cellE {fn : Func} {p : Tmp} {ty : TypeId} (h : fn.results = #[.cell p ty]) (tmps : Array Value) (P : Program) (w : World) :
    (results fn tmps).run P w = ((asAddr (tmps.getD p undef)).run P w).andThen fun a w' => (loadVar ty a).run P w' := by
  simp [results, h]
theorem heap7n {w : World} {p q : Nat} (h : q ≠ p) (b0 b1 b2 b3 b4 b5 b6 : Value) : (((((((w.setCell ⟨p, 0, none⟩ b0).setCell ⟨p, 1, none⟩ b1).setCell ⟨p, 2, none⟩ b2).setCell ⟨p, 3, none⟩ b3).setCell ⟨p, 4, none⟩ b4).setCell ⟨p, 5, none⟩ b5).setCell ⟨p, 6, none⟩ b6).heap[q]? = w.heap[q]? := by
  rw [Below.heap_setCell _ ⟨p, 6, none⟩ _ _ h, Below.heap_setCell _ ⟨p, 5, none⟩ _ _ h, Below.heap_setCell _ ⟨p, 4, none⟩ _ _ h, Below.heap_setCell _ ⟨p, 3, none⟩ _ _ h, Below.heap_setCell _ ⟨p, 2, none⟩ _ _ h, Below.heap_setCell _ ⟨p, 1, none⟩ _ _ h, Below.heap_setCell _ ⟨p, 0, none⟩ _ _ h]
theorem FrO.of7 {B : Nat} {w0 w : World} {p : Nat} {b0 b1 b2 b3 b4 b5 b6 : Value} (hB : B ≤ w0.heap.size) (hp : w0.heap.size ≤ p) : FrO B (fun i => i = p) w (((((((w.setCell ⟨p, 0, none⟩ b0).setCell ⟨p, 1, none⟩ b1).setCell ⟨p, 2, none⟩ b2).setCell ⟨p, 3, none⟩ b3).setCell ⟨p, 4, none⟩ b4).setCell ⟨p, 5, none⟩ b5).setCell ⟨p, 6, none⟩ b6) :=
  ⟨below7 (Below.refl B w) (by omega) _ _ _ _ _ _ _, fun i hi hn => heap7n hn _ _ _ _ _ _ _⟩
set_option maxRecDepth 100000 in
set_option maxHeartbeats 12800000 in
theorem written24 {B : Nat} {w : World} {p : Nat} {g : Option Nat} {mx : Nat} {l : List Fd} (h : TL B w p g mx l) (hB : B ≤ w.heap.size) (hn : l.length ≤ 900000) (nm vl : ByteArray) (nv : Bool) (hwt : wt ⟨nm, vl, nv⟩ ≤ 1000000) (way : Int) (nn sn sv : Bool) :
    Calls Tryd.prog 45 #[.pointer (some ⟨p, 0, none⟩), .agg #[.string nm, .string vl, .bool nv], .agg #[.int .i64 way, .bool nn, .bool sn, .bool sv]] w (WrG B p g mx l ⟨nm, vl, nv⟩ way nn sn sv w) := by
  have H := hide h
  have HB := hide hB
  have Hwt := hide hwt
  have HnT := hide hn
  have hn2 : l.length ≤ 1000000 := by omega
  obtain ⟨mP, hmP⟩ := nmr_ex l nm
  obtain ⟨pP, hpP⟩ := plr_ex l nm vl
  have HmP := hide hmP
  have HpP := hide hpP
  clear h hB hwt hmP hpP
  go_enter Tryd.func45, Tryd.ntmps45
  go_upto_region 1 with (fail)
  refine absE _ (WrS B w p g mx l nm vl nv way nn sn sv) ?_ ?_
  · obtain ⟨r0, r1, r2, e0⟩ := heap3_21 w #[.string nm, .string vl, .bool nv] #[.int .i64 way, .bool nn, .bool sn, .bool sv] #[.int .i64 0, .int .i64 0, .string ⟨#[]⟩, .bool false, .string ⟨#[]⟩, .bool false, .int .i64 0] 51 99 81
    exact ⟨H.out.below e0, r0, r1, r2, e0, fun i hi => (H.out.lt i hi).2⟩
  intro W0 s0
  have S0 := hide s0
  obtain ⟨f0, f1, f2⟩ := rowT s0.rf
  obtain ⟨o0, o1, o2, o3⟩ := row4e s0.ro
  clear s0
  go_wp2_with fail
  refine (kindof24 nm vl nv way nn sn sv _).mono ?_
  rintro e W1 ⟨rfl, hb1⟩
  have S1 := hide (S0.out.below hb1)
  clear hb1 f0 f1 f2 o0 o1 o2 o3 S0
  obtain ⟨K, hK⟩ : ∃ K, K = kd24 nv way := ⟨_, rfl⟩
  rw [← hK]
  have HK := hide hK
  clear hK
  obtain ⟨f0, f1, f2⟩ := rowT S1.out.rf
  obtain ⟨o0, o1, o2, o3⟩ := row4e S1.out.ro
  by_cases h1 : K = 1
  · subst h1
    go_wp2_with fail
    refine (place24 S1.out.tl hn2 nm vl nv).mono ?_
    rintro e W2 ⟨pl, rfl, hpl, hb2⟩
    have HPL := hide hpl
    have S2 := hide (S1.out.below hb2)
    clear hpl hb2 f0 f1 f2 o0 o1 o2 o3 S1
    obtain ⟨f0, f1, f2⟩ := rowT S2.out.rf
    obtain ⟨o0, o1, o2, o3⟩ := row4e S2.out.ro
    by_cases hp : 0 < pl
    · have hd : decide (0 < pl) = true := decide_eq_true hp
      have Hp := hide hp
      obtain ⟨⟨k0, y0⟩, ⟨k1, y1⟩, ⟨k2, y2⟩, ⟨k3, y3⟩, ⟨k4, y4⟩, ⟨k5, y5⟩, ⟨k6, y6⟩, rz⟩ := store7 S2.out.rq (.int .i64 1) (.int .i64 pl) (.string ⟨#[]⟩) (.bool false) (.string ⟨#[]⟩) (.bool false) (.int .i64 0)
      have RZ := hide rz
      clear rz hp
      go_wp2_with fail
      obtain ⟨m0_, m1_, m2_, m3_, m4_, m5_, m6_⟩ := row7D RZ.out
      refine bodyPost_ret (v := .agg #[.int .i64 1, .int .i64 pl, .string ⟨#[]⟩, .bool false, .string ⟨#[]⟩, .bool false, .int .i64 0]) ?_ rfl ⟨1, pl, _, _, _, _, l, g, rfl, ⟨pl, mP, HPL.out, HmP.out, .inl ⟨HK.out.symm, Hp.out, rfl, rfl, rfl, rfl, rfl, rfl, rfl⟩⟩, ?_, ?_, .inl rfl⟩
      · rw [results_cellE rfl]
        go_simp
      · exact S2.out.tl.at_ fun i hi => heap7n (by have := S2.out.lt i hi; omega) _ _ _ _ _ _ _
      · exact FrO.of (below7 S2.out.e (p := w.heap.size + 1 + 1) (by omega) _ _ _ _ _ _ _) HB.out
    · have hd : decide (0 < pl) = false := decide_eq_false hp
      have HC : Hid (¬ (kd24 nv way = 1 ∧ 0 < pl)) := fun h => hp h.2
      have HKK : Hid ((2 : Int) = if kd24 nv way = 1 then 2 else kd24 nv way) := by show _ = _; rw [← HK.out]; rfl
      have HPx := hide HPL.out
      clear hp
      have al := (Below.refl W2.heap.size W2).alloc (Nat.le_refl _) (.cells #[.int .i64 2, .int .i64 0, .string ⟨#[]⟩, .bool false, .string vl, .bool sv, .int .i64 0] 81)
      have RR0 := hide (heap_alloc_new W2 (.cells #[.int .i64 2, .int .i64 0, .string ⟨#[]⟩, .bool false, .string vl, .bool sv, .int .i64 0] 81))
      have S3 := hide (S2.out.below al)
      have hpr : w.heap.size + 3 ≤ W2.heap.size := by have := rowLt S2.out.rq; omega
      clear al
      go_upto_region 8 with (fail)
      clear f0 f1 f2 o0 o1 o2 o3
      generalize hW : W2.alloc (.cells #[.int .i64 2, .int .i64 0, .string ⟨#[]⟩, .bool false, .string vl, .bool sv, .int .i64 0] 81) = W3 at *
      generalize hP : W2.heap.size = pr at *
      clear hW hP
      obtain ⟨f0, f1, f2⟩ := rowT S3.out.rf
      obtain ⟨o0, o1, o2, o3⟩ := row4e S3.out.ro
      cases hnn : nn with
      | true =>
        subst hnn
        obtain ⟨q0, q1, q2, q3, q4, q5, q6⟩ := row7D RR0.out
        obtain ⟨f0, f1, f2⟩ := rowT S3.out.rf
        obtain ⟨o0, o1, o2, o3⟩ := row4e S3.out.ro
        obtain ⟨⟨k2, y2⟩, ⟨k3, y3⟩, rr⟩ := set23_7 RR0.out (.string nm) (.bool sn)
        have RR := hide rr
        have S6 := hide (S3.out.free hpr (fun i hi => (by rw [Below.heap_setCell _ ⟨pr, 3, none⟩ _ _ hi, Below.heap_setCell _ ⟨pr, 2, none⟩ _ _ hi])) ((S3.out.e.setCell (p := ⟨pr, 2, none⟩) (by show w.heap.size ≤ pr; omega) (.string nm)).setCell (p := ⟨pr, 3, none⟩) (by show w.heap.size ≤ pr; omega) (.bool sn)))
        clear rr
        go_upto_region 12 with (fail)
        clear q0 q1 q2 q3 q4 q5 q6 f0 f1 f2 o0 o1 o2 o3 k2 y2 k3 y3 RR0 S3
        generalize (W3.setCell ⟨pr, 2, none⟩ (.string nm)).setCell ⟨pr, 3, none⟩ (.bool sn) = W6 at *

        obtain ⟨q0, q1, q2, q3, q4, q5, q6⟩ := row7D RR.out
        obtain ⟨f0, f1, f2⟩ := rowT S6.out.rf

        go_upto_region 13 with (fail)
        go_region_held3 (fun W => W.cell? ⟨w.heap.size, 0, none⟩ = some (.string nm) ∧ W.cell? ⟨w.heap.size, 1, none⟩ = some (.string vl) ∧ W.cell? ⟨w.heap.size, 2, none⟩ = some (.bool nv))
          ((first | exact ⟨f0, f1, f2⟩ | exact S9.out | (go_keep; done)))
          ((first
            | (go_at_call 54; refine (addTL (TL.drew S6.out.tl) (Nat.le_trans HB.out S6.out.e.size) HnT.out ⟨nm, vl, nv⟩ Hwt.out).mono ?_; rintro e W9 ⟨g9, rfl, ht9, hf9, hg9⟩; have HT9 := hide ht9; have HF9 := hide (FrO.undrew hf9); have HG9 := hide hg9; have hfp : ∀ j, w.heap.size ≤ j → ¬ tfp p g j := (fun j hj hh => by have := S6.out.lt j hh; omega); have RF9 := hide ((FrO.undrew hf9).row S6.out.rf (hfp _ (Nat.le_refl _))); have RR9 := hide ((FrO.undrew hf9).row RR.out (hfp _ (by omega))); have RQ9 := hide ((FrO.undrew hf9).row S6.out.rq (hfp _ (by omega))); have S9 := hide (rowT RF9.out); clear ht9 hf9 hg9 hfp)))
        all_goals
          obtain ⟨r0, r1, r2, r3, r4, r5, r6⟩ := row7D RR9.out
          obtain ⟨⟨k0, y0⟩, ⟨k1, y1⟩, ⟨k2, y2⟩, ⟨k3, y3⟩, ⟨k4, y4⟩, ⟨k5, y5⟩, ⟨k6, y6⟩, rz⟩ := store7 RQ9.out (.int .i64 2) (.int .i64 0) (.string nm) (.bool sn) (.string vl) (.bool sv) (.int .i64 0)
          have RZ := hide rz
          clear rz
          go_wp2_with fail
          obtain ⟨m0_, m1_, m2_, m3_, m4_, m5_, m6_⟩ := row7D RZ.out
          refine bodyPost_ret (v := .agg #[.int .i64 2, .int .i64 0, .string nm, .bool sn, .string vl, .bool sv, .int .i64 0]) ?_ rfl ⟨2, 0, _, _, _, _, addL mx ⟨nm, vl, nv⟩ l, g9, rfl, ⟨pl, mP, HPx.out, HmP.out, .inr ⟨HC.out, HKK.out, rfl, rfl, rfl, rfl, rfl, rfl⟩⟩, ?_, ?_, ?_⟩
          · rw [results_cellE rfl]
            go_simp
          · refine HT9.out.at_ fun i hi => heap7n (fun e => ?_) _ _ _ _ _ _ _
            rcases hi with h | h
            · have := S6.out.lt p (.inl rfl); omega
            · rcases HG9.out with e9 | e9
              · have := S6.out.lt i (.inr (e9 ▸ h)); omega
              · have h1 := e9 i h
                have h2 := rowLt S6.out.rq
                have h3 : W6.drew.heap.size = W6.heap.size := rfl
                omega
          · exact ((FrO.of (S := tfp p g) S6.out.e HB.out).step HF9.out fun i hi => .inl hi).step (FrO.of7 HB.out (p := w.heap.size + 1 + 1) (by omega)) fun i hi => .inr (by omega)
          · rcases HG9.out with e9 | e9
            · exact .inl e9
            · exact .inr fun b hb => Nat.le_trans S6.out.e.size (e9 b hb)
      | false =>
        subst hnn
        go_wp2_with fail
        refine (name24 S3.out.tl hn2 nm).mono ?_
        rintro e W4 ⟨mm, rfl, hm, hb4⟩
        have HM := hide hm
        have S4 := hide (S3.out.below hb4)
        obtain ⟨⟨k1, y1⟩, rr⟩ := set1_7 (keepRow RR0.out hb4) (.int .i64 mm)
        have RR1 := hide rr
        have S5 := hide (S4.out.free hpr (fun i hi => Below.heap_setCell _ ⟨pr, 1, none⟩ _ _ hi) (S4.out.e.setCell (p := ⟨pr, 1, none⟩) (by show w.heap.size ≤ pr; omega) (.int .i64 mm)))
        clear hm hb4 rr f0 f1 f2 o0 o1 o2 o3 RR0 S3
        go_upto_region 10 with (fail)
        clear k1 y1 S4
        generalize W4.setCell ⟨pr, 1, none⟩ (.int .i64 mm) = W5 at *
        by_cases hm0 : mm = 0
        · subst hm0
          obtain ⟨q0, q1, q2, q3, q4, q5, q6⟩ := row7D RR1.out
          obtain ⟨f0, f1, f2⟩ := rowT S5.out.rf
          obtain ⟨o0, o1, o2, o3⟩ := row4e S5.out.ro
          obtain ⟨⟨k2, y2⟩, ⟨k3, y3⟩, rr⟩ := set23_7 RR1.out (.string nm) (.bool sn)
          have RR := hide rr
          have S6 := hide (S5.out.free hpr (fun i hi => (by rw [Below.heap_setCell _ ⟨pr, 3, none⟩ _ _ hi, Below.heap_setCell _ ⟨pr, 2, none⟩ _ _ hi])) ((S5.out.e.setCell (p := ⟨pr, 2, none⟩) (by show w.heap.size ≤ pr; omega) (.string nm)).setCell (p := ⟨pr, 3, none⟩) (by show w.heap.size ≤ pr; omega) (.bool sn)))
          clear rr
          go_upto_region 12 with (fail)
          clear q0 q1 q2 q3 q4 q5 q6 f0 f1 f2 o0 o1 o2 o3 k2 y2 k3 y3 RR1 S5
          generalize (W5.setCell ⟨pr, 2, none⟩ (.string nm)).setCell ⟨pr, 3, none⟩ (.bool sn) = W6 at *

          obtain ⟨q0, q1, q2, q3, q4, q5, q6⟩ := row7D RR.out
          obtain ⟨f0, f1, f2⟩ := rowT S6.out.rf

          go_upto_region 13 with (fail)
          go_region_held3 (fun W => W.cell? ⟨w.heap.size, 0, none⟩ = some (.string nm) ∧ W.cell? ⟨w.heap.size, 1, none⟩ = some (.string vl) ∧ W.cell? ⟨w.heap.size, 2, none⟩ = some (.bool nv))
            ((first | exact ⟨f0, f1, f2⟩ | exact S9.out | (go_keep; done)))
            ((first
              | (go_at_call 54; refine (addTL (TL.drew S6.out.tl) (Nat.le_trans HB.out S6.out.e.size) HnT.out ⟨nm, vl, nv⟩ Hwt.out).mono ?_; rintro e W9 ⟨g9, rfl, ht9, hf9, hg9⟩; have HT9 := hide ht9; have HF9 := hide (FrO.undrew hf9); have HG9 := hide hg9; have hfp : ∀ j, w.heap.size ≤ j → ¬ tfp p g j := (fun j hj hh => by have := S6.out.lt j hh; omega); have RF9 := hide ((FrO.undrew hf9).row S6.out.rf (hfp _ (Nat.le_refl _))); have RR9 := hide ((FrO.undrew hf9).row RR.out (hfp _ (by omega))); have RQ9 := hide ((FrO.undrew hf9).row S6.out.rq (hfp _ (by omega))); have S9 := hide (rowT RF9.out); clear ht9 hf9 hg9 hfp)))
          all_goals
            obtain ⟨r0, r1, r2, r3, r4, r5, r6⟩ := row7D RR9.out
            obtain ⟨⟨k0, y0⟩, ⟨k1, y1⟩, ⟨k2, y2⟩, ⟨k3, y3⟩, ⟨k4, y4⟩, ⟨k5, y5⟩, ⟨k6, y6⟩, rz⟩ := store7 RQ9.out (.int .i64 2) (.int .i64 0) (.string nm) (.bool sn) (.string vl) (.bool sv) (.int .i64 0)
            have RZ := hide rz
            clear rz
            go_wp2_with fail
            obtain ⟨m0_, m1_, m2_, m3_, m4_, m5_, m6_⟩ := row7D RZ.out
            refine bodyPost_ret (v := .agg #[.int .i64 2, .int .i64 0, .string nm, .bool sn, .string vl, .bool sv, .int .i64 0]) ?_ rfl ⟨2, 0, _, _, _, _, addL mx ⟨nm, vl, nv⟩ l, g9, rfl, ⟨pl, 0, HPx.out, HM.out, .inr ⟨HC.out, HKK.out, rfl, rfl, rfl, rfl, rfl, rfl⟩⟩, ?_, ?_, ?_⟩
            · rw [results_cellE rfl]
              go_simp
            · refine HT9.out.at_ fun i hi => heap7n (fun e => ?_) _ _ _ _ _ _ _
              rcases hi with h | h
              · have := S6.out.lt p (.inl rfl); omega
              · rcases HG9.out with e9 | e9
                · have := S6.out.lt i (.inr (e9 ▸ h)); omega
                · have h1 := e9 i h
                  have h2 := rowLt S6.out.rq
                  have h3 : W6.drew.heap.size = W6.heap.size := rfl
                  omega
            · exact ((FrO.of (S := tfp p g) S6.out.e HB.out).step HF9.out fun i hi => .inl hi).step (FrO.of7 HB.out (p := w.heap.size + 1 + 1) (by omega)) fun i hi => .inr (by omega)
            · rcases HG9.out with e9 | e9
              · exact .inl e9
              · exact .inr fun b hb => Nat.le_trans S6.out.e.size (e9 b hb)
        · have hz : ((mm : Int) == 0) = false := by simpa using hm0
          have Hm0 := hide hm0
          clear hm0
          have HI : Hid ((if mm = 0 then nm else ⟨#[]⟩) = (⟨#[]⟩ : ByteArray) ∧ (if mm = 0 then sn else false) = false) := ⟨if_neg Hm0.out, if_neg Hm0.out⟩
          have RR := hide RR1.out
          obtain ⟨q0, q1, q2, q3, q4, q5, q6⟩ := row7D RR.out
          obtain ⟨f0, f1, f2⟩ := rowT S5.out.rf
          obtain ⟨o0, o1, o2, o3⟩ := row4e S5.out.ro
          go_upto_region 12 with (fail)
          clear q0 q1 q2 q3 q4 q5 q6 f0 f1 f2 o0 o1 o2 o3

          obtain ⟨q0, q1, q2, q3, q4, q5, q6⟩ := row7D RR.out
          obtain ⟨f0, f1, f2⟩ := rowT S5.out.rf

          go_upto_region 13 with (fail)
          go_region_held3 (fun W => W.cell? ⟨w.heap.size, 0, none⟩ = some (.string nm) ∧ W.cell? ⟨w.heap.size, 1, none⟩ = some (.string vl) ∧ W.cell? ⟨w.heap.size, 2, none⟩ = some (.bool nv))
            ((first | exact ⟨f0, f1, f2⟩ | exact S9.out | (go_keep; done)))
            ((first
              | (go_at_call 54; refine (addTL (TL.drew S5.out.tl) (Nat.le_trans HB.out S5.out.e.size) HnT.out ⟨nm, vl, nv⟩ Hwt.out).mono ?_; rintro e W9 ⟨g9, rfl, ht9, hf9, hg9⟩; have HT9 := hide ht9; have HF9 := hide (FrO.undrew hf9); have HG9 := hide hg9; have hfp : ∀ j, w.heap.size ≤ j → ¬ tfp p g j := (fun j hj hh => by have := S5.out.lt j hh; omega); have RF9 := hide ((FrO.undrew hf9).row S5.out.rf (hfp _ (Nat.le_refl _))); have RR9 := hide ((FrO.undrew hf9).row RR.out (hfp _ (by omega))); have RQ9 := hide ((FrO.undrew hf9).row S5.out.rq (hfp _ (by omega))); have S9 := hide (rowT RF9.out); clear ht9 hf9 hg9 hfp)))
          all_goals
            obtain ⟨r0, r1, r2, r3, r4, r5, r6⟩ := row7D RR9.out
            obtain ⟨⟨k0, y0⟩, ⟨k1, y1⟩, ⟨k2, y2⟩, ⟨k3, y3⟩, ⟨k4, y4⟩, ⟨k5, y5⟩, ⟨k6, y6⟩, rz⟩ := store7 RQ9.out (.int .i64 2) (.int .i64 mm) (.string ⟨#[]⟩) (.bool false) (.string vl) (.bool sv) (.int .i64 0)
            have RZ := hide rz
            clear rz
            go_wp2_with fail
            obtain ⟨m0_, m1_, m2_, m3_, m4_, m5_, m6_⟩ := row7D RZ.out
            refine bodyPost_ret (v := .agg #[.int .i64 2, .int .i64 mm, .string ⟨#[]⟩, .bool false, .string vl, .bool sv, .int .i64 0]) ?_ rfl ⟨2, mm, _, _, _, _, addL mx ⟨nm, vl, nv⟩ l, g9, rfl, ⟨pl, mm, HPx.out, HM.out, .inr ⟨HC.out, HKK.out, rfl, HI.out.1.symm, HI.out.2.symm, rfl, rfl, rfl⟩⟩, ?_, ?_, ?_⟩
            · rw [results_cellE rfl]
              go_simp
            · refine HT9.out.at_ fun i hi => heap7n (fun e => ?_) _ _ _ _ _ _ _
              rcases hi with h | h
              · have := S5.out.lt p (.inl rfl); omega
              · rcases HG9.out with e9 | e9
                · have := S5.out.lt i (.inr (e9 ▸ h)); omega
                · have h1 := e9 i h
                  have h2 := rowLt S5.out.rq
                  have h3 : W5.drew.heap.size = W5.heap.size := rfl
                  omega
            · exact ((FrO.of (S := tfp p g) S5.out.e HB.out).step HF9.out fun i hi => .inl hi).step (FrO.of7 HB.out (p := w.heap.size + 1 + 1) (by omega)) fun i hi => .inr (by omega)
            · rcases HG9.out with e9 | e9
              · exact .inl e9
              · exact .inr fun b hb => Nat.le_trans S5.out.e.size (e9 b hb)
  · have k1 : ((K : Int) == 1) = false := by simpa using h1
    have HC : Hid (¬ (kd24 nv way = 1 ∧ 0 < pP)) := fun h => h1 (HK.out.trans h.1)
    have HKK : Hid (K = if kd24 nv way = 1 then 2 else kd24 nv way) := by show _ = _; rw [← HK.out, if_neg h1]
    have HPx := hide HpP.out
    clear h1
    by_cases h2 : K = 2
    · subst h2
      have al := (Below.refl W1.heap.size W1).alloc (Nat.le_refl _) (.cells #[.int .i64 2, .int .i64 0, .string ⟨#[]⟩, .bool false, .string vl, .bool sv, .int .i64 0] 81)
      have RR0 := hide (heap_alloc_new W1 (.cells #[.int .i64 2, .int .i64 0, .string ⟨#[]⟩, .bool false, .string vl, .bool sv, .int .i64 0] 81))
      have S3 := hide (S1.out.below al)
      have hpr : w.heap.size + 3 ≤ W1.heap.size := by have := rowLt S1.out.rq; omega
      clear al
      go_upto_region 8 with (fail)
      clear f0 f1 f2 o0 o1 o2 o3
      generalize hW : W1.alloc (.cells #[.int .i64 2, .int .i64 0, .string ⟨#[]⟩, .bool false, .string vl, .bool sv, .int .i64 0] 81) = W3 at *
      generalize hP : W1.heap.size = pr at *
      clear hW hP
      obtain ⟨f0, f1, f2⟩ := rowT S3.out.rf
      obtain ⟨o0, o1, o2, o3⟩ := row4e S3.out.ro
      cases hnn : nn with
      | true =>
        subst hnn
        obtain ⟨q0, q1, q2, q3, q4, q5, q6⟩ := row7D RR0.out
        obtain ⟨f0, f1, f2⟩ := rowT S3.out.rf
        obtain ⟨o0, o1, o2, o3⟩ := row4e S3.out.ro
        obtain ⟨⟨k2, y2⟩, ⟨k3, y3⟩, rr⟩ := set23_7 RR0.out (.string nm) (.bool sn)
        have RR := hide rr
        have S6 := hide (S3.out.free hpr (fun i hi => (by rw [Below.heap_setCell _ ⟨pr, 3, none⟩ _ _ hi, Below.heap_setCell _ ⟨pr, 2, none⟩ _ _ hi])) ((S3.out.e.setCell (p := ⟨pr, 2, none⟩) (by show w.heap.size ≤ pr; omega) (.string nm)).setCell (p := ⟨pr, 3, none⟩) (by show w.heap.size ≤ pr; omega) (.bool sn)))
        clear rr
        go_upto_region 12 with (fail)
        clear q0 q1 q2 q3 q4 q5 q6 f0 f1 f2 o0 o1 o2 o3 k2 y2 k3 y3 RR0 S3
        generalize (W3.setCell ⟨pr, 2, none⟩ (.string nm)).setCell ⟨pr, 3, none⟩ (.bool sn) = W6 at *

        obtain ⟨q0, q1, q2, q3, q4, q5, q6⟩ := row7D RR.out
        obtain ⟨f0, f1, f2⟩ := rowT S6.out.rf

        go_upto_region 13 with (fail)
        go_region_held3 (fun W => W.cell? ⟨w.heap.size, 0, none⟩ = some (.string nm) ∧ W.cell? ⟨w.heap.size, 1, none⟩ = some (.string vl) ∧ W.cell? ⟨w.heap.size, 2, none⟩ = some (.bool nv))
          ((first | exact ⟨f0, f1, f2⟩ | exact S9.out | (go_keep; done)))
          ((first
            | (go_at_call 54; refine (addTL (TL.drew S6.out.tl) (Nat.le_trans HB.out S6.out.e.size) HnT.out ⟨nm, vl, nv⟩ Hwt.out).mono ?_; rintro e W9 ⟨g9, rfl, ht9, hf9, hg9⟩; have HT9 := hide ht9; have HF9 := hide (FrO.undrew hf9); have HG9 := hide hg9; have hfp : ∀ j, w.heap.size ≤ j → ¬ tfp p g j := (fun j hj hh => by have := S6.out.lt j hh; omega); have RF9 := hide ((FrO.undrew hf9).row S6.out.rf (hfp _ (Nat.le_refl _))); have RR9 := hide ((FrO.undrew hf9).row RR.out (hfp _ (by omega))); have RQ9 := hide ((FrO.undrew hf9).row S6.out.rq (hfp _ (by omega))); have S9 := hide (rowT RF9.out); clear ht9 hf9 hg9 hfp)))
        all_goals
          obtain ⟨r0, r1, r2, r3, r4, r5, r6⟩ := row7D RR9.out
          obtain ⟨⟨k0, y0⟩, ⟨k1, y1⟩, ⟨k2, y2⟩, ⟨k3, y3⟩, ⟨k4, y4⟩, ⟨k5, y5⟩, ⟨k6, y6⟩, rz⟩ := store7 RQ9.out (.int .i64 2) (.int .i64 0) (.string nm) (.bool sn) (.string vl) (.bool sv) (.int .i64 0)
          have RZ := hide rz
          clear rz
          go_wp2_with fail
          obtain ⟨m0_, m1_, m2_, m3_, m4_, m5_, m6_⟩ := row7D RZ.out
          refine bodyPost_ret (v := .agg #[.int .i64 2, .int .i64 0, .string nm, .bool sn, .string vl, .bool sv, .int .i64 0]) ?_ rfl ⟨2, 0, _, _, _, _, addL mx ⟨nm, vl, nv⟩ l, g9, rfl, ⟨pP, mP, HPx.out, HmP.out, .inr ⟨HC.out, HKK.out, rfl, rfl, rfl, rfl, rfl, rfl⟩⟩, ?_, ?_, ?_⟩
          · rw [results_cellE rfl]
            go_simp
          · refine HT9.out.at_ fun i hi => heap7n (fun e => ?_) _ _ _ _ _ _ _
            rcases hi with h | h
            · have := S6.out.lt p (.inl rfl); omega
            · rcases HG9.out with e9 | e9
              · have := S6.out.lt i (.inr (e9 ▸ h)); omega
              · have h1 := e9 i h
                have h2 := rowLt S6.out.rq
                have h3 : W6.drew.heap.size = W6.heap.size := rfl
                omega
          · exact ((FrO.of (S := tfp p g) S6.out.e HB.out).step HF9.out fun i hi => .inl hi).step (FrO.of7 HB.out (p := w.heap.size + 1 + 1) (by omega)) fun i hi => .inr (by omega)
          · rcases HG9.out with e9 | e9
            · exact .inl e9
            · exact .inr fun b hb => Nat.le_trans S6.out.e.size (e9 b hb)
      | false =>
        subst hnn
        go_wp2_with fail
        refine (name24 S3.out.tl hn2 nm).mono ?_
        rintro e W4 ⟨mm, rfl, hm, hb4⟩
        have HM := hide hm
        have S4 := hide (S3.out.below hb4)
        obtain ⟨⟨k1, y1⟩, rr⟩ := set1_7 (keepRow RR0.out hb4) (.int .i64 mm)
        have RR1 := hide rr
        have S5 := hide (S4.out.free hpr (fun i hi => Below.heap_setCell _ ⟨pr, 1, none⟩ _ _ hi) (S4.out.e.setCell (p := ⟨pr, 1, none⟩) (by show w.heap.size ≤ pr; omega) (.int .i64 mm)))
        clear hm hb4 rr f0 f1 f2 o0 o1 o2 o3 RR0 S3
        go_upto_region 10 with (fail)
        clear k1 y1 S4
        generalize W4.setCell ⟨pr, 1, none⟩ (.int .i64 mm) = W5 at *
        by_cases hm0 : mm = 0
        · subst hm0
          obtain ⟨q0, q1, q2, q3, q4, q5, q6⟩ := row7D RR1.out
          obtain ⟨f0, f1, f2⟩ := rowT S5.out.rf
          obtain ⟨o0, o1, o2, o3⟩ := row4e S5.out.ro
          obtain ⟨⟨k2, y2⟩, ⟨k3, y3⟩, rr⟩ := set23_7 RR1.out (.string nm) (.bool sn)
          have RR := hide rr
          have S6 := hide (S5.out.free hpr (fun i hi => (by rw [Below.heap_setCell _ ⟨pr, 3, none⟩ _ _ hi, Below.heap_setCell _ ⟨pr, 2, none⟩ _ _ hi])) ((S5.out.e.setCell (p := ⟨pr, 2, none⟩) (by show w.heap.size ≤ pr; omega) (.string nm)).setCell (p := ⟨pr, 3, none⟩) (by show w.heap.size ≤ pr; omega) (.bool sn)))
          clear rr
          go_upto_region 12 with (fail)
          clear q0 q1 q2 q3 q4 q5 q6 f0 f1 f2 o0 o1 o2 o3 k2 y2 k3 y3 RR1 S5
          generalize (W5.setCell ⟨pr, 2, none⟩ (.string nm)).setCell ⟨pr, 3, none⟩ (.bool sn) = W6 at *

          obtain ⟨q0, q1, q2, q3, q4, q5, q6⟩ := row7D RR.out
          obtain ⟨f0, f1, f2⟩ := rowT S6.out.rf

          go_upto_region 13 with (fail)
          go_region_held3 (fun W => W.cell? ⟨w.heap.size, 0, none⟩ = some (.string nm) ∧ W.cell? ⟨w.heap.size, 1, none⟩ = some (.string vl) ∧ W.cell? ⟨w.heap.size, 2, none⟩ = some (.bool nv))
            ((first | exact ⟨f0, f1, f2⟩ | exact S9.out | (go_keep; done)))
            ((first
              | (go_at_call 54; refine (addTL (TL.drew S6.out.tl) (Nat.le_trans HB.out S6.out.e.size) HnT.out ⟨nm, vl, nv⟩ Hwt.out).mono ?_; rintro e W9 ⟨g9, rfl, ht9, hf9, hg9⟩; have HT9 := hide ht9; have HF9 := hide (FrO.undrew hf9); have HG9 := hide hg9; have hfp : ∀ j, w.heap.size ≤ j → ¬ tfp p g j := (fun j hj hh => by have := S6.out.lt j hh; omega); have RF9 := hide ((FrO.undrew hf9).row S6.out.rf (hfp _ (Nat.le_refl _))); have RR9 := hide ((FrO.undrew hf9).row RR.out (hfp _ (by omega))); have RQ9 := hide ((FrO.undrew hf9).row S6.out.rq (hfp _ (by omega))); have S9 := hide (rowT RF9.out); clear ht9 hf9 hg9 hfp)))
          all_goals
            obtain ⟨r0, r1, r2, r3, r4, r5, r6⟩ := row7D RR9.out
            obtain ⟨⟨k0, y0⟩, ⟨k1, y1⟩, ⟨k2, y2⟩, ⟨k3, y3⟩, ⟨k4, y4⟩, ⟨k5, y5⟩, ⟨k6, y6⟩, rz⟩ := store7 RQ9.out (.int .i64 2) (.int .i64 0) (.string nm) (.bool sn) (.string vl) (.bool sv) (.int .i64 0)
            have RZ := hide rz
            clear rz
            go_wp2_with fail
            obtain ⟨m0_, m1_, m2_, m3_, m4_, m5_, m6_⟩ := row7D RZ.out
            refine bodyPost_ret (v := .agg #[.int .i64 2, .int .i64 0, .string nm, .bool sn, .string vl, .bool sv, .int .i64 0]) ?_ rfl ⟨2, 0, _, _, _, _, addL mx ⟨nm, vl, nv⟩ l, g9, rfl, ⟨pP, 0, HPx.out, HM.out, .inr ⟨HC.out, HKK.out, rfl, rfl, rfl, rfl, rfl, rfl⟩⟩, ?_, ?_, ?_⟩
            · rw [results_cellE rfl]
              go_simp
            · refine HT9.out.at_ fun i hi => heap7n (fun e => ?_) _ _ _ _ _ _ _
              rcases hi with h | h
              · have := S6.out.lt p (.inl rfl); omega
              · rcases HG9.out with e9 | e9
                · have := S6.out.lt i (.inr (e9 ▸ h)); omega
                · have h1 := e9 i h
                  have h2 := rowLt S6.out.rq
                  have h3 : W6.drew.heap.size = W6.heap.size := rfl
                  omega
            · exact ((FrO.of (S := tfp p g) S6.out.e HB.out).step HF9.out fun i hi => .inl hi).step (FrO.of7 HB.out (p := w.heap.size + 1 + 1) (by omega)) fun i hi => .inr (by omega)
            · rcases HG9.out with e9 | e9
              · exact .inl e9
              · exact .inr fun b hb => Nat.le_trans S6.out.e.size (e9 b hb)
        · have hz : ((mm : Int) == 0) = false := by simpa using hm0
          have Hm0 := hide hm0
          clear hm0
          have HI : Hid ((if mm = 0 then nm else ⟨#[]⟩) = (⟨#[]⟩ : ByteArray) ∧ (if mm = 0 then sn else false) = false) := ⟨if_neg Hm0.out, if_neg Hm0.out⟩
          have RR := hide RR1.out
          obtain ⟨q0, q1, q2, q3, q4, q5, q6⟩ := row7D RR.out
          obtain ⟨f0, f1, f2⟩ := rowT S5.out.rf
          obtain ⟨o0, o1, o2, o3⟩ := row4e S5.out.ro
          go_upto_region 12 with (fail)
          clear q0 q1 q2 q3 q4 q5 q6 f0 f1 f2 o0 o1 o2 o3

          obtain ⟨q0, q1, q2, q3, q4, q5, q6⟩ := row7D RR.out
          obtain ⟨f0, f1, f2⟩ := rowT S5.out.rf

          go_upto_region 13 with (fail)
          go_region_held3 (fun W => W.cell? ⟨w.heap.size, 0, none⟩ = some (.string nm) ∧ W.cell? ⟨w.heap.size, 1, none⟩ = some (.string vl) ∧ W.cell? ⟨w.heap.size, 2, none⟩ = some (.bool nv))
            ((first | exact ⟨f0, f1, f2⟩ | exact S9.out | (go_keep; done)))
            ((first
              | (go_at_call 54; refine (addTL (TL.drew S5.out.tl) (Nat.le_trans HB.out S5.out.e.size) HnT.out ⟨nm, vl, nv⟩ Hwt.out).mono ?_; rintro e W9 ⟨g9, rfl, ht9, hf9, hg9⟩; have HT9 := hide ht9; have HF9 := hide (FrO.undrew hf9); have HG9 := hide hg9; have hfp : ∀ j, w.heap.size ≤ j → ¬ tfp p g j := (fun j hj hh => by have := S5.out.lt j hh; omega); have RF9 := hide ((FrO.undrew hf9).row S5.out.rf (hfp _ (Nat.le_refl _))); have RR9 := hide ((FrO.undrew hf9).row RR.out (hfp _ (by omega))); have RQ9 := hide ((FrO.undrew hf9).row S5.out.rq (hfp _ (by omega))); have S9 := hide (rowT RF9.out); clear ht9 hf9 hg9 hfp)))
          all_goals
            obtain ⟨r0, r1, r2, r3, r4, r5, r6⟩ := row7D RR9.out
            obtain ⟨⟨k0, y0⟩, ⟨k1, y1⟩, ⟨k2, y2⟩, ⟨k3, y3⟩, ⟨k4, y4⟩, ⟨k5, y5⟩, ⟨k6, y6⟩, rz⟩ := store7 RQ9.out (.int .i64 2) (.int .i64 mm) (.string ⟨#[]⟩) (.bool false) (.string vl) (.bool sv) (.int .i64 0)
            have RZ := hide rz
            clear rz
            go_wp2_with fail
            obtain ⟨m0_, m1_, m2_, m3_, m4_, m5_, m6_⟩ := row7D RZ.out
            refine bodyPost_ret (v := .agg #[.int .i64 2, .int .i64 mm, .string ⟨#[]⟩, .bool false, .string vl, .bool sv, .int .i64 0]) ?_ rfl ⟨2, mm, _, _, _, _, addL mx ⟨nm, vl, nv⟩ l, g9, rfl, ⟨pP, mm, HPx.out, HM.out, .inr ⟨HC.out, HKK.out, rfl, HI.out.1.symm, HI.out.2.symm, rfl, rfl, rfl⟩⟩, ?_, ?_, ?_⟩
            · rw [results_cellE rfl]
              go_simp
            · refine HT9.out.at_ fun i hi => heap7n (fun e => ?_) _ _ _ _ _ _ _
              rcases hi with h | h
              · have := S5.out.lt p (.inl rfl); omega
              · rcases HG9.out with e9 | e9
                · have := S5.out.lt i (.inr (e9 ▸ h)); omega
                · have h1 := e9 i h
                  have h2 := rowLt S5.out.rq
                  have h3 : W5.drew.heap.size = W5.heap.size := rfl
                  omega
            · exact ((FrO.of (S := tfp p g) S5.out.e HB.out).step HF9.out fun i hi => .inl hi).step (FrO.of7 HB.out (p := w.heap.size + 1 + 1) (by omega)) fun i hi => .inr (by omega)
            · rcases HG9.out with e9 | e9
              · exact .inl e9
              · exact .inr fun b hb => Nat.le_trans S5.out.e.size (e9 b hb)
    · have k2 : ((K : Int) == 2) = false := by simpa using h2
      have al := (Below.refl W1.heap.size W1).alloc (Nat.le_refl _) (.cells #[.int .i64 K, .int .i64 0, .string ⟨#[]⟩, .bool false, .string vl, .bool sv, .int .i64 0] 81)
      have RR0 := hide (heap_alloc_new W1 (.cells #[.int .i64 K, .int .i64 0, .string ⟨#[]⟩, .bool false, .string vl, .bool sv, .int .i64 0] 81))
      have S3 := hide (S1.out.below al)
      have hpr : w.heap.size + 3 ≤ W1.heap.size := by have := rowLt S1.out.rq; omega
      clear al
      go_upto_region 8 with (fail)
      clear f0 f1 f2 o0 o1 o2 o3
      generalize hW : W1.alloc (.cells #[.int .i64 K, .int .i64 0, .string ⟨#[]⟩, .bool false, .string vl, .bool sv, .int .i64 0] 81) = W3 at *
      generalize hP : W1.heap.size = pr at *
      clear hW hP
      obtain ⟨f0, f1, f2⟩ := rowT S3.out.rf
      obtain ⟨o0, o1, o2, o3⟩ := row4e S3.out.ro
      cases hnn : nn with
      | true =>
        subst hnn
        obtain ⟨q0, q1, q2, q3, q4, q5, q6⟩ := row7D RR0.out
        obtain ⟨f0, f1, f2⟩ := rowT S3.out.rf
        obtain ⟨o0, o1, o2, o3⟩ := row4e S3.out.ro
        obtain ⟨⟨k2, y2⟩, ⟨k3, y3⟩, rr⟩ := set23_7 RR0.out (.string nm) (.bool sn)
        have RR := hide rr
        have S6 := hide (S3.out.free hpr (fun i hi => (by rw [Below.heap_setCell _ ⟨pr, 3, none⟩ _ _ hi, Below.heap_setCell _ ⟨pr, 2, none⟩ _ _ hi])) ((S3.out.e.setCell (p := ⟨pr, 2, none⟩) (by show w.heap.size ≤ pr; omega) (.string nm)).setCell (p := ⟨pr, 3, none⟩) (by show w.heap.size ≤ pr; omega) (.bool sn)))
        clear rr
        go_upto_region 12 with (fail)
        clear q0 q1 q2 q3 q4 q5 q6 f0 f1 f2 o0 o1 o2 o3 k2 y2 k3 y3 RR0 S3
        generalize (W3.setCell ⟨pr, 2, none⟩ (.string nm)).setCell ⟨pr, 3, none⟩ (.bool sn) = W6 at *

        obtain ⟨q0, q1, q2, q3, q4, q5, q6⟩ := row7D RR.out
        obtain ⟨f0, f1, f2⟩ := rowT S6.out.rf

        obtain ⟨⟨k0, y0⟩, ⟨k1, y1⟩, ⟨k2, y2⟩, ⟨k3, y3⟩, ⟨k4, y4⟩, ⟨k5, y5⟩, ⟨k6, y6⟩, rz⟩ := store7 S6.out.rq (.int .i64 K) (.int .i64 0) (.string nm) (.bool sn) (.string vl) (.bool sv) (.int .i64 0)
        have RZ := hide rz
        have HK2 : Hid (l = if K = 2 then addL mx ⟨nm, vl, nv⟩ l else l) := by show _ = _; rw [if_neg h2]
        clear rz h2
        go_wp2_with fail
        obtain ⟨m0_, m1_, m2_, m3_, m4_, m5_, m6_⟩ := row7D RZ.out
        refine bodyPost_ret (v := .agg #[.int .i64 K, .int .i64 0, .string nm, .bool sn, .string vl, .bool sv, .int .i64 0]) ?_ rfl ⟨K, 0, _, _, _, _, l, g, rfl, ⟨pP, mP, HPx.out, HmP.out, .inr ⟨HC.out, HKK.out, rfl, rfl, rfl, rfl, rfl, HK2.out⟩⟩, ?_, ?_, .inl rfl⟩
        · rw [results_cellE rfl]
          go_simp
        · exact S6.out.tl.at_ fun i hi => heap7n (by have := S6.out.lt i hi; omega) _ _ _ _ _ _ _
        · exact FrO.of (below7 S6.out.e (p := w.heap.size + 1 + 1) (by omega) _ _ _ _ _ _ _) HB.out
      | false =>
        subst hnn
        go_wp2_with fail
        refine (name24 S3.out.tl hn2 nm).mono ?_
        rintro e W4 ⟨mm, rfl, hm, hb4⟩
        have HM := hide hm
        have S4 := hide (S3.out.below hb4)
        obtain ⟨⟨k1, y1⟩, rr⟩ := set1_7 (keepRow RR0.out hb4) (.int .i64 mm)
        have RR1 := hide rr
        have S5 := hide (S4.out.free hpr (fun i hi => Below.heap_setCell _ ⟨pr, 1, none⟩ _ _ hi) (S4.out.e.setCell (p := ⟨pr, 1, none⟩) (by show w.heap.size ≤ pr; omega) (.int .i64 mm)))
        clear hm hb4 rr f0 f1 f2 o0 o1 o2 o3 RR0 S3
        go_upto_region 10 with (fail)
        clear k1 y1 S4
        generalize W4.setCell ⟨pr, 1, none⟩ (.int .i64 mm) = W5 at *
        by_cases hm0 : mm = 0
        · subst hm0
          obtain ⟨q0, q1, q2, q3, q4, q5, q6⟩ := row7D RR1.out
          obtain ⟨f0, f1, f2⟩ := rowT S5.out.rf
          obtain ⟨o0, o1, o2, o3⟩ := row4e S5.out.ro
          obtain ⟨⟨k2, y2⟩, ⟨k3, y3⟩, rr⟩ := set23_7 RR1.out (.string nm) (.bool sn)
          have RR := hide rr
          have S6 := hide (S5.out.free hpr (fun i hi => (by rw [Below.heap_setCell _ ⟨pr, 3, none⟩ _ _ hi, Below.heap_setCell _ ⟨pr, 2, none⟩ _ _ hi])) ((S5.out.e.setCell (p := ⟨pr, 2, none⟩) (by show w.heap.size ≤ pr; omega) (.string nm)).setCell (p := ⟨pr, 3, none⟩) (by show w.heap.size ≤ pr; omega) (.bool sn)))
          clear rr
          go_upto_region 12 with (fail)
          clear q0 q1 q2 q3 q4 q5 q6 f0 f1 f2 o0 o1 o2 o3 k2 y2 k3 y3 RR1 S5
          generalize (W5.setCell ⟨pr, 2, none⟩ (.string nm)).setCell ⟨pr, 3, none⟩ (.bool sn) = W6 at *

          obtain ⟨q0, q1, q2, q3, q4, q5, q6⟩ := row7D RR.out
          obtain ⟨f0, f1, f2⟩ := rowT S6.out.rf

          obtain ⟨⟨k0, y0⟩, ⟨k1, y1⟩, ⟨k2, y2⟩, ⟨k3, y3⟩, ⟨k4, y4⟩, ⟨k5, y5⟩, ⟨k6, y6⟩, rz⟩ := store7 S6.out.rq (.int .i64 K) (.int .i64 0) (.string nm) (.bool sn) (.string vl) (.bool sv) (.int .i64 0)
          have RZ := hide rz
          have HK2 : Hid (l = if K = 2 then addL mx ⟨nm, vl, nv⟩ l else l) := by show _ = _; rw [if_neg h2]
          clear rz h2
          go_wp2_with fail
          obtain ⟨m0_, m1_, m2_, m3_, m4_, m5_, m6_⟩ := row7D RZ.out
          refine bodyPost_ret (v := .agg #[.int .i64 K, .int .i64 0, .string nm, .bool sn, .string vl, .bool sv, .int .i64 0]) ?_ rfl ⟨K, 0, _, _, _, _, l, g, rfl, ⟨pP, 0, HPx.out, HM.out, .inr ⟨HC.out, HKK.out, rfl, rfl, rfl, rfl, rfl, HK2.out⟩⟩, ?_, ?_, .inl rfl⟩
          · rw [results_cellE rfl]
            go_simp
          · exact S6.out.tl.at_ fun i hi => heap7n (by have := S6.out.lt i hi; omega) _ _ _ _ _ _ _
          · exact FrO.of (below7 S6.out.e (p := w.heap.size + 1 + 1) (by omega) _ _ _ _ _ _ _) HB.out
        · have hz : ((mm : Int) == 0) = false := by simpa using hm0
          have Hm0 := hide hm0
          clear hm0
          have HI : Hid ((if mm = 0 then nm else ⟨#[]⟩) = (⟨#[]⟩ : ByteArray) ∧ (if mm = 0 then sn else false) = false) := ⟨if_neg Hm0.out, if_neg Hm0.out⟩
          have RR := hide RR1.out
          obtain ⟨q0, q1, q2, q3, q4, q5, q6⟩ := row7D RR.out
          obtain ⟨f0, f1, f2⟩ := rowT S5.out.rf
          obtain ⟨o0, o1, o2, o3⟩ := row4e S5.out.ro
          go_upto_region 12 with (fail)
          clear q0 q1 q2 q3 q4 q5 q6 f0 f1 f2 o0 o1 o2 o3

          obtain ⟨q0, q1, q2, q3, q4, q5, q6⟩ := row7D RR.out
          obtain ⟨f0, f1, f2⟩ := rowT S5.out.rf

          obtain ⟨⟨k0, y0⟩, ⟨k1, y1⟩, ⟨k2, y2⟩, ⟨k3, y3⟩, ⟨k4, y4⟩, ⟨k5, y5⟩, ⟨k6, y6⟩, rz⟩ := store7 S5.out.rq (.int .i64 K) (.int .i64 mm) (.string ⟨#[]⟩) (.bool false) (.string vl) (.bool sv) (.int .i64 0)
          have RZ := hide rz
          have HK2 : Hid (l = if K = 2 then addL mx ⟨nm, vl, nv⟩ l else l) := by show _ = _; rw [if_neg h2]
          clear rz h2
          go_wp2_with fail
          obtain ⟨m0_, m1_, m2_, m3_, m4_, m5_, m6_⟩ := row7D RZ.out
          refine bodyPost_ret (v := .agg #[.int .i64 K, .int .i64 mm, .string ⟨#[]⟩, .bool false, .string vl, .bool sv, .int .i64 0]) ?_ rfl ⟨K, mm, _, _, _, _, l, g, rfl, ⟨pP, mm, HPx.out, HM.out, .inr ⟨HC.out, HKK.out, rfl, HI.out.1.symm, HI.out.2.symm, rfl, rfl, HK2.out⟩⟩, ?_, ?_, .inl rfl⟩
          · rw [results_cellE rfl]
            go_simp
          · exact S5.out.tl.at_ fun i hi => heap7n (by have := S5.out.lt i hi; omega) _ _ _ _ _ _ _
          · exact FrO.of (below7 S5.out.e (p := w.heap.size + 1 + 1) (by omega) _ _ _ _ _ _ _) HB.out
end Go.Proofs.YtnkcbljhgcgpaaaDoor
