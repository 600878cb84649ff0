/- Layer 23: a decoder that is not there, and one that nobody made. -/
import Derived.Test.YtnkcbljhgcgpaaaDoorDec
namespace Go.Proofs.YtnkcbljhgcgpaaaDoor
set_option linter.unusedVariables false
set_option linter.unusedSimpArgs false
open Go.RowKit Go.Deep Go.ChangeShapes Go.WideShapes

theorem same3L {w : World} {A A2 : Option Addr} {c c2 : Nat} {l : List Int} (h : RdV 1 w A l.length c (inV l)) (k : RdV 1 w A2 l.length c2 (inV l)) :
    Calls Tryd.prog 16 #[.slice A l.length c, .slice A2 l.length c2] w fun e w' => e = .returned (.bool true) ∧ Below w.heap.size w w' :=
  (rsame3_yes A A2 l.length c c2 _ _ w (rdI_of h) (rdI_of k) fun _ _ => rfl).mono fun e w' ⟨h1, h2⟩ => ⟨h1, drawn_below h2 _⟩
theorem same21L {w : World} {A A2 : Option Addr} {c c2 : Nat} {l : List Fd} (h : RdV 3 w A l.length c (fdV (fn l))) (k : RdV 3 w A2 l.length c2 (fdV (fn l))) (hn : l.length ≤ 1000000) :
    Calls Tryd.prog 15 #[.slice A l.length c, .slice A2 l.length c2] w fun e w' => e = .returned (.bool true) ∧ Below w.heap.size w w' := rsame21 h k hn
set_option maxRecDepth 20000 in
set_option maxHeartbeats 6400000 in
theorem nobody_walk23 (A : Option Addr) (n c : Nat) (f : Nat → Int) (w : World) (ha : Rd .u8 w A n c f) (hb : Byt n f) (T : TypeId) (fr : Nat × Nat) (hg : w.heap[0]? = some (.cells formsV T fr)) :
    Calls Tryd.prog 3 #[.slice A n c] w (Yes w) := by
  have G0 := hide hg
  have Ha := hide ha
  have Hb := hide hb
  clear hg ha hb
  by_cases hbig : 120 < n
  · have hd : decide ((120 : Int) < (n : Int)) = true := decide_eq_true (by omega)
    clear hbig
    go_enter Tryd.func3, Tryd.ntmps3
    go_wp2_with fail
    refine (alive23 _ T fr G0.out).mono ?_
    rintro e w1 ⟨rfl, hb1⟩
    have HB1 := hide hb1
    clear hb1
    go_wp2_with fail
    go_ret
    exact ⟨rfl, HB1.out⟩
  have hd : decide ((120 : Int) < (n : Int)) = false := decide_eq_false (by omega)
  have Hn : Hid (n ≤ 120) := by show _ ≤ _; omega
  clear hbig
  have al := (Below.refl w.heap.size w).alloc (Nat.le_refl _) (.cells #[.slice none 0 0, .int .i64 0, .int .i64 0] 29)
  have T0 : Hid (TL w.heap.size (w.alloc (.cells #[.slice none 0 0, .int .i64 0, .int .i64 0] 29)) w.heap.size none 0 []) := TL.new w 0 (Nat.le_refl _) (by omega) _
  have E0 := hide al
  have Ga := hide ((al.block _ (rowLt G0.out)).trans G0.out)
  have hgl := rowLt G0.out
  clear al G0
  go_enter Tryd.func3, Tryd.ntmps3
  go_wp2_with fail
  generalize hW : w.alloc (.cells #[.slice none 0 0, .int .i64 0, .int .i64 0] 29) = W0 at *
  clear hW
  refine (decodeNil A n c _).mono ?_
  rintro e w1 ⟨rfl, hb1⟩
  have al := (Below.refl w1.heap.size w1).alloc (Nat.le_refl _) (.cells #[.slice none 0 0, .slice none 0 0] 32)
  have bb := hb1.of al
  have Q1 := hide (heap_alloc_new w1 (.cells #[.slice none 0 0, .slice none 0 0] 32))
  have T1 := hide (T0.out.below bb)
  have E1 := hide (E0.out.of bb)
  have G1 := hide ((bb.block _ (rowLt Ga.out)).trans Ga.out)
  have hp1 : Hid (w.heap.size < w1.heap.size) := Nat.lt_of_lt_of_le (T0.out.lt _ (.inl rfl)).2 hb1.size
  clear al bb hb1 T0 E0 Ga
  go_upto_region 6 with (fail)
  generalize hW : w1.alloc (.cells #[.slice none 0 0, .slice none 0 0] 32) = W1 at *
  generalize hP : w1.heap.size = q1 at *
  clear hW hP
  go_wp2_with fail
  refine (decodeQ T1.out E1.out.size (fun f hf => absurd hf (by simp)) (T := 0) (Nat.le_refl _) (by omega) A n c f (Ha.out.below E1.out) Hb.out (by have := Hn.out; omega) T fr G1.out).mono ?_
  rintro e w2 ⟨r, A1, c1, A2, c2, g', rfl, hr, ho1, ho2, ht2, hf2, _⟩
  have hok := out_ok hr Hb.out (by have := Hn.out; omega) (fun f hf => absurd hf (by simp)) (Nat.le_refl 0) (by omega)
  have hnf : (oF r).length ≤ 1000000 := by have := hok.2.2.2.1; have := Hn.out; omega
  have hnt : (oT [] r).length ≤ 1000000 := by have := hok.2.1; have := Hn.out; omega
  have Hwl : Hid (∀ f ∈ oT [] r, wt f ≤ 1000000) := fun f hf => (hok.1 f hf).wt
  have HR := hide hr
  have al := (Below.refl w2.heap.size w2).alloc (Nat.le_refl _) (.cells #[.slice A1 (oF r).length c1, .slice A2 (oS r).length c2] 32)
  have Q2 := hide (heap_alloc_new w2 (.cells #[.slice A1 (oF r).length c1, .slice A2 (oS r).length c2] 32))
  have Q1b := hide (keepRow (hf2.row Q1.out (fun h => by have := hp1.out; omega)) al)
  have T2 := hide (ht2.below al)
  have E2 := hide ((E1.out.trans hf2.below).of al)
  have H2 : Hid (Rd .u8 (w2.alloc (.cells #[.slice A1 (oF r).length c1, .slice A2 (oS r).length c2] 32)) A n c f) := Ha.out.below E2.out
  have R1 := hide (ho1.rdS.below36O al)
  have R2 := hide (ho2.rdS.below36O al)
  have G2 := hide ((al.block _ (rowLt (hf2.row G1.out (fun h => by omega)))).trans (hf2.row G1.out (fun h => by omega)))
  have hp2 : Hid (q1 < w2.heap.size) := Nat.lt_of_lt_of_le (rowLt Q1.out) hf2.below.size
  clear al hr ho1 ho2 ht2 hf2 hok T1 E1 G1 Q1
  go_upto_region 7 with (fail)
  generalize hW : w2.alloc (.cells #[.slice A1 (oF r).length c1, .slice A2 (oS r).length c2] 32) = W2 at *
  generalize hP : w2.heap.size = q2 at *
  clear hW hP
  have C : Calls Tryd.prog 11 #[.agg #[.slice none 0 0, .int .i64 0], .slice A n c] W2 (DrQ f n 0 [] none W2) := rdecodeQ (A := none) (c := 0) (mx := 0) (tb := []) (T := 0) (nilRdV 3 W2 _) (fun a ha => by cases ha) (by omega) (fun f hf => absurd hf (by simp)) (Nat.le_refl _) (by omega) A n c f H2.out Hb.out (by have := Hn.out; omega)
  have HC := hide C
  clear C
  go_wp2_with fail
  refine HC.out.mono ?_
  rintro e w3 ⟨r', A3, c3, A4, c4, An, cn, rfl, hr3, h3, h4, h5, h6, hb3, _, _⟩
  obtain rfl := HR.out.same hr3
  have al := (Below.refl w3.heap.size w3).alloc (Nat.le_refl _) (.cells #[.slice An (oT [] r).length cn, .int .i64 (oM 0 r : Int)] 37)
  have bb := hb3.of al
  have Q3 := hide (heap_alloc_new w3 (.cells #[.slice An (oT [] r).length cn, .int .i64 (oM 0 r : Int)] 37))
  have Q1c := hide (keepRow Q1b.out bb)
  have Q2c := hide (keepRow Q2.out bb)
  have T0 := hide ((T2.out.below bb).at_ (w' := (w3.alloc (.cells #[.slice An (oT [] r).length cn, .int .i64 (oM 0 r : Int)] 37)).drew) fun _ _ => rfl)
  have E0 := hide (E2.out.of bb).drew
  have X0 := hide (R1.out.below36O bb)
  have Y0 := hide (R2.out.below36O bb)
  have X0' := hide (h3.below36O al)
  have Y0' := hide (h4.below36O al)
  have Z0 := hide (h5.below36O al)
  have G0 := hide ((bb.block _ (rowLt G2.out)).trans G2.out)
  clear al bb hb3 hr3 h3 h4 h5 h6 HC T2 E2 H2 R1 R2 G2 Q1b Q2
  go_upto_region 8 with (fail)
  generalize hW : w3.alloc (.cells #[.slice An (oT [] r).length cn, .int .i64 (oM 0 r : Int)] 37) = W at *
  generalize hP : w3.heap.size = q3 at *
  clear hW hP
  obtain ⟨x0, x1⟩ := row2 Q1c.out
  obtain ⟨y0, y1⟩ := row2 Q2c.out
  obtain ⟨t0, t1⟩ := row2 Q3.out
  have X0d : Hid (RdV 3 W.drew A1 (oF r).length c1 (fdV (fn (oF r)))) := X0.out
  have X0'd : Hid (RdV 3 W.drew A3 (oF r).length c3 (fdV (fn (oF r)))) := X0'.out
  have Y0d : Hid (RdV 1 W.drew A2 (oS r).length c2 (inV (oS r))) := Y0.out
  have Y0'd : Hid (RdV 1 W.drew A4 (oS r).length c4 (inV (oS r))) := Y0'.out
  have Z0d : Hid (RdV 3 W.drew An (oT [] r).length cn (fdV (fn (oT [] r)))) := Z0.out
  have G0d : Hid (W.drew.heap[0]? = some (.cells formsV T fr)) := G0.out
  have hee : (oE r == oE r) = true := by simp
  have hmm : ((oM 0 r : Int) == (oM 0 r : Int)) = true := by simp
  have hss : ((sumL (oT [] r) : Int) == (sumL (oT [] r) : Int)) = true := by simp
  clear X0 X0' Y0 Y0' Z0 G0
  go_region_held3 (fun W => W.cell? ⟨q1, 0, none⟩ = some (.slice none 0 0) ∧ W.cell? ⟨q1, 1, none⟩ = some (.slice none 0 0) ∧ W.cell? ⟨q2, 0, none⟩ = some (.slice A1 (oF r).length c1) ∧ W.cell? ⟨q2, 1, none⟩ = some (.slice A2 (oS r).length c2) ∧ W.cell? ⟨q3, 0, none⟩ = some (.slice An (oT [] r).length cn) ∧ W.cell? ⟨q3, 1, none⟩ = some (.int .i64 (oM 0 r : Int)))
    ((first | exact ⟨x0, x1, y0, y1, t0, t1⟩ | exact S1.out | exact S2.out | exact S3.out | exact S4.out | (go_keep; done)))
    ((first
      | (go_at_call 12; (with_reducible refine (dmaxNil _).mono ?_); rintro e wl ⟨rfl, rfl⟩)
      | (go_at_call 13; (with_reducible refine (dsizeNil _).mono ?_); rintro e wl ⟨rfl, rfl⟩)
      | (go_at_call 14; (with_reducible refine (dallNil _).mono ?_); rintro e wl ⟨rfl, rfl⟩)
      | (go_at_call 15; (with_reducible refine (same21L X0d.out X0'd.out hnf).mono ?_); rintro e w1_ ⟨rfl, hb⟩; have T1 := hide (T0.out.below hb); have E1 := hide (E0.out.of hb); have X1 := hide (X0d.out.below36O hb); have X'1 := hide (X0'd.out.below36O hb); have Y1 := hide (Y0d.out.below36O hb); have Y'1 := hide (Y0'd.out.below36O hb); have Z1 := hide (Z0d.out.below36O hb); have G1 := hide ((hb.block _ (rowLt G0d.out)).trans G0d.out); have kc := fun {a : Addr} {v : Value} (h : W.drew.cell? a = some v) => (hb.cell (World.block_lt_of_cell? W.drew _ h)).trans h; have S1 := hide (And.intro (kc x0) (And.intro (kc x1) (And.intro (kc y0) (And.intro (kc y1) (And.intro (kc t0) (kc t1)))))); clear kc hb)
      | (go_at_call 16; (with_reducible refine (same3L Y1.out Y'1.out).mono ?_); rintro e w2_ ⟨rfl, hb⟩; have T2 := hide (T1.out.below hb); have E2 := hide (E1.out.of hb); have X2 := hide (X1.out.below36O hb); have X'2 := hide (X'1.out.below36O hb); have Y2 := hide (Y1.out.below36O hb); have Y'2 := hide (Y'1.out.below36O hb); have Z2 := hide (Z1.out.below36O hb); have G2 := hide ((hb.block _ (rowLt G1.out)).trans G1.out); have kc := fun {a : Addr} {v : Value} (h : w1_.cell? a = some v) => (hb.cell (World.block_lt_of_cell? w1_ _ h)).trans h; have S2 := hide (And.intro (kc S1.out.1) (And.intro (kc S1.out.2.1) (And.intro (kc S1.out.2.2.1) (And.intro (kc S1.out.2.2.2.1) (And.intro (kc S1.out.2.2.2.2.1) (kc S1.out.2.2.2.2.2)))))); clear kc hb)
      | (go_at_call 12; (with_reducible refine (dmax T2.out).mono ?_); rintro e wl ⟨rfl, rfl⟩)
      | (go_at_call 13; (with_reducible refine (dsize T2.out).mono ?_); rintro e wl ⟨rfl, rfl⟩)
      | (go_at_call 17; (with_reducible refine (rsizeL Z2.out hnt Hwl.out).mono ?_); rintro e w3_ ⟨rfl, hb⟩; have T3 := hide (T2.out.below hb); have E3 := hide (E2.out.of hb); have X3 := hide (X2.out.below36O hb); have X'3 := hide (X'2.out.below36O hb); have Y3 := hide (Y2.out.below36O hb); have Y'3 := hide (Y'2.out.below36O hb); have Z3 := hide (Z2.out.below36O hb); have G3 := hide ((hb.block _ (rowLt G2.out)).trans G2.out); have kc := fun {a : Addr} {v : Value} (h : w2_.cell? a = some v) => (hb.cell (World.block_lt_of_cell? w2_ _ h)).trans h; have S3 := hide (And.intro (kc S2.out.1) (And.intro (kc S2.out.2.1) (And.intro (kc S2.out.2.2.1) (And.intro (kc S2.out.2.2.2.1) (And.intro (kc S2.out.2.2.2.2.1) (kc S2.out.2.2.2.2.2)))))); clear kc hb)
      | (go_at_call 9; (with_reducible refine (alive23 _ T fr G3.out).mono ?_); rintro e w4_ ⟨rfl, hb⟩; have T4 := hide (T3.out.below hb); have E4 := hide (E3.out.of hb); have X4 := hide (X3.out.below36O hb); have X'4 := hide (X'3.out.below36O hb); have Y4 := hide (Y3.out.below36O hb); have Y'4 := hide (Y'3.out.below36O hb); have Z4 := hide (Z3.out.below36O hb); have G4 := hide ((hb.block _ (rowLt G3.out)).trans G3.out); have kc := fun {a : Addr} {v : Value} (h : w3_.cell? a = some v) => (hb.cell (World.block_lt_of_cell? w3_ _ h)).trans h; have S4 := hide (And.intro (kc S3.out.1) (And.intro (kc S3.out.2.1) (And.intro (kc S3.out.2.2.1) (And.intro (kc S3.out.2.2.2.1) (And.intro (kc S3.out.2.2.2.2.1) (kc S3.out.2.2.2.2.2)))))); clear kc hb)))
  all_goals
    go_wp2_with fail
    go_ret
    exact ⟨rfl, E4.out⟩
end Go.Proofs.YtnkcbljhgcgpaaaDoor
