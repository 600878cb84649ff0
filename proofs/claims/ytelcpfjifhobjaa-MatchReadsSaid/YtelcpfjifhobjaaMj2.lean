/- Layer 49: the example. -/
import Derived.Test.YtelcpfjifhobjaaFrc
import Derived.Test.YtelcpfjifhobjaaFr6
import Derived.Test.YtelcpfjifhobjaaFr9
import Derived.Test.YtelcpfjifhobjaaMj1
import Derived.Deep.RegionHeld3
namespace Go.Proofs.Ytelcpfjifhobjaa
set_option linter.unusedVariables false
set_option linter.unusedSimpArgs false
open Go.RowKit

def z49 : Nat → Int := fun _ => 0
def g49 : Nat → Int := fun i => if i = 7 then 1 else 0
theorem z49_byt : Byt 8 z49 := fun i _ => by simp [z49]
theorem g49_byt : Byt 8 g49 := fun i _ => by unfold g49; split <;> omega
/-- A frame of the type 6 of no stream, with eight bytes 0. -/
theorem ping49 (A : Option Addr) (c : Nat) (w : World) (ha : Rd .u8 w A 8 c z49) : Calls Try.prog 13 #[.agg #[.int .i64 1, .int .i64 6, .int .i64 0, .int .i64 0, .bool false, .slice A 8 c]] w fun e w' => ∃ A2 n2 c2 A3 c3, e = .returned (.tuple #[.agg #[.int .i64 6, .int .i64 0, .int .i64 0, .int .i64 (-1), .slice A2 n2 c2, .slice A3 0 c3, .int .i64 0, .int .i64 0, .bool false, .int .i64 0, .int .i64 0, .int .i64 0, .int .i64 0], .agg #[.int .i64 0, .int .i64 0], .int .i64 0]) ∧ Below w.heap.size w w' :=
  (parse_ok 1 6 0 0 false A 8 c z49 { off := 0 } w (by unfold HdR; omega) (by decide) (by decide) ha z49_byt (by decide)
    (fun q p c' A' B W hB hBp hA h => frame_o 1 0 0 false (.slice A 8 c) 6 (by decide) q p c' 8 A' z49 z49_byt (by decide) (by decide) (by decide) B hB hBp W hA h) rfl (by decide)).mono fun _ _ ⟨A2, c2, A3, c3, h1, _, _, h4⟩ => ⟨A2, _, c2, A3, c3, h1, h4⟩
/-- One of the type 7, whose last four bytes are the number 1. -/
theorem away49 (A : Option Addr) (c : Nat) (w : World) (ha : Rd .u8 w A 8 c g49) : Calls Try.prog 13 #[.agg #[.int .i64 1, .int .i64 7, .int .i64 0, .int .i64 0, .bool false, .slice A 8 c]] w fun e w' => ∃ A2 n2 c2 A3 c3, e = .returned (.tuple #[.agg #[.int .i64 7, .int .i64 0, .int .i64 0, .int .i64 (-1), .slice A2 n2 c2, .slice A3 0 c3, .int .i64 0, .int .i64 0, .bool false, .int .i64 0, .int .i64 0, .int .i64 1, .int .i64 0], .agg #[.int .i64 0, .int .i64 0], .int .i64 0]) ∧ Below w.heap.size w w' :=
  (parse_ok 1 7 0 0 false A 8 c g49 { la := lowN (nbV g49 8 0 4), co := nbV g49 8 (nbT 8 0 4) 4, off := nbT 8 (nbT 8 0 4) 4, ms := ((false || nbM 8 0 4) || nbM 8 (nbT 8 0 4) 4) } w (by unfold HdR; omega) (by decide) (by decide) ha g49_byt (by decide)
    (fun q p c' A' B W hB hBp hA h => frame_g 1 0 0 false (.slice A 8 c) q p c' 8 A' g49 g49_byt (by decide) (by decide) (by decide) B hB hBp W hA h) (by decide) (by decide)).mono fun _ _ ⟨A2, c2, A3, c3, h1, _, _, h4⟩ => ⟨A2, _, c2, A3, c3, by rw [show lowN (nbV g49 8 0 4) = 0 by decide, show nbV g49 8 (nbT 8 0 4) 4 = 1 by decide] at h1; exact h1, h4⟩
theorem results_cell_tmp14 {fn : Func} {p u : Tmp} {ty : TypeId} (h : fn.results = #[.cell p ty, .tmp u]) (tmps : Array Value) (P : Program) (w : World) :
    (results fn tmps).run P w = ((asAddr (tmps.getD p undef)).run P w).andThen fun a w₁ => ((loadVar ty a).run P w₁).andThen fun x w₂ => .ok (.tuple #[x, tmps.getD u undef]) w₂ := by
  simp only [results, h]
  simp [Sem.run_bind, Result.andThen]
set_option maxRecDepth 100000 in
set_option maxHeartbeats 6400000 in
theorem react49 (b : Nat) (A1 A2 : Option Addr) (c1 c2 : Nat) (w : World) (hr : w.heap[b]? = some (.cells #[.int .i64 1, .int .i64 6, .int .i64 0, .int .i64 0, .bool false, .slice A1 8 c1, .int .i64 1, .int .i64 7, .int .i64 0, .int .i64 0, .bool false, .slice A2 8 c2] 24 (0, 0))) (hz : Rd .u8 w A1 8 c1 z49) (hg : Rd .u8 w A2 8 c2 g49) :
    Calls Try.prog 18 #[.slice (some ⟨b, 0, none⟩) 2 2, .int .i64 1, .int .i64 3] w fun e w' => e = .returned (.tuple #[.agg #[.int .i64 2, .int .i64 1], .bool true]) ∧ Below w.heap.size w w' := by
  have al := (Below.refl w.heap.size w).alloc (Nat.le_refl _) (.cells #[.int .i64 0, .int .i64 0] 30)
  have Hw := hide hr
  have Hz := hide hz
  have Hg := hide hg
  have R0 := hide (heap_alloc_new w (.cells #[.int .i64 0, .int .i64 0] 30))
  have B0 := hide al
  clear hr hz hg al
  go_enter Try.func18, Try.ntmps18
  go_wp2_with fail
  generalize w.alloc (.cells #[.int .i64 0, .int .i64 0] 30) = W0 at *
  go_loopw [15] (fun i wr => ∃ k : Int, (k = 0 ∨ k = 1) ∧ i = .int .i64 k ∧ Below w.heap.size w wr ∧ wr.heap[w.heap.size]? = some (.cells #[.int .i64 0, .int .i64 0] 30 (0, 0))) (fun i _ => 2 - (intOf i).toNat)
  case atStart => exact ⟨0, .inl rfl, rfl, B0.out, R0.out⟩
  case round =>
    obtain ⟨k, hk, rfl, hb, hres⟩ := hrel
    have Hb := hide hb
    have Hres := hide hres
    have Rb := hide (keepRow Hw.out hb)
    have c0 := cell_of_row wr b 0 _ _ _ Rb.out
    have c1_ := cell_of_row wr b 1 _ _ _ Rb.out
    have c2_ := cell_of_row wr b 2 _ _ _ Rb.out
    have c3 := cell_of_row wr b 3 _ _ _ Rb.out
    have c4 := cell_of_row wr b 4 _ _ _ Rb.out
    have c5 := cell_of_row wr b 5 _ _ _ Rb.out
    have c6 := cell_of_row wr b 6 _ _ _ Rb.out
    have c7 := cell_of_row wr b 7 _ _ _ Rb.out
    have c8 := cell_of_row wr b 8 _ _ _ Rb.out
    have c9 := cell_of_row wr b 9 _ _ _ Rb.out
    have c10 := cell_of_row wr b 10 _ _ _ Rb.out
    have c11 := cell_of_row wr b 11 _ _ _ Rb.out
    simp at c0 c1_ c2_ c3 c4 c5 c6 c7 c8 c9 c10 c11
    clear hb hres
    rcases hk with rfl | rfl
    · have al0 := (Below.refl wr.heap.size wr).alloc (Nat.le_refl _) (.cells #[.int .i64 1, .int .i64 6, .int .i64 0, .int .i64 0, .bool false, .slice A1 8 c1] 24)
      have RR1 := hide (keepRow Hres.out al0)
      have W1 := hide (heap_alloc_new wr (.cells #[.int .i64 1, .int .i64 6, .int .i64 0, .int .i64 0, .bool false, .slice A1 8 c1] 24))
      have BB1 := hide (Hb.out.of al0)
      have RB1 := hide (keepRow Rb.out al0)
      obtain ⟨s0, s1, s2, s3, s4, s5⟩ := row6 W1.out
      have HX := hide ((Hz.out.belowB (Nat.le_refl _) Hb.out).below al0)
      clear al0
      go_wp2_with fail
      refine (ping49 A1 c1 _ HX.out).mono ?_
      rintro e w2 ⟨B2, n2, e2, B3, e3, rfl, hb2⟩
      have al1 := (Below.refl w2.heap.size w2).alloc (Nat.le_refl _) (.cells #[.int .i64 6, .int .i64 0, .int .i64 0, .int .i64 (-1), .slice B2 n2 e2, .slice B3 0 e3, .int .i64 0, .int .i64 0, .bool false, .int .i64 0, .int .i64 0, .int .i64 0, .int .i64 0] 28)
      have al2 := (Below.refl (w2.alloc (.cells #[.int .i64 6, .int .i64 0, .int .i64 0, .int .i64 (-1), .slice B2 n2 e2, .slice B3 0 e3, .int .i64 0, .int .i64 0, .bool false, .int .i64 0, .int .i64 0, .int .i64 0, .int .i64 0] 28)).heap.size (w2.alloc (.cells #[.int .i64 6, .int .i64 0, .int .i64 0, .int .i64 (-1), .slice B2 n2 e2, .slice B3 0 e3, .int .i64 0, .int .i64 0, .bool false, .int .i64 0, .int .i64 0, .int .i64 0, .int .i64 0] 28))).alloc (Nat.le_refl _) (.cells #[.int .i64 0, .int .i64 0] 30)
      have RR2 := hide (keepRow RR1.out (hb2.of (al1.of al2)))
      have BB2 := hide (BB1.out.of (hb2.of (al1.of al2)))
      have W2 := hide (keepRow W1.out (hb2.of (al1.of al2)))
      have FF2 := hide (keepRow (heap_alloc_new w2 (.cells #[.int .i64 6, .int .i64 0, .int .i64 0, .int .i64 (-1), .slice B2 n2 e2, .slice B3 0 e3, .int .i64 0, .int .i64 0, .bool false, .int .i64 0, .int .i64 0, .int .i64 0, .int .i64 0] 28)) al2)
      have UU2 : Hid (((w2.alloc (.cells #[.int .i64 6, .int .i64 0, .int .i64 0, .int .i64 (-1), .slice B2 n2 e2, .slice B3 0 e3, .int .i64 0, .int .i64 0, .bool false, .int .i64 0, .int .i64 0, .int .i64 0, .int .i64 0] 28)).alloc (.cells #[.int .i64 0, .int .i64 0] 30)).heap[w2.heap.size + 1]? = some (.cells #[.int .i64 0, .int .i64 0] 30 (0, 0))) := by
        have h := heap_alloc_new (w2.alloc (.cells #[.int .i64 6, .int .i64 0, .int .i64 0, .int .i64 (-1), .slice B2 n2 e2, .slice B3 0 e3, .int .i64 0, .int .i64 0, .bool false, .int .i64 0, .int .i64 0, .int .i64 0, .int .i64 0] 28)) (.cells #[.int .i64 0, .int .i64 0] 30)
        have e : (w2.alloc (.cells #[.int .i64 6, .int .i64 0, .int .i64 0, .int .i64 (-1), .slice B2 n2 e2, .slice B3 0 e3, .int .i64 0, .int .i64 0, .bool false, .int .i64 0, .int .i64 0, .int .i64 0, .int .i64 0] 28)).heap.size = w2.heap.size + 1 := by simp
        rw [e] at h
        exact h
      clear hb2 al1 al2 s0 s1 s2 s3 s4 s5 c0 c1_ c2_ c3 c4 c5 c6 c7 c8 c9 c10 c11
      obtain ⟨s0, s1, s2, s3, s4, s5⟩ := row6 W2.out
      obtain ⟨u0, u1⟩ := row2 UU2.out
      obtain ⟨g0_, g1_, g2_, g3_, g4_, g5_, g6_, g7_, g8_, g9_, g10_, g11_, g12_⟩ := row13 FF2.out
      go_wp2_with fail
      exact ⟨⟨1, .inr rfl, rfl, BB2.out, RR2.out⟩, by simp [intOf]⟩
    · have al0 := (Below.refl wr.heap.size wr).alloc (Nat.le_refl _) (.cells #[.int .i64 1, .int .i64 7, .int .i64 0, .int .i64 0, .bool false, .slice A2 8 c2] 24)
      have RR1 := hide (keepRow Hres.out al0)
      have W1 := hide (heap_alloc_new wr (.cells #[.int .i64 1, .int .i64 7, .int .i64 0, .int .i64 0, .bool false, .slice A2 8 c2] 24))
      have BB1 := hide (Hb.out.of al0)
      have RB1 := hide (keepRow Rb.out al0)
      obtain ⟨s0, s1, s2, s3, s4, s5⟩ := row6 W1.out
      have HX := hide ((Hg.out.belowB (Nat.le_refl _) Hb.out).below al0)
      clear al0
      go_wp2_with fail
      refine (away49 A2 c2 _ HX.out).mono ?_
      rintro e w2 ⟨B2, n2, e2, B3, e3, rfl, hb2⟩
      have al1 := (Below.refl w2.heap.size w2).alloc (Nat.le_refl _) (.cells #[.int .i64 7, .int .i64 0, .int .i64 0, .int .i64 (-1), .slice B2 n2 e2, .slice B3 0 e3, .int .i64 0, .int .i64 0, .bool false, .int .i64 0, .int .i64 0, .int .i64 1, .int .i64 0] 28)
      have al2 := (Below.refl (w2.alloc (.cells #[.int .i64 7, .int .i64 0, .int .i64 0, .int .i64 (-1), .slice B2 n2 e2, .slice B3 0 e3, .int .i64 0, .int .i64 0, .bool false, .int .i64 0, .int .i64 0, .int .i64 1, .int .i64 0] 28)).heap.size (w2.alloc (.cells #[.int .i64 7, .int .i64 0, .int .i64 0, .int .i64 (-1), .slice B2 n2 e2, .slice B3 0 e3, .int .i64 0, .int .i64 0, .bool false, .int .i64 0, .int .i64 0, .int .i64 1, .int .i64 0] 28))).alloc (Nat.le_refl _) (.cells #[.int .i64 0, .int .i64 0] 30)
      have RR2 := hide (keepRow RR1.out (hb2.of (al1.of al2)))
      have BB2 := hide (BB1.out.of (hb2.of (al1.of al2)))
      have W2 := hide (keepRow W1.out (hb2.of (al1.of al2)))
      have FF2 := hide (keepRow (heap_alloc_new w2 (.cells #[.int .i64 7, .int .i64 0, .int .i64 0, .int .i64 (-1), .slice B2 n2 e2, .slice B3 0 e3, .int .i64 0, .int .i64 0, .bool false, .int .i64 0, .int .i64 0, .int .i64 1, .int .i64 0] 28)) al2)
      have UU2 : Hid (((w2.alloc (.cells #[.int .i64 7, .int .i64 0, .int .i64 0, .int .i64 (-1), .slice B2 n2 e2, .slice B3 0 e3, .int .i64 0, .int .i64 0, .bool false, .int .i64 0, .int .i64 0, .int .i64 1, .int .i64 0] 28)).alloc (.cells #[.int .i64 0, .int .i64 0] 30)).heap[w2.heap.size + 1]? = some (.cells #[.int .i64 0, .int .i64 0] 30 (0, 0))) := by
        have h := heap_alloc_new (w2.alloc (.cells #[.int .i64 7, .int .i64 0, .int .i64 0, .int .i64 (-1), .slice B2 n2 e2, .slice B3 0 e3, .int .i64 0, .int .i64 0, .bool false, .int .i64 0, .int .i64 0, .int .i64 1, .int .i64 0] 28)) (.cells #[.int .i64 0, .int .i64 0] 30)
        have e : (w2.alloc (.cells #[.int .i64 7, .int .i64 0, .int .i64 0, .int .i64 (-1), .slice B2 n2 e2, .slice B3 0 e3, .int .i64 0, .int .i64 0, .bool false, .int .i64 0, .int .i64 0, .int .i64 1, .int .i64 0] 28)).heap.size = w2.heap.size + 1 := by simp
        rw [e] at h
        exact h
      clear hb2 al1 al2 s0 s1 s2 s3 s4 s5 c0 c1_ c2_ c3 c4 c5 c6 c7 c8 c9 c10 c11
      obtain ⟨s0, s1, s2, s3, s4, s5⟩ := row6 W2.out
      obtain ⟨u0, u1⟩ := row2 UU2.out
      obtain ⟨g0_, g1_, g2_, g3_, g4_, g5_, g6_, g7_, g8_, g9_, g10_, g11_, g12_⟩ := row13 FF2.out
      obtain ⟨⟨k0, f0⟩, ⟨k1, f1⟩, rr⟩ := store2f RR2.out (.int .i64 2) (.int .i64 1)
      have RF := hide rr
      have EE := hide (BB2.out.trans (FrS.set2 (B := w.heap.size) (S := fun _ => True) (Nat.le_refl _) (rowLt RR2.out) trivial (.int .i64 2) (.int .i64 1)).bel)
      clear rr
      go_wp2_with fail
      obtain ⟨o0, o1⟩ := row2 RF.out
      refine bodyPost_ret (v := .tuple #[.agg #[.int .i64 2, .int .i64 1], .bool true]) ?_ rfl ⟨rfl, EE.out⟩
      rw [results_cell_tmp14 rfl]
      go_simp
end Go.Proofs.Ytelcpfjifhobjaa
