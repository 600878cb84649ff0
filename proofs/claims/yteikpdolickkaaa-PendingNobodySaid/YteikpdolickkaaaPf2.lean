/- Layer 32: the reference's Values. -/
import Derived.Test.YteikpdolickkaaaPf1
namespace Go.Proofs.Yteikpdolickkaaa
open Go.RowKit Go.Deep Go.ChangeShapes Go.WideShapes

/-- A list of settings. -/
structure Sg where
  A : Option Addr
  n : Nat
  c : Nat
  f : Nat → Int
  g : Nat → Int
def sgF (D : Nat → Sg) : Nat → Value := fun i => .slice (D i).A (D i).n (D i).c
/-- The values of a number. -/
def vq (D : Nat → Sg) : Nat → Nat → Int
  | 0 => initF
  | k + 1 => apv (D k).f (D k).g (D k).n (vq D k)
theorem initF_row : ini = vA initF := by unfold ini vA initF; rfl
set_option maxRecDepth 20000 in
theorem rapplyV (s : Sg) (v : Nat → Int) (w : World) (ha : Rd2 w s.A s.n s.c s.f s.g) (hn : s.n ≤ 1000) :
    Calls Try.prog 144 #[vA v, .slice s.A s.n s.c] w fun e w' => e = .returned (vA (apv s.f s.g s.n v)) ∧ Below w.heap.size w w' := by
  refine (rapply_any s.A s.n s.c s.f s.g (v 0) (v 1) (v 2) (v 3) (v 4) (v 5) w ha (by omega)).mono ?_
  rintro e w' ⟨rfl, h⟩
  exact ⟨rfl, h⟩
theorem set6 {w : World} {p : Nat} {T : TypeId} {a0 a1 a2 a3 a4 a5 : Value} (h : w.heap[p]? = some (.cells #[a0, a1, a2, a3, a4, a5] T (0, 0))) (b0 b1 b2 b3 b4 b5 : Value) :
    ((((((w.setCell ⟨p, 0, none⟩ b0).setCell ⟨p, 1, none⟩ b1).setCell ⟨p, 2, none⟩ b2).setCell ⟨p, 3, none⟩ b3).setCell ⟨p, 4, none⟩ b4).setCell ⟨p, 5, none⟩ b5).heap[p]? = some (.cells #[b0, b1, b2, b3, b4, b5] T (0, 0)) := by
  have h1 := setRow w p 0 b0 h
  have h2 := setRow _ p 1 b1 h1
  have h3 := setRow _ p 2 b2 h2
  have h4 := setRow _ p 3 b3 h3
  have h5 := setRow _ p 4 b4 h4
  have h6 := setRow _ p 5 b5 h5
  simp only [List.setIfInBounds_toArray, List.set_cons_zero, List.set_cons_succ] at h6
  exact h6
theorem set6o {w : World} {p q : Nat} {o : Obj} (h : w.heap[q]? = some o) (hne : q ≠ p) (b0 b1 b2 b3 b4 b5 : Value) :
    ((((((w.setCell ⟨p, 0, none⟩ b0).setCell ⟨p, 1, none⟩ b1).setCell ⟨p, 2, none⟩ b2).setCell ⟨p, 3, none⟩ b3).setCell ⟨p, 4, none⟩ b4).setCell ⟨p, 5, none⟩ b5).heap[q]? = some o := by
  rw [Below.heap_setCell _ ⟨p, 5, none⟩ _ _ hne, Below.heap_setCell _ ⟨p, 4, none⟩ _ _ hne, Below.heap_setCell _ ⟨p, 3, none⟩ _ _ hne, Below.heap_setCell _ ⟨p, 2, none⟩ _ _ hne, Below.heap_setCell _ ⟨p, 1, none⟩ _ _ hne, Below.heap_setCell _ ⟨p, 0, none⟩ _ _ hne]
  exact h
theorem set6b {B : Nat} {w0 w : World} {p : Nat} (h : Below B w0 w) (hp : B ≤ p) (b0 b1 b2 b3 b4 b5 : Value) :
    Below B w0 ((((((w.setCell ⟨p, 0, none⟩ b0).setCell ⟨p, 1, none⟩ b1).setCell ⟨p, 2, none⟩ b2).setCell ⟨p, 3, none⟩ b3).setCell ⟨p, 4, none⟩ b4).setCell ⟨p, 5, none⟩ b5) :=
  (((((h.setCell hp _).setCell hp _).setCell hp _).setCell hp _).setCell hp _).setCell hp _
set_option maxRecDepth 20000 in
set_option maxHeartbeats 1600000 in
theorem rvalues32 {w : World} {A1 : Option Addr} {m c1 : Nat} {a : Int} {vn : Value} (hvn : ∃ A n c, vn = .slice A n c) {D : Nat → Sg} (hl : RdV 1 w A1 m c1 (sgF D)) (he : ∀ i, i < m → Rd2 w (D i).A (D i).n (D i).c (D i).f (D i).g ∧ (D i).n ≤ 1000) (hm : m ≤ 100) (k : Nat) (hk : k ≤ m) :
    Calls Try.prog 120 #[.agg #[.slice A1 m c1, .int .i64 a, vn], .int .i64 (k : Int)] w fun e w' => e = .returned (vA (vq D k)) ∧ Below w.heap.size w w' := by
  have Hl := hide hl
  have He := hide he
  obtain ⟨A3, n3, c3, rfl⟩ := hvn
  have R0 := hide (keepRow (heap_alloc_new w (.cells #[.slice A1 m c1, .int .i64 a, .slice A3 n3 c3] 95)) ((Below.refl _ _).alloc (Nat.le_refl _) (.cells #[.int .i64 0, .int .i64 0, .int .i64 0, .int .i64 0, .int .i64 0, .int .i64 0] 113)))
  have R1 := hide (heap_alloc_new (w.alloc (.cells #[.slice A1 m c1, .int .i64 a, .slice A3 n3 c3] 95)) (.cells #[.int .i64 0, .int .i64 0, .int .i64 0, .int .i64 0, .int .i64 0, .int .i64 0] 113))
  have E0 := hide (((Below.refl w.heap.size w).alloc (Nat.le_refl _) (.cells #[.slice A1 m c1, .int .i64 a, .slice A3 n3 c3] 95)).alloc (by simp) (.cells #[.int .i64 0, .int .i64 0, .int .i64 0, .int .i64 0, .int .i64 0, .int .i64 0] 113))
  clear hl he
  go_enter Try.func120, Try.ntmps120
  go_wp2_with fail
  have hq : (w.alloc (.cells #[.slice A1 m c1, .int .i64 a, .slice A3 n3 c3] 95)).heap.size = w.heap.size + 1 := by simp
  rw [hq] at R1
  clear hq
  generalize (w.alloc (.cells #[.slice A1 m c1, .int .i64 a, .slice A3 n3 c3] 95)).alloc (.cells #[.int .i64 0, .int .i64 0, .int .i64 0, .int .i64 0, .int .i64 0, .int .i64 0] 113) = W0 at *
  refine (rinit_any _).mono ?_
  rintro e w1 ⟨rfl, hb1⟩
  rw [initF_row]
  have R2 := hide (keepRow R0.out hb1)
  have R3 := hide (keepRow R1.out hb1)
  have E1 := hide (E0.out.of hb1)
  have Hlt := hide (Nat.lt_of_lt_of_le (rowLt R1.out) hb1.size)
  clear hb1 R0 R1 E0
  have al := (Below.refl w1.heap.size w1).alloc (Nat.le_refl _) (.cells #[.int .i64 (initF 0), .int .i64 (initF 1), .int .i64 (initF 2), .int .i64 (initF 3), .int .i64 (initF 4), .int .i64 (initF 5)] 113)
  have P0 := hide (heap_alloc_new w1 (.cells #[.int .i64 (initF 0), .int .i64 (initF 1), .int .i64 (initF 2), .int .i64 (initF 3), .int .i64 (initF 4), .int .i64 (initF 5)] 113))
  have R4 := hide (keepRow R2.out al)
  have R5 := hide (keepRow R3.out al)
  have E2 := hide (E1.out.of al)
  unfold vA
  go_wp2_with fail
  generalize w1.alloc (.cells #[.int .i64 (initF 0), .int .i64 (initF 1), .int .i64 (initF 2), .int .i64 (initF 3), .int .i64 (initF 4), .int .i64 (initF 5)] 113) = W2 at *
  have Hpv : Hid (w.heap.size ≠ w1.heap.size ∧ w.heap.size + 1 ≠ w1.heap.size ∧ w.heap.size ≤ w1.heap.size) := by
    have := Hlt.out
    exact ⟨by omega, by omega, by omega⟩
  generalize hpv : w1.heap.size = pv at *
  clear al R2 R3 E1 hpv
  go_loopw [6] (fun i wr => ∃ x : Nat, x ≤ k ∧ i = .int .i64 x ∧ wr.heap[pv]? = some (.cells #[.int .i64 (vq D x 0), .int .i64 (vq D x 1), .int .i64 (vq D x 2), .int .i64 (vq D x 3), .int .i64 (vq D x 4), .int .i64 (vq D x 5)] 113 (0, 0)) ∧ wr.heap[w.heap.size]? = some (.cells #[.slice A1 m c1, .int .i64 a, .slice A3 n3 c3] 95 (0, 0)) ∧ wr.heap[w.heap.size + 1]? = some (.cells #[.int .i64 0, .int .i64 0, .int .i64 0, .int .i64 0, .int .i64 0, .int .i64 0] 113 (0, 0)) ∧ Below w.heap.size w wr) (fun i _ => k - (intOf i).toNat)
  case atStart => exact ⟨0, Nat.zero_le _, rfl, P0.out, R4.out, R5.out, E2.out⟩
  case round =>
    obtain ⟨x, hx, rfl, hp, hr, hs, hbl⟩ := hrel
    clear P0 R4 R5 E2
    obtain ⟨p0, p1, p2, p3, p4, p5⟩ := row6 hp
    obtain ⟨t0, t1, t2⟩ := rowQ hr
    have HP := hide hp
    have HR := hide hr
    have HS := hide hs
    have HE := hide hbl
    have HEd : Hid (Below w.heap.size w wr.drew) := hbl.drew
    clear hp hr hs hbl
    by_cases hlt : x < k
    · have hd : (x : Int) < (k : Int) := by omega
      have hd2 : (x : Int) < (m : Int) := by omega
      have hd3 : x < m := by omega
      obtain ⟨b, off, rfl, hc⟩ := Hl.out.2.2.2 (by omega)
      have hk1 : wr.cell? ⟨b, off + x, none⟩ = some (.slice (D x).A (D x).n (D x).c) := by
        have h1 := hc x (by omega)
        rw [HE.out.cell (World.block_lt_of_cell? w _ h1)]
        exact h1
      clear hc
      go_wp2_with fail
      go_still_tail 6, (by kernel_rfl)
      change wpList _ _ _ _ _ wr.drew
      go_wp2_with fail
      refine (rapplyV (D x) (vq D x) wr.drew ((He.out x hd3).1.below (by exact (HEd.out))) (He.out x hd3).2).mono ?_
      rintro e w4 ⟨rfl, hb4⟩
      have hv : apv (D x).f (D x).g (D x).n (vq D x) = vq D (x + 1) := rfl
      rw [hv]
      have K4 := keepRow (w := wr.drew) HP.out hb4
      have K5 := hide (set6 K4 (.int .i64 (vq D (x + 1) 0)) (.int .i64 (vq D (x + 1) 1)) (.int .i64 (vq D (x + 1) 2)) (.int .i64 (vq D (x + 1) 3)) (.int .i64 (vq D (x + 1) 4)) (.int .i64 (vq D (x + 1) 5)))
      have K6 := hide (set6o (keepRow (w := wr.drew) HR.out hb4) Hpv.out.1 (.int .i64 (vq D (x + 1) 0)) (.int .i64 (vq D (x + 1) 1)) (.int .i64 (vq D (x + 1) 2)) (.int .i64 (vq D (x + 1) 3)) (.int .i64 (vq D (x + 1) 4)) (.int .i64 (vq D (x + 1) 5)))
      have K7 := hide (set6o (keepRow (w := wr.drew) HS.out hb4) Hpv.out.2.1 (.int .i64 (vq D (x + 1) 0)) (.int .i64 (vq D (x + 1) 1)) (.int .i64 (vq D (x + 1) 2)) (.int .i64 (vq D (x + 1) 3)) (.int .i64 (vq D (x + 1) 4)) (.int .i64 (vq D (x + 1) 5)))
      have K8 := hide (set6b (HE.out.drew.of hb4) Hpv.out.2.2 (.int .i64 (vq D (x + 1) 0)) (.int .i64 (vq D (x + 1) 1)) (.int .i64 (vq D (x + 1) 2)) (.int .i64 (vq D (x + 1) 3)) (.int .i64 (vq D (x + 1) 4)) (.int .i64 (vq D (x + 1) 5)))
      obtain ⟨g0, g1, g2, g3, g4, g5⟩ := row6 K4
      have z0 := frozenRow K4 0
      have z1 := frozenRow K4 1
      have z2 := frozenRow K4 2
      have z3 := frozenRow K4 3
      have z4 := frozenRow K4 4
      have z5 := frozenRow K4 5
      clear K4 hv hb4
      unfold vA
      go_wp2_with fail
      go_roundw
      case rel => exact ⟨x + 1, by omega, by go_num, K5.out, K6.out, K7.out, K8.out⟩
      case measure => simp [intOf]; omega
    · obtain rfl : x = k := by omega
      have hd : ((x : Int) < (x : Int)) = False := by simp
      have z0 := frozenRow HS.out 0
      have z1 := frozenRow HS.out 1
      have z2 := frozenRow HS.out 2
      have z3 := frozenRow HS.out 3
      have z4 := frozenRow HS.out 4
      have z5 := frozenRow HS.out 5
      obtain ⟨y0, y1, y2, y3, y4, y5⟩ := row6 HS.out
      go_wp2_with fail
      refine bodyPost_ret (v := vA (vq D x)) ?_ rfl ⟨rfl, ?_⟩
      · unfold vA
        rw [results_cellS rfl]
        go_simp
      · exact (((((HE.out.setCell (Nat.le_succ _) _).setCell (Nat.le_succ _) _).setCell (Nat.le_succ _) _).setCell (Nat.le_succ _) _).setCell (Nat.le_succ _) _).setCell (Nat.le_succ _) _
end Go.Proofs.Yteikpdolickkaaa
