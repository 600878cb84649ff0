/- Layer 7: the contracts of 'head.Get' and of its reference, of 'own' and of 'head.Of'. -/
import Derived.Test.YtfgifdgbhikegaaHea2
import Derived.RegionTactic
import Derived.ChangeAlike
import Derived.Deep.RegionHeld3
namespace Go.Proofs.Ytfgifdgbhikegaa
open Go.RowKit

/-- The numbers of a head's nine bytes. -/
def gL (f : Nat → Int) : Int := num f 3
def gT (f : Nat → Int) : Int := num (fun i => f (3 + i)) 1
def gF (f : Nat → Int) : Int := num (fun i => f (4 + i)) 1
def gX (f : Nat → Int) : Int := num (fun i => f (5 + i)) 4

set_option maxHeartbeats 400000 in
theorem hget_short (A : Option Addr) (n c : Nat) (w : World) (h : n < 9) : Calls Try.prog 28 #[.slice A n c] w fun e w' =>
    e = .returned (.tuple #[.agg #[.int .i64 0, .int .i64 0, .int .i64 0, .int .i64 0, .bool false], .int .i64 3]) ∧ Below w.heap.size w w' := by
  have hd : decide ((n : Int) < 9) = true := by simp; omega
  go_enter Try.func28, Try.ntmps28
  go_wp2_with fail
  refine bodyPost_ret (v := .tuple #[.agg #[.int .i64 0, .int .i64 0, .int .i64 0, .int .i64 0, .bool false], .int .i64 3]) ?_ rfl ⟨rfl, ?_⟩
  · rw [results_cell_tmp rfl]
    go_simp
  · repeat (first | exact (Below.refl _ _).alloc (Nat.le_refl _) _ | refine Below.setCell ?_ (by simp) _)

set_option maxHeartbeats 3200000 in
theorem hget_ok (A : Option Addr) (n c : Nat) (f : Nat → Int) (w : World) (ha : Rd .u8 w A n c f) (hb : Byt n f) (h : 9 ≤ n) : Calls Try.prog 28 #[.slice A n c] w fun e w' =>
    e = .returned (.tuple #[.agg #[.int .i64 (gL f), .int .i64 (gT f), .int .i64 (gF f), .int .i64 (lowN (gX f)), .bool (lowB (gX f))], .int .i64 0]) ∧ Below w.heap.size w w' := by
  have hd : decide ((n : Int) < 9) = false := by simp; omega
  have hnc := ha.1
  have hcut : ∀ W, (Instr.slice 49 (.slice A n c) none (some (.int .i64 9)) none).run Try.prog W = .ok (.slice (cutA A c 0) 9 c) W := fun W => bytes_cut_h A n c 9 (by omega) W
  have Hr : Hid (Rd .u8 w (cutA A c 0) 9 c f) := ha.front h
  have Hb : Hid (Byt 9 f) := fun i hi => hb i (by omega)
  have R0 := hide (heap_alloc_new w (.cells #[.int .i64 0, .int .i64 0, .int .i64 0, .int .i64 0, .bool false] 48))
  clear ha hb
  go_enter Try.func28, Try.ntmps28
  go_wp2_with fail
  refine (cnewA _ 9 c f _ (Hr.out.alloc _) (by omega)).mono ?_
  rintro e w1 ⟨p, A1, c1, rfl, hp, hcur, hA1, hb1⟩
  have R1 := hide (keepRow R0.out hb1)
  have hB1 := hide (((Below.refl w.heap.size w).alloc (Nat.le_refl _) _).of hb1)
  have Hcur := hide hcur
  have HA1 := hide hA1
  have hsz := hB1.out.size
  have hp1 := hcur.lt
  have hlt := rowLt R1.out
  simp at hp
  clear hb1 hcur hA1 R0 hcut
  have G0 := hide (heap_alloc_new w1 (.cells #[.int .i64 0, .int .i64 0, .int .i64 0, .int .i64 0, .bool false] 48))
  have Hc0 := hide (Hcur.out.below ((Below.refl w1.heap.size w1).alloc (Nat.le_refl _) (.cells #[.int .i64 0, .int .i64 0, .int .i64 0, .int .i64 0, .bool false] 48)))
  have hB0 := hide (hB1.out.alloc hsz (.cells #[.int .i64 0, .int .i64 0, .int .i64 0, .int .i64 0, .bool false] 48))
  have S0 := hide (keepRow R1.out ((Below.refl w1.heap.size w1).alloc (Nat.le_refl _) (.cells #[.int .i64 0, .int .i64 0, .int .i64 0, .int .i64 0, .bool false] 48)))
  clear R1 hB1
  go_wp2_with fail
  refine (numberA p 9 0 3 c1 A1 _ rfl f _ Hc0.out Hb.out (by omega) (by omega) (by omega)).mono ?_
  rintro e w2 ⟨rfl, hc, hg⟩
  generalize hX : num (fun i => f (0 + i)) 3 = x0
  have HX0 := hide hX
  have G0' := hide (keepOne G0.out hg (by omega))
  have S0' := hide (keepOne S0.out hg (by omega))
  have hB0' := hide (hB0.out.grown hg (by simp; omega) (fun j e => by have := Option.some.inj e; omega))
  have Hc' := hide hc
  have hs0 := hg.size
  simp at hs0
  clear hX hc hg G0 S0 hB0 Hc0
  obtain ⟨q0, q1, q2, q3, q4⟩ := row5 G0'.out
  have fz := frozenRow G0'.out 0
  have G1 : Hid ((w2.setCell ⟨w1.heap.size, 0, none⟩ (.int .i64 x0)).heap[w1.heap.size]? = some (.cells #[.int .i64 x0, .int .i64 0, .int .i64 0, .int .i64 0, .bool false] 48 (0, 0))) := setRow w2 w1.heap.size 0 (.int .i64 x0) G0'.out
  have S1 := hide (keepOne S0'.out (grown_set w2 w1.heap.size 0 (.int .i64 x0)) (by omega))
  have hB1 := hide (hB0'.out.setCell (p := ⟨w1.heap.size, 0, none⟩) hsz (.int .i64 x0))
  have Hc1 := hide (Hc'.out.other (grown_set w2 w1.heap.size 0 (.int .i64 x0)) (by omega) (fun a e => by have := (HA1.out a e).2; omega))
  clear G0' S0' hB0' Hc'
  go_wp2_with fail
  refine (numberA p 9 3 1 c1 A1 _ rfl f _ Hc1.out Hb.out (by omega) (by omega) (by omega)).mono ?_
  rintro e w3 ⟨rfl, hc, hg⟩
  generalize hX : num (fun i => f (3 + i)) 1 = x1
  have HX1 := hide hX
  have G1' := hide (keepOne G1.out hg (by omega))
  have S1' := hide (keepOne S1.out hg (by omega))
  have hB1' := hide (hB1.out.grown hg (by simp; omega) (fun j e => by have := Option.some.inj e; omega))
  have Hc' := hide hc
  have hs1 := hg.size
  simp at hs1
  clear hX hc hg G1 S1 hB1 Hc1
  obtain ⟨q0, q1, q2, q3, q4⟩ := row5 G1'.out
  have fz := frozenRow G1'.out 1
  have G2 : Hid ((w3.setCell ⟨w1.heap.size, 1, none⟩ (.int .i64 x1)).heap[w1.heap.size]? = some (.cells #[.int .i64 x0, .int .i64 x1, .int .i64 0, .int .i64 0, .bool false] 48 (0, 0))) := setRow w3 w1.heap.size 1 (.int .i64 x1) G1'.out
  have S2 := hide (keepOne S1'.out (grown_set w3 w1.heap.size 1 (.int .i64 x1)) (by omega))
  have hB2 := hide (hB1'.out.setCell (p := ⟨w1.heap.size, 1, none⟩) hsz (.int .i64 x1))
  have Hc2 := hide (Hc'.out.other (grown_set w3 w1.heap.size 1 (.int .i64 x1)) (by omega) (fun a e => by have := (HA1.out a e).2; omega))
  clear G1' S1' hB1' Hc'
  go_wp2_with fail
  refine (numberA p 9 4 1 c1 A1 _ rfl f _ Hc2.out Hb.out (by omega) (by omega) (by omega)).mono ?_
  rintro e w4 ⟨rfl, hc, hg⟩
  generalize hX : num (fun i => f (4 + i)) 1 = x2
  have HX2 := hide hX
  have G2' := hide (keepOne G2.out hg (by omega))
  have S2' := hide (keepOne S2.out hg (by omega))
  have hB2' := hide (hB2.out.grown hg (by simp; omega) (fun j e => by have := Option.some.inj e; omega))
  have Hc' := hide hc
  have hs2 := hg.size
  simp at hs2
  clear hX hc hg G2 S2 hB2 Hc2
  obtain ⟨q0, q1, q2, q3, q4⟩ := row5 G2'.out
  have fz := frozenRow G2'.out 2
  have G3 : Hid ((w4.setCell ⟨w1.heap.size, 2, none⟩ (.int .i64 x2)).heap[w1.heap.size]? = some (.cells #[.int .i64 x0, .int .i64 x1, .int .i64 x2, .int .i64 0, .bool false] 48 (0, 0))) := setRow w4 w1.heap.size 2 (.int .i64 x2) G2'.out
  have S3 := hide (keepOne S2'.out (grown_set w4 w1.heap.size 2 (.int .i64 x2)) (by omega))
  have hB3 := hide (hB2'.out.setCell (p := ⟨w1.heap.size, 2, none⟩) hsz (.int .i64 x2))
  have Hc3 := hide (Hc'.out.other (grown_set w4 w1.heap.size 2 (.int .i64 x2)) (by omega) (fun a e => by have := (HA1.out a e).2; omega))
  clear G2' S2' hB2' Hc'
  go_wp2_with fail
  refine (numberA p 9 5 4 c1 A1 _ rfl f _ Hc3.out Hb.out (by omega) (by omega) (by omega)).mono ?_
  rintro e w5 ⟨rfl, hc, hg⟩
  generalize hX : num (fun i => f (5 + i)) 4 = x3
  have HX3 := hide hX
  have G3' := hide (keepOne G3.out hg (by omega))
  have S3' := hide (keepOne S3.out hg (by omega))
  have hB3' := hide (hB3.out.grown hg (by simp; omega) (fun j e => by have := Option.some.inj e; omega))
  have Hc' := hide hc
  have hs3 := hg.size
  simp at hs3
  clear hX hc hg G3 S3 hB3 Hc3
  obtain ⟨q0, q1, q2, q3, q4⟩ := row5 G3'.out
  have fz := frozenRow G3'.out 3
  have fz4 := frozenRow G3'.out 4
  obtain ⟨s0, s1, s2, s3, s4⟩ := row5 S3'.out
  have z0 := frozenRow S3'.out 0
  have z1 := frozenRow S3'.out 1
  have z2 := frozenRow S3'.out 2
  have z3 := frozenRow S3'.out 3
  have z4 := frozenRow S3'.out 4
  have hne : w.heap.size ≠ w1.heap.size := by omega
  go_wp2_with fail
  refine (low_any x3 _).mono ?_
  rintro e w6 ⟨rfl, rfl⟩
  go_wp2_with fail
  refine bodyPost_ret (v := .tuple #[.agg #[.int .i64 (gL f), .int .i64 (gT f), .int .i64 (gF f), .int .i64 (lowN (gX f)), .bool (lowB (gX f))], .int .i64 0]) ?_ rfl ⟨rfl, ?_⟩
  · have e0 : gL f = x0 := by rw [← HX0.out]; unfold gL; simp
    have e1 : gT f = x1 := HX1.out
    have e2 : gF f = x2 := HX2.out
    have e3 : gX f = x3 := HX3.out
    rw [results_cell_tmp rfl, e0, e1, e2, e3]
    go_simp
  · exact ((((((((hB3'.out.setCell (by simp; omega) _).setCell (by simp; omega) _).setCell (by simp) _).setCell (by simp) _).setCell (by simp) _).setCell (by simp) _).setCell (by simp) _))

/-! ### the reference -/
theorem gT_eq (f : Nat → Int) : gT f = f 3 := by simp [gT, num]
theorem gF_eq (f : Nat → Int) : gF f = f 4 := by simp [gF, num]
set_option maxHeartbeats 400000 in
theorem rhget_short (A : Option Addr) (n c : Nat) (w : World) (h : n < 9) : Calls Try.prog 31 #[.slice A n c] w fun e w' =>
    e = .returned (.tuple #[.agg #[.int .i64 0, .int .i64 0, .int .i64 0, .int .i64 0, .bool false], .bool false]) ∧ Below w.heap.size w w' := by
  have hd : decide ((n : Int) < 9) = true := by simp; omega
  go_enter Try.func31, Try.ntmps31
  go_wp2_with fail
  refine bodyPost_ret (v := .tuple #[.agg #[.int .i64 0, .int .i64 0, .int .i64 0, .int .i64 0, .bool false], .bool false]) ?_ rfl ⟨rfl, ?_⟩
  · rw [results_cell_tmp rfl]
    go_simp
  · repeat (first | exact (Below.refl _ _).alloc (Nat.le_refl _) _ | refine Below.setCell ?_ (by simp) _)
theorem rgetL (A : Option Addr) (n c s : Nat) (size : Int) (hs : size = (s : Int)) (f : Nat → Int) (w : World) (ha : Rd .u8 w A n c f) (hb : Byt n f) (h1 : 1 ≤ s) (h2 : s ≤ 4) (h3 : s ≤ n) :
    Calls Try.prog 68 #[.slice A n c, .int .i64 size] w fun e w' => e = .returned (.tuple #[.int .i64 (num f s), .int .i64 0]) ∧ Drawn w w' := by
  subst hs
  exact rget_ok A n c s f w ha hb h1 h2 h3
set_option maxHeartbeats 3200000 in
theorem rhget_ok (A : Option Addr) (n c : Nat) (f : Nat → Int) (w : World) (ha : Rd .u8 w A n c f) (hb : Byt n f) (h : 9 ≤ n) : Calls Try.prog 31 #[.slice A n c] w fun e w' =>
    e = .returned (.tuple #[.agg #[.int .i64 (gL f), .int .i64 (f 3), .int .i64 (f 4), .int .i64 (lowN (gX f)), .bool (lowB (gX f))], .bool true]) ∧ Below w.heap.size w w' := by
  have hd : decide ((n : Int) < 9) = false := by simp; omega
  have hnc := ha.1
  have hcm := ha.2.1
  simp only [maxLen] at hcm
  have hcut : ∀ W, (Instr.slice 49 (.slice A n c) (some (.int .i64 5)) none none).run Try.prog W = .ok (.slice (cutA A c 5) (n - 5) (c - 5)) W := fun W => bytes_cut A n c 5 (by omega) W
  have Ha := hide ha
  have Hb := hide hb
  have Hb5 : Hid (Byt (n - 5) (fun i => f (5 + i))) := fun i hi => hb (5 + i) (by omega)
  have R0 := hide (heap_alloc_new w (.cells #[.int .i64 0, .int .i64 0, .int .i64 0, .int .i64 0, .bool false] 47))
  clear ha hb
  go_enter Try.func31, Try.ntmps31
  go_wp2_with fail
  refine (rgetL A n c 3 _ rfl f _ (Ha.out.alloc _) Hb.out (by omega) (by omega) (by omega)).mono ?_
  rintro e w1 ⟨rfl, hd1⟩
  have hb1 := drawn_below hd1 (w.alloc (.cells #[.int .i64 0, .int .i64 0, .int .i64 0, .int .i64 0, .bool false] 47)).heap.size
  have R1 := hide (keepRow R0.out hb1)
  have hB1 := hide (((Below.refl w.heap.size w).alloc (Nat.le_refl _) _).of hb1)
  generalize hX : num f 3 = x0
  have HX0 : Hid (gL f = x0) := hX
  clear hb1 hd1 R0 hX
  have Ha1 := hide ((Ha.out.below hB1.out).cutR (lo := 5) (hi := n) (by omega) (Nat.le_refl _))
  go_wp2_with fail
  refine (rgetL _ _ _ 4 _ rfl _ _ Ha1.out Hb5.out (by omega) (by omega) (by omega)).mono ?_
  rintro e w2 ⟨rfl, hd2⟩
  have hb2 := drawn_below hd2 w1.heap.size
  have R2 := hide (keepRow R1.out hb2)
  have hB2 := hide (hB1.out.of hb2)
  generalize hX : num (fun i => f (5 + i)) 4 = x3
  have HX3 : Hid (gX f = x3) := hX
  obtain ⟨b, off, rfl, hcell3⟩ := (Ha.out.below hB2.out).at_ (i := 3) (by omega)
  obtain ⟨b', off', hA, hcell4⟩ := (Ha.out.below hB2.out).at_ (i := 4) (by omega)
  obtain ⟨rfl, rfl⟩ : b = b' ∧ off = off' := by simpa using hA
  obtain ⟨u0, u1⟩ := Hb.out 3 (by omega)
  obtain ⟨u2, u3⟩ := Hb.out 4 (by omega)
  have hw3 : IntKind.i64.wrap (f 3) = f 3 := IntWalk.i64_in _ (by omega)
  have hw4 : IntKind.i64.wrap (f 4) = f 4 := IntWalk.i64_in _ (by omega)
  have k3 : (3 : Int) < (n : Int) := by omega
  have k4 : (4 : Int) < (n : Int) := by omega
  have hsz := hB2.out.size
  have hlt := rowLt R2.out
  clear hb2 hd2 R1 hX hcut Ha1 hB1 hA
  go_wp2_with fail
  have n3 := World.new_ne w2 _ hcell3
  have n4 := World.new_ne w2 _ hcell4
  go_region_held3 (fun w' : World => w'.cell? ⟨b, off + 3, none⟩ = some (.int .u8 (f 3)) ∧ w'.cell? ⟨b, off + 4, none⟩ = some (.int .u8 (f 4))) (go_keep) (fail)
  obtain ⟨s0, s1, s2, s3, s4⟩ := row5 R2.out
  have z0 := frozenRow R2.out 0
  have z1 := frozenRow R2.out 1
  have z2 := frozenRow R2.out 2
  have z3 := frozenRow R2.out 3
  have z4 := frozenRow R2.out 4
  have hne : w.heap.size ≠ w2.heap.size := by omega
  go_wp2_with fail
  refine (rlow_any x3 _).mono ?_
  rintro e w6 ⟨rfl, rfl⟩
  go_wp2_with fail
  refine bodyPost_ret (v := .tuple #[.agg #[.int .i64 (gL f), .int .i64 (f 3), .int .i64 (f 4), .int .i64 (lowN (gX f)), .bool (lowB (gX f))], .bool true]) ?_ rfl ⟨rfl, ?_⟩
  · rw [results_cell_tmp rfl, HX0.out, HX3.out]
    go_simp
  · refine Below.drew ?_
    refine Below.alloc ?_ (by simp; omega) _
    exact (((((hB2.out.setCell (by simp) _).setCell (by simp) _).setCell (by simp) _).setCell (by simp) _).setCell (by simp) _)
theorem results_cell1 {fn : Func} {p : Tmp} {ty : TypeId} (h : fn.results = #[.cell p ty]) (tmps : Array Value) (P : Program) (w : World) :
    (results fn tmps).run P w = ((asAddr (tmps.getD p undef)).run P w).andThen fun a w' => (loadVar ty a).run P w' := by
  simp [results, h]
theorem hown (l t f s : Int) (r : Bool) (w : World) : Calls Try.prog 32 #[.agg #[.int .i64 l, .int .i64 t, .int .i64 f, .int .i64 s, .bool r]] w fun e w' =>
    e = .returned (.agg #[.int .i64 l, .int .i64 t, .int .i64 f, .int .i64 s, .bool r]) ∧ (w.alloc (.cells #[.int .i64 l, .int .i64 t, .int .i64 f, .int .i64 s, .bool r] 48)).alloc (.cells #[.int .i64 l, .int .i64 t, .int .i64 f, .int .i64 s, .bool r] 47) = w' := by
  go_enter Try.func32, Try.ntmps32
  go_wp2_with fail
  refine bodyPost_ret (v := .agg #[.int .i64 l, .int .i64 t, .int .i64 f, .int .i64 s, .bool r]) ?_ rfl ⟨rfl, rfl⟩
  rw [results_cell1 rfl]
  go_simp

/-! ### alive -/
def lit9 : Nat → Int := fun i => if i = 2 then 4 else if i = 3 then 8 else if i = 5 then 128 else if i = 8 then 1 else 0
theorem lit9_byt : Byt 9 lit9 := by intro i _; unfold lit9; repeat' split <;> omega
theorem Rd.litB (w : World) (cs : Array Value) (n : Nat) (f : Nat → Int) (hn : n ≤ maxLen) (h : cs.toList = row .u8 n f) {b : Nat} (hb : b = w.heap.size) : Rd .u8 (w.alloc (.cells cs 5)) (some ⟨b, 0, none⟩) n n f := by
  subst hb
  exact (Own.lit .u8 5 0 w f cs n (Nat.zero_le _) hn h).rdS
set_option maxHeartbeats 400000 in
theorem alive7 (w : World) : Calls Try.prog 27 #[] w (Yes w) := by
  have e1 : gL lit9 = 4 := by decide
  have e2 : gT lit9 = 8 := by decide
  have e3 : gF lit9 = 0 := by decide
  have e4 : lowN (gX lit9) = 1 := by decide
  have e5 : lowB (gX lit9) = true := by decide
  have E := hide (And.intro e1 (And.intro e2 (And.intro e3 (And.intro e4 e5))))
  have Hr := hide (Rd.litB w #[.int .u8 0, .int .u8 0, .int .u8 4, .int .u8 8, .int .u8 0, .int .u8 128, .int .u8 0, .int .u8 0, .int .u8 1] 9 lit9 (by simp [maxLen]) rfl rfl)
  clear e1 e2 e3 e4 e5
  go_enter Try.func27, Try.ntmps27
  go_wp2_with fail
  refine (hget_ok _ 9 9 lit9 _ Hr.out lit9_byt (Nat.le_refl _)).mono ?_
  rintro e w1 ⟨rfl, hb1⟩
  rw [E.out.1, E.out.2.1, E.out.2.2.1, E.out.2.2.2.1, E.out.2.2.2.2]
  have hB1 := hide (((Below.refl w.heap.size w).alloc (Nat.le_refl _) _).of hb1)
  clear hb1
  go_wp2_with fail
  go_ret
  exact ⟨rfl, hB1.out.alloc hB1.out.size _⟩
end Go.Proofs.Ytfgifdgbhikegaa
