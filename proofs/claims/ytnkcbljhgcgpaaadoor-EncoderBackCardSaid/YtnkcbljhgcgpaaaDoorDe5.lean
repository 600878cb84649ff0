/- Layer 23: what is taken of a block. -/
import Derived.Test.YtnkcbljhgcgpaaaDoorMX
import Derived.Deep.RegionHeld3
import Derived.Deep.RegionLaw
namespace Go.Proofs.YtnkcbljhgcgpaaaDoor
set_option linter.unusedVariables false
set_option linter.unusedSimpArgs false
open Go.RowKit Go.Deep Go.ChangeShapes Go.WideShapes

theorem RGx.at_ {B : Nat} {w w' : World} {pr pt : Nat} {g : Option Nat} {Vf Vs : Value} {S : Nat → Prop} {σ : Ds} (x : RGx B w pr pt g Vf Vs S σ) (h1 : ∀ i, S i → w'.heap[i]? = w.heap[i]?) : RGx B w' pr pt g Vf Vs S σ :=
  ⟨(h1 pr x.Sp).trans x.row, x.of.at_ fun b hb => h1 b (x.Sf b hb), x.os.at_ fun b hb => h1 b (x.Ss b hb), x.tl.at_ fun i hi => h1 i (x.St i hi), x.nt, x.ng, x.nf, x.ns, x.ft, x.st, x.fs, x.Sp, x.St, x.Sf, x.Ss, x.hp⟩
theorem FrO.undrew {B : Nat} {S : Nat → Prop} {w w' : World} (h : FrO B S w.drew w') : FrO B S w w' := ⟨((Below.refl B w).drew).trans h.below, fun i hi hs => h.keep i hi hs⟩
theorem RGo.ret {B : Nat} {w w' : World} {pr : Nat} {S : Nat → Prop} {r : Ds ⊕ Int} {e : Ending} (h : RGo B w pr S r e w') : ∃ er : Int, e = .returned (.int .i64 er) ∧ RGo B w pr S r (.returned (.int .i64 er)) w' := by
  cases r with
  | inl σ => obtain ⟨rfl, h⟩ := h; exact ⟨0, rfl, rfl, h⟩
  | inr er => obtain ⟨rfl, h⟩ := h; exact ⟨er, rfl, rfl, h⟩
theorem RGo.from {B : Nat} {w w1 w' : World} {pr : Nat} {S : Nat → Prop} {r : Ds ⊕ Int} {e : Ending} (E : Below w.heap.size w w1) (hB : B ≤ w.heap.size) (h : RGo B w1 pr S r e w') : RGo B w pr S r e w' := by
  cases r with
  | inl σ => obtain ⟨rfl, S', h1, h2, h3⟩ := h; exact ⟨rfl, S', h1, (FrO.of (S := S) E hB).step h2 fun i hi => .inl hi, fun i hi => (h3 i hi).imp id fun h => Nat.le_trans E.size h⟩
  | inr er => obtain ⟨rfl, h⟩ := h; exact ⟨rfl, E.of h⟩
theorem row7D {w : World} {b : Nat} {T : TypeId} {v0 v1 v2 v3 v4 v5 v6 : Value} (h : w.heap[b]? = some (.cells #[v0, v1, v2, v3, v4, v5, v6] T (0, 0))) : w.cell? ⟨b, 0, none⟩ = some v0 ∧ w.cell? ⟨b, 1, none⟩ = some v1 ∧ w.cell? ⟨b, 2, none⟩ = some v2 ∧ w.cell? ⟨b, 3, none⟩ = some v3 ∧ w.cell? ⟨b, 4, none⟩ = some v4 ∧ w.cell? ⟨b, 5, none⟩ = some v5 ∧ w.cell? ⟨b, 6, none⟩ = some v6 := by
  refine ⟨?_, ?_, ?_, ?_, ?_, ?_, ?_⟩ <;> simp [World.cell?, h]
theorem absE {p : World → Prop} (W0 : World) (R : World → Prop) (h0 : R W0) (h : ∀ W, R W → p W) : p W0 := h W0 h0
def ParT (w : World) (pb pf : Nat) (k i : Int) (ns : ByteArray) (a : Bool) (vs : ByteArray) (b : Bool) (z : Int) (f : Fd) (W : World) : Prop :=
  W.heap[pb]? = some (.cells #[.int .i64 k, .int .i64 i, .string ns, .bool a, .string vs, .bool b, .int .i64 z] 81 (0, 0)) ∧ W.heap[pf]? = some (.cells #[.string f.name, .string f.val, .bool f.nev] 51 (0, 0)) ∧ Below w.heap.size w W
theorem store1f {w : World} {p : Nat} {T : TypeId} {a0 a1 a2 : Value} (h : w.heap[p]? = some (.cells #[a0, a1, a2] T (0, 0))) (b0 : Value) :
    (w.cell? ⟨p, 0, none⟩ = some a0 ∧ w.frozen? ⟨p, 0, none⟩ = false) ∧ (w.setCell ⟨p, 0, none⟩ b0).heap[p]? = some (.cells #[b0, a1, a2] T (0, 0)) := by
  have h1 := setRow w p 0 b0 h
  simp only [List.setIfInBounds_toArray, List.set_cons_zero, List.set_cons_succ] at h1
  exact ⟨⟨(rowT h).1, frozenRow h 0⟩, h1⟩

set_option maxRecDepth 20000 in
set_option maxHeartbeats 3200000 in
theorem dtake1i {B : Nat} {w : World} {pr : Nat} {S : Nat → Prop} {σ : Ds} (h : RG B w pr S σ) (hB : B ≤ w.heap.size) (hn : σ.tb.length ≤ 900000) (hs : σ.fs.length ≤ 1000000) (i : Int) (ns : ByteArray) (a : Bool) (vs : ByteArray) (b : Bool) (z : Int) (hi0 : 0 ≤ i) (hi1 : i ≤ 2147483647) (hsm : ∀ f ∈ σ.tb, SmF f) (hns : ns.size ≤ 200000) (hvs : vs.size ≤ 200000) (h0 : 0 < i) :
    Calls Tryd.prog 33 #[.pointer (some ⟨pr, 0, none⟩), .agg #[.int .i64 1, .int .i64 i, .string ns, .bool a, .string vs, .bool b, .int .i64 z]] w (RGo B w pr S (dstep σ 1 i ns vs z)) := by
  obtain ⟨i0, hi, hz2, hz3, hz4⟩ := info_parts field_info
  have al := (Below.refl w.heap.size w).alloc (Nat.le_refl _) (.cells #[.int .i64 1, .int .i64 i, .string ns, .bool a, .string vs, .bool b, .int .i64 z] 81)
  have R0 := heap_alloc_new w (.cells #[.int .i64 1, .int .i64 i, .string ns, .bool a, .string vs, .bool b, .int .i64 z] 81)
  have al2 := (Below.refl (w.alloc (.cells #[.int .i64 1, .int .i64 i, .string ns, .bool a, .string vs, .bool b, .int .i64 z] 81)).heap.size (w.alloc (.cells #[.int .i64 1, .int .i64 i, .string ns, .bool a, .string vs, .bool b, .int .i64 z] 81))).alloc (Nat.le_refl _) (.cells #[.string ns, .string vs, .bool false] 51)
  have R1 := heap_alloc_new (w.alloc (.cells #[.int .i64 1, .int .i64 i, .string ns, .bool a, .string vs, .bool b, .int .i64 z] 81)) (.cells #[.string ns, .string vs, .bool false] 51)
  have R2 := hide (keepRow R0 al2)
  have hs1 : (w.alloc (.cells #[.int .i64 1, .int .i64 i, .string ns, .bool a, .string vs, .bool b, .int .i64 z] 81)).heap.size = w.heap.size + 1 := by simp
  rw [hs1] at R1
  have R3 := hide R1
  obtain ⟨b0, b1, b2, b3, b4, b5, b6⟩ := row7D R0
  obtain ⟨q0, q1, q2, q3, q4, q5, q6⟩ := row7D R2.out
  have EE := hide (al.of al2)
  have HB := hide hB
  have HnT := hide hn
  have HPb : Hid (w.heap.size ≤ w.heap.size) := Nat.le_refl _
  have HPf : Hid (w.heap.size ≤ w.heap.size + 1) := Nat.le_succ _
  obtain ⟨⟨pt, g, Vf, Vs, hx⟩, hl⟩ := id h
  have HX := hide hx
  have Hl := hide hl
  have H := hide h
  have HSm := hide hsm
  have Hns := hide hns
  have Hvs := hide hvs
  clear hx hl h hB al al2 R0 R1 hs1 hsm hns hvs
  have hd0 : decide (0 < i) = true := decide_eq_true h0
  have hsz2 : ((w.alloc (.cells #[.int .i64 1, .int .i64 i, .string ns, .bool a, .string vs, .bool b, .int .i64 z] 81)).alloc (.cells #[.string ns, .string vs, .bool false] 51)).heap.size = w.heap.size + 1 + 1 := by simp
  have HSz2 := hide hsz2
  have H2 := hide (H.out.below EE.out)
  clear hsz2
  go_enter Tryd.func33, Tryd.ntmps33
  go_wp2_with fail
  refine (dat23 H2.out (by omega) i (by omega) hi1).mono ?_
  rintro e w3 ⟨nm, vl, nv, has, rfl, hv, hb3⟩
  have al3 := (Below.refl w3.heap.size w3).alloc (Nat.le_refl _) (.cells #[.string nm, .string vl, .bool nv] 51)
  have R4 := hide (heap_alloc_new w3 (.cells #[.string nm, .string vl, .bool nv] 51))
  have RB4 := hide (keepRow (keepRow R2.out hb3) al3)
  have RF4 := hide (keepRow (keepRow R3.out hb3) al3)
  have E4 := hide ((EE.out.of hb3).of al3)
  have HV := hide hv
  have hlt3 : w.heap.size + 1 < w3.heap.size := by have := hb3.size; rw [HSz2.out] at this; omega
  have Hne4 : Hid (w3.heap.size ≠ w.heap.size + 1) := by show _ ≠ _; omega
  clear hv hb3 al3 q0 q1 q2 q3 q4 q5 q6 b0 b1 b2 b3 b4 b5 b6 R2 R3 EE H2
  obtain ⟨q0, q1, q2, q3, q4, q5, q6⟩ := row7D RB4.out
  obtain ⟨f0, f1, f2⟩ := rowT RF4.out
  obtain ⟨t0, t1, t2⟩ := rowT R4.out
  rcases HV.out with ⟨hp, rfl, rfl, rfl, rfl⟩ | ⟨f, hp, rfl, rfl, rfl, rfl⟩
  · have hd : dstep σ 1 i ns vs z = .inr 12 := by
      unfold dstep dfld
      rw [if_neg (by omega), if_pos h0, hp]
    have HD := hide hd
    clear hd hp h0
    go_wp2_with fail
    go_ret
    rw [HD.out]
    exact ⟨rfl, E4.out⟩
  · obtain ⟨nm, vl, nv⟩ := f
    have hd : dstep σ 1 i ns vs z = .inl ⟨σ.fs ++ [⟨nm, vl, nv⟩], σ.szs, σ.mx, σ.tb⟩ := by
      unfold dstep dfld
      rw [if_neg (by omega), if_pos h0, hp]
      rfl
    have HD := hide hd
    have hsf := atP_sm HSm.out hp
    have HWt : Hid (wt ⟨nm, vl, nv⟩ ≤ 1000000) := SmF.wt hsf
    clear hd hp h0 hsf
    simp only at *
    go_upto_region 8 with (fail)
    refine absE _ (fun W => W.heap[w.heap.size]? = some (.cells #[.int .i64 1, .int .i64 i, .string ns, .bool a, .string vs, .bool b, .int .i64 z] 81 (0, 0)) ∧ W.heap[w.heap.size + 1]? = some (.cells #[.string ns, .string vs, .bool false] 51 (0, 0)) ∧ W.heap[w3.heap.size]? = some (.cells #[.string nm, .string vl, .bool nv] 51 (0, 0)) ∧ Below w.heap.size w W) ⟨RB4.out, RF4.out, R4.out, E4.out⟩ ?_
    clear q0 q1 q2 q3 q4 q5 q6 f0 f1 f2 t0 t1 t2 RB4 RF4 R4 E4
    generalize w3.heap.size = p3 at *
    intro W4 ⟨rb4, rf4, rt4, e4⟩
    have RB4 := hide rb4
    have RF4 := hide rf4
    have RT4 := hide rt4
    have E4 := hide e4
    clear rb4 rf4 rt4 e4
    obtain ⟨q0, q1, q2, q3, q4, q5, q6⟩ := row7D RB4.out
    obtain ⟨f0, f1, f2⟩ := rowT RF4.out
    obtain ⟨t0, t1, t2⟩ := rowT RT4.out
    obtain ⟨⟨k0, z0⟩, rr⟩ := store1f RF4.out (.string nm)
    have RF5 := hide rr
    have RB5 : Hid ((W4.setCell ⟨w.heap.size + 1, 0, none⟩ (.string nm)).heap[w.heap.size]? = some (.cells #[.int .i64 1, .int .i64 i, .string ns, .bool a, .string vs, .bool b, .int .i64 z] 81 (0, 0))) := (Below.heap_setCell _ ⟨w.heap.size + 1, 0, none⟩ _ _ (by simp)).trans RB4.out
    have RT5 : Hid ((W4.setCell ⟨w.heap.size + 1, 0, none⟩ (.string nm)).heap[p3]? = some (.cells #[.string nm, .string vl, .bool nv] 51 (0, 0))) := (Below.heap_setCell _ ⟨w.heap.size + 1, 0, none⟩ _ _ Hne4.out).trans RT4.out
    have E5 := hide (E4.out.setCell (p := ⟨w.heap.size + 1, 0, none⟩) (Nat.le_succ _) (.string nm))
    clear rr
    obtain ⟨x0, x1, x2, x3, x4, x5, x6⟩ := row7D RB5.out
    obtain ⟨s0, s1, s2⟩ := rowT RT5.out
    obtain ⟨⟨m0, l0⟩, ⟨m1, l1⟩, ⟨m2, l2⟩, rr⟩ := store3d RF5.out (.string nm) (.string vl) (.bool nv)
    have RF6 := hide rr
    have RB6 : Hid (((((W4.setCell ⟨w.heap.size + 1, 0, none⟩ (.string nm)).setCell ⟨w.heap.size + 1, 0, none⟩ (.string nm)).setCell ⟨w.heap.size + 1, 1, none⟩ (.string vl)).setCell ⟨w.heap.size + 1, 2, none⟩ (.bool nv)).heap[w.heap.size]? = some (.cells #[.int .i64 1, .int .i64 i, .string ns, .bool a, .string vs, .bool b, .int .i64 z] 81 (0, 0))) := by
      show _ = _
      rw [Below.heap_setCell _ ⟨w.heap.size + 1, 2, none⟩ _ _ (by simp), Below.heap_setCell _ ⟨w.heap.size + 1, 1, none⟩ _ _ (by simp), Below.heap_setCell _ ⟨w.heap.size + 1, 0, none⟩ _ _ (by simp)]
      exact RB5.out
    have E6 := hide (below3d E5.out (Nat.le_succ w.heap.size) (.string nm) (.string vl) (.bool nv))
    clear rr
    go_upto_region 11 with (fail)
    refine absE _ (ParT w w.heap.size (w.heap.size + 1) 1 i ns a vs b z ⟨nm, vl, nv⟩) ⟨RB6.out, RF6.out, E6.out⟩ ?_
    clear x0 x1 x2 x3 x4 x5 x6 s0 s1 s2 m0 l0 m1 l1 m2 l2 RF6 RB6 E6 RF5 RB5 RT5 E5 RT4 RB4 RF4 E4 q0 q1 q2 q3 q4 q5 q6 f0 f1 f2 t0 t1 t2 k0 z0 Hne4
    intro W0 ⟨rb0, rf0, e0⟩
    have RB := hide rb0
    have RF : Hid (W0.heap[(w.heap.size + 1)]? = some (.cells #[.string nm, .string vl, .bool nv] 51 (0, 0))) := rf0
    have E0 := hide e0
    have X0 : Hid (RGx B W0 pr pt g Vf Vs S σ) := HX.out.at_ fun i hi => e0.block i (Hl.out i hi).2
    have L0 : Hid (∀ i, S i → B ≤ i ∧ i < W0.heap.size) := fun i hi => ⟨(Hl.out i hi).1, Nat.lt_of_lt_of_le (Hl.out i hi).2 e0.size⟩
    have B0 : Hid (B ≤ W0.heap.size) := Nat.le_trans HB.out e0.size
    have alx := (Below.refl W0.heap.size W0).alloc (Nat.le_refl _) (.cells #[.string nm, .string vl, .bool nv] 51)
    have XA : Hid (RGx B (W0.alloc (.cells #[.string nm, .string vl, .bool nv] 51)) pr pt g Vf Vs S σ) := X0.out.at_ fun i hi => alx.block i (L0.out i hi).2
    have BA : Hid (B ≤ (W0.alloc (.cells #[.string nm, .string vl, .bool nv] 51)).heap.size) := Nat.le_trans B0.out alx.size
    have Lx : Hid (RdV 3 (W0.alloc (.cells #[.string nm, .string vl, .bool nv] 51)) (some ⟨W0.heap.size, 0, none⟩) 1 1 (fdV fun _ => ⟨nm, vl, nv⟩)) := (OwnV.lit 3 51 0 W0 (fdV fun _ => ⟨nm, vl, nv⟩) #[.string nm, .string vl, .bool nv] 1 (Nat.zero_le _) (by simp [maxLen]) rfl).rdS2
    have LA : Hid (∀ i, S i → B ≤ i ∧ i < (W0.alloc (.cells #[.string nm, .string vl, .bool nv] 51)).heap.size) := fun i hi => ⟨(L0.out i hi).1, Nat.lt_of_lt_of_le (L0.out i hi).2 alx.size⟩
    have EA := hide (E0.out.of alx)
    have RBA := hide (keepRow RB.out alx)
    have RFA := hide (keepRow RF.out alx)
    have HltPf : Hid ((w.heap.size + 1) < W0.heap.size) := rowLt RF.out
    obtain ⟨c0, c1, c2⟩ := rowT X0.out.row
    obtain ⟨d0, d1, d2⟩ := rowT XA.out.row
    obtain ⟨f0, f1, f2⟩ := rowT RF.out
    obtain ⟨g0, g1, g2⟩ := rowT RFA.out
    clear rb0 rf0 e0 alx
    go_region_law (first | (refine step_appO rfl (.tmp 49) (.tmp 51) _ rfl 3 i0 _ 40 Tryd.underlying25 hi hz2 hz3 hz4 rfl (by omega) B _ σ.fs.length (fdV (fn σ.fs)) rfl (by first | exact XA.out.of | exact (XA.out.of).at_ (fun _ _ => rfl)) _ 0 1 1 (fdV fun _ => ⟨nm, vl, nv⟩) rfl (by first | exact Lx.out | exact Lx.out.below36O (Below.refl _ _).drew) (by omega) (fdV_one _ _) (by simp only [maxLen]; omega) (by omega) BA.out ?_; intro v4 w4 hown4 hg4 hob4; have K4 : w4.heap[pr]? = some (.cells #[Vf, Vs, .pointer (some ⟨pt, 0, none⟩)] 77 (0, 0)) := (hg4.block pr XA.out.lt (fun e => XA.out.nf e.symm)).trans XA.out.row; obtain ⟨A4, c4, rfl, _, _⟩ := hown4.rd; obtain ⟨x0, x1, x2⟩ := rowT K4; have fz0 := frozenRow K4 0))
    all_goals
      have hg5 : (W0.alloc (.cells #[.string nm, .string vl, .bool nv] 51)).grownBy w4 Vf.ownBlock := ⟨hg4.os, hg4.tape, hg4.output, hg4.size, hg4.block⟩
      have hob5 : (Value.slice A4 (σ.fs.length + 1) c4).ownBlock = Vf.ownBlock ∨ ∀ b, (Value.slice A4 (σ.fs.length + 1) c4).ownBlock = some b → (W0.alloc (.cells #[.string nm, .string vl, .bool nv] 51)).heap.size ≤ b := hob4
      obtain ⟨hx5, hl5, hf5, hS5⟩ := XA.out.setF LA.out BA.out hg5 ⟨nm, vl, nv⟩ hown4 hob5
      have X5 := hide hx5
      have L5 := hide hl5
      have F5 := hide hf5
      have S5 := hide hS5
      have hnb : ∀ j, w.heap.size ≤ j → ¬ S j := fun j hj hs => by have := (Hl.out j hs).2; omega
      have RB5 := hide (hf5.row RBA.out (hnb _ HPb.out))
      have RF5 := hide (hf5.row RFA.out (hnb _ HPf.out))
      have HnPf : Hid (¬ S (w.heap.size + 1)) := hnb _ HPf.out
      have B5 : Hid (B ≤ (w4.setCell ⟨pr, 0, none⟩ (.slice A4 (σ.fs.length + 1) c4)).heap.size) := Nat.le_trans BA.out hf5.below.size
      obtain ⟨y0, y1, y2, y3, y4, y5, y6⟩ := row7D RB5.out
      clear hx5 hl5 hf5 hS5 hg5 hob5 hown4 hg4 hob4 hnb c0 c1 c2 d0 d1 d2 f0 f1 f2 g0 g1 g2 x0 x1 x2 fz0 K4
      obtain ⟨x0, x1, x2⟩ := rowT X5.out.row
      obtain ⟨f0, f1, f2⟩ := rowT RF5.out
      go_wp2_with fail
      go_ret
      rw [HD.out]
      refine ⟨rfl, _, ⟨⟨pt, g, .slice A4 (σ.fs.length + 1) c4, Vs, X5.out⟩, L5.out⟩, (FrO.of (S := S) EA.out HB.out).step F5.out fun i hi => .inl hi, fun i hi => (S5.out i hi).imp id fun h => Nat.le_trans EA.out.size h⟩
set_option maxRecDepth 20000 in
set_option maxHeartbeats 3200000 in
theorem dtake2z {B : Nat} {w : World} {pr : Nat} {S : Nat → Prop} {σ : Ds} (h : RG B w pr S σ) (hB : B ≤ w.heap.size) (hn : σ.tb.length ≤ 900000) (hs : σ.fs.length ≤ 1000000) (i : Int) (ns : ByteArray) (a : Bool) (vs : ByteArray) (b : Bool) (z : Int) (hi0 : 0 ≤ i) (hi1 : i ≤ 2147483647) (hsm : ∀ f ∈ σ.tb, SmF f) (hns : ns.size ≤ 200000) (hvs : vs.size ≤ 200000) (h0 : i = 0) :
    Calls Tryd.prog 33 #[.pointer (some ⟨pr, 0, none⟩), .agg #[.int .i64 2, .int .i64 i, .string ns, .bool a, .string vs, .bool b, .int .i64 z]] w (RGo B w pr S (dstep σ 2 i ns vs z)) := by
  obtain ⟨i0, hi, hz2, hz3, hz4⟩ := info_parts field_info
  have al := (Below.refl w.heap.size w).alloc (Nat.le_refl _) (.cells #[.int .i64 2, .int .i64 i, .string ns, .bool a, .string vs, .bool b, .int .i64 z] 81)
  have R0 := heap_alloc_new w (.cells #[.int .i64 2, .int .i64 i, .string ns, .bool a, .string vs, .bool b, .int .i64 z] 81)
  have al2 := (Below.refl (w.alloc (.cells #[.int .i64 2, .int .i64 i, .string ns, .bool a, .string vs, .bool b, .int .i64 z] 81)).heap.size (w.alloc (.cells #[.int .i64 2, .int .i64 i, .string ns, .bool a, .string vs, .bool b, .int .i64 z] 81))).alloc (Nat.le_refl _) (.cells #[.string ns, .string vs, .bool false] 51)
  have R1 := heap_alloc_new (w.alloc (.cells #[.int .i64 2, .int .i64 i, .string ns, .bool a, .string vs, .bool b, .int .i64 z] 81)) (.cells #[.string ns, .string vs, .bool false] 51)
  have R2 := hide (keepRow R0 al2)
  have hs1 : (w.alloc (.cells #[.int .i64 2, .int .i64 i, .string ns, .bool a, .string vs, .bool b, .int .i64 z] 81)).heap.size = w.heap.size + 1 := by simp
  rw [hs1] at R1
  have R3 := hide R1
  obtain ⟨b0, b1, b2, b3, b4, b5, b6⟩ := row7D R0
  obtain ⟨q0, q1, q2, q3, q4, q5, q6⟩ := row7D R2.out
  have EE := hide (al.of al2)
  have HB := hide hB
  have HnT := hide hn
  have HPb : Hid (w.heap.size ≤ w.heap.size) := Nat.le_refl _
  have HPf : Hid (w.heap.size ≤ w.heap.size + 1) := Nat.le_succ _
  obtain ⟨⟨pt, g, Vf, Vs, hx⟩, hl⟩ := id h
  have HX := hide hx
  have Hl := hide hl
  have H := hide h
  have HSm := hide hsm
  have Hns := hide hns
  have Hvs := hide hvs
  clear hx hl h hB al al2 R0 R1 hs1 hsm hns hvs
  subst h0
  have hd : dstep σ 2 0 ns vs z = .inl ⟨σ.fs ++ [⟨ns, vs, false⟩], σ.szs, σ.mx, addL σ.mx ⟨ns, vs, false⟩ σ.tb⟩ := rfl
  have HD := hide hd
  have HWt : Hid (wt ⟨ns, vs, false⟩ ≤ 1000000) := SmF.wt ⟨Hns.out, Hvs.out⟩
  clear hd
  go_enter Tryd.func33, Tryd.ntmps33
  go_upto_region 11 with (fail)
  refine absE _ (ParT w w.heap.size (w.heap.size + 1) 2 0 ns a vs b z ⟨ns, vs, false⟩) ⟨R2.out, R3.out, EE.out⟩ ?_
  intro W0 ⟨rb0, rf0, e0⟩
  have RB := hide rb0
  have RF : Hid (W0.heap[(w.heap.size + 1)]? = some (.cells #[.string ns, .string vs, .bool false] 51 (0, 0))) := rf0
  have E0 := hide e0
  have X0 : Hid (RGx B W0 pr pt g Vf Vs S σ) := HX.out.at_ fun i hi => e0.block i (Hl.out i hi).2
  have L0 : Hid (∀ i, S i → B ≤ i ∧ i < W0.heap.size) := fun i hi => ⟨(Hl.out i hi).1, Nat.lt_of_lt_of_le (Hl.out i hi).2 e0.size⟩
  have B0 : Hid (B ≤ W0.heap.size) := Nat.le_trans HB.out e0.size
  have alx := (Below.refl W0.heap.size W0).alloc (Nat.le_refl _) (.cells #[.string ns, .string vs, .bool false] 51)
  have XA : Hid (RGx B (W0.alloc (.cells #[.string ns, .string vs, .bool false] 51)) pr pt g Vf Vs S σ) := X0.out.at_ fun i hi => alx.block i (L0.out i hi).2
  have BA : Hid (B ≤ (W0.alloc (.cells #[.string ns, .string vs, .bool false] 51)).heap.size) := Nat.le_trans B0.out alx.size
  have Lx : Hid (RdV 3 (W0.alloc (.cells #[.string ns, .string vs, .bool false] 51)) (some ⟨W0.heap.size, 0, none⟩) 1 1 (fdV fun _ => ⟨ns, vs, false⟩)) := (OwnV.lit 3 51 0 W0 (fdV fun _ => ⟨ns, vs, false⟩) #[.string ns, .string vs, .bool false] 1 (Nat.zero_le _) (by simp [maxLen]) rfl).rdS2
  have LA : Hid (∀ i, S i → B ≤ i ∧ i < (W0.alloc (.cells #[.string ns, .string vs, .bool false] 51)).heap.size) := fun i hi => ⟨(L0.out i hi).1, Nat.lt_of_lt_of_le (L0.out i hi).2 alx.size⟩
  have EA := hide (E0.out.of alx)
  have RBA := hide (keepRow RB.out alx)
  have RFA := hide (keepRow RF.out alx)
  have HltPf : Hid ((w.heap.size + 1) < W0.heap.size) := rowLt RF.out
  obtain ⟨c0, c1, c2⟩ := rowT X0.out.row
  obtain ⟨d0, d1, d2⟩ := rowT XA.out.row
  obtain ⟨f0, f1, f2⟩ := rowT RF.out
  obtain ⟨g0, g1, g2⟩ := rowT RFA.out
  clear rb0 rf0 e0 alx
  go_region_law (first | (refine step_appO rfl (.tmp 49) (.tmp 51) _ rfl 3 i0 _ 40 Tryd.underlying25 hi hz2 hz3 hz4 rfl (by omega) B _ σ.fs.length (fdV (fn σ.fs)) rfl (by first | exact XA.out.of | exact (XA.out.of).at_ (fun _ _ => rfl)) _ 0 1 1 (fdV fun _ => ⟨ns, vs, false⟩) rfl (by first | exact Lx.out | exact Lx.out.below36O (Below.refl _ _).drew) (by omega) (fdV_one _ _) (by simp only [maxLen]; omega) (by omega) BA.out ?_; intro v4 w4 hown4 hg4 hob4; have K4 : w4.heap[pr]? = some (.cells #[Vf, Vs, .pointer (some ⟨pt, 0, none⟩)] 77 (0, 0)) := (hg4.block pr XA.out.lt (fun e => XA.out.nf e.symm)).trans XA.out.row; obtain ⟨A4, c4, rfl, _, _⟩ := hown4.rd; obtain ⟨x0, x1, x2⟩ := rowT K4; have fz0 := frozenRow K4 0))
  all_goals
    have hg5 : (W0.alloc (.cells #[.string ns, .string vs, .bool false] 51)).grownBy w4 Vf.ownBlock := ⟨hg4.os, hg4.tape, hg4.output, hg4.size, hg4.block⟩
    have hob5 : (Value.slice A4 (σ.fs.length + 1) c4).ownBlock = Vf.ownBlock ∨ ∀ b, (Value.slice A4 (σ.fs.length + 1) c4).ownBlock = some b → (W0.alloc (.cells #[.string ns, .string vs, .bool false] 51)).heap.size ≤ b := hob4
    obtain ⟨hx5, hl5, hf5, hS5⟩ := XA.out.setF LA.out BA.out hg5 ⟨ns, vs, false⟩ hown4 hob5
    have X5 := hide hx5
    have L5 := hide hl5
    have F5 := hide hf5
    have S5 := hide hS5
    have hnb : ∀ j, w.heap.size ≤ j → ¬ S j := fun j hj hs => by have := (Hl.out j hs).2; omega
    have RB5 := hide (hf5.row RBA.out (hnb _ HPb.out))
    have RF5 := hide (hf5.row RFA.out (hnb _ HPf.out))
    have HnPf : Hid (¬ S (w.heap.size + 1)) := hnb _ HPf.out
    have B5 : Hid (B ≤ (w4.setCell ⟨pr, 0, none⟩ (.slice A4 (σ.fs.length + 1) c4)).heap.size) := Nat.le_trans BA.out hf5.below.size
    obtain ⟨y0, y1, y2, y3, y4, y5, y6⟩ := row7D RB5.out
    clear hx5 hl5 hf5 hS5 hg5 hob5 hown4 hg4 hob4 hnb c0 c1 c2 d0 d1 d2 f0 f1 f2 g0 g1 g2 x0 x1 x2 fz0 K4
    obtain ⟨x0, x1, x2⟩ := rowT X5.out.row
    obtain ⟨f0, f1, f2⟩ := rowT RF5.out
    have HnP5 : Hid (¬ Snx S (Value.slice A4 (σ.fs.length + 1) c4).ownBlock (w.heap.size + 1)) := fun h => by
      rcases S5.out _ h with h | h
      · exact HnPf.out h
      · have := HltPf.out; simp at h; omega
    go_upto_region 13 with (fail)
    generalize w4.setCell ⟨pr, 0, none⟩ (.slice A4 (σ.fs.length + 1) c4) = W5 at *
    go_region_held3 (fun W => W.cell? ⟨pr, 2, none⟩ = some (.pointer (some ⟨pt, 0, none⟩)) ∧ W.cell? ⟨(w.heap.size + 1), 0, none⟩ = some (.string ns) ∧ W.cell? ⟨(w.heap.size + 1), 1, none⟩ = some (.string vs) ∧ W.cell? ⟨(w.heap.size + 1), 2, none⟩ = some (.bool false))
      ((first | exact ⟨x2, f0, f1, f2⟩ | exact S6.out | (go_keep; done)))
      ((first
        | (go_at_call 54; refine (addTL (TOk.drew X5.out.tl) B5.out HnT.out ⟨ns, vs, false⟩ HWt.out).mono ?_; rintro e w6 ⟨g', rfl, ht6, hf6, hg6⟩; obtain ⟨hx6, hl6, hF6, hS6⟩ := X5.out.setT L5.out ht6 (FrO.undrew hf6) hg6; have X6 := hide hx6; have L6 := hide hl6; have F6 := hide hF6; have SS6 := hide hS6; have RF6 := hide (hF6.row RF5.out HnP5.out); have S6 := hide (And.intro (rowT hx6.row).2.2 (rowT RF6.out)); clear hx6 hl6 hF6 hS6 ht6 hf6 hg6)))
    all_goals
      go_wp2_with fail
      go_ret
      rw [HD.out]
      refine ⟨rfl, _, ⟨⟨pt, g', .slice A4 (σ.fs.length + 1) c4, Vs, X6.out⟩, L6.out⟩, (FrO.of (S := S) EA.out HB.out).step (F5.out.step F6.out S5.out) fun i hi => .inl hi, fun i hi => ?_⟩
      rcases SS6.out i hi with h | h
      · exact (S5.out i h).imp id fun h => Nat.le_trans EA.out.size h
      · exact .inr (Nat.le_trans EA.out.size (Nat.le_trans F5.out.below.size h))
set_option maxRecDepth 20000 in
set_option maxHeartbeats 3200000 in
theorem dtake2i {B : Nat} {w : World} {pr : Nat} {S : Nat → Prop} {σ : Ds} (h : RG B w pr S σ) (hB : B ≤ w.heap.size) (hn : σ.tb.length ≤ 900000) (hs : σ.fs.length ≤ 1000000) (i : Int) (ns : ByteArray) (a : Bool) (vs : ByteArray) (b : Bool) (z : Int) (hi0 : 0 ≤ i) (hi1 : i ≤ 2147483647) (hsm : ∀ f ∈ σ.tb, SmF f) (hns : ns.size ≤ 200000) (hvs : vs.size ≤ 200000) (h0 : 0 < i) :
    Calls Tryd.prog 33 #[.pointer (some ⟨pr, 0, none⟩), .agg #[.int .i64 2, .int .i64 i, .string ns, .bool a, .string vs, .bool b, .int .i64 z]] w (RGo B w pr S (dstep σ 2 i ns vs z)) := by
  obtain ⟨i0, hi, hz2, hz3, hz4⟩ := info_parts field_info
  have al := (Below.refl w.heap.size w).alloc (Nat.le_refl _) (.cells #[.int .i64 2, .int .i64 i, .string ns, .bool a, .string vs, .bool b, .int .i64 z] 81)
  have R0 := heap_alloc_new w (.cells #[.int .i64 2, .int .i64 i, .string ns, .bool a, .string vs, .bool b, .int .i64 z] 81)
  have al2 := (Below.refl (w.alloc (.cells #[.int .i64 2, .int .i64 i, .string ns, .bool a, .string vs, .bool b, .int .i64 z] 81)).heap.size (w.alloc (.cells #[.int .i64 2, .int .i64 i, .string ns, .bool a, .string vs, .bool b, .int .i64 z] 81))).alloc (Nat.le_refl _) (.cells #[.string ns, .string vs, .bool false] 51)
  have R1 := heap_alloc_new (w.alloc (.cells #[.int .i64 2, .int .i64 i, .string ns, .bool a, .string vs, .bool b, .int .i64 z] 81)) (.cells #[.string ns, .string vs, .bool false] 51)
  have R2 := hide (keepRow R0 al2)
  have hs1 : (w.alloc (.cells #[.int .i64 2, .int .i64 i, .string ns, .bool a, .string vs, .bool b, .int .i64 z] 81)).heap.size = w.heap.size + 1 := by simp
  rw [hs1] at R1
  have R3 := hide R1
  obtain ⟨b0, b1, b2, b3, b4, b5, b6⟩ := row7D R0
  obtain ⟨q0, q1, q2, q3, q4, q5, q6⟩ := row7D R2.out
  have EE := hide (al.of al2)
  have HB := hide hB
  have HnT := hide hn
  have HPb : Hid (w.heap.size ≤ w.heap.size) := Nat.le_refl _
  have HPf : Hid (w.heap.size ≤ w.heap.size + 1) := Nat.le_succ _
  obtain ⟨⟨pt, g, Vf, Vs, hx⟩, hl⟩ := id h
  have HX := hide hx
  have Hl := hide hl
  have H := hide h
  have HSm := hide hsm
  have Hns := hide hns
  have Hvs := hide hvs
  clear hx hl h hB al al2 R0 R1 hs1 hsm hns hvs
  have hd0 : decide (0 < i) = true := decide_eq_true h0
  have hsz2 : ((w.alloc (.cells #[.int .i64 2, .int .i64 i, .string ns, .bool a, .string vs, .bool b, .int .i64 z] 81)).alloc (.cells #[.string ns, .string vs, .bool false] 51)).heap.size = w.heap.size + 1 + 1 := by simp
  have HSz2 := hide hsz2
  have H2 := hide (H.out.below EE.out)
  clear hsz2
  go_enter Tryd.func33, Tryd.ntmps33
  go_wp2_with fail
  refine (dat23 H2.out (by omega) i (by omega) hi1).mono ?_
  rintro e w3 ⟨nm, vl, nv, has, rfl, hv, hb3⟩
  have al3 := (Below.refl w3.heap.size w3).alloc (Nat.le_refl _) (.cells #[.string nm, .string vl, .bool nv] 51)
  have R4 := hide (heap_alloc_new w3 (.cells #[.string nm, .string vl, .bool nv] 51))
  have RB4 := hide (keepRow (keepRow R2.out hb3) al3)
  have RF4 := hide (keepRow (keepRow R3.out hb3) al3)
  have E4 := hide ((EE.out.of hb3).of al3)
  have HV := hide hv
  have hlt3 : w.heap.size + 1 < w3.heap.size := by have := hb3.size; rw [HSz2.out] at this; omega
  have Hne4 : Hid (w3.heap.size ≠ w.heap.size + 1) := by show _ ≠ _; omega
  clear hv hb3 al3 q0 q1 q2 q3 q4 q5 q6 b0 b1 b2 b3 b4 b5 b6 R2 R3 EE H2
  obtain ⟨q0, q1, q2, q3, q4, q5, q6⟩ := row7D RB4.out
  obtain ⟨f0, f1, f2⟩ := rowT RF4.out
  obtain ⟨t0, t1, t2⟩ := rowT R4.out
  rcases HV.out with ⟨hp, rfl, rfl, rfl, rfl⟩ | ⟨f, hp, rfl, rfl, rfl, rfl⟩
  · have hd : dstep σ 2 i ns vs z = .inr 12 := by
      unfold dstep dfld
      rw [if_neg (by omega), if_pos h0, hp]
    have HD := hide hd
    clear hd hp h0
    go_wp2_with fail
    go_ret
    rw [HD.out]
    exact ⟨rfl, E4.out⟩
  · obtain ⟨nm, vl, nv⟩ := f
    have hd : dstep σ 2 i ns vs z = .inl ⟨σ.fs ++ [⟨nm, vs, false⟩], σ.szs, σ.mx, addL σ.mx ⟨nm, vs, false⟩ σ.tb⟩ := by
      unfold dstep dfld
      rw [if_neg (by omega), if_pos h0, hp]
      rfl
    have HD := hide hd
    have hsf := atP_sm HSm.out hp
    have HWt : Hid (wt ⟨nm, vs, false⟩ ≤ 1000000) := SmF.wt ⟨hsf.1, Hvs.out⟩
    clear hd hp h0 hsf
    simp only at *
    go_upto_region 8 with (fail)
    refine absE _ (fun W => W.heap[w.heap.size]? = some (.cells #[.int .i64 2, .int .i64 i, .string ns, .bool a, .string vs, .bool b, .int .i64 z] 81 (0, 0)) ∧ W.heap[w.heap.size + 1]? = some (.cells #[.string ns, .string vs, .bool false] 51 (0, 0)) ∧ W.heap[w3.heap.size]? = some (.cells #[.string nm, .string vl, .bool nv] 51 (0, 0)) ∧ Below w.heap.size w W) ⟨RB4.out, RF4.out, R4.out, E4.out⟩ ?_
    clear q0 q1 q2 q3 q4 q5 q6 f0 f1 f2 t0 t1 t2 RB4 RF4 R4 E4
    generalize w3.heap.size = p3 at *
    intro W4 ⟨rb4, rf4, rt4, e4⟩
    have RB4 := hide rb4
    have RF4 := hide rf4
    have RT4 := hide rt4
    have E4 := hide e4
    clear rb4 rf4 rt4 e4
    obtain ⟨q0, q1, q2, q3, q4, q5, q6⟩ := row7D RB4.out
    obtain ⟨f0, f1, f2⟩ := rowT RF4.out
    obtain ⟨t0, t1, t2⟩ := rowT RT4.out
    obtain ⟨⟨k0, z0⟩, rr⟩ := store1f RF4.out (.string nm)
    have RF5 := hide rr
    have RB5 : Hid ((W4.setCell ⟨w.heap.size + 1, 0, none⟩ (.string nm)).heap[w.heap.size]? = some (.cells #[.int .i64 2, .int .i64 i, .string ns, .bool a, .string vs, .bool b, .int .i64 z] 81 (0, 0))) := (Below.heap_setCell _ ⟨w.heap.size + 1, 0, none⟩ _ _ (by simp)).trans RB4.out
    have RT5 : Hid ((W4.setCell ⟨w.heap.size + 1, 0, none⟩ (.string nm)).heap[p3]? = some (.cells #[.string nm, .string vl, .bool nv] 51 (0, 0))) := (Below.heap_setCell _ ⟨w.heap.size + 1, 0, none⟩ _ _ Hne4.out).trans RT4.out
    have E5 := hide (E4.out.setCell (p := ⟨w.heap.size + 1, 0, none⟩) (Nat.le_succ _) (.string nm))
    clear rr
    obtain ⟨x0, x1, x2, x3, x4, x5, x6⟩ := row7D RB5.out
    obtain ⟨s0, s1, s2⟩ := rowT RT5.out
    obtain ⟨⟨m0, l0⟩, ⟨m1, l1⟩, ⟨m2, l2⟩, rr⟩ := store3d RF5.out (.string nm) (.string vl) (.bool nv)
    have RF6 := hide rr
    have RB6 : Hid (((((W4.setCell ⟨w.heap.size + 1, 0, none⟩ (.string nm)).setCell ⟨w.heap.size + 1, 0, none⟩ (.string nm)).setCell ⟨w.heap.size + 1, 1, none⟩ (.string vl)).setCell ⟨w.heap.size + 1, 2, none⟩ (.bool nv)).heap[w.heap.size]? = some (.cells #[.int .i64 2, .int .i64 i, .string ns, .bool a, .string vs, .bool b, .int .i64 z] 81 (0, 0))) := by
      show _ = _
      rw [Below.heap_setCell _ ⟨w.heap.size + 1, 2, none⟩ _ _ (by simp), Below.heap_setCell _ ⟨w.heap.size + 1, 1, none⟩ _ _ (by simp), Below.heap_setCell _ ⟨w.heap.size + 1, 0, none⟩ _ _ (by simp)]
      exact RB5.out
    have E6 := hide (below3d E5.out (Nat.le_succ w.heap.size) (.string nm) (.string vl) (.bool nv))
    clear rr
    go_upto_region 11 with (fail)
    refine absE _ (ParT w w.heap.size (w.heap.size + 1) 2 i ns a vs b z ⟨nm, vs, false⟩) ⟨RB5.out, RF5.out, E5.out⟩ ?_
    clear x0 x1 x2 x3 x4 x5 x6 s0 s1 s2 m0 l0 m1 l1 m2 l2 RF6 RB6 E6 RF5 RB5 RT5 E5 RT4 RB4 RF4 E4 q0 q1 q2 q3 q4 q5 q6 f0 f1 f2 t0 t1 t2 k0 z0 Hne4
    intro W0 ⟨rb0, rf0, e0⟩
    have RB := hide rb0
    have RF : Hid (W0.heap[(w.heap.size + 1)]? = some (.cells #[.string nm, .string vs, .bool false] 51 (0, 0))) := rf0
    have E0 := hide e0
    have X0 : Hid (RGx B W0 pr pt g Vf Vs S σ) := HX.out.at_ fun i hi => e0.block i (Hl.out i hi).2
    have L0 : Hid (∀ i, S i → B ≤ i ∧ i < W0.heap.size) := fun i hi => ⟨(Hl.out i hi).1, Nat.lt_of_lt_of_le (Hl.out i hi).2 e0.size⟩
    have B0 : Hid (B ≤ W0.heap.size) := Nat.le_trans HB.out e0.size
    have alx := (Below.refl W0.heap.size W0).alloc (Nat.le_refl _) (.cells #[.string nm, .string vs, .bool false] 51)
    have XA : Hid (RGx B (W0.alloc (.cells #[.string nm, .string vs, .bool false] 51)) pr pt g Vf Vs S σ) := X0.out.at_ fun i hi => alx.block i (L0.out i hi).2
    have BA : Hid (B ≤ (W0.alloc (.cells #[.string nm, .string vs, .bool false] 51)).heap.size) := Nat.le_trans B0.out alx.size
    have Lx : Hid (RdV 3 (W0.alloc (.cells #[.string nm, .string vs, .bool false] 51)) (some ⟨W0.heap.size, 0, none⟩) 1 1 (fdV fun _ => ⟨nm, vs, false⟩)) := (OwnV.lit 3 51 0 W0 (fdV fun _ => ⟨nm, vs, false⟩) #[.string nm, .string vs, .bool false] 1 (Nat.zero_le _) (by simp [maxLen]) rfl).rdS2
    have LA : Hid (∀ i, S i → B ≤ i ∧ i < (W0.alloc (.cells #[.string nm, .string vs, .bool false] 51)).heap.size) := fun i hi => ⟨(L0.out i hi).1, Nat.lt_of_lt_of_le (L0.out i hi).2 alx.size⟩
    have EA := hide (E0.out.of alx)
    have RBA := hide (keepRow RB.out alx)
    have RFA := hide (keepRow RF.out alx)
    have HltPf : Hid ((w.heap.size + 1) < W0.heap.size) := rowLt RF.out
    obtain ⟨c0, c1, c2⟩ := rowT X0.out.row
    obtain ⟨d0, d1, d2⟩ := rowT XA.out.row
    obtain ⟨f0, f1, f2⟩ := rowT RF.out
    obtain ⟨g0, g1, g2⟩ := rowT RFA.out
    clear rb0 rf0 e0 alx
    go_region_law (first | (refine step_appO rfl (.tmp 49) (.tmp 51) _ rfl 3 i0 _ 40 Tryd.underlying25 hi hz2 hz3 hz4 rfl (by omega) B _ σ.fs.length (fdV (fn σ.fs)) rfl (by first | exact XA.out.of | exact (XA.out.of).at_ (fun _ _ => rfl)) _ 0 1 1 (fdV fun _ => ⟨nm, vs, false⟩) rfl (by first | exact Lx.out | exact Lx.out.below36O (Below.refl _ _).drew) (by omega) (fdV_one _ _) (by simp only [maxLen]; omega) (by omega) BA.out ?_; intro v4 w4 hown4 hg4 hob4; have K4 : w4.heap[pr]? = some (.cells #[Vf, Vs, .pointer (some ⟨pt, 0, none⟩)] 77 (0, 0)) := (hg4.block pr XA.out.lt (fun e => XA.out.nf e.symm)).trans XA.out.row; obtain ⟨A4, c4, rfl, _, _⟩ := hown4.rd; obtain ⟨x0, x1, x2⟩ := rowT K4; have fz0 := frozenRow K4 0))
    all_goals
      have hg5 : (W0.alloc (.cells #[.string nm, .string vs, .bool false] 51)).grownBy w4 Vf.ownBlock := ⟨hg4.os, hg4.tape, hg4.output, hg4.size, hg4.block⟩
      have hob5 : (Value.slice A4 (σ.fs.length + 1) c4).ownBlock = Vf.ownBlock ∨ ∀ b, (Value.slice A4 (σ.fs.length + 1) c4).ownBlock = some b → (W0.alloc (.cells #[.string nm, .string vs, .bool false] 51)).heap.size ≤ b := hob4
      obtain ⟨hx5, hl5, hf5, hS5⟩ := XA.out.setF LA.out BA.out hg5 ⟨nm, vs, false⟩ hown4 hob5
      have X5 := hide hx5
      have L5 := hide hl5
      have F5 := hide hf5
      have S5 := hide hS5
      have hnb : ∀ j, w.heap.size ≤ j → ¬ S j := fun j hj hs => by have := (Hl.out j hs).2; omega
      have RB5 := hide (hf5.row RBA.out (hnb _ HPb.out))
      have RF5 := hide (hf5.row RFA.out (hnb _ HPf.out))
      have HnPf : Hid (¬ S (w.heap.size + 1)) := hnb _ HPf.out
      have B5 : Hid (B ≤ (w4.setCell ⟨pr, 0, none⟩ (.slice A4 (σ.fs.length + 1) c4)).heap.size) := Nat.le_trans BA.out hf5.below.size
      obtain ⟨y0, y1, y2, y3, y4, y5, y6⟩ := row7D RB5.out
      clear hx5 hl5 hf5 hS5 hg5 hob5 hown4 hg4 hob4 hnb c0 c1 c2 d0 d1 d2 f0 f1 f2 g0 g1 g2 x0 x1 x2 fz0 K4
      obtain ⟨x0, x1, x2⟩ := rowT X5.out.row
      obtain ⟨f0, f1, f2⟩ := rowT RF5.out
      have HnP5 : Hid (¬ Snx S (Value.slice A4 (σ.fs.length + 1) c4).ownBlock (w.heap.size + 1)) := fun h => by
        rcases S5.out _ h with h | h
        · exact HnPf.out h
        · have := HltPf.out; simp at h; omega
      go_upto_region 13 with (fail)
      generalize w4.setCell ⟨pr, 0, none⟩ (.slice A4 (σ.fs.length + 1) c4) = W5 at *
      go_region_held3 (fun W => W.cell? ⟨pr, 2, none⟩ = some (.pointer (some ⟨pt, 0, none⟩)) ∧ W.cell? ⟨(w.heap.size + 1), 0, none⟩ = some (.string nm) ∧ W.cell? ⟨(w.heap.size + 1), 1, none⟩ = some (.string vs) ∧ W.cell? ⟨(w.heap.size + 1), 2, none⟩ = some (.bool false))
        ((first | exact ⟨x2, f0, f1, f2⟩ | exact S6.out | (go_keep; done)))
        ((first
          | (go_at_call 54; refine (addTL (TOk.drew X5.out.tl) B5.out HnT.out ⟨nm, vs, false⟩ HWt.out).mono ?_; rintro e w6 ⟨g', rfl, ht6, hf6, hg6⟩; obtain ⟨hx6, hl6, hF6, hS6⟩ := X5.out.setT L5.out ht6 (FrO.undrew hf6) hg6; have X6 := hide hx6; have L6 := hide hl6; have F6 := hide hF6; have SS6 := hide hS6; have RF6 := hide (hF6.row RF5.out HnP5.out); have S6 := hide (And.intro (rowT hx6.row).2.2 (rowT RF6.out)); clear hx6 hl6 hF6 hS6 ht6 hf6 hg6)))
      all_goals
        go_wp2_with fail
        go_ret
        rw [HD.out]
        refine ⟨rfl, _, ⟨⟨pt, g', .slice A4 (σ.fs.length + 1) c4, Vs, X6.out⟩, L6.out⟩, (FrO.of (S := S) EA.out HB.out).step (F5.out.step F6.out S5.out) fun i hi => .inl hi, fun i hi => ?_⟩
        rcases SS6.out i hi with h | h
        · exact (S5.out i h).imp id fun h => Nat.le_trans EA.out.size h
        · exact .inr (Nat.le_trans EA.out.size (Nat.le_trans F5.out.below.size h))
set_option maxRecDepth 20000 in
set_option maxHeartbeats 3200000 in
theorem dtake3z {B : Nat} {w : World} {pr : Nat} {S : Nat → Prop} {σ : Ds} (h : RG B w pr S σ) (hB : B ≤ w.heap.size) (hn : σ.tb.length ≤ 900000) (hs : σ.fs.length ≤ 1000000) (i : Int) (ns : ByteArray) (a : Bool) (vs : ByteArray) (b : Bool) (z : Int) (hi0 : 0 ≤ i) (hi1 : i ≤ 2147483647) (hsm : ∀ f ∈ σ.tb, SmF f) (hns : ns.size ≤ 200000) (hvs : vs.size ≤ 200000) (h0 : i = 0) :
    Calls Tryd.prog 33 #[.pointer (some ⟨pr, 0, none⟩), .agg #[.int .i64 3, .int .i64 i, .string ns, .bool a, .string vs, .bool b, .int .i64 z]] w (RGo B w pr S (dstep σ 3 i ns vs z)) := by
  obtain ⟨i0, hi, hz2, hz3, hz4⟩ := info_parts field_info
  have al := (Below.refl w.heap.size w).alloc (Nat.le_refl _) (.cells #[.int .i64 3, .int .i64 i, .string ns, .bool a, .string vs, .bool b, .int .i64 z] 81)
  have R0 := heap_alloc_new w (.cells #[.int .i64 3, .int .i64 i, .string ns, .bool a, .string vs, .bool b, .int .i64 z] 81)
  have al2 := (Below.refl (w.alloc (.cells #[.int .i64 3, .int .i64 i, .string ns, .bool a, .string vs, .bool b, .int .i64 z] 81)).heap.size (w.alloc (.cells #[.int .i64 3, .int .i64 i, .string ns, .bool a, .string vs, .bool b, .int .i64 z] 81))).alloc (Nat.le_refl _) (.cells #[.string ns, .string vs, .bool false] 51)
  have R1 := heap_alloc_new (w.alloc (.cells #[.int .i64 3, .int .i64 i, .string ns, .bool a, .string vs, .bool b, .int .i64 z] 81)) (.cells #[.string ns, .string vs, .bool false] 51)
  have R2 := hide (keepRow R0 al2)
  have hs1 : (w.alloc (.cells #[.int .i64 3, .int .i64 i, .string ns, .bool a, .string vs, .bool b, .int .i64 z] 81)).heap.size = w.heap.size + 1 := by simp
  rw [hs1] at R1
  have R3 := hide R1
  obtain ⟨b0, b1, b2, b3, b4, b5, b6⟩ := row7D R0
  obtain ⟨q0, q1, q2, q3, q4, q5, q6⟩ := row7D R2.out
  have EE := hide (al.of al2)
  have HB := hide hB
  have HnT := hide hn
  have HPb : Hid (w.heap.size ≤ w.heap.size) := Nat.le_refl _
  have HPf : Hid (w.heap.size ≤ w.heap.size + 1) := Nat.le_succ _
  obtain ⟨⟨pt, g, Vf, Vs, hx⟩, hl⟩ := id h
  have HX := hide hx
  have Hl := hide hl
  have H := hide h
  have HSm := hide hsm
  have Hns := hide hns
  have Hvs := hide hvs
  clear hx hl h hB al al2 R0 R1 hs1 hsm hns hvs
  subst h0
  have hd : dstep σ 3 0 ns vs z = .inl ⟨σ.fs ++ [⟨ns, vs, false⟩], σ.szs, σ.mx, σ.tb⟩ := rfl
  have HD := hide hd
  have HWt : Hid (wt ⟨ns, vs, false⟩ ≤ 1000000) := SmF.wt ⟨Hns.out, Hvs.out⟩
  clear hd
  go_enter Tryd.func33, Tryd.ntmps33
  go_upto_region 11 with (fail)
  refine absE _ (ParT w w.heap.size (w.heap.size + 1) 3 0 ns a vs b z ⟨ns, vs, false⟩) ⟨R2.out, R3.out, EE.out⟩ ?_
  intro W0 ⟨rb0, rf0, e0⟩
  have RB := hide rb0
  have RF : Hid (W0.heap[(w.heap.size + 1)]? = some (.cells #[.string ns, .string vs, .bool false] 51 (0, 0))) := rf0
  have E0 := hide e0
  have X0 : Hid (RGx B W0 pr pt g Vf Vs S σ) := HX.out.at_ fun i hi => e0.block i (Hl.out i hi).2
  have L0 : Hid (∀ i, S i → B ≤ i ∧ i < W0.heap.size) := fun i hi => ⟨(Hl.out i hi).1, Nat.lt_of_lt_of_le (Hl.out i hi).2 e0.size⟩
  have B0 : Hid (B ≤ W0.heap.size) := Nat.le_trans HB.out e0.size
  have alx := (Below.refl W0.heap.size W0).alloc (Nat.le_refl _) (.cells #[.string ns, .string vs, .bool false] 51)
  have XA : Hid (RGx B (W0.alloc (.cells #[.string ns, .string vs, .bool false] 51)) pr pt g Vf Vs S σ) := X0.out.at_ fun i hi => alx.block i (L0.out i hi).2
  have BA : Hid (B ≤ (W0.alloc (.cells #[.string ns, .string vs, .bool false] 51)).heap.size) := Nat.le_trans B0.out alx.size
  have Lx : Hid (RdV 3 (W0.alloc (.cells #[.string ns, .string vs, .bool false] 51)) (some ⟨W0.heap.size, 0, none⟩) 1 1 (fdV fun _ => ⟨ns, vs, false⟩)) := (OwnV.lit 3 51 0 W0 (fdV fun _ => ⟨ns, vs, false⟩) #[.string ns, .string vs, .bool false] 1 (Nat.zero_le _) (by simp [maxLen]) rfl).rdS2
  have LA : Hid (∀ i, S i → B ≤ i ∧ i < (W0.alloc (.cells #[.string ns, .string vs, .bool false] 51)).heap.size) := fun i hi => ⟨(L0.out i hi).1, Nat.lt_of_lt_of_le (L0.out i hi).2 alx.size⟩
  have EA := hide (E0.out.of alx)
  have RBA := hide (keepRow RB.out alx)
  have RFA := hide (keepRow RF.out alx)
  have HltPf : Hid ((w.heap.size + 1) < W0.heap.size) := rowLt RF.out
  obtain ⟨c0, c1, c2⟩ := rowT X0.out.row
  obtain ⟨d0, d1, d2⟩ := rowT XA.out.row
  obtain ⟨f0, f1, f2⟩ := rowT RF.out
  obtain ⟨g0, g1, g2⟩ := rowT RFA.out
  clear rb0 rf0 e0 alx
  go_region_law (first | (refine step_appO rfl (.tmp 49) (.tmp 51) _ rfl 3 i0 _ 40 Tryd.underlying25 hi hz2 hz3 hz4 rfl (by omega) B _ σ.fs.length (fdV (fn σ.fs)) rfl (by first | exact XA.out.of | exact (XA.out.of).at_ (fun _ _ => rfl)) _ 0 1 1 (fdV fun _ => ⟨ns, vs, false⟩) rfl (by first | exact Lx.out | exact Lx.out.below36O (Below.refl _ _).drew) (by omega) (fdV_one _ _) (by simp only [maxLen]; omega) (by omega) BA.out ?_; intro v4 w4 hown4 hg4 hob4; have K4 : w4.heap[pr]? = some (.cells #[Vf, Vs, .pointer (some ⟨pt, 0, none⟩)] 77 (0, 0)) := (hg4.block pr XA.out.lt (fun e => XA.out.nf e.symm)).trans XA.out.row; obtain ⟨A4, c4, rfl, _, _⟩ := hown4.rd; obtain ⟨x0, x1, x2⟩ := rowT K4; have fz0 := frozenRow K4 0))
  all_goals
    have hg5 : (W0.alloc (.cells #[.string ns, .string vs, .bool false] 51)).grownBy w4 Vf.ownBlock := ⟨hg4.os, hg4.tape, hg4.output, hg4.size, hg4.block⟩
    have hob5 : (Value.slice A4 (σ.fs.length + 1) c4).ownBlock = Vf.ownBlock ∨ ∀ b, (Value.slice A4 (σ.fs.length + 1) c4).ownBlock = some b → (W0.alloc (.cells #[.string ns, .string vs, .bool false] 51)).heap.size ≤ b := hob4
    obtain ⟨hx5, hl5, hf5, hS5⟩ := XA.out.setF LA.out BA.out hg5 ⟨ns, vs, false⟩ hown4 hob5
    have X5 := hide hx5
    have L5 := hide hl5
    have F5 := hide hf5
    have S5 := hide hS5
    have hnb : ∀ j, w.heap.size ≤ j → ¬ S j := fun j hj hs => by have := (Hl.out j hs).2; omega
    have RB5 := hide (hf5.row RBA.out (hnb _ HPb.out))
    have RF5 := hide (hf5.row RFA.out (hnb _ HPf.out))
    have HnPf : Hid (¬ S (w.heap.size + 1)) := hnb _ HPf.out
    have B5 : Hid (B ≤ (w4.setCell ⟨pr, 0, none⟩ (.slice A4 (σ.fs.length + 1) c4)).heap.size) := Nat.le_trans BA.out hf5.below.size
    obtain ⟨y0, y1, y2, y3, y4, y5, y6⟩ := row7D RB5.out
    clear hx5 hl5 hf5 hS5 hg5 hob5 hown4 hg4 hob4 hnb c0 c1 c2 d0 d1 d2 f0 f1 f2 g0 g1 g2 x0 x1 x2 fz0 K4
    obtain ⟨x0, x1, x2⟩ := rowT X5.out.row
    obtain ⟨f0, f1, f2⟩ := rowT RF5.out
    go_wp2_with fail
    go_ret
    rw [HD.out]
    refine ⟨rfl, _, ⟨⟨pt, g, .slice A4 (σ.fs.length + 1) c4, Vs, X5.out⟩, L5.out⟩, (FrO.of (S := S) EA.out HB.out).step F5.out fun i hi => .inl hi, fun i hi => (S5.out i hi).imp id fun h => Nat.le_trans EA.out.size h⟩
set_option maxRecDepth 20000 in
set_option maxHeartbeats 3200000 in
theorem dtake3i {B : Nat} {w : World} {pr : Nat} {S : Nat → Prop} {σ : Ds} (h : RG B w pr S σ) (hB : B ≤ w.heap.size) (hn : σ.tb.length ≤ 900000) (hs : σ.fs.length ≤ 1000000) (i : Int) (ns : ByteArray) (a : Bool) (vs : ByteArray) (b : Bool) (z : Int) (hi0 : 0 ≤ i) (hi1 : i ≤ 2147483647) (hsm : ∀ f ∈ σ.tb, SmF f) (hns : ns.size ≤ 200000) (hvs : vs.size ≤ 200000) (h0 : 0 < i) :
    Calls Tryd.prog 33 #[.pointer (some ⟨pr, 0, none⟩), .agg #[.int .i64 3, .int .i64 i, .string ns, .bool a, .string vs, .bool b, .int .i64 z]] w (RGo B w pr S (dstep σ 3 i ns vs z)) := by
  obtain ⟨i0, hi, hz2, hz3, hz4⟩ := info_parts field_info
  have al := (Below.refl w.heap.size w).alloc (Nat.le_refl _) (.cells #[.int .i64 3, .int .i64 i, .string ns, .bool a, .string vs, .bool b, .int .i64 z] 81)
  have R0 := heap_alloc_new w (.cells #[.int .i64 3, .int .i64 i, .string ns, .bool a, .string vs, .bool b, .int .i64 z] 81)
  have al2 := (Below.refl (w.alloc (.cells #[.int .i64 3, .int .i64 i, .string ns, .bool a, .string vs, .bool b, .int .i64 z] 81)).heap.size (w.alloc (.cells #[.int .i64 3, .int .i64 i, .string ns, .bool a, .string vs, .bool b, .int .i64 z] 81))).alloc (Nat.le_refl _) (.cells #[.string ns, .string vs, .bool false] 51)
  have R1 := heap_alloc_new (w.alloc (.cells #[.int .i64 3, .int .i64 i, .string ns, .bool a, .string vs, .bool b, .int .i64 z] 81)) (.cells #[.string ns, .string vs, .bool false] 51)
  have R2 := hide (keepRow R0 al2)
  have hs1 : (w.alloc (.cells #[.int .i64 3, .int .i64 i, .string ns, .bool a, .string vs, .bool b, .int .i64 z] 81)).heap.size = w.heap.size + 1 := by simp
  rw [hs1] at R1
  have R3 := hide R1
  obtain ⟨b0, b1, b2, b3, b4, b5, b6⟩ := row7D R0
  obtain ⟨q0, q1, q2, q3, q4, q5, q6⟩ := row7D R2.out
  have EE := hide (al.of al2)
  have HB := hide hB
  have HnT := hide hn
  have HPb : Hid (w.heap.size ≤ w.heap.size) := Nat.le_refl _
  have HPf : Hid (w.heap.size ≤ w.heap.size + 1) := Nat.le_succ _
  obtain ⟨⟨pt, g, Vf, Vs, hx⟩, hl⟩ := id h
  have HX := hide hx
  have Hl := hide hl
  have H := hide h
  have HSm := hide hsm
  have Hns := hide hns
  have Hvs := hide hvs
  clear hx hl h hB al al2 R0 R1 hs1 hsm hns hvs
  have hd0 : decide (0 < i) = true := decide_eq_true h0
  have hsz2 : ((w.alloc (.cells #[.int .i64 3, .int .i64 i, .string ns, .bool a, .string vs, .bool b, .int .i64 z] 81)).alloc (.cells #[.string ns, .string vs, .bool false] 51)).heap.size = w.heap.size + 1 + 1 := by simp
  have HSz2 := hide hsz2
  have H2 := hide (H.out.below EE.out)
  clear hsz2
  go_enter Tryd.func33, Tryd.ntmps33
  go_wp2_with fail
  refine (dat23 H2.out (by omega) i (by omega) hi1).mono ?_
  rintro e w3 ⟨nm, vl, nv, has, rfl, hv, hb3⟩
  have al3 := (Below.refl w3.heap.size w3).alloc (Nat.le_refl _) (.cells #[.string nm, .string vl, .bool nv] 51)
  have R4 := hide (heap_alloc_new w3 (.cells #[.string nm, .string vl, .bool nv] 51))
  have RB4 := hide (keepRow (keepRow R2.out hb3) al3)
  have RF4 := hide (keepRow (keepRow R3.out hb3) al3)
  have E4 := hide ((EE.out.of hb3).of al3)
  have HV := hide hv
  have hlt3 : w.heap.size + 1 < w3.heap.size := by have := hb3.size; rw [HSz2.out] at this; omega
  have Hne4 : Hid (w3.heap.size ≠ w.heap.size + 1) := by show _ ≠ _; omega
  clear hv hb3 al3 q0 q1 q2 q3 q4 q5 q6 b0 b1 b2 b3 b4 b5 b6 R2 R3 EE H2
  obtain ⟨q0, q1, q2, q3, q4, q5, q6⟩ := row7D RB4.out
  obtain ⟨f0, f1, f2⟩ := rowT RF4.out
  obtain ⟨t0, t1, t2⟩ := rowT R4.out
  rcases HV.out with ⟨hp, rfl, rfl, rfl, rfl⟩ | ⟨f, hp, rfl, rfl, rfl, rfl⟩
  · have hd : dstep σ 3 i ns vs z = .inr 12 := by
      unfold dstep dfld
      rw [if_neg (by omega), if_pos h0, hp]
    have HD := hide hd
    clear hd hp h0
    go_wp2_with fail
    go_ret
    rw [HD.out]
    exact ⟨rfl, E4.out⟩
  · obtain ⟨nm, vl, nv⟩ := f
    have hd : dstep σ 3 i ns vs z = .inl ⟨σ.fs ++ [⟨nm, vs, false⟩], σ.szs, σ.mx, σ.tb⟩ := by
      unfold dstep dfld
      rw [if_neg (by omega), if_pos h0, hp]
      rfl
    have HD := hide hd
    have hsf := atP_sm HSm.out hp
    have HWt : Hid (wt ⟨nm, vs, false⟩ ≤ 1000000) := SmF.wt ⟨hsf.1, Hvs.out⟩
    clear hd hp h0 hsf
    simp only at *
    go_upto_region 8 with (fail)
    refine absE _ (fun W => W.heap[w.heap.size]? = some (.cells #[.int .i64 3, .int .i64 i, .string ns, .bool a, .string vs, .bool b, .int .i64 z] 81 (0, 0)) ∧ W.heap[w.heap.size + 1]? = some (.cells #[.string ns, .string vs, .bool false] 51 (0, 0)) ∧ W.heap[w3.heap.size]? = some (.cells #[.string nm, .string vl, .bool nv] 51 (0, 0)) ∧ Below w.heap.size w W) ⟨RB4.out, RF4.out, R4.out, E4.out⟩ ?_
    clear q0 q1 q2 q3 q4 q5 q6 f0 f1 f2 t0 t1 t2 RB4 RF4 R4 E4
    generalize w3.heap.size = p3 at *
    intro W4 ⟨rb4, rf4, rt4, e4⟩
    have RB4 := hide rb4
    have RF4 := hide rf4
    have RT4 := hide rt4
    have E4 := hide e4
    clear rb4 rf4 rt4 e4
    obtain ⟨q0, q1, q2, q3, q4, q5, q6⟩ := row7D RB4.out
    obtain ⟨f0, f1, f2⟩ := rowT RF4.out
    obtain ⟨t0, t1, t2⟩ := rowT RT4.out
    obtain ⟨⟨k0, z0⟩, rr⟩ := store1f RF4.out (.string nm)
    have RF5 := hide rr
    have RB5 : Hid ((W4.setCell ⟨w.heap.size + 1, 0, none⟩ (.string nm)).heap[w.heap.size]? = some (.cells #[.int .i64 3, .int .i64 i, .string ns, .bool a, .string vs, .bool b, .int .i64 z] 81 (0, 0))) := (Below.heap_setCell _ ⟨w.heap.size + 1, 0, none⟩ _ _ (by simp)).trans RB4.out
    have RT5 : Hid ((W4.setCell ⟨w.heap.size + 1, 0, none⟩ (.string nm)).heap[p3]? = some (.cells #[.string nm, .string vl, .bool nv] 51 (0, 0))) := (Below.heap_setCell _ ⟨w.heap.size + 1, 0, none⟩ _ _ Hne4.out).trans RT4.out
    have E5 := hide (E4.out.setCell (p := ⟨w.heap.size + 1, 0, none⟩) (Nat.le_succ _) (.string nm))
    clear rr
    obtain ⟨x0, x1, x2, x3, x4, x5, x6⟩ := row7D RB5.out
    obtain ⟨s0, s1, s2⟩ := rowT RT5.out
    obtain ⟨⟨m0, l0⟩, ⟨m1, l1⟩, ⟨m2, l2⟩, rr⟩ := store3d RF5.out (.string nm) (.string vl) (.bool nv)
    have RF6 := hide rr
    have RB6 : Hid (((((W4.setCell ⟨w.heap.size + 1, 0, none⟩ (.string nm)).setCell ⟨w.heap.size + 1, 0, none⟩ (.string nm)).setCell ⟨w.heap.size + 1, 1, none⟩ (.string vl)).setCell ⟨w.heap.size + 1, 2, none⟩ (.bool nv)).heap[w.heap.size]? = some (.cells #[.int .i64 3, .int .i64 i, .string ns, .bool a, .string vs, .bool b, .int .i64 z] 81 (0, 0))) := by
      show _ = _
      rw [Below.heap_setCell _ ⟨w.heap.size + 1, 2, none⟩ _ _ (by simp), Below.heap_setCell _ ⟨w.heap.size + 1, 1, none⟩ _ _ (by simp), Below.heap_setCell _ ⟨w.heap.size + 1, 0, none⟩ _ _ (by simp)]
      exact RB5.out
    have E6 := hide (below3d E5.out (Nat.le_succ w.heap.size) (.string nm) (.string vl) (.bool nv))
    clear rr
    go_upto_region 11 with (fail)
    refine absE _ (ParT w w.heap.size (w.heap.size + 1) 3 i ns a vs b z ⟨nm, vs, false⟩) ⟨RB5.out, RF5.out, E5.out⟩ ?_
    clear x0 x1 x2 x3 x4 x5 x6 s0 s1 s2 m0 l0 m1 l1 m2 l2 RF6 RB6 E6 RF5 RB5 RT5 E5 RT4 RB4 RF4 E4 q0 q1 q2 q3 q4 q5 q6 f0 f1 f2 t0 t1 t2 k0 z0 Hne4
    intro W0 ⟨rb0, rf0, e0⟩
    have RB := hide rb0
    have RF : Hid (W0.heap[(w.heap.size + 1)]? = some (.cells #[.string nm, .string vs, .bool false] 51 (0, 0))) := rf0
    have E0 := hide e0
    have X0 : Hid (RGx B W0 pr pt g Vf Vs S σ) := HX.out.at_ fun i hi => e0.block i (Hl.out i hi).2
    have L0 : Hid (∀ i, S i → B ≤ i ∧ i < W0.heap.size) := fun i hi => ⟨(Hl.out i hi).1, Nat.lt_of_lt_of_le (Hl.out i hi).2 e0.size⟩
    have B0 : Hid (B ≤ W0.heap.size) := Nat.le_trans HB.out e0.size
    have alx := (Below.refl W0.heap.size W0).alloc (Nat.le_refl _) (.cells #[.string nm, .string vs, .bool false] 51)
    have XA : Hid (RGx B (W0.alloc (.cells #[.string nm, .string vs, .bool false] 51)) pr pt g Vf Vs S σ) := X0.out.at_ fun i hi => alx.block i (L0.out i hi).2
    have BA : Hid (B ≤ (W0.alloc (.cells #[.string nm, .string vs, .bool false] 51)).heap.size) := Nat.le_trans B0.out alx.size
    have Lx : Hid (RdV 3 (W0.alloc (.cells #[.string nm, .string vs, .bool false] 51)) (some ⟨W0.heap.size, 0, none⟩) 1 1 (fdV fun _ => ⟨nm, vs, false⟩)) := (OwnV.lit 3 51 0 W0 (fdV fun _ => ⟨nm, vs, false⟩) #[.string nm, .string vs, .bool false] 1 (Nat.zero_le _) (by simp [maxLen]) rfl).rdS2
    have LA : Hid (∀ i, S i → B ≤ i ∧ i < (W0.alloc (.cells #[.string nm, .string vs, .bool false] 51)).heap.size) := fun i hi => ⟨(L0.out i hi).1, Nat.lt_of_lt_of_le (L0.out i hi).2 alx.size⟩
    have EA := hide (E0.out.of alx)
    have RBA := hide (keepRow RB.out alx)
    have RFA := hide (keepRow RF.out alx)
    have HltPf : Hid ((w.heap.size + 1) < W0.heap.size) := rowLt RF.out
    obtain ⟨c0, c1, c2⟩ := rowT X0.out.row
    obtain ⟨d0, d1, d2⟩ := rowT XA.out.row
    obtain ⟨f0, f1, f2⟩ := rowT RF.out
    obtain ⟨g0, g1, g2⟩ := rowT RFA.out
    clear rb0 rf0 e0 alx
    go_region_law (first | (refine step_appO rfl (.tmp 49) (.tmp 51) _ rfl 3 i0 _ 40 Tryd.underlying25 hi hz2 hz3 hz4 rfl (by omega) B _ σ.fs.length (fdV (fn σ.fs)) rfl (by first | exact XA.out.of | exact (XA.out.of).at_ (fun _ _ => rfl)) _ 0 1 1 (fdV fun _ => ⟨nm, vs, false⟩) rfl (by first | exact Lx.out | exact Lx.out.below36O (Below.refl _ _).drew) (by omega) (fdV_one _ _) (by simp only [maxLen]; omega) (by omega) BA.out ?_; intro v4 w4 hown4 hg4 hob4; have K4 : w4.heap[pr]? = some (.cells #[Vf, Vs, .pointer (some ⟨pt, 0, none⟩)] 77 (0, 0)) := (hg4.block pr XA.out.lt (fun e => XA.out.nf e.symm)).trans XA.out.row; obtain ⟨A4, c4, rfl, _, _⟩ := hown4.rd; obtain ⟨x0, x1, x2⟩ := rowT K4; have fz0 := frozenRow K4 0))
    all_goals
      have hg5 : (W0.alloc (.cells #[.string nm, .string vs, .bool false] 51)).grownBy w4 Vf.ownBlock := ⟨hg4.os, hg4.tape, hg4.output, hg4.size, hg4.block⟩
      have hob5 : (Value.slice A4 (σ.fs.length + 1) c4).ownBlock = Vf.ownBlock ∨ ∀ b, (Value.slice A4 (σ.fs.length + 1) c4).ownBlock = some b → (W0.alloc (.cells #[.string nm, .string vs, .bool false] 51)).heap.size ≤ b := hob4
      obtain ⟨hx5, hl5, hf5, hS5⟩ := XA.out.setF LA.out BA.out hg5 ⟨nm, vs, false⟩ hown4 hob5
      have X5 := hide hx5
      have L5 := hide hl5
      have F5 := hide hf5
      have S5 := hide hS5
      have hnb : ∀ j, w.heap.size ≤ j → ¬ S j := fun j hj hs => by have := (Hl.out j hs).2; omega
      have RB5 := hide (hf5.row RBA.out (hnb _ HPb.out))
      have RF5 := hide (hf5.row RFA.out (hnb _ HPf.out))
      have HnPf : Hid (¬ S (w.heap.size + 1)) := hnb _ HPf.out
      have B5 : Hid (B ≤ (w4.setCell ⟨pr, 0, none⟩ (.slice A4 (σ.fs.length + 1) c4)).heap.size) := Nat.le_trans BA.out hf5.below.size
      obtain ⟨y0, y1, y2, y3, y4, y5, y6⟩ := row7D RB5.out
      clear hx5 hl5 hf5 hS5 hg5 hob5 hown4 hg4 hob4 hnb c0 c1 c2 d0 d1 d2 f0 f1 f2 g0 g1 g2 x0 x1 x2 fz0 K4
      obtain ⟨x0, x1, x2⟩ := rowT X5.out.row
      obtain ⟨f0, f1, f2⟩ := rowT RF5.out
      go_wp2_with fail
      go_ret
      rw [HD.out]
      refine ⟨rfl, _, ⟨⟨pt, g, .slice A4 (σ.fs.length + 1) c4, Vs, X5.out⟩, L5.out⟩, (FrO.of (S := S) EA.out HB.out).step F5.out fun i hi => .inl hi, fun i hi => (S5.out i hi).imp id fun h => Nat.le_trans EA.out.size h⟩
set_option maxRecDepth 20000 in
set_option maxHeartbeats 3200000 in
theorem dtake4z {B : Nat} {w : World} {pr : Nat} {S : Nat → Prop} {σ : Ds} (h : RG B w pr S σ) (hB : B ≤ w.heap.size) (hn : σ.tb.length ≤ 900000) (hs : σ.fs.length ≤ 1000000) (i : Int) (ns : ByteArray) (a : Bool) (vs : ByteArray) (b : Bool) (z : Int) (hi0 : 0 ≤ i) (hi1 : i ≤ 2147483647) (hsm : ∀ f ∈ σ.tb, SmF f) (hns : ns.size ≤ 200000) (hvs : vs.size ≤ 200000) (h0 : i = 0) :
    Calls Tryd.prog 33 #[.pointer (some ⟨pr, 0, none⟩), .agg #[.int .i64 4, .int .i64 i, .string ns, .bool a, .string vs, .bool b, .int .i64 z]] w (RGo B w pr S (dstep σ 4 i ns vs z)) := by
  obtain ⟨i0, hi, hz2, hz3, hz4⟩ := info_parts field_info
  have al := (Below.refl w.heap.size w).alloc (Nat.le_refl _) (.cells #[.int .i64 4, .int .i64 i, .string ns, .bool a, .string vs, .bool b, .int .i64 z] 81)
  have R0 := heap_alloc_new w (.cells #[.int .i64 4, .int .i64 i, .string ns, .bool a, .string vs, .bool b, .int .i64 z] 81)
  have al2 := (Below.refl (w.alloc (.cells #[.int .i64 4, .int .i64 i, .string ns, .bool a, .string vs, .bool b, .int .i64 z] 81)).heap.size (w.alloc (.cells #[.int .i64 4, .int .i64 i, .string ns, .bool a, .string vs, .bool b, .int .i64 z] 81))).alloc (Nat.le_refl _) (.cells #[.string ns, .string vs, .bool true] 51)
  have R1 := heap_alloc_new (w.alloc (.cells #[.int .i64 4, .int .i64 i, .string ns, .bool a, .string vs, .bool b, .int .i64 z] 81)) (.cells #[.string ns, .string vs, .bool true] 51)
  have R2 := hide (keepRow R0 al2)
  have hs1 : (w.alloc (.cells #[.int .i64 4, .int .i64 i, .string ns, .bool a, .string vs, .bool b, .int .i64 z] 81)).heap.size = w.heap.size + 1 := by simp
  rw [hs1] at R1
  have R3 := hide R1
  obtain ⟨b0, b1, b2, b3, b4, b5, b6⟩ := row7D R0
  obtain ⟨q0, q1, q2, q3, q4, q5, q6⟩ := row7D R2.out
  have EE := hide (al.of al2)
  have HB := hide hB
  have HnT := hide hn
  have HPb : Hid (w.heap.size ≤ w.heap.size) := Nat.le_refl _
  have HPf : Hid (w.heap.size ≤ w.heap.size + 1) := Nat.le_succ _
  obtain ⟨⟨pt, g, Vf, Vs, hx⟩, hl⟩ := id h
  have HX := hide hx
  have Hl := hide hl
  have H := hide h
  have HSm := hide hsm
  have Hns := hide hns
  have Hvs := hide hvs
  clear hx hl h hB al al2 R0 R1 hs1 hsm hns hvs
  subst h0
  have hd : dstep σ 4 0 ns vs z = .inl ⟨σ.fs ++ [⟨ns, vs, true⟩], σ.szs, σ.mx, σ.tb⟩ := rfl
  have HD := hide hd
  have HWt : Hid (wt ⟨ns, vs, true⟩ ≤ 1000000) := SmF.wt ⟨Hns.out, Hvs.out⟩
  clear hd
  go_enter Tryd.func33, Tryd.ntmps33
  go_upto_region 11 with (fail)
  refine absE _ (ParT w w.heap.size (w.heap.size + 1) 4 0 ns a vs b z ⟨ns, vs, true⟩) ⟨R2.out, R3.out, EE.out⟩ ?_
  intro W0 ⟨rb0, rf0, e0⟩
  have RB := hide rb0
  have RF : Hid (W0.heap[(w.heap.size + 1)]? = some (.cells #[.string ns, .string vs, .bool true] 51 (0, 0))) := rf0
  have E0 := hide e0
  have X0 : Hid (RGx B W0 pr pt g Vf Vs S σ) := HX.out.at_ fun i hi => e0.block i (Hl.out i hi).2
  have L0 : Hid (∀ i, S i → B ≤ i ∧ i < W0.heap.size) := fun i hi => ⟨(Hl.out i hi).1, Nat.lt_of_lt_of_le (Hl.out i hi).2 e0.size⟩
  have B0 : Hid (B ≤ W0.heap.size) := Nat.le_trans HB.out e0.size
  have alx := (Below.refl W0.heap.size W0).alloc (Nat.le_refl _) (.cells #[.string ns, .string vs, .bool true] 51)
  have XA : Hid (RGx B (W0.alloc (.cells #[.string ns, .string vs, .bool true] 51)) pr pt g Vf Vs S σ) := X0.out.at_ fun i hi => alx.block i (L0.out i hi).2
  have BA : Hid (B ≤ (W0.alloc (.cells #[.string ns, .string vs, .bool true] 51)).heap.size) := Nat.le_trans B0.out alx.size
  have Lx : Hid (RdV 3 (W0.alloc (.cells #[.string ns, .string vs, .bool true] 51)) (some ⟨W0.heap.size, 0, none⟩) 1 1 (fdV fun _ => ⟨ns, vs, true⟩)) := (OwnV.lit 3 51 0 W0 (fdV fun _ => ⟨ns, vs, true⟩) #[.string ns, .string vs, .bool true] 1 (Nat.zero_le _) (by simp [maxLen]) rfl).rdS2
  have LA : Hid (∀ i, S i → B ≤ i ∧ i < (W0.alloc (.cells #[.string ns, .string vs, .bool true] 51)).heap.size) := fun i hi => ⟨(L0.out i hi).1, Nat.lt_of_lt_of_le (L0.out i hi).2 alx.size⟩
  have EA := hide (E0.out.of alx)
  have RBA := hide (keepRow RB.out alx)
  have RFA := hide (keepRow RF.out alx)
  have HltPf : Hid ((w.heap.size + 1) < W0.heap.size) := rowLt RF.out
  obtain ⟨c0, c1, c2⟩ := rowT X0.out.row
  obtain ⟨d0, d1, d2⟩ := rowT XA.out.row
  obtain ⟨f0, f1, f2⟩ := rowT RF.out
  obtain ⟨g0, g1, g2⟩ := rowT RFA.out
  clear rb0 rf0 e0 alx
  go_region_law (first | (refine step_appO rfl (.tmp 49) (.tmp 51) _ rfl 3 i0 _ 40 Tryd.underlying25 hi hz2 hz3 hz4 rfl (by omega) B _ σ.fs.length (fdV (fn σ.fs)) rfl (by first | exact XA.out.of | exact (XA.out.of).at_ (fun _ _ => rfl)) _ 0 1 1 (fdV fun _ => ⟨ns, vs, true⟩) rfl (by first | exact Lx.out | exact Lx.out.below36O (Below.refl _ _).drew) (by omega) (fdV_one _ _) (by simp only [maxLen]; omega) (by omega) BA.out ?_; intro v4 w4 hown4 hg4 hob4; have K4 : w4.heap[pr]? = some (.cells #[Vf, Vs, .pointer (some ⟨pt, 0, none⟩)] 77 (0, 0)) := (hg4.block pr XA.out.lt (fun e => XA.out.nf e.symm)).trans XA.out.row; obtain ⟨A4, c4, rfl, _, _⟩ := hown4.rd; obtain ⟨x0, x1, x2⟩ := rowT K4; have fz0 := frozenRow K4 0))
  all_goals
    have hg5 : (W0.alloc (.cells #[.string ns, .string vs, .bool true] 51)).grownBy w4 Vf.ownBlock := ⟨hg4.os, hg4.tape, hg4.output, hg4.size, hg4.block⟩
    have hob5 : (Value.slice A4 (σ.fs.length + 1) c4).ownBlock = Vf.ownBlock ∨ ∀ b, (Value.slice A4 (σ.fs.length + 1) c4).ownBlock = some b → (W0.alloc (.cells #[.string ns, .string vs, .bool true] 51)).heap.size ≤ b := hob4
    obtain ⟨hx5, hl5, hf5, hS5⟩ := XA.out.setF LA.out BA.out hg5 ⟨ns, vs, true⟩ hown4 hob5
    have X5 := hide hx5
    have L5 := hide hl5
    have F5 := hide hf5
    have S5 := hide hS5
    have hnb : ∀ j, w.heap.size ≤ j → ¬ S j := fun j hj hs => by have := (Hl.out j hs).2; omega
    have RB5 := hide (hf5.row RBA.out (hnb _ HPb.out))
    have RF5 := hide (hf5.row RFA.out (hnb _ HPf.out))
    have HnPf : Hid (¬ S (w.heap.size + 1)) := hnb _ HPf.out
    have B5 : Hid (B ≤ (w4.setCell ⟨pr, 0, none⟩ (.slice A4 (σ.fs.length + 1) c4)).heap.size) := Nat.le_trans BA.out hf5.below.size
    obtain ⟨y0, y1, y2, y3, y4, y5, y6⟩ := row7D RB5.out
    clear hx5 hl5 hf5 hS5 hg5 hob5 hown4 hg4 hob4 hnb c0 c1 c2 d0 d1 d2 f0 f1 f2 g0 g1 g2 x0 x1 x2 fz0 K4
    obtain ⟨x0, x1, x2⟩ := rowT X5.out.row
    obtain ⟨f0, f1, f2⟩ := rowT RF5.out
    go_wp2_with fail
    go_ret
    rw [HD.out]
    refine ⟨rfl, _, ⟨⟨pt, g, .slice A4 (σ.fs.length + 1) c4, Vs, X5.out⟩, L5.out⟩, (FrO.of (S := S) EA.out HB.out).step F5.out fun i hi => .inl hi, fun i hi => (S5.out i hi).imp id fun h => Nat.le_trans EA.out.size h⟩
set_option maxRecDepth 20000 in
set_option maxHeartbeats 3200000 in
theorem dtake4i {B : Nat} {w : World} {pr : Nat} {S : Nat → Prop} {σ : Ds} (h : RG B w pr S σ) (hB : B ≤ w.heap.size) (hn : σ.tb.length ≤ 900000) (hs : σ.fs.length ≤ 1000000) (i : Int) (ns : ByteArray) (a : Bool) (vs : ByteArray) (b : Bool) (z : Int) (hi0 : 0 ≤ i) (hi1 : i ≤ 2147483647) (hsm : ∀ f ∈ σ.tb, SmF f) (hns : ns.size ≤ 200000) (hvs : vs.size ≤ 200000) (h0 : 0 < i) :
    Calls Tryd.prog 33 #[.pointer (some ⟨pr, 0, none⟩), .agg #[.int .i64 4, .int .i64 i, .string ns, .bool a, .string vs, .bool b, .int .i64 z]] w (RGo B w pr S (dstep σ 4 i ns vs z)) := by
  obtain ⟨i0, hi, hz2, hz3, hz4⟩ := info_parts field_info
  have al := (Below.refl w.heap.size w).alloc (Nat.le_refl _) (.cells #[.int .i64 4, .int .i64 i, .string ns, .bool a, .string vs, .bool b, .int .i64 z] 81)
  have R0 := heap_alloc_new w (.cells #[.int .i64 4, .int .i64 i, .string ns, .bool a, .string vs, .bool b, .int .i64 z] 81)
  have al2 := (Below.refl (w.alloc (.cells #[.int .i64 4, .int .i64 i, .string ns, .bool a, .string vs, .bool b, .int .i64 z] 81)).heap.size (w.alloc (.cells #[.int .i64 4, .int .i64 i, .string ns, .bool a, .string vs, .bool b, .int .i64 z] 81))).alloc (Nat.le_refl _) (.cells #[.string ns, .string vs, .bool true] 51)
  have R1 := heap_alloc_new (w.alloc (.cells #[.int .i64 4, .int .i64 i, .string ns, .bool a, .string vs, .bool b, .int .i64 z] 81)) (.cells #[.string ns, .string vs, .bool true] 51)
  have R2 := hide (keepRow R0 al2)
  have hs1 : (w.alloc (.cells #[.int .i64 4, .int .i64 i, .string ns, .bool a, .string vs, .bool b, .int .i64 z] 81)).heap.size = w.heap.size + 1 := by simp
  rw [hs1] at R1
  have R3 := hide R1
  obtain ⟨b0, b1, b2, b3, b4, b5, b6⟩ := row7D R0
  obtain ⟨q0, q1, q2, q3, q4, q5, q6⟩ := row7D R2.out
  have EE := hide (al.of al2)
  have HB := hide hB
  have HnT := hide hn
  have HPb : Hid (w.heap.size ≤ w.heap.size) := Nat.le_refl _
  have HPf : Hid (w.heap.size ≤ w.heap.size + 1) := Nat.le_succ _
  obtain ⟨⟨pt, g, Vf, Vs, hx⟩, hl⟩ := id h
  have HX := hide hx
  have Hl := hide hl
  have H := hide h
  have HSm := hide hsm
  have Hns := hide hns
  have Hvs := hide hvs
  clear hx hl h hB al al2 R0 R1 hs1 hsm hns hvs
  have hd0 : decide (0 < i) = true := decide_eq_true h0
  have hsz2 : ((w.alloc (.cells #[.int .i64 4, .int .i64 i, .string ns, .bool a, .string vs, .bool b, .int .i64 z] 81)).alloc (.cells #[.string ns, .string vs, .bool true] 51)).heap.size = w.heap.size + 1 + 1 := by simp
  have HSz2 := hide hsz2
  have H2 := hide (H.out.below EE.out)
  clear hsz2
  go_enter Tryd.func33, Tryd.ntmps33
  go_wp2_with fail
  refine (dat23 H2.out (by omega) i (by omega) hi1).mono ?_
  rintro e w3 ⟨nm, vl, nv, has, rfl, hv, hb3⟩
  have al3 := (Below.refl w3.heap.size w3).alloc (Nat.le_refl _) (.cells #[.string nm, .string vl, .bool nv] 51)
  have R4 := hide (heap_alloc_new w3 (.cells #[.string nm, .string vl, .bool nv] 51))
  have RB4 := hide (keepRow (keepRow R2.out hb3) al3)
  have RF4 := hide (keepRow (keepRow R3.out hb3) al3)
  have E4 := hide ((EE.out.of hb3).of al3)
  have HV := hide hv
  have hlt3 : w.heap.size + 1 < w3.heap.size := by have := hb3.size; rw [HSz2.out] at this; omega
  have Hne4 : Hid (w3.heap.size ≠ w.heap.size + 1) := by show _ ≠ _; omega
  clear hv hb3 al3 q0 q1 q2 q3 q4 q5 q6 b0 b1 b2 b3 b4 b5 b6 R2 R3 EE H2
  obtain ⟨q0, q1, q2, q3, q4, q5, q6⟩ := row7D RB4.out
  obtain ⟨f0, f1, f2⟩ := rowT RF4.out
  obtain ⟨t0, t1, t2⟩ := rowT R4.out
  rcases HV.out with ⟨hp, rfl, rfl, rfl, rfl⟩ | ⟨f, hp, rfl, rfl, rfl, rfl⟩
  · have hd : dstep σ 4 i ns vs z = .inr 12 := by
      unfold dstep dfld
      rw [if_neg (by omega), if_pos h0, hp]
    have HD := hide hd
    clear hd hp h0
    go_wp2_with fail
    go_ret
    rw [HD.out]
    exact ⟨rfl, E4.out⟩
  · obtain ⟨nm, vl, nv⟩ := f
    have hd : dstep σ 4 i ns vs z = .inl ⟨σ.fs ++ [⟨nm, vs, true⟩], σ.szs, σ.mx, σ.tb⟩ := by
      unfold dstep dfld
      rw [if_neg (by omega), if_pos h0, hp]
      rfl
    have HD := hide hd
    have hsf := atP_sm HSm.out hp
    have HWt : Hid (wt ⟨nm, vs, true⟩ ≤ 1000000) := SmF.wt ⟨hsf.1, Hvs.out⟩
    clear hd hp h0 hsf
    simp only at *
    go_upto_region 8 with (fail)
    refine absE _ (fun W => W.heap[w.heap.size]? = some (.cells #[.int .i64 4, .int .i64 i, .string ns, .bool a, .string vs, .bool b, .int .i64 z] 81 (0, 0)) ∧ W.heap[w.heap.size + 1]? = some (.cells #[.string ns, .string vs, .bool true] 51 (0, 0)) ∧ W.heap[w3.heap.size]? = some (.cells #[.string nm, .string vl, .bool nv] 51 (0, 0)) ∧ Below w.heap.size w W) ⟨RB4.out, RF4.out, R4.out, E4.out⟩ ?_
    clear q0 q1 q2 q3 q4 q5 q6 f0 f1 f2 t0 t1 t2 RB4 RF4 R4 E4
    generalize w3.heap.size = p3 at *
    intro W4 ⟨rb4, rf4, rt4, e4⟩
    have RB4 := hide rb4
    have RF4 := hide rf4
    have RT4 := hide rt4
    have E4 := hide e4
    clear rb4 rf4 rt4 e4
    obtain ⟨q0, q1, q2, q3, q4, q5, q6⟩ := row7D RB4.out
    obtain ⟨f0, f1, f2⟩ := rowT RF4.out
    obtain ⟨t0, t1, t2⟩ := rowT RT4.out
    obtain ⟨⟨k0, z0⟩, rr⟩ := store1f RF4.out (.string nm)
    have RF5 := hide rr
    have RB5 : Hid ((W4.setCell ⟨w.heap.size + 1, 0, none⟩ (.string nm)).heap[w.heap.size]? = some (.cells #[.int .i64 4, .int .i64 i, .string ns, .bool a, .string vs, .bool b, .int .i64 z] 81 (0, 0))) := (Below.heap_setCell _ ⟨w.heap.size + 1, 0, none⟩ _ _ (by simp)).trans RB4.out
    have RT5 : Hid ((W4.setCell ⟨w.heap.size + 1, 0, none⟩ (.string nm)).heap[p3]? = some (.cells #[.string nm, .string vl, .bool nv] 51 (0, 0))) := (Below.heap_setCell _ ⟨w.heap.size + 1, 0, none⟩ _ _ Hne4.out).trans RT4.out
    have E5 := hide (E4.out.setCell (p := ⟨w.heap.size + 1, 0, none⟩) (Nat.le_succ _) (.string nm))
    clear rr
    obtain ⟨x0, x1, x2, x3, x4, x5, x6⟩ := row7D RB5.out
    obtain ⟨s0, s1, s2⟩ := rowT RT5.out
    obtain ⟨⟨m0, l0⟩, ⟨m1, l1⟩, ⟨m2, l2⟩, rr⟩ := store3d RF5.out (.string nm) (.string vl) (.bool nv)
    have RF6 := hide rr
    have RB6 : Hid (((((W4.setCell ⟨w.heap.size + 1, 0, none⟩ (.string nm)).setCell ⟨w.heap.size + 1, 0, none⟩ (.string nm)).setCell ⟨w.heap.size + 1, 1, none⟩ (.string vl)).setCell ⟨w.heap.size + 1, 2, none⟩ (.bool nv)).heap[w.heap.size]? = some (.cells #[.int .i64 4, .int .i64 i, .string ns, .bool a, .string vs, .bool b, .int .i64 z] 81 (0, 0))) := by
      show _ = _
      rw [Below.heap_setCell _ ⟨w.heap.size + 1, 2, none⟩ _ _ (by simp), Below.heap_setCell _ ⟨w.heap.size + 1, 1, none⟩ _ _ (by simp), Below.heap_setCell _ ⟨w.heap.size + 1, 0, none⟩ _ _ (by simp)]
      exact RB5.out
    have E6 := hide (below3d E5.out (Nat.le_succ w.heap.size) (.string nm) (.string vl) (.bool nv))
    clear rr
    go_upto_region 11 with (fail)
    refine absE _ (ParT w w.heap.size (w.heap.size + 1) 4 i ns a vs b z ⟨nm, vs, true⟩) ⟨RB5.out, RF5.out, E5.out⟩ ?_
    clear x0 x1 x2 x3 x4 x5 x6 s0 s1 s2 m0 l0 m1 l1 m2 l2 RF6 RB6 E6 RF5 RB5 RT5 E5 RT4 RB4 RF4 E4 q0 q1 q2 q3 q4 q5 q6 f0 f1 f2 t0 t1 t2 k0 z0 Hne4
    intro W0 ⟨rb0, rf0, e0⟩
    have RB := hide rb0
    have RF : Hid (W0.heap[(w.heap.size + 1)]? = some (.cells #[.string nm, .string vs, .bool true] 51 (0, 0))) := rf0
    have E0 := hide e0
    have X0 : Hid (RGx B W0 pr pt g Vf Vs S σ) := HX.out.at_ fun i hi => e0.block i (Hl.out i hi).2
    have L0 : Hid (∀ i, S i → B ≤ i ∧ i < W0.heap.size) := fun i hi => ⟨(Hl.out i hi).1, Nat.lt_of_lt_of_le (Hl.out i hi).2 e0.size⟩
    have B0 : Hid (B ≤ W0.heap.size) := Nat.le_trans HB.out e0.size
    have alx := (Below.refl W0.heap.size W0).alloc (Nat.le_refl _) (.cells #[.string nm, .string vs, .bool true] 51)
    have XA : Hid (RGx B (W0.alloc (.cells #[.string nm, .string vs, .bool true] 51)) pr pt g Vf Vs S σ) := X0.out.at_ fun i hi => alx.block i (L0.out i hi).2
    have BA : Hid (B ≤ (W0.alloc (.cells #[.string nm, .string vs, .bool true] 51)).heap.size) := Nat.le_trans B0.out alx.size
    have Lx : Hid (RdV 3 (W0.alloc (.cells #[.string nm, .string vs, .bool true] 51)) (some ⟨W0.heap.size, 0, none⟩) 1 1 (fdV fun _ => ⟨nm, vs, true⟩)) := (OwnV.lit 3 51 0 W0 (fdV fun _ => ⟨nm, vs, true⟩) #[.string nm, .string vs, .bool true] 1 (Nat.zero_le _) (by simp [maxLen]) rfl).rdS2
    have LA : Hid (∀ i, S i → B ≤ i ∧ i < (W0.alloc (.cells #[.string nm, .string vs, .bool true] 51)).heap.size) := fun i hi => ⟨(L0.out i hi).1, Nat.lt_of_lt_of_le (L0.out i hi).2 alx.size⟩
    have EA := hide (E0.out.of alx)
    have RBA := hide (keepRow RB.out alx)
    have RFA := hide (keepRow RF.out alx)
    have HltPf : Hid ((w.heap.size + 1) < W0.heap.size) := rowLt RF.out
    obtain ⟨c0, c1, c2⟩ := rowT X0.out.row
    obtain ⟨d0, d1, d2⟩ := rowT XA.out.row
    obtain ⟨f0, f1, f2⟩ := rowT RF.out
    obtain ⟨g0, g1, g2⟩ := rowT RFA.out
    clear rb0 rf0 e0 alx
    go_region_law (first | (refine step_appO rfl (.tmp 49) (.tmp 51) _ rfl 3 i0 _ 40 Tryd.underlying25 hi hz2 hz3 hz4 rfl (by omega) B _ σ.fs.length (fdV (fn σ.fs)) rfl (by first | exact XA.out.of | exact (XA.out.of).at_ (fun _ _ => rfl)) _ 0 1 1 (fdV fun _ => ⟨nm, vs, true⟩) rfl (by first | exact Lx.out | exact Lx.out.below36O (Below.refl _ _).drew) (by omega) (fdV_one _ _) (by simp only [maxLen]; omega) (by omega) BA.out ?_; intro v4 w4 hown4 hg4 hob4; have K4 : w4.heap[pr]? = some (.cells #[Vf, Vs, .pointer (some ⟨pt, 0, none⟩)] 77 (0, 0)) := (hg4.block pr XA.out.lt (fun e => XA.out.nf e.symm)).trans XA.out.row; obtain ⟨A4, c4, rfl, _, _⟩ := hown4.rd; obtain ⟨x0, x1, x2⟩ := rowT K4; have fz0 := frozenRow K4 0))
    all_goals
      have hg5 : (W0.alloc (.cells #[.string nm, .string vs, .bool true] 51)).grownBy w4 Vf.ownBlock := ⟨hg4.os, hg4.tape, hg4.output, hg4.size, hg4.block⟩
      have hob5 : (Value.slice A4 (σ.fs.length + 1) c4).ownBlock = Vf.ownBlock ∨ ∀ b, (Value.slice A4 (σ.fs.length + 1) c4).ownBlock = some b → (W0.alloc (.cells #[.string nm, .string vs, .bool true] 51)).heap.size ≤ b := hob4
      obtain ⟨hx5, hl5, hf5, hS5⟩ := XA.out.setF LA.out BA.out hg5 ⟨nm, vs, true⟩ hown4 hob5
      have X5 := hide hx5
      have L5 := hide hl5
      have F5 := hide hf5
      have S5 := hide hS5
      have hnb : ∀ j, w.heap.size ≤ j → ¬ S j := fun j hj hs => by have := (Hl.out j hs).2; omega
      have RB5 := hide (hf5.row RBA.out (hnb _ HPb.out))
      have RF5 := hide (hf5.row RFA.out (hnb _ HPf.out))
      have HnPf : Hid (¬ S (w.heap.size + 1)) := hnb _ HPf.out
      have B5 : Hid (B ≤ (w4.setCell ⟨pr, 0, none⟩ (.slice A4 (σ.fs.length + 1) c4)).heap.size) := Nat.le_trans BA.out hf5.below.size
      obtain ⟨y0, y1, y2, y3, y4, y5, y6⟩ := row7D RB5.out
      clear hx5 hl5 hf5 hS5 hg5 hob5 hown4 hg4 hob4 hnb c0 c1 c2 d0 d1 d2 f0 f1 f2 g0 g1 g2 x0 x1 x2 fz0 K4
      obtain ⟨x0, x1, x2⟩ := rowT X5.out.row
      obtain ⟨f0, f1, f2⟩ := rowT RF5.out
      go_wp2_with fail
      go_ret
      rw [HD.out]
      refine ⟨rfl, _, ⟨⟨pt, g, .slice A4 (σ.fs.length + 1) c4, Vs, X5.out⟩, L5.out⟩, (FrO.of (S := S) EA.out HB.out).step F5.out fun i hi => .inl hi, fun i hi => (S5.out i hi).imp id fun h => Nat.le_trans EA.out.size h⟩
end Go.Proofs.YtnkcbljhgcgpaaaDoor
