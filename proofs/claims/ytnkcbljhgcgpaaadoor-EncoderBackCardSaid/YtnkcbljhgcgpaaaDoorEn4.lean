/- Layer 24: the document's way of writing a field. -/
import Derived.Test.YtnkcbljhgcgpaaaDoorEn3
import Derived.RegionTactic
import Derived.Deep.RegionWith
namespace Go.Proofs.YtnkcbljhgcgpaaaDoor
set_option linter.unusedVariables false
set_option linter.unusedSimpArgs false
open Go.RowKit Go.Deep Go.ChangeShapes Go.WideShapes

theorem heapsz7 {w : World} {p : Nat} (b0 b1 b2 b3 b4 b5 b6 : Value) : (((((((w.setCell ⟨p, 0, none⟩ b0).setCell ⟨p, 1, none⟩ b1).setCell ⟨p, 2, none⟩ b2).setCell ⟨p, 3, none⟩ b3).setCell ⟨p, 4, none⟩ b4).setCell ⟨p, 5, none⟩ b5).setCell ⟨p, 6, none⟩ b6).heap.size = w.heap.size := by simp [World.setCell]
theorem heapsz2 {w : World} {p : Nat} (b0 b1 : Value) : ((w.setCell ⟨p, 0, none⟩ b0).setCell ⟨p, 1, none⟩ b1).heap.size = w.heap.size := by simp [World.setCell]
theorem drewH (w : World) : w.drew.heap = w.heap := rfl
theorem allocR (w : World) (a : Array Value) (T : TypeId) : (w.alloc (.cells a T)).heap[w.heap.size]? = some (.cells a T (0, 0)) ∧ Below w.heap.size w (w.alloc (.cells a T)) ∧ (w.alloc (.cells a T)).heap.size = w.heap.size + 1 := ⟨heap_alloc_new w _, (Below.refl _ _).alloc (Nat.le_refl _) _, by simp⟩
theorem allocN {n : Nat} (w : World) (a : Array Value) (T : TypeId) (h : w.heap.size = n) : (w.alloc (.cells a T)).heap[n]? = some (.cells a T (0, 0)) ∧ Below n w (w.alloc (.cells a T)) ∧ (w.alloc (.cells a T)).heap.size = n + 1 := by subst h; exact allocR w a T
theorem keepN {n i : Nat} {w w' : World} {o : Obj} (h : w.heap[i]? = some o) (hb : Below n w w') (hn : w.heap.size = n) : w'.heap[i]? = some o := by subst hn; exact (hb.block _ (rowLt h)).trans h
/-- What lies behind the document's One. -/
structure OnS (w : World) (A : Option Addr) (c mx : Nat) (l : List Fd) (nm vl : ByteArray) (nv : Bool) (way : Int) (nn sn sv : Bool) (W : World) : Prop where
  rt : W.heap[w.heap.size]? = some (.cells #[.slice A l.length c, .int .i64 (mx : Int)] 37 (0, 0))
  rf : W.heap[w.heap.size + 1]? = some (.cells #[.string nm, .string vl, .bool nv] 51 (0, 0))
  ro : W.heap[w.heap.size + 1 + 1]? = some (.cells #[.int .i64 way, .bool nn, .bool sn, .bool sv] 101 (0, 0))
  r6 : W.heap[w.heap.size + 1 + 1 + 1]? = some (.cells #[.int .i64 0, .int .i64 0, .string ⟨#[]⟩, .bool false, .string ⟨#[]⟩, .bool false, .int .i64 0] 86 (0, 0))
  r7 : W.heap[w.heap.size + 1 + 1 + 1 + 1]? = some (.cells #[.slice none 0 0, .int .i64 0] 37 (0, 0))
  rd : RdV 3 W A l.length c (fdV (fn l))
  al : ∀ a, A = some a → a.block < w.heap.size
  e : Below w.heap.size w W
section
variable {w W W' : World} {A : Option Addr} {c mx : Nat} {l : List Fd} {nm vl : ByteArray} {nv : Bool} {way : Int} {nn sn sv : Bool}
theorem OnS.below (h : OnS w A c mx l nm vl nv way nn sn sv W) (hb : Below W.heap.size W W') : OnS w A c mx l nm vl nv way nn sn sv W' :=
  ⟨keepRow h.rt hb, keepRow h.rf hb, keepRow h.ro hb, keepRow h.r6 hb, keepRow h.r7 hb, h.rd.below36O hb, h.al, h.e.of hb⟩
theorem OnS.free {q : Nat} (h : OnS w A c mx l nm vl nv way nn sn sv W) (hq : w.heap.size + 5 ≤ q) (hk : ∀ i, i ≠ q → W'.heap[i]? = W.heap[i]?) (he : Below w.heap.size w W') : OnS w A c mx l nm vl nv way nn sn sv W' :=
  ⟨(hk _ (by omega)).trans h.rt, (hk _ (by omega)).trans h.rf, (hk _ (by omega)).trans h.ro, (hk _ (by omega)).trans h.r6, (hk _ (by omega)).trans h.r7, h.rd.at21 fun a ha => hk _ (by have := h.al a ha; omega), h.al, he⟩
end
theorem OnS.start {w : World} {A : Option Addr} {c mx : Nat} {l : List Fd} (h : RdV 3 w A l.length c (fdV (fn l))) (hA : ∀ a, A = some a → a.block < w.heap.size) (nm vl : ByteArray) (nv : Bool) (way : Int) (nn sn sv : Bool) :
    OnS w A c mx l nm vl nv way nn sn sv (((((w.alloc (.cells #[.slice A l.length c, .int .i64 (mx : Int)] 37)).alloc (.cells #[.string nm, .string vl, .bool nv] 51)).alloc (.cells #[.int .i64 way, .bool nn, .bool sn, .bool sv] 101)).alloc (.cells #[.int .i64 0, .int .i64 0, .string ⟨#[]⟩, .bool false, .string ⟨#[]⟩, .bool false, .int .i64 0] 86)).alloc (.cells #[.slice none 0 0, .int .i64 0] 37)) := by
  obtain ⟨a1, a2, a3⟩ := allocR w #[.slice A l.length c, .int .i64 (mx : Int)] 37
  obtain ⟨b1, b2, b3⟩ := allocN _ #[.string nm, .string vl, .bool nv] 51 a3
  obtain ⟨c1, c2, c3⟩ := allocN _ #[.int .i64 way, .bool nn, .bool sn, .bool sv] 101 b3
  obtain ⟨d1, d2, d3⟩ := allocN _ #[.int .i64 0, .int .i64 0, .string ⟨#[]⟩, .bool false, .string ⟨#[]⟩, .bool false, .int .i64 0] 86 c3
  obtain ⟨e1, e2, e3⟩ := allocN _ #[.slice none 0 0, .int .i64 0] 37 d3
  have hb := (((a2.trans (b2.mono (Nat.le_succ _))).trans (c2.mono (by omega))).trans (d2.mono (by omega))).trans (e2.mono (by omega))
  exact ⟨keepN (keepN (keepN (keepN a1 b2 a3) c2 b3) d2 c3) e2 d3, keepN (keepN (keepN b1 c2 b3) d2 c3) e2 d3, keepN (keepN c1 d2 c3) e2 d3, keepN d1 e2 d3, e1, h.below36O hb, hA, hb⟩
/-- Both results are stored. -/
def FinW (w : World) (A : Option Addr) (c : Nat) (l : List Fd) (b0 b1 b2 b3 b4 b5 b6 x0 x1 : Value) (V : World) : Prop :=
  V.heap[w.heap.size + 1 + 1 + 1]? = some (.cells #[b0, b1, b2, b3, b4, b5, b6] 86 (0, 0)) ∧ V.heap[w.heap.size + 1 + 1 + 1 + 1]? = some (.cells #[x0, x1] 37 (0, 0)) ∧ RdV 3 V A l.length c (fdV (fn l)) ∧ (∀ a, A = some a → a.block < V.heap.size) ∧ Below w.heap.size w V
theorem OnS.fin {w W : World} {A : Option Addr} {c mx : Nat} {l : List Fd} {nm vl : ByteArray} {nv : Bool} {way : Int} {nn sn sv : Bool} (h : OnS w A c mx l nm vl nv way nn sn sv W) {A' : Option Addr} {c' : Nat} {l' : List Fd} (hd : RdV 3 W A' l'.length c' (fdV (fn l'))) (hne : ∀ a, A' = some a → a.block < W.heap.size ∧ a.block ≠ w.heap.size + 1 + 1 + 1 ∧ a.block ≠ w.heap.size + 1 + 1 + 1 + 1) (b0 b1 b2 b3 b4 b5 b6 x0 x1 : Value) :
    FinW w A' c' l' b0 b1 b2 b3 b4 b5 b6 x0 x1 (((((((((W.setCell ⟨w.heap.size + 1 + 1 + 1, 0, none⟩ b0).setCell ⟨w.heap.size + 1 + 1 + 1, 1, none⟩ b1).setCell ⟨w.heap.size + 1 + 1 + 1, 2, none⟩ b2).setCell ⟨w.heap.size + 1 + 1 + 1, 3, none⟩ b3).setCell ⟨w.heap.size + 1 + 1 + 1, 4, none⟩ b4).setCell ⟨w.heap.size + 1 + 1 + 1, 5, none⟩ b5).setCell ⟨w.heap.size + 1 + 1 + 1, 6, none⟩ b6).setCell ⟨w.heap.size + 1 + 1 + 1 + 1, 0, none⟩ x0).setCell ⟨w.heap.size + 1 + 1 + 1 + 1, 1, none⟩ x1).drew := by
  obtain ⟨_, _, _, _, _, _, _, rz⟩ := store7 h.r6 b0 b1 b2 b3 b4 b5 b6
  obtain ⟨_, _, rz7⟩ := store2z ((heap7n (show w.heap.size + 1 + 1 + 1 + 1 ≠ w.heap.size + 1 + 1 + 1 by omega) b0 b1 b2 b3 b4 b5 b6).trans h.r7) x0 x1
  have hb := ((below7 h.e (p := w.heap.size + 1 + 1 + 1) (by omega) b0 b1 b2 b3 b4 b5 b6).setCell (p := ⟨w.heap.size + 1 + 1 + 1 + 1, 0, none⟩) (by show _ ≤ w.heap.size + 1 + 1 + 1 + 1; omega) x0).setCell (p := ⟨w.heap.size + 1 + 1 + 1 + 1, 1, none⟩) (by show _ ≤ w.heap.size + 1 + 1 + 1 + 1; omega) x1
  refine ⟨?_, ?_, ?_, fun a ha => ?_, hb.drew⟩
  · rw [drewH]
    exact (heap2d (show w.heap.size + 1 + 1 + 1 ≠ w.heap.size + 1 + 1 + 1 + 1 by omega) x0 x1).trans rz
  · rw [drewH]
    exact rz7
  · refine RdV.at21 (w := W) hd fun a ha => ?_
    obtain ⟨_, h1, h2⟩ := hne a ha
    rw [drewH, heap2d h2, heap7n h1]
  · have h1 := (hne a ha).1
    rw [drewH, heapsz2, heapsz7]
    exact h1
theorem OnS.fin0 {w W : World} {A : Option Addr} {c mx : Nat} {l : List Fd} {nm vl : ByteArray} {nv : Bool} {way : Int} {nn sn sv : Bool} (h : OnS w A c mx l nm vl nv way nn sn sv W) {A' : Option Addr} {c' : Nat} {l' : List Fd} (hd : RdV 3 W A' l'.length c' (fdV (fn l'))) (hne : ∀ a, A' = some a → a.block < W.heap.size ∧ a.block ≠ w.heap.size + 1 + 1 + 1 ∧ a.block ≠ w.heap.size + 1 + 1 + 1 + 1) (b0 b1 b2 b3 b4 b5 b6 x0 x1 : Value) :
    FinW w A' c' l' b0 b1 b2 b3 b4 b5 b6 x0 x1 (((((((((W.setCell ⟨w.heap.size + 1 + 1 + 1, 0, none⟩ b0).setCell ⟨w.heap.size + 1 + 1 + 1, 1, none⟩ b1).setCell ⟨w.heap.size + 1 + 1 + 1, 2, none⟩ b2).setCell ⟨w.heap.size + 1 + 1 + 1, 3, none⟩ b3).setCell ⟨w.heap.size + 1 + 1 + 1, 4, none⟩ b4).setCell ⟨w.heap.size + 1 + 1 + 1, 5, none⟩ b5).setCell ⟨w.heap.size + 1 + 1 + 1, 6, none⟩ b6).setCell ⟨w.heap.size + 1 + 1 + 1 + 1, 0, none⟩ x0).setCell ⟨w.heap.size + 1 + 1 + 1 + 1, 1, none⟩ x1) := by
  obtain ⟨_, _, _, _, _, _, _, rz⟩ := store7 h.r6 b0 b1 b2 b3 b4 b5 b6
  obtain ⟨_, _, rz7⟩ := store2z ((heap7n (show w.heap.size + 1 + 1 + 1 + 1 ≠ w.heap.size + 1 + 1 + 1 by omega) b0 b1 b2 b3 b4 b5 b6).trans h.r7) x0 x1
  have hb := ((below7 h.e (p := w.heap.size + 1 + 1 + 1) (by omega) b0 b1 b2 b3 b4 b5 b6).setCell (p := ⟨w.heap.size + 1 + 1 + 1 + 1, 0, none⟩) (by show _ ≤ w.heap.size + 1 + 1 + 1 + 1; omega) x0).setCell (p := ⟨w.heap.size + 1 + 1 + 1 + 1, 1, none⟩) (by show _ ≤ w.heap.size + 1 + 1 + 1 + 1; omega) x1
  refine ⟨?_, ?_, ?_, fun a ha => ?_, hb⟩
  · exact (heap2d (show w.heap.size + 1 + 1 + 1 ≠ w.heap.size + 1 + 1 + 1 + 1 by omega) x0 x1).trans rz
  · exact rz7
  · refine RdV.at21 (w := W) hd fun a ha => ?_
    obtain ⟨_, h1, h2⟩ := hne a ha
    rw [heap2d h2, heap7n h1]
  · have h1 := (hne a ha).1
    rw [heapsz2, heapsz7]
    exact h1
theorem OnS.drew {w W : World} {A : Option Addr} {c mx : Nat} {l : List Fd} {nm vl : ByteArray} {nv : Bool} {way : Int} {nn sn sv : Bool} (h : OnS w A c mx l nm vl nv way nn sn sv W) : OnS w A c mx l nm vl nv way nn sn sv W.drew := ⟨h.rt, h.rf, h.ro, h.r6, h.r7, h.rd, h.al, h.e.drew⟩
theorem OnS.own {w W : World} {A : Option Addr} {c mx : Nat} {l : List Fd} {nm vl : ByteArray} {nv : Bool} {way : Int} {nn sn sv : Bool} (h : OnS w A c mx l nm vl nv way nn sn sv W) : ∀ a, A = some a → a.block < W.heap.size ∧ a.block ≠ w.heap.size + 1 + 1 + 1 ∧ a.block ≠ w.heap.size + 1 + 1 + 1 + 1 := fun a ha => by
  have h1 := h.al a ha
  have h2 := h.e.size
  omega
theorem cell7e {w : World} {p : Nat} {q : Nat} {j : Nat} (h : q ≠ p) {b0 b1 b2 b3 b4 b5 b6 : Value} : (((((((w.setCell ⟨p, 0, none⟩ b0).setCell ⟨p, 1, none⟩ b1).setCell ⟨p, 2, none⟩ b2).setCell ⟨p, 3, none⟩ b3).setCell ⟨p, 4, none⟩ b4).setCell ⟨p, 5, none⟩ b5).setCell ⟨p, 6, none⟩ b6).cell? ⟨q, j, none⟩ = w.cell? ⟨q, j, none⟩ := by
  unfold World.cell?
  simp only
  rw [heap7n h]
theorem cell2e {w : World} {p : Nat} {q : Nat} {j : Nat} (h : q ≠ p) {b0 b1 : Value} : ((w.setCell ⟨p, 0, none⟩ b0).setCell ⟨p, 1, none⟩ b1).cell? ⟨q, j, none⟩ = w.cell? ⟨q, j, none⟩ := by
  unfold World.cell?
  simp only
  rw [heap2d h]
/-- The first result is stored. -/
def MidW (w : World) (A : Option Addr) (c : Nat) (l : List Fd) (b0 b1 b2 b3 b4 b5 b6 : Value) (V : World) : Prop :=
  V.heap[w.heap.size + 1 + 1 + 1]? = some (.cells #[b0, b1, b2, b3, b4, b5, b6] 86 (0, 0)) ∧ V.heap[w.heap.size + 1 + 1 + 1 + 1]? = some (.cells #[.slice none 0 0, .int .i64 0] 37 (0, 0)) ∧ RdV 3 V A l.length c (fdV (fn l)) ∧ Below w.heap.size w V
theorem OnS.mid {w W : World} {A : Option Addr} {c mx : Nat} {l : List Fd} {nm vl : ByteArray} {nv : Bool} {way : Int} {nn sn sv : Bool} (h : OnS w A c mx l nm vl nv way nn sn sv W) (b0 b1 b2 b3 b4 b5 b6 : Value) :
    MidW w A c l b0 b1 b2 b3 b4 b5 b6 (((((((W.setCell ⟨w.heap.size + 1 + 1 + 1, 0, none⟩ b0).setCell ⟨w.heap.size + 1 + 1 + 1, 1, none⟩ b1).setCell ⟨w.heap.size + 1 + 1 + 1, 2, none⟩ b2).setCell ⟨w.heap.size + 1 + 1 + 1, 3, none⟩ b3).setCell ⟨w.heap.size + 1 + 1 + 1, 4, none⟩ b4).setCell ⟨w.heap.size + 1 + 1 + 1, 5, none⟩ b5).setCell ⟨w.heap.size + 1 + 1 + 1, 6, none⟩ b6) := by
  obtain ⟨_, _, _, _, _, _, _, rz⟩ := store7 h.r6 b0 b1 b2 b3 b4 b5 b6
  exact ⟨rz, (heap7n (by omega) b0 b1 b2 b3 b4 b5 b6).trans h.r7, RdV.at21 (w := W) h.rd fun a ha => heap7n (by have := h.al a ha; omega) b0 b1 b2 b3 b4 b5 b6, below7 h.e (p := w.heap.size + 1 + 1 + 1) (by omega) b0 b1 b2 b3 b4 b5 b6⟩
/-- What comes of it. -/
def OnG (A : Option Addr) (mx : Nat) (l : List Fd) (f : Fd) (way : Int) (nn sn sv : Bool) (w : World) (e : Ending) (w' : World) : Prop :=
  ∃ k i ns a vs b l' A' c', e = .returned (.tuple #[.agg #[.int .i64 k, .int .i64 i, .string ns, .bool a, .string vs, .bool b, .int .i64 0], .agg #[.slice A' (List.length l') c', .int .i64 (mx : Int)]]) ∧ WrR mx l f way nn sn sv k i ns a vs b l' ∧ RdV 3 w' A' l'.length c' (fdV (fn l')) ∧
    (∀ a, A' = some a → a.block < w'.heap.size ∧ ((∃ a0, A = some a0 ∧ a0.block = a.block) ∨ w.heap.size ≤ a.block)) ∧ Below w.heap.size w w'
theorem results_cc {fn : Func} {p q : Tmp} {t1 t2 : TypeId} (h : fn.results = #[.cell p t1, .cell q t2]) (tmps : Array Value) (P : Program) (w : World) :
    (results fn tmps).run P w = ((asAddr (tmps.getD p undef)).run P w).andThen fun x w₁ => ((loadVar t1 x).run P w₁).andThen fun y w₂ => ((asAddr (tmps.getD q undef)).run P w₂).andThen fun x' w₃ => ((loadVar t2 x').run P w₃).andThen fun y' w₄ => .ok (.tuple #[y, y']) w₄ := by
  simp [results, h]
theorem set0_7 {w : World} {p : Nat} {T : TypeId} {a0 a1 a2 a3 a4 a5 a6 : Value} (h : w.heap[p]? = some (.cells #[a0, a1, a2, a3, a4, a5, a6] T (0, 0))) (b : Value) :
    (w.cell? ⟨p, 0, none⟩ = some a0 ∧ w.frozen? ⟨p, 0, none⟩ = false) ∧ (w.setCell ⟨p, 0, none⟩ b).heap[p]? = some (.cells #[b, a1, a2, a3, a4, a5, a6] T (0, 0)) := by
  have h1 := setRow w p 0 b h
  simp only [List.setIfInBounds_toArray, List.set_cons_zero, List.set_cons_succ] at h1
  exact ⟨⟨(row7D h).1, frozenRow h 0⟩, h1⟩
set_option maxRecDepth 100000 in
set_option maxHeartbeats 25600000 in
theorem one24 {w : World} {A : Option Addr} {c mx : Nat} {l : List Fd} (h : RdV 3 w A l.length c (fdV (fn l))) (hA : ∀ a, A = some a → a.block < w.heap.size) (hn : l.length ≤ 1000000) (hw : ∀ f ∈ l, wt f ≤ 1000000) (hmx : mx ≤ 2147483647) (nm vl : ByteArray) (nv : Bool) (hwt : wt ⟨nm, vl, nv⟩ ≤ 1000000) (way : Int) (nn sn sv : Bool) :
    Calls Tryd.prog 47 #[.agg #[.slice A l.length c, .int .i64 (mx : Int)], .agg #[.string nm, .string vl, .bool nv], .agg #[.int .i64 way, .bool nn, .bool sn, .bool sv]] w (OnG A mx l ⟨nm, vl, nv⟩ way nn sn sv w) := by
  have S00 := hide (OnS.start (mx := mx) h hA nm vl nv way nn sn sv)
  have Hwl := hide hw
  have Hwt := hide hwt
  obtain ⟨mP, hmP⟩ := nmr_ex l nm
  have HmP := hide hmP
  clear h hA hw hwt hmP
  go_enter Tryd.func47, Tryd.ntmps47
  go_upto_region 1 with (fail)
  refine absE _ (OnS w A c mx l nm vl nv way nn sn sv) S00.out ?_
  clear S00
  intro W0 s0
  have S0 := hide s0
  obtain ⟨t0, t1⟩ := row2 s0.rt
  obtain ⟨f0, f1, f2⟩ := rowT s0.rf
  clear s0
  go_wp2_with fail
  refine (rplace24 S0.out.rd hn nm vl nv).mono ?_
  rintro e W1 ⟨pl, rfl, hpl, hb1⟩
  have HPx := hide hpl
  have S1 := hide (S0.out.below hb1)
  clear hpl hb1 t0 t1 f0 f1 f2 S0
  obtain ⟨t0, t1⟩ := row2 S1.out.rt
  obtain ⟨f0, f1, f2⟩ := rowT S1.out.rf
  obtain ⟨o0, o1, o2, o3⟩ := row4e S1.out.ro
  cases hnv : nv with
  | true =>
    subst hnv
    have HC : Hid (¬ (kd24 true way = 1 ∧ 0 < pl)) := fun h => by have h9 := h.1; unfold kd24 at h9; simp at h9
    have HKK : Hid ((4 : Int) = if kd24 true way = 1 then 2 else kd24 true way) := rfl
    have al := (Below.refl W1.heap.size W1).alloc (Nat.le_refl _) (.cells #[.int .i64 2, .int .i64 0, .string ⟨#[]⟩, .bool false, .string vl, .bool sv, .int .i64 0] 86)
    have RR0 := hide (heap_alloc_new W1 (.cells #[.int .i64 2, .int .i64 0, .string ⟨#[]⟩, .bool false, .string vl, .bool sv, .int .i64 0] 86))
    have S3 := hide (S1.out.below al)
    have hpr : w.heap.size + 5 ≤ W1.heap.size := by have := rowLt S1.out.r7; omega
    clear al
    go_upto_region 5 with (fail)
    clear f0 f1 f2 o0 o1 o2 o3 t0 t1
    generalize hW : W1.alloc (.cells #[.int .i64 2, .int .i64 0, .string ⟨#[]⟩, .bool false, .string vl, .bool sv, .int .i64 0] 86) = W3 at *
    generalize hP : W1.heap.size = pr at *
    clear hW hP
    obtain ⟨f0, f1, f2⟩ := rowT S3.out.rf
    obtain ⟨t0, t1⟩ := row2 S3.out.rt
    obtain ⟨o0, o1, o2, o3⟩ := row4e S3.out.ro
    cases hnn : nn with
    | true =>
      subst hnn
      obtain ⟨q0, q1, q2, q3, q4, q5, q6⟩ := row7D RR0.out
      obtain ⟨f0, f1, f2⟩ := rowT S3.out.rf
      obtain ⟨o0, o1, o2, o3⟩ := row4e S3.out.ro
      obtain ⟨⟨k2, y2⟩, ⟨k3, y3⟩, rr⟩ := set23_7 RR0.out (.string nm) (.bool sn)
      have RR := hide rr
      have RO6 := hide ((Below.heap_setCell W3 ⟨pr, 2, none⟩ (.string nm) (w.heap.size + 1 + 1) (by show _ ≠ pr; omega)).trans S3.out.ro)
      obtain ⟨p0, p1, p2, p3⟩ := row4e RO6.out
      have S6 := hide (S3.out.free hpr (fun i hi => (by rw [Below.heap_setCell _ ⟨pr, 3, none⟩ _ _ hi, Below.heap_setCell _ ⟨pr, 2, none⟩ _ _ hi])) ((S3.out.e.setCell (p := ⟨pr, 2, none⟩) (by show w.heap.size ≤ pr; omega) (.string nm)).setCell (p := ⟨pr, 3, none⟩) (by show w.heap.size ≤ pr; omega) (.bool sn)))
      clear rr
      go_upto_region 10 with (fail)
      clear q0 q1 q2 q3 q4 q5 q6 f0 f1 f2 o0 o1 o2 o3 k2 y2 k3 y3 p0 p1 p2 p3 RR0 S3 RO6
      generalize (W3.setCell ⟨pr, 2, none⟩ (.string nm)).setCell ⟨pr, 3, none⟩ (.bool sn) = W6 at *

      obtain ⟨f0, f1, f2⟩ := rowT S6.out.rf
      obtain ⟨o0, o1, o2, o3⟩ := row4e S6.out.ro

      obtain ⟨⟨n0, l0⟩, rr0⟩ := set0_7 RR.out (.int .i64 4)
      have RS := hide rr0
      have S8 := hide (S6.out.free hpr (fun i hi => Below.heap_setCell _ ⟨pr, 0, none⟩ _ _ hi) (S6.out.e.setCell (p := ⟨pr, 0, none⟩) (by show w.heap.size ≤ pr; omega) (.int .i64 4)))
      clear rr0
      go_upto_region 12 with (fail)
      clear n0 l0 f0 f1 f2 o0 o1 o2 o3 RR S6
      generalize W6.setCell ⟨pr, 0, none⟩ (.int .i64 4) = W8 at *
      obtain ⟨q0, q1, q2, q3, q4, q5, q6⟩ := row7D RS.out
      obtain ⟨t0, t1⟩ := row2 S8.out.rt

      obtain ⟨⟨k0, y0⟩, ⟨k1, y1⟩, ⟨k2, y2⟩, ⟨k3, y3⟩, ⟨k4, y4⟩, ⟨k5, y5⟩, ⟨k6, y6⟩, rz6⟩ := store7 S8.out.r6 (.int .i64 4) (.int .i64 0) (.string nm) (.bool sn) (.string vl) (.bool sv) (.int .i64 0)
      obtain ⟨⟨k7, y7⟩, ⟨k8, y8⟩, _⟩ := store2z ((heap7n (show w.heap.size + 1 + 1 + 1 + 1 ≠ w.heap.size + 1 + 1 + 1 by omega) (.int .i64 4) (.int .i64 0) (.string nm) (.bool sn) (.string vl) (.bool sv) (.int .i64 0)).trans S8.out.r7) (.slice A l.length c) (.int .i64 (mx : Int))
      clear rz6

      go_region

      all_goals
        first
          | (with_reducible refine absE _ (FinW w A c l (.int .i64 4) (.int .i64 0) (.string nm) (.bool sn) (.string vl) (.bool sv) (.int .i64 0) (.slice A l.length c) (.int .i64 (mx : Int))) (OnS.fin S8.out S8.out.rd S8.out.own (.int .i64 4) (.int .i64 0) (.string nm) (.bool sn) (.string vl) (.bool sv) (.int .i64 0) (.slice A l.length c) (.int .i64 (mx : Int))) ?_)
          | (with_reducible refine absE _ (FinW w A c l (.int .i64 4) (.int .i64 0) (.string nm) (.bool sn) (.string vl) (.bool sv) (.int .i64 0) (.slice A l.length c) (.int .i64 (mx : Int))) (OnS.fin0 S8.out S8.out.rd S8.out.own (.int .i64 4) (.int .i64 0) (.string nm) (.bool sn) (.string vl) (.bool sv) (.int .i64 0) (.slice A l.length c) (.int .i64 (mx : Int))) ?_)
        clear k0 y0 k1 y1 k2 y2 k3 y3 k4 y4 k5 y5 k6 y6 k7 y7 k8 y8
        intro W9 ⟨x6, x7, xd, xs, xe⟩
        have XD := hide xd
        have XS := hide xs
        have XE := hide xe
        obtain ⟨a0_, a1_, a2_, a3_, a4_, a5_, a6_⟩ := row7D x6
        obtain ⟨a7_, a8_⟩ := row2 x7
        clear x6 x7 xd xs xe
        go_wp2_with fail
        refine bodyPost_ret (v := .tuple #[.agg #[.int .i64 4, .int .i64 0, .string nm, .bool sn, .string vl, .bool sv, .int .i64 0], .agg #[.slice A l.length c, .int .i64 (mx : Int)]]) ?_ rfl ⟨_, _, _, _, _, _, l, A, c, rfl, ⟨pl, mP, HPx.out, HmP.out, .inr ⟨HC.out, HKK.out, rfl, rfl, rfl, rfl, rfl, rfl⟩⟩, XD.out, fun a ha => ⟨XS.out a ha, .inl ⟨a, ha, rfl⟩⟩, XE.out⟩
        rw [results_cc rfl]
        go_simp
    | false =>
      subst hnn
      go_wp2_with fail
      refine (rname24 S3.out.rd hn nm).mono ?_
      rintro e W4 ⟨mm, rfl, hm, hb4⟩
      have HM := hide hm
      have S4 := hide (S3.out.below hb4)
      obtain ⟨⟨k1, y1⟩, rr⟩ := set1_7 (keepRow RR0.out hb4) (.int .i64 mm)
      have RR1 := hide rr
      have S5 := hide (S4.out.free hpr (fun i hi => Below.heap_setCell _ ⟨pr, 1, none⟩ _ _ hi) (S4.out.e.setCell (p := ⟨pr, 1, none⟩) (by show w.heap.size ≤ pr; omega) (.int .i64 mm)))
      clear hm hb4 rr f0 f1 f2 o0 o1 o2 o3 t0 t1 RR0 S3
      go_upto_region 7 with (fail)
      clear k1 y1 S4
      generalize W4.setCell ⟨pr, 1, none⟩ (.int .i64 mm) = W5 at *
      by_cases hm0 : mm = 0
      · subst hm0
        obtain ⟨q0, q1, q2, q3, q4, q5, q6⟩ := row7D RR1.out
        obtain ⟨f0, f1, f2⟩ := rowT S5.out.rf
        obtain ⟨o0, o1, o2, o3⟩ := row4e S5.out.ro
        obtain ⟨⟨k2, y2⟩, ⟨k3, y3⟩, rr⟩ := set23_7 RR1.out (.string nm) (.bool sn)
        have RR := hide rr
        have RO6 := hide ((Below.heap_setCell W5 ⟨pr, 2, none⟩ (.string nm) (w.heap.size + 1 + 1) (by show _ ≠ pr; omega)).trans S5.out.ro)
        obtain ⟨p0, p1, p2, p3⟩ := row4e RO6.out
        have S6 := hide (S5.out.free hpr (fun i hi => (by rw [Below.heap_setCell _ ⟨pr, 3, none⟩ _ _ hi, Below.heap_setCell _ ⟨pr, 2, none⟩ _ _ hi])) ((S5.out.e.setCell (p := ⟨pr, 2, none⟩) (by show w.heap.size ≤ pr; omega) (.string nm)).setCell (p := ⟨pr, 3, none⟩) (by show w.heap.size ≤ pr; omega) (.bool sn)))
        clear rr
        go_upto_region 10 with (fail)
        clear q0 q1 q2 q3 q4 q5 q6 f0 f1 f2 o0 o1 o2 o3 k2 y2 k3 y3 p0 p1 p2 p3 RR1 S5 RO6
        generalize (W5.setCell ⟨pr, 2, none⟩ (.string nm)).setCell ⟨pr, 3, none⟩ (.bool sn) = W6 at *

        obtain ⟨f0, f1, f2⟩ := rowT S6.out.rf
        obtain ⟨o0, o1, o2, o3⟩ := row4e S6.out.ro

        obtain ⟨⟨n0, l0⟩, rr0⟩ := set0_7 RR.out (.int .i64 4)
        have RS := hide rr0
        have S8 := hide (S6.out.free hpr (fun i hi => Below.heap_setCell _ ⟨pr, 0, none⟩ _ _ hi) (S6.out.e.setCell (p := ⟨pr, 0, none⟩) (by show w.heap.size ≤ pr; omega) (.int .i64 4)))
        clear rr0
        go_upto_region 12 with (fail)
        clear n0 l0 f0 f1 f2 o0 o1 o2 o3 RR S6
        generalize W6.setCell ⟨pr, 0, none⟩ (.int .i64 4) = W8 at *
        obtain ⟨q0, q1, q2, q3, q4, q5, q6⟩ := row7D RS.out
        obtain ⟨t0, t1⟩ := row2 S8.out.rt

        obtain ⟨⟨k0, y0⟩, ⟨k1, y1⟩, ⟨k2, y2⟩, ⟨k3, y3⟩, ⟨k4, y4⟩, ⟨k5, y5⟩, ⟨k6, y6⟩, rz6⟩ := store7 S8.out.r6 (.int .i64 4) (.int .i64 0) (.string nm) (.bool sn) (.string vl) (.bool sv) (.int .i64 0)
        obtain ⟨⟨k7, y7⟩, ⟨k8, y8⟩, _⟩ := store2z ((heap7n (show w.heap.size + 1 + 1 + 1 + 1 ≠ w.heap.size + 1 + 1 + 1 by omega) (.int .i64 4) (.int .i64 0) (.string nm) (.bool sn) (.string vl) (.bool sv) (.int .i64 0)).trans S8.out.r7) (.slice A l.length c) (.int .i64 (mx : Int))
        clear rz6

        go_region

        all_goals
          first
            | (with_reducible refine absE _ (FinW w A c l (.int .i64 4) (.int .i64 0) (.string nm) (.bool sn) (.string vl) (.bool sv) (.int .i64 0) (.slice A l.length c) (.int .i64 (mx : Int))) (OnS.fin S8.out S8.out.rd S8.out.own (.int .i64 4) (.int .i64 0) (.string nm) (.bool sn) (.string vl) (.bool sv) (.int .i64 0) (.slice A l.length c) (.int .i64 (mx : Int))) ?_)
            | (with_reducible refine absE _ (FinW w A c l (.int .i64 4) (.int .i64 0) (.string nm) (.bool sn) (.string vl) (.bool sv) (.int .i64 0) (.slice A l.length c) (.int .i64 (mx : Int))) (OnS.fin0 S8.out S8.out.rd S8.out.own (.int .i64 4) (.int .i64 0) (.string nm) (.bool sn) (.string vl) (.bool sv) (.int .i64 0) (.slice A l.length c) (.int .i64 (mx : Int))) ?_)
          clear k0 y0 k1 y1 k2 y2 k3 y3 k4 y4 k5 y5 k6 y6 k7 y7 k8 y8
          intro W9 ⟨x6, x7, xd, xs, xe⟩
          have XD := hide xd
          have XS := hide xs
          have XE := hide xe
          obtain ⟨a0_, a1_, a2_, a3_, a4_, a5_, a6_⟩ := row7D x6
          obtain ⟨a7_, a8_⟩ := row2 x7
          clear x6 x7 xd xs xe
          go_wp2_with fail
          refine bodyPost_ret (v := .tuple #[.agg #[.int .i64 4, .int .i64 0, .string nm, .bool sn, .string vl, .bool sv, .int .i64 0], .agg #[.slice A l.length c, .int .i64 (mx : Int)]]) ?_ rfl ⟨_, _, _, _, _, _, l, A, c, rfl, ⟨pl, 0, HPx.out, HM.out, .inr ⟨HC.out, HKK.out, rfl, rfl, rfl, rfl, rfl, rfl⟩⟩, XD.out, fun a ha => ⟨XS.out a ha, .inl ⟨a, ha, rfl⟩⟩, XE.out⟩
          rw [results_cc rfl]
          go_simp
      · have hz : ((mm : Int) == 0) = false := by simpa using hm0
        have Hm0 := hide hm0
        clear hm0
        have HI : Hid ((if mm = 0 then nm else ⟨#[]⟩) = (⟨#[]⟩ : ByteArray) ∧ (if mm = 0 then sn else false) = false) := ⟨if_neg Hm0.out, if_neg Hm0.out⟩
        have RR := hide RR1.out
        obtain ⟨q0, q1, q2, q3, q4, q5, q6⟩ := row7D RR.out
        obtain ⟨f0, f1, f2⟩ := rowT S5.out.rf
        obtain ⟨o0, o1, o2, o3⟩ := row4e S5.out.ro
        go_upto_region 10 with (fail)
        clear q0 q1 q2 q3 q4 q5 q6 f0 f1 f2 o0 o1 o2 o3

        obtain ⟨f0, f1, f2⟩ := rowT S5.out.rf
        obtain ⟨o0, o1, o2, o3⟩ := row4e S5.out.ro

        obtain ⟨⟨n0, l0⟩, rr0⟩ := set0_7 RR.out (.int .i64 4)
        have RS := hide rr0
        have S8 := hide (S5.out.free hpr (fun i hi => Below.heap_setCell _ ⟨pr, 0, none⟩ _ _ hi) (S5.out.e.setCell (p := ⟨pr, 0, none⟩) (by show w.heap.size ≤ pr; omega) (.int .i64 4)))
        clear rr0
        go_upto_region 12 with (fail)
        clear n0 l0 f0 f1 f2 o0 o1 o2 o3 RR S5
        generalize W5.setCell ⟨pr, 0, none⟩ (.int .i64 4) = W8 at *
        obtain ⟨q0, q1, q2, q3, q4, q5, q6⟩ := row7D RS.out
        obtain ⟨t0, t1⟩ := row2 S8.out.rt

        obtain ⟨⟨k0, y0⟩, ⟨k1, y1⟩, ⟨k2, y2⟩, ⟨k3, y3⟩, ⟨k4, y4⟩, ⟨k5, y5⟩, ⟨k6, y6⟩, rz6⟩ := store7 S8.out.r6 (.int .i64 4) (.int .i64 mm) (.string ⟨#[]⟩) (.bool false) (.string vl) (.bool sv) (.int .i64 0)
        obtain ⟨⟨k7, y7⟩, ⟨k8, y8⟩, _⟩ := store2z ((heap7n (show w.heap.size + 1 + 1 + 1 + 1 ≠ w.heap.size + 1 + 1 + 1 by omega) (.int .i64 4) (.int .i64 mm) (.string ⟨#[]⟩) (.bool false) (.string vl) (.bool sv) (.int .i64 0)).trans S8.out.r7) (.slice A l.length c) (.int .i64 (mx : Int))
        clear rz6

        go_region

        all_goals
          first
            | (with_reducible refine absE _ (FinW w A c l (.int .i64 4) (.int .i64 mm) (.string ⟨#[]⟩) (.bool false) (.string vl) (.bool sv) (.int .i64 0) (.slice A l.length c) (.int .i64 (mx : Int))) (OnS.fin S8.out S8.out.rd S8.out.own (.int .i64 4) (.int .i64 mm) (.string ⟨#[]⟩) (.bool false) (.string vl) (.bool sv) (.int .i64 0) (.slice A l.length c) (.int .i64 (mx : Int))) ?_)
            | (with_reducible refine absE _ (FinW w A c l (.int .i64 4) (.int .i64 mm) (.string ⟨#[]⟩) (.bool false) (.string vl) (.bool sv) (.int .i64 0) (.slice A l.length c) (.int .i64 (mx : Int))) (OnS.fin0 S8.out S8.out.rd S8.out.own (.int .i64 4) (.int .i64 mm) (.string ⟨#[]⟩) (.bool false) (.string vl) (.bool sv) (.int .i64 0) (.slice A l.length c) (.int .i64 (mx : Int))) ?_)
          clear k0 y0 k1 y1 k2 y2 k3 y3 k4 y4 k5 y5 k6 y6 k7 y7 k8 y8
          intro W9 ⟨x6, x7, xd, xs, xe⟩
          have XD := hide xd
          have XS := hide xs
          have XE := hide xe
          obtain ⟨a0_, a1_, a2_, a3_, a4_, a5_, a6_⟩ := row7D x6
          obtain ⟨a7_, a8_⟩ := row2 x7
          clear x6 x7 xd xs xe
          go_wp2_with fail
          refine bodyPost_ret (v := .tuple #[.agg #[.int .i64 4, .int .i64 mm, .string ⟨#[]⟩, .bool false, .string vl, .bool sv, .int .i64 0], .agg #[.slice A l.length c, .int .i64 (mx : Int)]]) ?_ rfl ⟨_, _, _, _, _, _, l, A, c, rfl, ⟨pl, mm, HPx.out, HM.out, .inr ⟨HC.out, HKK.out, rfl, HI.out.1.symm, HI.out.2.symm, rfl, rfl, rfl⟩⟩, XD.out, fun a ha => ⟨XS.out a ha, .inl ⟨a, ha, rfl⟩⟩, XE.out⟩
          rw [results_cc rfl]
          go_simp
  | false =>
    subst hnv
    by_cases hw1 : way = 1
    · subst hw1
      have HC : Hid (¬ (kd24 false 1 = 1 ∧ 0 < pl)) := fun h => absurd h.1 (by decide)
      have HKK : Hid ((2 : Int) = if kd24 false 1 = 1 then 2 else kd24 false 1) := rfl
      have al := (Below.refl W1.heap.size W1).alloc (Nat.le_refl _) (.cells #[.int .i64 2, .int .i64 0, .string ⟨#[]⟩, .bool false, .string vl, .bool sv, .int .i64 0] 86)
      have RR0 := hide (heap_alloc_new W1 (.cells #[.int .i64 2, .int .i64 0, .string ⟨#[]⟩, .bool false, .string vl, .bool sv, .int .i64 0] 86))
      have S3 := hide (S1.out.below al)
      have hpr : w.heap.size + 5 ≤ W1.heap.size := by have := rowLt S1.out.r7; omega
      clear al
      go_upto_region 5 with (fail)
      clear f0 f1 f2 o0 o1 o2 o3 t0 t1
      generalize hW : W1.alloc (.cells #[.int .i64 2, .int .i64 0, .string ⟨#[]⟩, .bool false, .string vl, .bool sv, .int .i64 0] 86) = W3 at *
      generalize hP : W1.heap.size = pr at *
      clear hW hP
      obtain ⟨f0, f1, f2⟩ := rowT S3.out.rf
      obtain ⟨t0, t1⟩ := row2 S3.out.rt
      obtain ⟨o0, o1, o2, o3⟩ := row4e S3.out.ro
      cases hnn : nn with
      | true =>
        subst hnn
        obtain ⟨q0, q1, q2, q3, q4, q5, q6⟩ := row7D RR0.out
        obtain ⟨f0, f1, f2⟩ := rowT S3.out.rf
        obtain ⟨o0, o1, o2, o3⟩ := row4e S3.out.ro
        obtain ⟨⟨k2, y2⟩, ⟨k3, y3⟩, rr⟩ := set23_7 RR0.out (.string nm) (.bool sn)
        have RR := hide rr
        have RO6 := hide ((Below.heap_setCell W3 ⟨pr, 2, none⟩ (.string nm) (w.heap.size + 1 + 1) (by show _ ≠ pr; omega)).trans S3.out.ro)
        obtain ⟨p0, p1, p2, p3⟩ := row4e RO6.out
        have S6 := hide (S3.out.free hpr (fun i hi => (by rw [Below.heap_setCell _ ⟨pr, 3, none⟩ _ _ hi, Below.heap_setCell _ ⟨pr, 2, none⟩ _ _ hi])) ((S3.out.e.setCell (p := ⟨pr, 2, none⟩) (by show w.heap.size ≤ pr; omega) (.string nm)).setCell (p := ⟨pr, 3, none⟩) (by show w.heap.size ≤ pr; omega) (.bool sn)))
        clear rr
        go_upto_region 10 with (fail)
        clear q0 q1 q2 q3 q4 q5 q6 f0 f1 f2 o0 o1 o2 o3 k2 y2 k3 y3 p0 p1 p2 p3 RR0 S3 RO6
        generalize (W3.setCell ⟨pr, 2, none⟩ (.string nm)).setCell ⟨pr, 3, none⟩ (.bool sn) = W6 at *

        obtain ⟨f0, f1, f2⟩ := rowT S6.out.rf
        obtain ⟨o0, o1, o2, o3⟩ := row4e S6.out.ro

        go_upto_region 16 with (fail)
        clear o0 o1 o2 o3
        obtain ⟨q0, q1, q2, q3, q4, q5, q6⟩ := row7D RR.out
        obtain ⟨t0, t1⟩ := row2 S6.out.rt
        have SD := hide S6.out.drew
        have hr6 : pr ≠ w.heap.size + 1 + 1 + 1 := by omega
        have hr6t : w.heap.size ≠ w.heap.size + 1 + 1 + 1 := by omega
        have hr6f : w.heap.size + 1 ≠ w.heap.size + 1 + 1 + 1 := by omega
        have hr7 : pr ≠ w.heap.size + 1 + 1 + 1 + 1 := by omega
        have hr7t : w.heap.size ≠ w.heap.size + 1 + 1 + 1 + 1 := by omega
        have hr7f : w.heap.size + 1 ≠ w.heap.size + 1 + 1 + 1 + 1 := by omega
        have SC := hide (And.intro (And.intro q0 (And.intro q1 (And.intro q2 (And.intro q3 (And.intro q4 (And.intro q5 q6)))))) (And.intro (And.intro t0 t1) (And.intro f0 (And.intro f1 f2))))
        go_region_held3 (fun W => (W.cell? ⟨pr, 0, none⟩ = some (.int .i64 2) ∧ W.cell? ⟨pr, 1, none⟩ = some (.int .i64 0) ∧ W.cell? ⟨pr, 2, none⟩ = some (.string nm) ∧ W.cell? ⟨pr, 3, none⟩ = some (.bool sn) ∧ W.cell? ⟨pr, 4, none⟩ = some (.string vl) ∧ W.cell? ⟨pr, 5, none⟩ = some (.bool sv) ∧ W.cell? ⟨pr, 6, none⟩ = some (.int .i64 0)) ∧ (W.cell? ⟨w.heap.size, 0, none⟩ = some (.slice A l.length c) ∧ W.cell? ⟨w.heap.size, 1, none⟩ = some (.int .i64 (mx : Int))) ∧ W.cell? ⟨w.heap.size + 1, 0, none⟩ = some (.string nm) ∧ W.cell? ⟨w.heap.size + 1, 1, none⟩ = some (.string vl) ∧ W.cell? ⟨w.heap.size + 1, 2, none⟩ = some (.bool false))
          ((first | (with_reducible exact SC.out) | (with_reducible exact S9c.out) | (simp only [World.cell?_drew]; with_reducible exact SC.out) | (simp only [World.cell?_drew, cell7e hr6, cell7e hr6t, cell7e hr6f, cell2e hr7, cell2e hr7t, cell2e hr7f]; with_reducible exact S9c.out)))
          ((first
            | (go_at_call 37; (refine (raddL (w := W6.drew) SD.out.rd hn Hwl.out hmx ⟨nm, vl, false⟩ Hwt.out).mono ?_); rintro e W9 ⟨A9, c9, rfl, hr9, ha9, hb9⟩; have S9 := hide (SD.out.below hb9); have R9 := hide (keepRow (w := W6.drew) RR.out hb9); have HR9 := hide hr9; have HA9 := hide ha9; have hsz9 := S6.out.e.size; have h7lt := rowLt S6.out.r7; have HN9 : Hid (∀ a, A9 = some a → a.block < W9.heap.size ∧ a.block ≠ w.heap.size + 1 + 1 + 1 ∧ a.block ≠ w.heap.size + 1 + 1 + 1 + 1) := (fun a ha => (by obtain ⟨z1, z2⟩ := ha9 a ha; rw [drewH] at z1; exact ⟨z2, (by omega), (by omega)⟩)); have S9c := hide (And.intro (row7D R9.out) (And.intro (row2 S9.out.rt) (rowT S9.out.rf))); clear hr9 ha9 hb9; obtain ⟨⟨k0, y0⟩, ⟨k1, y1⟩, ⟨k2, y2⟩, ⟨k3, y3⟩, ⟨k4, y4⟩, ⟨k5, y5⟩, ⟨k6, y6⟩, _⟩ := store7 S9.out.r6 (.int .i64 2) (.int .i64 0) (.string nm) (.bool sn) (.string vl) (.bool sv) (.int .i64 0); obtain ⟨⟨k7, y7⟩, ⟨k8, y8⟩, _⟩ := store2z ((heap7n (show w.heap.size + 1 + 1 + 1 + 1 ≠ w.heap.size + 1 + 1 + 1 by omega) (.int .i64 2) (.int .i64 0) (.string nm) (.bool sn) (.string vl) (.bool sv) (.int .i64 0)).trans S9.out.r7) (.slice A9 (addL mx ⟨nm, vl, false⟩ l).length c9) (.int .i64 (mx : Int)))))

        all_goals
          first
            | (with_reducible refine absE _ (FinW w A9 c9 (addL mx ⟨nm, vl, false⟩ l) (.int .i64 2) (.int .i64 0) (.string nm) (.bool sn) (.string vl) (.bool sv) (.int .i64 0) (.slice A9 (addL mx ⟨nm, vl, false⟩ l).length c9) (.int .i64 (mx : Int))) (OnS.fin S9.out HR9.out HN9.out (.int .i64 2) (.int .i64 0) (.string nm) (.bool sn) (.string vl) (.bool sv) (.int .i64 0) (.slice A9 (addL mx ⟨nm, vl, false⟩ l).length c9) (.int .i64 (mx : Int))) ?_)
            | (with_reducible refine absE _ (FinW w A9 c9 (addL mx ⟨nm, vl, false⟩ l) (.int .i64 2) (.int .i64 0) (.string nm) (.bool sn) (.string vl) (.bool sv) (.int .i64 0) (.slice A9 (addL mx ⟨nm, vl, false⟩ l).length c9) (.int .i64 (mx : Int))) (OnS.fin0 S9.out HR9.out HN9.out (.int .i64 2) (.int .i64 0) (.string nm) (.bool sn) (.string vl) (.bool sv) (.int .i64 0) (.slice A9 (addL mx ⟨nm, vl, false⟩ l).length c9) (.int .i64 (mx : Int))) ?_)
          clear k0 y0 k1 y1 k2 y2 k3 y3 k4 y4 k5 y5 k6 y6 k7 y7 k8 y8
          intro W9 ⟨x6, x7, xd, xs, xe⟩
          have XD := hide xd
          have XS := hide xs
          have XE := hide xe
          obtain ⟨a0_, a1_, a2_, a3_, a4_, a5_, a6_⟩ := row7D x6
          obtain ⟨a7_, a8_⟩ := row2 x7
          clear x6 x7 xd xs xe
          go_wp2_with fail
          refine bodyPost_ret (v := .tuple #[.agg #[.int .i64 2, .int .i64 0, .string nm, .bool sn, .string vl, .bool sv, .int .i64 0], .agg #[.slice A9 (addL mx ⟨nm, vl, false⟩ l).length c9, .int .i64 (mx : Int)]]) ?_ rfl ⟨_, _, _, _, _, _, (addL mx ⟨nm, vl, false⟩ l), A9, c9, rfl, ⟨pl, mP, HPx.out, HmP.out, .inr ⟨HC.out, HKK.out, rfl, rfl, rfl, rfl, rfl, rfl⟩⟩, XD.out, fun a ha => ⟨XS.out a ha, .inr (Nat.le_trans hsz9 (HA9.out a ha).1)⟩, XE.out⟩
          rw [results_cc rfl]
          go_simp
      | false =>
        subst hnn
        go_wp2_with fail
        refine (rname24 S3.out.rd hn nm).mono ?_
        rintro e W4 ⟨mm, rfl, hm, hb4⟩
        have HM := hide hm
        have S4 := hide (S3.out.below hb4)
        obtain ⟨⟨k1, y1⟩, rr⟩ := set1_7 (keepRow RR0.out hb4) (.int .i64 mm)
        have RR1 := hide rr
        have S5 := hide (S4.out.free hpr (fun i hi => Below.heap_setCell _ ⟨pr, 1, none⟩ _ _ hi) (S4.out.e.setCell (p := ⟨pr, 1, none⟩) (by show w.heap.size ≤ pr; omega) (.int .i64 mm)))
        clear hm hb4 rr f0 f1 f2 o0 o1 o2 o3 t0 t1 RR0 S3
        go_upto_region 7 with (fail)
        clear k1 y1 S4
        generalize W4.setCell ⟨pr, 1, none⟩ (.int .i64 mm) = W5 at *
        by_cases hm0 : mm = 0
        · subst hm0
          obtain ⟨q0, q1, q2, q3, q4, q5, q6⟩ := row7D RR1.out
          obtain ⟨f0, f1, f2⟩ := rowT S5.out.rf
          obtain ⟨o0, o1, o2, o3⟩ := row4e S5.out.ro
          obtain ⟨⟨k2, y2⟩, ⟨k3, y3⟩, rr⟩ := set23_7 RR1.out (.string nm) (.bool sn)
          have RR := hide rr
          have RO6 := hide ((Below.heap_setCell W5 ⟨pr, 2, none⟩ (.string nm) (w.heap.size + 1 + 1) (by show _ ≠ pr; omega)).trans S5.out.ro)
          obtain ⟨p0, p1, p2, p3⟩ := row4e RO6.out
          have S6 := hide (S5.out.free hpr (fun i hi => (by rw [Below.heap_setCell _ ⟨pr, 3, none⟩ _ _ hi, Below.heap_setCell _ ⟨pr, 2, none⟩ _ _ hi])) ((S5.out.e.setCell (p := ⟨pr, 2, none⟩) (by show w.heap.size ≤ pr; omega) (.string nm)).setCell (p := ⟨pr, 3, none⟩) (by show w.heap.size ≤ pr; omega) (.bool sn)))
          clear rr
          go_upto_region 10 with (fail)
          clear q0 q1 q2 q3 q4 q5 q6 f0 f1 f2 o0 o1 o2 o3 k2 y2 k3 y3 p0 p1 p2 p3 RR1 S5 RO6
          generalize (W5.setCell ⟨pr, 2, none⟩ (.string nm)).setCell ⟨pr, 3, none⟩ (.bool sn) = W6 at *

          obtain ⟨f0, f1, f2⟩ := rowT S6.out.rf
          obtain ⟨o0, o1, o2, o3⟩ := row4e S6.out.ro

          go_upto_region 16 with (fail)
          clear o0 o1 o2 o3
          obtain ⟨q0, q1, q2, q3, q4, q5, q6⟩ := row7D RR.out
          obtain ⟨t0, t1⟩ := row2 S6.out.rt
          have SD := hide S6.out.drew
          have hr6 : pr ≠ w.heap.size + 1 + 1 + 1 := by omega
          have hr6t : w.heap.size ≠ w.heap.size + 1 + 1 + 1 := by omega
          have hr6f : w.heap.size + 1 ≠ w.heap.size + 1 + 1 + 1 := by omega
          have hr7 : pr ≠ w.heap.size + 1 + 1 + 1 + 1 := by omega
          have hr7t : w.heap.size ≠ w.heap.size + 1 + 1 + 1 + 1 := by omega
          have hr7f : w.heap.size + 1 ≠ w.heap.size + 1 + 1 + 1 + 1 := by omega
          have SC := hide (And.intro (And.intro q0 (And.intro q1 (And.intro q2 (And.intro q3 (And.intro q4 (And.intro q5 q6)))))) (And.intro (And.intro t0 t1) (And.intro f0 (And.intro f1 f2))))
          go_region_held3 (fun W => (W.cell? ⟨pr, 0, none⟩ = some (.int .i64 2) ∧ W.cell? ⟨pr, 1, none⟩ = some (.int .i64 0) ∧ W.cell? ⟨pr, 2, none⟩ = some (.string nm) ∧ W.cell? ⟨pr, 3, none⟩ = some (.bool sn) ∧ W.cell? ⟨pr, 4, none⟩ = some (.string vl) ∧ W.cell? ⟨pr, 5, none⟩ = some (.bool sv) ∧ W.cell? ⟨pr, 6, none⟩ = some (.int .i64 0)) ∧ (W.cell? ⟨w.heap.size, 0, none⟩ = some (.slice A l.length c) ∧ W.cell? ⟨w.heap.size, 1, none⟩ = some (.int .i64 (mx : Int))) ∧ W.cell? ⟨w.heap.size + 1, 0, none⟩ = some (.string nm) ∧ W.cell? ⟨w.heap.size + 1, 1, none⟩ = some (.string vl) ∧ W.cell? ⟨w.heap.size + 1, 2, none⟩ = some (.bool false))
            ((first | (with_reducible exact SC.out) | (with_reducible exact S9c.out) | (simp only [World.cell?_drew]; with_reducible exact SC.out) | (simp only [World.cell?_drew, cell7e hr6, cell7e hr6t, cell7e hr6f, cell2e hr7, cell2e hr7t, cell2e hr7f]; with_reducible exact S9c.out)))
            ((first
              | (go_at_call 37; (refine (raddL (w := W6.drew) SD.out.rd hn Hwl.out hmx ⟨nm, vl, false⟩ Hwt.out).mono ?_); rintro e W9 ⟨A9, c9, rfl, hr9, ha9, hb9⟩; have S9 := hide (SD.out.below hb9); have R9 := hide (keepRow (w := W6.drew) RR.out hb9); have HR9 := hide hr9; have HA9 := hide ha9; have hsz9 := S6.out.e.size; have h7lt := rowLt S6.out.r7; have HN9 : Hid (∀ a, A9 = some a → a.block < W9.heap.size ∧ a.block ≠ w.heap.size + 1 + 1 + 1 ∧ a.block ≠ w.heap.size + 1 + 1 + 1 + 1) := (fun a ha => (by obtain ⟨z1, z2⟩ := ha9 a ha; rw [drewH] at z1; exact ⟨z2, (by omega), (by omega)⟩)); have S9c := hide (And.intro (row7D R9.out) (And.intro (row2 S9.out.rt) (rowT S9.out.rf))); clear hr9 ha9 hb9; obtain ⟨⟨k0, y0⟩, ⟨k1, y1⟩, ⟨k2, y2⟩, ⟨k3, y3⟩, ⟨k4, y4⟩, ⟨k5, y5⟩, ⟨k6, y6⟩, _⟩ := store7 S9.out.r6 (.int .i64 2) (.int .i64 0) (.string nm) (.bool sn) (.string vl) (.bool sv) (.int .i64 0); obtain ⟨⟨k7, y7⟩, ⟨k8, y8⟩, _⟩ := store2z ((heap7n (show w.heap.size + 1 + 1 + 1 + 1 ≠ w.heap.size + 1 + 1 + 1 by omega) (.int .i64 2) (.int .i64 0) (.string nm) (.bool sn) (.string vl) (.bool sv) (.int .i64 0)).trans S9.out.r7) (.slice A9 (addL mx ⟨nm, vl, false⟩ l).length c9) (.int .i64 (mx : Int)))))

          all_goals
            first
              | (with_reducible refine absE _ (FinW w A9 c9 (addL mx ⟨nm, vl, false⟩ l) (.int .i64 2) (.int .i64 0) (.string nm) (.bool sn) (.string vl) (.bool sv) (.int .i64 0) (.slice A9 (addL mx ⟨nm, vl, false⟩ l).length c9) (.int .i64 (mx : Int))) (OnS.fin S9.out HR9.out HN9.out (.int .i64 2) (.int .i64 0) (.string nm) (.bool sn) (.string vl) (.bool sv) (.int .i64 0) (.slice A9 (addL mx ⟨nm, vl, false⟩ l).length c9) (.int .i64 (mx : Int))) ?_)
              | (with_reducible refine absE _ (FinW w A9 c9 (addL mx ⟨nm, vl, false⟩ l) (.int .i64 2) (.int .i64 0) (.string nm) (.bool sn) (.string vl) (.bool sv) (.int .i64 0) (.slice A9 (addL mx ⟨nm, vl, false⟩ l).length c9) (.int .i64 (mx : Int))) (OnS.fin0 S9.out HR9.out HN9.out (.int .i64 2) (.int .i64 0) (.string nm) (.bool sn) (.string vl) (.bool sv) (.int .i64 0) (.slice A9 (addL mx ⟨nm, vl, false⟩ l).length c9) (.int .i64 (mx : Int))) ?_)
            clear k0 y0 k1 y1 k2 y2 k3 y3 k4 y4 k5 y5 k6 y6 k7 y7 k8 y8
            intro W9 ⟨x6, x7, xd, xs, xe⟩
            have XD := hide xd
            have XS := hide xs
            have XE := hide xe
            obtain ⟨a0_, a1_, a2_, a3_, a4_, a5_, a6_⟩ := row7D x6
            obtain ⟨a7_, a8_⟩ := row2 x7
            clear x6 x7 xd xs xe
            go_wp2_with fail
            refine bodyPost_ret (v := .tuple #[.agg #[.int .i64 2, .int .i64 0, .string nm, .bool sn, .string vl, .bool sv, .int .i64 0], .agg #[.slice A9 (addL mx ⟨nm, vl, false⟩ l).length c9, .int .i64 (mx : Int)]]) ?_ rfl ⟨_, _, _, _, _, _, (addL mx ⟨nm, vl, false⟩ l), A9, c9, rfl, ⟨pl, 0, HPx.out, HM.out, .inr ⟨HC.out, HKK.out, rfl, rfl, rfl, rfl, rfl, rfl⟩⟩, XD.out, fun a ha => ⟨XS.out a ha, .inr (Nat.le_trans hsz9 (HA9.out a ha).1)⟩, XE.out⟩
            rw [results_cc rfl]
            go_simp
        · have hz : ((mm : Int) == 0) = false := by simpa using hm0
          have Hm0 := hide hm0
          clear hm0
          have HI : Hid ((if mm = 0 then nm else ⟨#[]⟩) = (⟨#[]⟩ : ByteArray) ∧ (if mm = 0 then sn else false) = false) := ⟨if_neg Hm0.out, if_neg Hm0.out⟩
          have RR := hide RR1.out
          obtain ⟨q0, q1, q2, q3, q4, q5, q6⟩ := row7D RR.out
          obtain ⟨f0, f1, f2⟩ := rowT S5.out.rf
          obtain ⟨o0, o1, o2, o3⟩ := row4e S5.out.ro
          go_upto_region 10 with (fail)
          clear q0 q1 q2 q3 q4 q5 q6 f0 f1 f2 o0 o1 o2 o3

          obtain ⟨f0, f1, f2⟩ := rowT S5.out.rf
          obtain ⟨o0, o1, o2, o3⟩ := row4e S5.out.ro

          go_upto_region 16 with (fail)
          clear o0 o1 o2 o3
          obtain ⟨q0, q1, q2, q3, q4, q5, q6⟩ := row7D RR.out
          obtain ⟨t0, t1⟩ := row2 S5.out.rt
          have SD := hide S5.out.drew
          have hr6 : pr ≠ w.heap.size + 1 + 1 + 1 := by omega
          have hr6t : w.heap.size ≠ w.heap.size + 1 + 1 + 1 := by omega
          have hr6f : w.heap.size + 1 ≠ w.heap.size + 1 + 1 + 1 := by omega
          have hr7 : pr ≠ w.heap.size + 1 + 1 + 1 + 1 := by omega
          have hr7t : w.heap.size ≠ w.heap.size + 1 + 1 + 1 + 1 := by omega
          have hr7f : w.heap.size + 1 ≠ w.heap.size + 1 + 1 + 1 + 1 := by omega
          have SC := hide (And.intro (And.intro q0 (And.intro q1 (And.intro q2 (And.intro q3 (And.intro q4 (And.intro q5 q6)))))) (And.intro (And.intro t0 t1) (And.intro f0 (And.intro f1 f2))))
          go_region_held3 (fun W => (W.cell? ⟨pr, 0, none⟩ = some (.int .i64 2) ∧ W.cell? ⟨pr, 1, none⟩ = some (.int .i64 mm) ∧ W.cell? ⟨pr, 2, none⟩ = some (.string ⟨#[]⟩) ∧ W.cell? ⟨pr, 3, none⟩ = some (.bool false) ∧ W.cell? ⟨pr, 4, none⟩ = some (.string vl) ∧ W.cell? ⟨pr, 5, none⟩ = some (.bool sv) ∧ W.cell? ⟨pr, 6, none⟩ = some (.int .i64 0)) ∧ (W.cell? ⟨w.heap.size, 0, none⟩ = some (.slice A l.length c) ∧ W.cell? ⟨w.heap.size, 1, none⟩ = some (.int .i64 (mx : Int))) ∧ W.cell? ⟨w.heap.size + 1, 0, none⟩ = some (.string nm) ∧ W.cell? ⟨w.heap.size + 1, 1, none⟩ = some (.string vl) ∧ W.cell? ⟨w.heap.size + 1, 2, none⟩ = some (.bool false))
            ((first | (with_reducible exact SC.out) | (with_reducible exact S9c.out) | (simp only [World.cell?_drew]; with_reducible exact SC.out) | (simp only [World.cell?_drew, cell7e hr6, cell7e hr6t, cell7e hr6f, cell2e hr7, cell2e hr7t, cell2e hr7f]; with_reducible exact S9c.out)))
            ((first
              | (go_at_call 37; (refine (raddL (w := W5.drew) SD.out.rd hn Hwl.out hmx ⟨nm, vl, false⟩ Hwt.out).mono ?_); rintro e W9 ⟨A9, c9, rfl, hr9, ha9, hb9⟩; have S9 := hide (SD.out.below hb9); have R9 := hide (keepRow (w := W5.drew) RR.out hb9); have HR9 := hide hr9; have HA9 := hide ha9; have hsz9 := S5.out.e.size; have h7lt := rowLt S5.out.r7; have HN9 : Hid (∀ a, A9 = some a → a.block < W9.heap.size ∧ a.block ≠ w.heap.size + 1 + 1 + 1 ∧ a.block ≠ w.heap.size + 1 + 1 + 1 + 1) := (fun a ha => (by obtain ⟨z1, z2⟩ := ha9 a ha; rw [drewH] at z1; exact ⟨z2, (by omega), (by omega)⟩)); have S9c := hide (And.intro (row7D R9.out) (And.intro (row2 S9.out.rt) (rowT S9.out.rf))); clear hr9 ha9 hb9; obtain ⟨⟨k0, y0⟩, ⟨k1, y1⟩, ⟨k2, y2⟩, ⟨k3, y3⟩, ⟨k4, y4⟩, ⟨k5, y5⟩, ⟨k6, y6⟩, _⟩ := store7 S9.out.r6 (.int .i64 2) (.int .i64 mm) (.string ⟨#[]⟩) (.bool false) (.string vl) (.bool sv) (.int .i64 0); obtain ⟨⟨k7, y7⟩, ⟨k8, y8⟩, _⟩ := store2z ((heap7n (show w.heap.size + 1 + 1 + 1 + 1 ≠ w.heap.size + 1 + 1 + 1 by omega) (.int .i64 2) (.int .i64 mm) (.string ⟨#[]⟩) (.bool false) (.string vl) (.bool sv) (.int .i64 0)).trans S9.out.r7) (.slice A9 (addL mx ⟨nm, vl, false⟩ l).length c9) (.int .i64 (mx : Int)))))

          all_goals
            first
              | (with_reducible refine absE _ (FinW w A9 c9 (addL mx ⟨nm, vl, false⟩ l) (.int .i64 2) (.int .i64 mm) (.string ⟨#[]⟩) (.bool false) (.string vl) (.bool sv) (.int .i64 0) (.slice A9 (addL mx ⟨nm, vl, false⟩ l).length c9) (.int .i64 (mx : Int))) (OnS.fin S9.out HR9.out HN9.out (.int .i64 2) (.int .i64 mm) (.string ⟨#[]⟩) (.bool false) (.string vl) (.bool sv) (.int .i64 0) (.slice A9 (addL mx ⟨nm, vl, false⟩ l).length c9) (.int .i64 (mx : Int))) ?_)
              | (with_reducible refine absE _ (FinW w A9 c9 (addL mx ⟨nm, vl, false⟩ l) (.int .i64 2) (.int .i64 mm) (.string ⟨#[]⟩) (.bool false) (.string vl) (.bool sv) (.int .i64 0) (.slice A9 (addL mx ⟨nm, vl, false⟩ l).length c9) (.int .i64 (mx : Int))) (OnS.fin0 S9.out HR9.out HN9.out (.int .i64 2) (.int .i64 mm) (.string ⟨#[]⟩) (.bool false) (.string vl) (.bool sv) (.int .i64 0) (.slice A9 (addL mx ⟨nm, vl, false⟩ l).length c9) (.int .i64 (mx : Int))) ?_)
            clear k0 y0 k1 y1 k2 y2 k3 y3 k4 y4 k5 y5 k6 y6 k7 y7 k8 y8
            intro W9 ⟨x6, x7, xd, xs, xe⟩
            have XD := hide xd
            have XS := hide xs
            have XE := hide xe
            obtain ⟨a0_, a1_, a2_, a3_, a4_, a5_, a6_⟩ := row7D x6
            obtain ⟨a7_, a8_⟩ := row2 x7
            clear x6 x7 xd xs xe
            go_wp2_with fail
            refine bodyPost_ret (v := .tuple #[.agg #[.int .i64 2, .int .i64 mm, .string ⟨#[]⟩, .bool false, .string vl, .bool sv, .int .i64 0], .agg #[.slice A9 (addL mx ⟨nm, vl, false⟩ l).length c9, .int .i64 (mx : Int)]]) ?_ rfl ⟨_, _, _, _, _, _, (addL mx ⟨nm, vl, false⟩ l), A9, c9, rfl, ⟨pl, mm, HPx.out, HM.out, .inr ⟨HC.out, HKK.out, rfl, HI.out.1.symm, HI.out.2.symm, rfl, rfl, rfl⟩⟩, XD.out, fun a ha => ⟨XS.out a ha, .inr (Nat.le_trans hsz9 (HA9.out a ha).1)⟩, XE.out⟩
            rw [results_cc rfl]
            go_simp
    · by_cases hw2 : way = 2
      · subst hw2
        have HC : Hid (¬ (kd24 false 2 = 1 ∧ 0 < pl)) := fun h => absurd h.1 (by decide)
        have HKK : Hid ((3 : Int) = if kd24 false 2 = 1 then 2 else kd24 false 2) := rfl
        have al := (Below.refl W1.heap.size W1).alloc (Nat.le_refl _) (.cells #[.int .i64 2, .int .i64 0, .string ⟨#[]⟩, .bool false, .string vl, .bool sv, .int .i64 0] 86)
        have RR0 := hide (heap_alloc_new W1 (.cells #[.int .i64 2, .int .i64 0, .string ⟨#[]⟩, .bool false, .string vl, .bool sv, .int .i64 0] 86))
        have S3 := hide (S1.out.below al)
        have hpr : w.heap.size + 5 ≤ W1.heap.size := by have := rowLt S1.out.r7; omega
        clear al
        go_upto_region 5 with (fail)
        clear f0 f1 f2 o0 o1 o2 o3 t0 t1
        generalize hW : W1.alloc (.cells #[.int .i64 2, .int .i64 0, .string ⟨#[]⟩, .bool false, .string vl, .bool sv, .int .i64 0] 86) = W3 at *
        generalize hP : W1.heap.size = pr at *
        clear hW hP
        obtain ⟨f0, f1, f2⟩ := rowT S3.out.rf
        obtain ⟨t0, t1⟩ := row2 S3.out.rt
        obtain ⟨o0, o1, o2, o3⟩ := row4e S3.out.ro
        cases hnn : nn with
        | true =>
          subst hnn
          obtain ⟨q0, q1, q2, q3, q4, q5, q6⟩ := row7D RR0.out
          obtain ⟨f0, f1, f2⟩ := rowT S3.out.rf
          obtain ⟨o0, o1, o2, o3⟩ := row4e S3.out.ro
          obtain ⟨⟨k2, y2⟩, ⟨k3, y3⟩, rr⟩ := set23_7 RR0.out (.string nm) (.bool sn)
          have RR := hide rr
          have RO6 := hide ((Below.heap_setCell W3 ⟨pr, 2, none⟩ (.string nm) (w.heap.size + 1 + 1) (by show _ ≠ pr; omega)).trans S3.out.ro)
          obtain ⟨p0, p1, p2, p3⟩ := row4e RO6.out
          have S6 := hide (S3.out.free hpr (fun i hi => (by rw [Below.heap_setCell _ ⟨pr, 3, none⟩ _ _ hi, Below.heap_setCell _ ⟨pr, 2, none⟩ _ _ hi])) ((S3.out.e.setCell (p := ⟨pr, 2, none⟩) (by show w.heap.size ≤ pr; omega) (.string nm)).setCell (p := ⟨pr, 3, none⟩) (by show w.heap.size ≤ pr; omega) (.bool sn)))
          clear rr
          go_upto_region 10 with (fail)
          clear q0 q1 q2 q3 q4 q5 q6 f0 f1 f2 o0 o1 o2 o3 k2 y2 k3 y3 p0 p1 p2 p3 RR0 S3 RO6
          generalize (W3.setCell ⟨pr, 2, none⟩ (.string nm)).setCell ⟨pr, 3, none⟩ (.bool sn) = W6 at *

          obtain ⟨f0, f1, f2⟩ := rowT S6.out.rf
          obtain ⟨o0, o1, o2, o3⟩ := row4e S6.out.ro

          obtain ⟨⟨n0, l0⟩, rr0⟩ := set0_7 RR.out (.int .i64 3)
          have RS := hide rr0
          have S8 := hide (S6.out.free hpr (fun i hi => Below.heap_setCell _ ⟨pr, 0, none⟩ _ _ hi) (S6.out.e.setCell (p := ⟨pr, 0, none⟩) (by show w.heap.size ≤ pr; omega) (.int .i64 3)))
          clear rr0
          go_upto_region 15 with (fail)
          clear n0 l0 f0 f1 f2 o0 o1 o2 o3 RR S6
          generalize W6.setCell ⟨pr, 0, none⟩ (.int .i64 3) = W8 at *
          obtain ⟨q0, q1, q2, q3, q4, q5, q6⟩ := row7D RS.out
          obtain ⟨t0, t1⟩ := row2 S8.out.rt

          obtain ⟨⟨k0, y0⟩, ⟨k1, y1⟩, ⟨k2, y2⟩, ⟨k3, y3⟩, ⟨k4, y4⟩, ⟨k5, y5⟩, ⟨k6, y6⟩, rz6⟩ := store7 S8.out.r6 (.int .i64 3) (.int .i64 0) (.string nm) (.bool sn) (.string vl) (.bool sv) (.int .i64 0)
          obtain ⟨⟨k7, y7⟩, ⟨k8, y8⟩, _⟩ := store2z ((heap7n (show w.heap.size + 1 + 1 + 1 + 1 ≠ w.heap.size + 1 + 1 + 1 by omega) (.int .i64 3) (.int .i64 0) (.string nm) (.bool sn) (.string vl) (.bool sv) (.int .i64 0)).trans S8.out.r7) (.slice A l.length c) (.int .i64 (mx : Int))
          clear rz6

          go_region

          all_goals
            first
              | (with_reducible refine absE _ (FinW w A c l (.int .i64 3) (.int .i64 0) (.string nm) (.bool sn) (.string vl) (.bool sv) (.int .i64 0) (.slice A l.length c) (.int .i64 (mx : Int))) (OnS.fin S8.out S8.out.rd S8.out.own (.int .i64 3) (.int .i64 0) (.string nm) (.bool sn) (.string vl) (.bool sv) (.int .i64 0) (.slice A l.length c) (.int .i64 (mx : Int))) ?_)
              | (with_reducible refine absE _ (FinW w A c l (.int .i64 3) (.int .i64 0) (.string nm) (.bool sn) (.string vl) (.bool sv) (.int .i64 0) (.slice A l.length c) (.int .i64 (mx : Int))) (OnS.fin0 S8.out S8.out.rd S8.out.own (.int .i64 3) (.int .i64 0) (.string nm) (.bool sn) (.string vl) (.bool sv) (.int .i64 0) (.slice A l.length c) (.int .i64 (mx : Int))) ?_)
            clear k0 y0 k1 y1 k2 y2 k3 y3 k4 y4 k5 y5 k6 y6 k7 y7 k8 y8
            intro W9 ⟨x6, x7, xd, xs, xe⟩
            have XD := hide xd
            have XS := hide xs
            have XE := hide xe
            obtain ⟨a0_, a1_, a2_, a3_, a4_, a5_, a6_⟩ := row7D x6
            obtain ⟨a7_, a8_⟩ := row2 x7
            clear x6 x7 xd xs xe
            go_wp2_with fail
            refine bodyPost_ret (v := .tuple #[.agg #[.int .i64 3, .int .i64 0, .string nm, .bool sn, .string vl, .bool sv, .int .i64 0], .agg #[.slice A l.length c, .int .i64 (mx : Int)]]) ?_ rfl ⟨_, _, _, _, _, _, l, A, c, rfl, ⟨pl, mP, HPx.out, HmP.out, .inr ⟨HC.out, HKK.out, rfl, rfl, rfl, rfl, rfl, rfl⟩⟩, XD.out, fun a ha => ⟨XS.out a ha, .inl ⟨a, ha, rfl⟩⟩, XE.out⟩
            rw [results_cc rfl]
            go_simp
        | false =>
          subst hnn
          go_wp2_with fail
          refine (rname24 S3.out.rd hn nm).mono ?_
          rintro e W4 ⟨mm, rfl, hm, hb4⟩
          have HM := hide hm
          have S4 := hide (S3.out.below hb4)
          obtain ⟨⟨k1, y1⟩, rr⟩ := set1_7 (keepRow RR0.out hb4) (.int .i64 mm)
          have RR1 := hide rr
          have S5 := hide (S4.out.free hpr (fun i hi => Below.heap_setCell _ ⟨pr, 1, none⟩ _ _ hi) (S4.out.e.setCell (p := ⟨pr, 1, none⟩) (by show w.heap.size ≤ pr; omega) (.int .i64 mm)))
          clear hm hb4 rr f0 f1 f2 o0 o1 o2 o3 t0 t1 RR0 S3
          go_upto_region 7 with (fail)
          clear k1 y1 S4
          generalize W4.setCell ⟨pr, 1, none⟩ (.int .i64 mm) = W5 at *
          by_cases hm0 : mm = 0
          · subst hm0
            obtain ⟨q0, q1, q2, q3, q4, q5, q6⟩ := row7D RR1.out
            obtain ⟨f0, f1, f2⟩ := rowT S5.out.rf
            obtain ⟨o0, o1, o2, o3⟩ := row4e S5.out.ro
            obtain ⟨⟨k2, y2⟩, ⟨k3, y3⟩, rr⟩ := set23_7 RR1.out (.string nm) (.bool sn)
            have RR := hide rr
            have RO6 := hide ((Below.heap_setCell W5 ⟨pr, 2, none⟩ (.string nm) (w.heap.size + 1 + 1) (by show _ ≠ pr; omega)).trans S5.out.ro)
            obtain ⟨p0, p1, p2, p3⟩ := row4e RO6.out
            have S6 := hide (S5.out.free hpr (fun i hi => (by rw [Below.heap_setCell _ ⟨pr, 3, none⟩ _ _ hi, Below.heap_setCell _ ⟨pr, 2, none⟩ _ _ hi])) ((S5.out.e.setCell (p := ⟨pr, 2, none⟩) (by show w.heap.size ≤ pr; omega) (.string nm)).setCell (p := ⟨pr, 3, none⟩) (by show w.heap.size ≤ pr; omega) (.bool sn)))
            clear rr
            go_upto_region 10 with (fail)
            clear q0 q1 q2 q3 q4 q5 q6 f0 f1 f2 o0 o1 o2 o3 k2 y2 k3 y3 p0 p1 p2 p3 RR1 S5 RO6
            generalize (W5.setCell ⟨pr, 2, none⟩ (.string nm)).setCell ⟨pr, 3, none⟩ (.bool sn) = W6 at *

            obtain ⟨f0, f1, f2⟩ := rowT S6.out.rf
            obtain ⟨o0, o1, o2, o3⟩ := row4e S6.out.ro

            obtain ⟨⟨n0, l0⟩, rr0⟩ := set0_7 RR.out (.int .i64 3)
            have RS := hide rr0
            have S8 := hide (S6.out.free hpr (fun i hi => Below.heap_setCell _ ⟨pr, 0, none⟩ _ _ hi) (S6.out.e.setCell (p := ⟨pr, 0, none⟩) (by show w.heap.size ≤ pr; omega) (.int .i64 3)))
            clear rr0
            go_upto_region 15 with (fail)
            clear n0 l0 f0 f1 f2 o0 o1 o2 o3 RR S6
            generalize W6.setCell ⟨pr, 0, none⟩ (.int .i64 3) = W8 at *
            obtain ⟨q0, q1, q2, q3, q4, q5, q6⟩ := row7D RS.out
            obtain ⟨t0, t1⟩ := row2 S8.out.rt

            obtain ⟨⟨k0, y0⟩, ⟨k1, y1⟩, ⟨k2, y2⟩, ⟨k3, y3⟩, ⟨k4, y4⟩, ⟨k5, y5⟩, ⟨k6, y6⟩, rz6⟩ := store7 S8.out.r6 (.int .i64 3) (.int .i64 0) (.string nm) (.bool sn) (.string vl) (.bool sv) (.int .i64 0)
            obtain ⟨⟨k7, y7⟩, ⟨k8, y8⟩, _⟩ := store2z ((heap7n (show w.heap.size + 1 + 1 + 1 + 1 ≠ w.heap.size + 1 + 1 + 1 by omega) (.int .i64 3) (.int .i64 0) (.string nm) (.bool sn) (.string vl) (.bool sv) (.int .i64 0)).trans S8.out.r7) (.slice A l.length c) (.int .i64 (mx : Int))
            clear rz6

            go_region

            all_goals
              first
                | (with_reducible refine absE _ (FinW w A c l (.int .i64 3) (.int .i64 0) (.string nm) (.bool sn) (.string vl) (.bool sv) (.int .i64 0) (.slice A l.length c) (.int .i64 (mx : Int))) (OnS.fin S8.out S8.out.rd S8.out.own (.int .i64 3) (.int .i64 0) (.string nm) (.bool sn) (.string vl) (.bool sv) (.int .i64 0) (.slice A l.length c) (.int .i64 (mx : Int))) ?_)
                | (with_reducible refine absE _ (FinW w A c l (.int .i64 3) (.int .i64 0) (.string nm) (.bool sn) (.string vl) (.bool sv) (.int .i64 0) (.slice A l.length c) (.int .i64 (mx : Int))) (OnS.fin0 S8.out S8.out.rd S8.out.own (.int .i64 3) (.int .i64 0) (.string nm) (.bool sn) (.string vl) (.bool sv) (.int .i64 0) (.slice A l.length c) (.int .i64 (mx : Int))) ?_)
              clear k0 y0 k1 y1 k2 y2 k3 y3 k4 y4 k5 y5 k6 y6 k7 y7 k8 y8
              intro W9 ⟨x6, x7, xd, xs, xe⟩
              have XD := hide xd
              have XS := hide xs
              have XE := hide xe
              obtain ⟨a0_, a1_, a2_, a3_, a4_, a5_, a6_⟩ := row7D x6
              obtain ⟨a7_, a8_⟩ := row2 x7
              clear x6 x7 xd xs xe
              go_wp2_with fail
              refine bodyPost_ret (v := .tuple #[.agg #[.int .i64 3, .int .i64 0, .string nm, .bool sn, .string vl, .bool sv, .int .i64 0], .agg #[.slice A l.length c, .int .i64 (mx : Int)]]) ?_ rfl ⟨_, _, _, _, _, _, l, A, c, rfl, ⟨pl, 0, HPx.out, HM.out, .inr ⟨HC.out, HKK.out, rfl, rfl, rfl, rfl, rfl, rfl⟩⟩, XD.out, fun a ha => ⟨XS.out a ha, .inl ⟨a, ha, rfl⟩⟩, XE.out⟩
              rw [results_cc rfl]
              go_simp
          · have hz : ((mm : Int) == 0) = false := by simpa using hm0
            have Hm0 := hide hm0
            clear hm0
            have HI : Hid ((if mm = 0 then nm else ⟨#[]⟩) = (⟨#[]⟩ : ByteArray) ∧ (if mm = 0 then sn else false) = false) := ⟨if_neg Hm0.out, if_neg Hm0.out⟩
            have RR := hide RR1.out
            obtain ⟨q0, q1, q2, q3, q4, q5, q6⟩ := row7D RR.out
            obtain ⟨f0, f1, f2⟩ := rowT S5.out.rf
            obtain ⟨o0, o1, o2, o3⟩ := row4e S5.out.ro
            go_upto_region 10 with (fail)
            clear q0 q1 q2 q3 q4 q5 q6 f0 f1 f2 o0 o1 o2 o3

            obtain ⟨f0, f1, f2⟩ := rowT S5.out.rf
            obtain ⟨o0, o1, o2, o3⟩ := row4e S5.out.ro

            obtain ⟨⟨n0, l0⟩, rr0⟩ := set0_7 RR.out (.int .i64 3)
            have RS := hide rr0
            have S8 := hide (S5.out.free hpr (fun i hi => Below.heap_setCell _ ⟨pr, 0, none⟩ _ _ hi) (S5.out.e.setCell (p := ⟨pr, 0, none⟩) (by show w.heap.size ≤ pr; omega) (.int .i64 3)))
            clear rr0
            go_upto_region 15 with (fail)
            clear n0 l0 f0 f1 f2 o0 o1 o2 o3 RR S5
            generalize W5.setCell ⟨pr, 0, none⟩ (.int .i64 3) = W8 at *
            obtain ⟨q0, q1, q2, q3, q4, q5, q6⟩ := row7D RS.out
            obtain ⟨t0, t1⟩ := row2 S8.out.rt

            obtain ⟨⟨k0, y0⟩, ⟨k1, y1⟩, ⟨k2, y2⟩, ⟨k3, y3⟩, ⟨k4, y4⟩, ⟨k5, y5⟩, ⟨k6, y6⟩, rz6⟩ := store7 S8.out.r6 (.int .i64 3) (.int .i64 mm) (.string ⟨#[]⟩) (.bool false) (.string vl) (.bool sv) (.int .i64 0)
            obtain ⟨⟨k7, y7⟩, ⟨k8, y8⟩, _⟩ := store2z ((heap7n (show w.heap.size + 1 + 1 + 1 + 1 ≠ w.heap.size + 1 + 1 + 1 by omega) (.int .i64 3) (.int .i64 mm) (.string ⟨#[]⟩) (.bool false) (.string vl) (.bool sv) (.int .i64 0)).trans S8.out.r7) (.slice A l.length c) (.int .i64 (mx : Int))
            clear rz6

            go_region

            all_goals
              first
                | (with_reducible refine absE _ (FinW w A c l (.int .i64 3) (.int .i64 mm) (.string ⟨#[]⟩) (.bool false) (.string vl) (.bool sv) (.int .i64 0) (.slice A l.length c) (.int .i64 (mx : Int))) (OnS.fin S8.out S8.out.rd S8.out.own (.int .i64 3) (.int .i64 mm) (.string ⟨#[]⟩) (.bool false) (.string vl) (.bool sv) (.int .i64 0) (.slice A l.length c) (.int .i64 (mx : Int))) ?_)
                | (with_reducible refine absE _ (FinW w A c l (.int .i64 3) (.int .i64 mm) (.string ⟨#[]⟩) (.bool false) (.string vl) (.bool sv) (.int .i64 0) (.slice A l.length c) (.int .i64 (mx : Int))) (OnS.fin0 S8.out S8.out.rd S8.out.own (.int .i64 3) (.int .i64 mm) (.string ⟨#[]⟩) (.bool false) (.string vl) (.bool sv) (.int .i64 0) (.slice A l.length c) (.int .i64 (mx : Int))) ?_)
              clear k0 y0 k1 y1 k2 y2 k3 y3 k4 y4 k5 y5 k6 y6 k7 y7 k8 y8
              intro W9 ⟨x6, x7, xd, xs, xe⟩
              have XD := hide xd
              have XS := hide xs
              have XE := hide xe
              obtain ⟨a0_, a1_, a2_, a3_, a4_, a5_, a6_⟩ := row7D x6
              obtain ⟨a7_, a8_⟩ := row2 x7
              clear x6 x7 xd xs xe
              go_wp2_with fail
              refine bodyPost_ret (v := .tuple #[.agg #[.int .i64 3, .int .i64 mm, .string ⟨#[]⟩, .bool false, .string vl, .bool sv, .int .i64 0], .agg #[.slice A l.length c, .int .i64 (mx : Int)]]) ?_ rfl ⟨_, _, _, _, _, _, l, A, c, rfl, ⟨pl, mm, HPx.out, HM.out, .inr ⟨HC.out, HKK.out, rfl, HI.out.1.symm, HI.out.2.symm, rfl, rfl, rfl⟩⟩, XD.out, fun a ha => ⟨XS.out a ha, .inl ⟨a, ha, rfl⟩⟩, XE.out⟩
              rw [results_cc rfl]
              go_simp
      · have e1 : kd24 false way = 1 := by unfold kd24; rw [if_neg (by simp), if_neg hw1, if_neg hw2]
        have d1 : ((way : Int) != 1) = true := by simpa using hw1
        have d2 : ((way : Int) != 2) = true := by simpa using hw2
        have d3 : ((way : Int) == 2) = false := by simpa using hw2
        have HE1 := hide e1
        clear hw1 hw2 e1
        by_cases hp : 0 < pl
        · have hd : decide (0 < pl) = true := decide_eq_true hp
          have Hp := hide hp
          clear hp
          go_upto_region 3 with (fail)
          obtain ⟨⟨k0, y0⟩, ⟨k1, y1⟩, ⟨k2, y2⟩, ⟨k3, y3⟩, ⟨k4, y4⟩, ⟨k5, y5⟩, ⟨k6, y6⟩, rz6⟩ := store7 S1.out.r6 (.int .i64 1) (.int .i64 pl) (.string ⟨#[]⟩) (.bool false) (.string ⟨#[]⟩) (.bool false) (.int .i64 0)
          obtain ⟨⟨k7, y7⟩, ⟨k8, y8⟩, _⟩ := store2z ((heap7n (show w.heap.size + 1 + 1 + 1 + 1 ≠ w.heap.size + 1 + 1 + 1 by omega) (.int .i64 1) (.int .i64 pl) (.string ⟨#[]⟩) (.bool false) (.string ⟨#[]⟩) (.bool false) (.int .i64 0)).trans S1.out.r7) (.slice A l.length c) (.int .i64 (mx : Int))
          clear rz6

          go_region

          all_goals
            first
              | (with_reducible refine absE _ (FinW w A c l (.int .i64 1) (.int .i64 pl) (.string ⟨#[]⟩) (.bool false) (.string ⟨#[]⟩) (.bool false) (.int .i64 0) (.slice A l.length c) (.int .i64 (mx : Int))) (OnS.fin S1.out S1.out.rd S1.out.own (.int .i64 1) (.int .i64 pl) (.string ⟨#[]⟩) (.bool false) (.string ⟨#[]⟩) (.bool false) (.int .i64 0) (.slice A l.length c) (.int .i64 (mx : Int))) ?_)
              | (with_reducible refine absE _ (FinW w A c l (.int .i64 1) (.int .i64 pl) (.string ⟨#[]⟩) (.bool false) (.string ⟨#[]⟩) (.bool false) (.int .i64 0) (.slice A l.length c) (.int .i64 (mx : Int))) (OnS.fin0 S1.out S1.out.rd S1.out.own (.int .i64 1) (.int .i64 pl) (.string ⟨#[]⟩) (.bool false) (.string ⟨#[]⟩) (.bool false) (.int .i64 0) (.slice A l.length c) (.int .i64 (mx : Int))) ?_)
            clear k0 y0 k1 y1 k2 y2 k3 y3 k4 y4 k5 y5 k6 y6 k7 y7 k8 y8
            intro W9 ⟨x6, x7, xd, xs, xe⟩
            have XD := hide xd
            have XS := hide xs
            have XE := hide xe
            obtain ⟨a0_, a1_, a2_, a3_, a4_, a5_, a6_⟩ := row7D x6
            obtain ⟨a7_, a8_⟩ := row2 x7
            clear x6 x7 xd xs xe
            go_wp2_with fail
            refine bodyPost_ret (v := .tuple #[.agg #[.int .i64 1, .int .i64 pl, .string ⟨#[]⟩, .bool false, .string ⟨#[]⟩, .bool false, .int .i64 0], .agg #[.slice A l.length c, .int .i64 (mx : Int)]]) ?_ rfl ⟨_, _, _, _, _, _, l, A, c, rfl, ⟨pl, mP, HPx.out, HmP.out, .inl ⟨HE1.out, Hp.out, rfl, rfl, rfl, rfl, rfl, rfl, rfl⟩⟩, XD.out, fun a ha => ⟨XS.out a ha, .inl ⟨a, ha, rfl⟩⟩, XE.out⟩
            rw [results_cc rfl]
            go_simp
        · have hd : decide (0 < pl) = false := decide_eq_false hp
          have HC : Hid (¬ (kd24 false way = 1 ∧ 0 < pl)) := fun h => hp h.2
          have HKK : Hid ((2 : Int) = if kd24 false way = 1 then 2 else kd24 false way) := by show _ = _; rw [HE1.out]; rfl
          clear hp
          have al := (Below.refl W1.heap.size W1).alloc (Nat.le_refl _) (.cells #[.int .i64 2, .int .i64 0, .string ⟨#[]⟩, .bool false, .string vl, .bool sv, .int .i64 0] 86)
          have RR0 := hide (heap_alloc_new W1 (.cells #[.int .i64 2, .int .i64 0, .string ⟨#[]⟩, .bool false, .string vl, .bool sv, .int .i64 0] 86))
          have S3 := hide (S1.out.below al)
          have hpr : w.heap.size + 5 ≤ W1.heap.size := by have := rowLt S1.out.r7; omega
          clear al
          go_upto_region 5 with (fail)
          clear f0 f1 f2 o0 o1 o2 o3 t0 t1
          generalize hW : W1.alloc (.cells #[.int .i64 2, .int .i64 0, .string ⟨#[]⟩, .bool false, .string vl, .bool sv, .int .i64 0] 86) = W3 at *
          generalize hP : W1.heap.size = pr at *
          clear hW hP
          obtain ⟨f0, f1, f2⟩ := rowT S3.out.rf
          obtain ⟨t0, t1⟩ := row2 S3.out.rt
          obtain ⟨o0, o1, o2, o3⟩ := row4e S3.out.ro
          cases hnn : nn with
          | true =>
            subst hnn
            obtain ⟨q0, q1, q2, q3, q4, q5, q6⟩ := row7D RR0.out
            obtain ⟨f0, f1, f2⟩ := rowT S3.out.rf
            obtain ⟨o0, o1, o2, o3⟩ := row4e S3.out.ro
            obtain ⟨⟨k2, y2⟩, ⟨k3, y3⟩, rr⟩ := set23_7 RR0.out (.string nm) (.bool sn)
            have RR := hide rr
            have RO6 := hide ((Below.heap_setCell W3 ⟨pr, 2, none⟩ (.string nm) (w.heap.size + 1 + 1) (by show _ ≠ pr; omega)).trans S3.out.ro)
            obtain ⟨p0, p1, p2, p3⟩ := row4e RO6.out
            have S6 := hide (S3.out.free hpr (fun i hi => (by rw [Below.heap_setCell _ ⟨pr, 3, none⟩ _ _ hi, Below.heap_setCell _ ⟨pr, 2, none⟩ _ _ hi])) ((S3.out.e.setCell (p := ⟨pr, 2, none⟩) (by show w.heap.size ≤ pr; omega) (.string nm)).setCell (p := ⟨pr, 3, none⟩) (by show w.heap.size ≤ pr; omega) (.bool sn)))
            clear rr
            go_upto_region 10 with (fail)
            clear q0 q1 q2 q3 q4 q5 q6 f0 f1 f2 o0 o1 o2 o3 k2 y2 k3 y3 p0 p1 p2 p3 RR0 S3 RO6
            generalize (W3.setCell ⟨pr, 2, none⟩ (.string nm)).setCell ⟨pr, 3, none⟩ (.bool sn) = W6 at *

            obtain ⟨f0, f1, f2⟩ := rowT S6.out.rf
            obtain ⟨o0, o1, o2, o3⟩ := row4e S6.out.ro

            go_upto_region 16 with (fail)
            clear o0 o1 o2 o3
            obtain ⟨q0, q1, q2, q3, q4, q5, q6⟩ := row7D RR.out
            obtain ⟨t0, t1⟩ := row2 S6.out.rt
            have SD := hide S6.out.drew
            have hr6 : pr ≠ w.heap.size + 1 + 1 + 1 := by omega
            have hr6t : w.heap.size ≠ w.heap.size + 1 + 1 + 1 := by omega
            have hr6f : w.heap.size + 1 ≠ w.heap.size + 1 + 1 + 1 := by omega
            have hr7 : pr ≠ w.heap.size + 1 + 1 + 1 + 1 := by omega
            have hr7t : w.heap.size ≠ w.heap.size + 1 + 1 + 1 + 1 := by omega
            have hr7f : w.heap.size + 1 ≠ w.heap.size + 1 + 1 + 1 + 1 := by omega
            have SC := hide (And.intro (And.intro q0 (And.intro q1 (And.intro q2 (And.intro q3 (And.intro q4 (And.intro q5 q6)))))) (And.intro (And.intro t0 t1) (And.intro f0 (And.intro f1 f2))))
            go_region_held3 (fun W => (W.cell? ⟨pr, 0, none⟩ = some (.int .i64 2) ∧ W.cell? ⟨pr, 1, none⟩ = some (.int .i64 0) ∧ W.cell? ⟨pr, 2, none⟩ = some (.string nm) ∧ W.cell? ⟨pr, 3, none⟩ = some (.bool sn) ∧ W.cell? ⟨pr, 4, none⟩ = some (.string vl) ∧ W.cell? ⟨pr, 5, none⟩ = some (.bool sv) ∧ W.cell? ⟨pr, 6, none⟩ = some (.int .i64 0)) ∧ (W.cell? ⟨w.heap.size, 0, none⟩ = some (.slice A l.length c) ∧ W.cell? ⟨w.heap.size, 1, none⟩ = some (.int .i64 (mx : Int))) ∧ W.cell? ⟨w.heap.size + 1, 0, none⟩ = some (.string nm) ∧ W.cell? ⟨w.heap.size + 1, 1, none⟩ = some (.string vl) ∧ W.cell? ⟨w.heap.size + 1, 2, none⟩ = some (.bool false))
              ((first | (with_reducible exact SC.out) | (with_reducible exact S9c.out) | (simp only [World.cell?_drew]; with_reducible exact SC.out) | (simp only [World.cell?_drew, cell7e hr6, cell7e hr6t, cell7e hr6f, cell2e hr7, cell2e hr7t, cell2e hr7f]; with_reducible exact S9c.out)))
              ((first
                | (go_at_call 37; (refine (raddL (w := W6.drew) SD.out.rd hn Hwl.out hmx ⟨nm, vl, false⟩ Hwt.out).mono ?_); rintro e W9 ⟨A9, c9, rfl, hr9, ha9, hb9⟩; have S9 := hide (SD.out.below hb9); have R9 := hide (keepRow (w := W6.drew) RR.out hb9); have HR9 := hide hr9; have HA9 := hide ha9; have hsz9 := S6.out.e.size; have h7lt := rowLt S6.out.r7; have HN9 : Hid (∀ a, A9 = some a → a.block < W9.heap.size ∧ a.block ≠ w.heap.size + 1 + 1 + 1 ∧ a.block ≠ w.heap.size + 1 + 1 + 1 + 1) := (fun a ha => (by obtain ⟨z1, z2⟩ := ha9 a ha; rw [drewH] at z1; exact ⟨z2, (by omega), (by omega)⟩)); have S9c := hide (And.intro (row7D R9.out) (And.intro (row2 S9.out.rt) (rowT S9.out.rf))); clear hr9 ha9 hb9; obtain ⟨⟨k0, y0⟩, ⟨k1, y1⟩, ⟨k2, y2⟩, ⟨k3, y3⟩, ⟨k4, y4⟩, ⟨k5, y5⟩, ⟨k6, y6⟩, _⟩ := store7 S9.out.r6 (.int .i64 2) (.int .i64 0) (.string nm) (.bool sn) (.string vl) (.bool sv) (.int .i64 0); obtain ⟨⟨k7, y7⟩, ⟨k8, y8⟩, _⟩ := store2z ((heap7n (show w.heap.size + 1 + 1 + 1 + 1 ≠ w.heap.size + 1 + 1 + 1 by omega) (.int .i64 2) (.int .i64 0) (.string nm) (.bool sn) (.string vl) (.bool sv) (.int .i64 0)).trans S9.out.r7) (.slice A9 (addL mx ⟨nm, vl, false⟩ l).length c9) (.int .i64 (mx : Int)))))

            all_goals
              first
                | (with_reducible refine absE _ (FinW w A9 c9 (addL mx ⟨nm, vl, false⟩ l) (.int .i64 2) (.int .i64 0) (.string nm) (.bool sn) (.string vl) (.bool sv) (.int .i64 0) (.slice A9 (addL mx ⟨nm, vl, false⟩ l).length c9) (.int .i64 (mx : Int))) (OnS.fin S9.out HR9.out HN9.out (.int .i64 2) (.int .i64 0) (.string nm) (.bool sn) (.string vl) (.bool sv) (.int .i64 0) (.slice A9 (addL mx ⟨nm, vl, false⟩ l).length c9) (.int .i64 (mx : Int))) ?_)
                | (with_reducible refine absE _ (FinW w A9 c9 (addL mx ⟨nm, vl, false⟩ l) (.int .i64 2) (.int .i64 0) (.string nm) (.bool sn) (.string vl) (.bool sv) (.int .i64 0) (.slice A9 (addL mx ⟨nm, vl, false⟩ l).length c9) (.int .i64 (mx : Int))) (OnS.fin0 S9.out HR9.out HN9.out (.int .i64 2) (.int .i64 0) (.string nm) (.bool sn) (.string vl) (.bool sv) (.int .i64 0) (.slice A9 (addL mx ⟨nm, vl, false⟩ l).length c9) (.int .i64 (mx : Int))) ?_)
              clear k0 y0 k1 y1 k2 y2 k3 y3 k4 y4 k5 y5 k6 y6 k7 y7 k8 y8
              intro W9 ⟨x6, x7, xd, xs, xe⟩
              have XD := hide xd
              have XS := hide xs
              have XE := hide xe
              obtain ⟨a0_, a1_, a2_, a3_, a4_, a5_, a6_⟩ := row7D x6
              obtain ⟨a7_, a8_⟩ := row2 x7
              clear x6 x7 xd xs xe
              go_wp2_with fail
              refine bodyPost_ret (v := .tuple #[.agg #[.int .i64 2, .int .i64 0, .string nm, .bool sn, .string vl, .bool sv, .int .i64 0], .agg #[.slice A9 (addL mx ⟨nm, vl, false⟩ l).length c9, .int .i64 (mx : Int)]]) ?_ rfl ⟨_, _, _, _, _, _, (addL mx ⟨nm, vl, false⟩ l), A9, c9, rfl, ⟨pl, mP, HPx.out, HmP.out, .inr ⟨HC.out, HKK.out, rfl, rfl, rfl, rfl, rfl, rfl⟩⟩, XD.out, fun a ha => ⟨XS.out a ha, .inr (Nat.le_trans hsz9 (HA9.out a ha).1)⟩, XE.out⟩
              rw [results_cc rfl]
              go_simp
          | false =>
            subst hnn
            go_wp2_with fail
            refine (rname24 S3.out.rd hn nm).mono ?_
            rintro e W4 ⟨mm, rfl, hm, hb4⟩
            have HM := hide hm
            have S4 := hide (S3.out.below hb4)
            obtain ⟨⟨k1, y1⟩, rr⟩ := set1_7 (keepRow RR0.out hb4) (.int .i64 mm)
            have RR1 := hide rr
            have S5 := hide (S4.out.free hpr (fun i hi => Below.heap_setCell _ ⟨pr, 1, none⟩ _ _ hi) (S4.out.e.setCell (p := ⟨pr, 1, none⟩) (by show w.heap.size ≤ pr; omega) (.int .i64 mm)))
            clear hm hb4 rr f0 f1 f2 o0 o1 o2 o3 t0 t1 RR0 S3
            go_upto_region 7 with (fail)
            clear k1 y1 S4
            generalize W4.setCell ⟨pr, 1, none⟩ (.int .i64 mm) = W5 at *
            by_cases hm0 : mm = 0
            · subst hm0
              obtain ⟨q0, q1, q2, q3, q4, q5, q6⟩ := row7D RR1.out
              obtain ⟨f0, f1, f2⟩ := rowT S5.out.rf
              obtain ⟨o0, o1, o2, o3⟩ := row4e S5.out.ro
              obtain ⟨⟨k2, y2⟩, ⟨k3, y3⟩, rr⟩ := set23_7 RR1.out (.string nm) (.bool sn)
              have RR := hide rr
              have RO6 := hide ((Below.heap_setCell W5 ⟨pr, 2, none⟩ (.string nm) (w.heap.size + 1 + 1) (by show _ ≠ pr; omega)).trans S5.out.ro)
              obtain ⟨p0, p1, p2, p3⟩ := row4e RO6.out
              have S6 := hide (S5.out.free hpr (fun i hi => (by rw [Below.heap_setCell _ ⟨pr, 3, none⟩ _ _ hi, Below.heap_setCell _ ⟨pr, 2, none⟩ _ _ hi])) ((S5.out.e.setCell (p := ⟨pr, 2, none⟩) (by show w.heap.size ≤ pr; omega) (.string nm)).setCell (p := ⟨pr, 3, none⟩) (by show w.heap.size ≤ pr; omega) (.bool sn)))
              clear rr
              go_upto_region 10 with (fail)
              clear q0 q1 q2 q3 q4 q5 q6 f0 f1 f2 o0 o1 o2 o3 k2 y2 k3 y3 p0 p1 p2 p3 RR1 S5 RO6
              generalize (W5.setCell ⟨pr, 2, none⟩ (.string nm)).setCell ⟨pr, 3, none⟩ (.bool sn) = W6 at *

              obtain ⟨f0, f1, f2⟩ := rowT S6.out.rf
              obtain ⟨o0, o1, o2, o3⟩ := row4e S6.out.ro

              go_upto_region 16 with (fail)
              clear o0 o1 o2 o3
              obtain ⟨q0, q1, q2, q3, q4, q5, q6⟩ := row7D RR.out
              obtain ⟨t0, t1⟩ := row2 S6.out.rt
              have SD := hide S6.out.drew
              have hr6 : pr ≠ w.heap.size + 1 + 1 + 1 := by omega
              have hr6t : w.heap.size ≠ w.heap.size + 1 + 1 + 1 := by omega
              have hr6f : w.heap.size + 1 ≠ w.heap.size + 1 + 1 + 1 := by omega
              have hr7 : pr ≠ w.heap.size + 1 + 1 + 1 + 1 := by omega
              have hr7t : w.heap.size ≠ w.heap.size + 1 + 1 + 1 + 1 := by omega
              have hr7f : w.heap.size + 1 ≠ w.heap.size + 1 + 1 + 1 + 1 := by omega
              have SC := hide (And.intro (And.intro q0 (And.intro q1 (And.intro q2 (And.intro q3 (And.intro q4 (And.intro q5 q6)))))) (And.intro (And.intro t0 t1) (And.intro f0 (And.intro f1 f2))))
              go_region_held3 (fun W => (W.cell? ⟨pr, 0, none⟩ = some (.int .i64 2) ∧ W.cell? ⟨pr, 1, none⟩ = some (.int .i64 0) ∧ W.cell? ⟨pr, 2, none⟩ = some (.string nm) ∧ W.cell? ⟨pr, 3, none⟩ = some (.bool sn) ∧ W.cell? ⟨pr, 4, none⟩ = some (.string vl) ∧ W.cell? ⟨pr, 5, none⟩ = some (.bool sv) ∧ W.cell? ⟨pr, 6, none⟩ = some (.int .i64 0)) ∧ (W.cell? ⟨w.heap.size, 0, none⟩ = some (.slice A l.length c) ∧ W.cell? ⟨w.heap.size, 1, none⟩ = some (.int .i64 (mx : Int))) ∧ W.cell? ⟨w.heap.size + 1, 0, none⟩ = some (.string nm) ∧ W.cell? ⟨w.heap.size + 1, 1, none⟩ = some (.string vl) ∧ W.cell? ⟨w.heap.size + 1, 2, none⟩ = some (.bool false))
                ((first | (with_reducible exact SC.out) | (with_reducible exact S9c.out) | (simp only [World.cell?_drew]; with_reducible exact SC.out) | (simp only [World.cell?_drew, cell7e hr6, cell7e hr6t, cell7e hr6f, cell2e hr7, cell2e hr7t, cell2e hr7f]; with_reducible exact S9c.out)))
                ((first
                  | (go_at_call 37; (refine (raddL (w := W6.drew) SD.out.rd hn Hwl.out hmx ⟨nm, vl, false⟩ Hwt.out).mono ?_); rintro e W9 ⟨A9, c9, rfl, hr9, ha9, hb9⟩; have S9 := hide (SD.out.below hb9); have R9 := hide (keepRow (w := W6.drew) RR.out hb9); have HR9 := hide hr9; have HA9 := hide ha9; have hsz9 := S6.out.e.size; have h7lt := rowLt S6.out.r7; have HN9 : Hid (∀ a, A9 = some a → a.block < W9.heap.size ∧ a.block ≠ w.heap.size + 1 + 1 + 1 ∧ a.block ≠ w.heap.size + 1 + 1 + 1 + 1) := (fun a ha => (by obtain ⟨z1, z2⟩ := ha9 a ha; rw [drewH] at z1; exact ⟨z2, (by omega), (by omega)⟩)); have S9c := hide (And.intro (row7D R9.out) (And.intro (row2 S9.out.rt) (rowT S9.out.rf))); clear hr9 ha9 hb9; obtain ⟨⟨k0, y0⟩, ⟨k1, y1⟩, ⟨k2, y2⟩, ⟨k3, y3⟩, ⟨k4, y4⟩, ⟨k5, y5⟩, ⟨k6, y6⟩, _⟩ := store7 S9.out.r6 (.int .i64 2) (.int .i64 0) (.string nm) (.bool sn) (.string vl) (.bool sv) (.int .i64 0); obtain ⟨⟨k7, y7⟩, ⟨k8, y8⟩, _⟩ := store2z ((heap7n (show w.heap.size + 1 + 1 + 1 + 1 ≠ w.heap.size + 1 + 1 + 1 by omega) (.int .i64 2) (.int .i64 0) (.string nm) (.bool sn) (.string vl) (.bool sv) (.int .i64 0)).trans S9.out.r7) (.slice A9 (addL mx ⟨nm, vl, false⟩ l).length c9) (.int .i64 (mx : Int)))))

              all_goals
                first
                  | (with_reducible refine absE _ (FinW w A9 c9 (addL mx ⟨nm, vl, false⟩ l) (.int .i64 2) (.int .i64 0) (.string nm) (.bool sn) (.string vl) (.bool sv) (.int .i64 0) (.slice A9 (addL mx ⟨nm, vl, false⟩ l).length c9) (.int .i64 (mx : Int))) (OnS.fin S9.out HR9.out HN9.out (.int .i64 2) (.int .i64 0) (.string nm) (.bool sn) (.string vl) (.bool sv) (.int .i64 0) (.slice A9 (addL mx ⟨nm, vl, false⟩ l).length c9) (.int .i64 (mx : Int))) ?_)
                  | (with_reducible refine absE _ (FinW w A9 c9 (addL mx ⟨nm, vl, false⟩ l) (.int .i64 2) (.int .i64 0) (.string nm) (.bool sn) (.string vl) (.bool sv) (.int .i64 0) (.slice A9 (addL mx ⟨nm, vl, false⟩ l).length c9) (.int .i64 (mx : Int))) (OnS.fin0 S9.out HR9.out HN9.out (.int .i64 2) (.int .i64 0) (.string nm) (.bool sn) (.string vl) (.bool sv) (.int .i64 0) (.slice A9 (addL mx ⟨nm, vl, false⟩ l).length c9) (.int .i64 (mx : Int))) ?_)
                clear k0 y0 k1 y1 k2 y2 k3 y3 k4 y4 k5 y5 k6 y6 k7 y7 k8 y8
                intro W9 ⟨x6, x7, xd, xs, xe⟩
                have XD := hide xd
                have XS := hide xs
                have XE := hide xe
                obtain ⟨a0_, a1_, a2_, a3_, a4_, a5_, a6_⟩ := row7D x6
                obtain ⟨a7_, a8_⟩ := row2 x7
                clear x6 x7 xd xs xe
                go_wp2_with fail
                refine bodyPost_ret (v := .tuple #[.agg #[.int .i64 2, .int .i64 0, .string nm, .bool sn, .string vl, .bool sv, .int .i64 0], .agg #[.slice A9 (addL mx ⟨nm, vl, false⟩ l).length c9, .int .i64 (mx : Int)]]) ?_ rfl ⟨_, _, _, _, _, _, (addL mx ⟨nm, vl, false⟩ l), A9, c9, rfl, ⟨pl, 0, HPx.out, HM.out, .inr ⟨HC.out, HKK.out, rfl, rfl, rfl, rfl, rfl, rfl⟩⟩, XD.out, fun a ha => ⟨XS.out a ha, .inr (Nat.le_trans hsz9 (HA9.out a ha).1)⟩, XE.out⟩
                rw [results_cc rfl]
                go_simp
            · have hz : ((mm : Int) == 0) = false := by simpa using hm0
              have Hm0 := hide hm0
              clear hm0
              have HI : Hid ((if mm = 0 then nm else ⟨#[]⟩) = (⟨#[]⟩ : ByteArray) ∧ (if mm = 0 then sn else false) = false) := ⟨if_neg Hm0.out, if_neg Hm0.out⟩
              have RR := hide RR1.out
              obtain ⟨q0, q1, q2, q3, q4, q5, q6⟩ := row7D RR.out
              obtain ⟨f0, f1, f2⟩ := rowT S5.out.rf
              obtain ⟨o0, o1, o2, o3⟩ := row4e S5.out.ro
              go_upto_region 10 with (fail)
              clear q0 q1 q2 q3 q4 q5 q6 f0 f1 f2 o0 o1 o2 o3

              obtain ⟨f0, f1, f2⟩ := rowT S5.out.rf
              obtain ⟨o0, o1, o2, o3⟩ := row4e S5.out.ro

              go_upto_region 16 with (fail)
              clear o0 o1 o2 o3
              obtain ⟨q0, q1, q2, q3, q4, q5, q6⟩ := row7D RR.out
              obtain ⟨t0, t1⟩ := row2 S5.out.rt
              have SD := hide S5.out.drew
              have hr6 : pr ≠ w.heap.size + 1 + 1 + 1 := by omega
              have hr6t : w.heap.size ≠ w.heap.size + 1 + 1 + 1 := by omega
              have hr6f : w.heap.size + 1 ≠ w.heap.size + 1 + 1 + 1 := by omega
              have hr7 : pr ≠ w.heap.size + 1 + 1 + 1 + 1 := by omega
              have hr7t : w.heap.size ≠ w.heap.size + 1 + 1 + 1 + 1 := by omega
              have hr7f : w.heap.size + 1 ≠ w.heap.size + 1 + 1 + 1 + 1 := by omega
              have SC := hide (And.intro (And.intro q0 (And.intro q1 (And.intro q2 (And.intro q3 (And.intro q4 (And.intro q5 q6)))))) (And.intro (And.intro t0 t1) (And.intro f0 (And.intro f1 f2))))
              go_region_held3 (fun W => (W.cell? ⟨pr, 0, none⟩ = some (.int .i64 2) ∧ W.cell? ⟨pr, 1, none⟩ = some (.int .i64 mm) ∧ W.cell? ⟨pr, 2, none⟩ = some (.string ⟨#[]⟩) ∧ W.cell? ⟨pr, 3, none⟩ = some (.bool false) ∧ W.cell? ⟨pr, 4, none⟩ = some (.string vl) ∧ W.cell? ⟨pr, 5, none⟩ = some (.bool sv) ∧ W.cell? ⟨pr, 6, none⟩ = some (.int .i64 0)) ∧ (W.cell? ⟨w.heap.size, 0, none⟩ = some (.slice A l.length c) ∧ W.cell? ⟨w.heap.size, 1, none⟩ = some (.int .i64 (mx : Int))) ∧ W.cell? ⟨w.heap.size + 1, 0, none⟩ = some (.string nm) ∧ W.cell? ⟨w.heap.size + 1, 1, none⟩ = some (.string vl) ∧ W.cell? ⟨w.heap.size + 1, 2, none⟩ = some (.bool false))
                ((first | (with_reducible exact SC.out) | (with_reducible exact S9c.out) | (simp only [World.cell?_drew]; with_reducible exact SC.out) | (simp only [World.cell?_drew, cell7e hr6, cell7e hr6t, cell7e hr6f, cell2e hr7, cell2e hr7t, cell2e hr7f]; with_reducible exact S9c.out)))
                ((first
                  | (go_at_call 37; (refine (raddL (w := W5.drew) SD.out.rd hn Hwl.out hmx ⟨nm, vl, false⟩ Hwt.out).mono ?_); rintro e W9 ⟨A9, c9, rfl, hr9, ha9, hb9⟩; have S9 := hide (SD.out.below hb9); have R9 := hide (keepRow (w := W5.drew) RR.out hb9); have HR9 := hide hr9; have HA9 := hide ha9; have hsz9 := S5.out.e.size; have h7lt := rowLt S5.out.r7; have HN9 : Hid (∀ a, A9 = some a → a.block < W9.heap.size ∧ a.block ≠ w.heap.size + 1 + 1 + 1 ∧ a.block ≠ w.heap.size + 1 + 1 + 1 + 1) := (fun a ha => (by obtain ⟨z1, z2⟩ := ha9 a ha; rw [drewH] at z1; exact ⟨z2, (by omega), (by omega)⟩)); have S9c := hide (And.intro (row7D R9.out) (And.intro (row2 S9.out.rt) (rowT S9.out.rf))); clear hr9 ha9 hb9; obtain ⟨⟨k0, y0⟩, ⟨k1, y1⟩, ⟨k2, y2⟩, ⟨k3, y3⟩, ⟨k4, y4⟩, ⟨k5, y5⟩, ⟨k6, y6⟩, _⟩ := store7 S9.out.r6 (.int .i64 2) (.int .i64 mm) (.string ⟨#[]⟩) (.bool false) (.string vl) (.bool sv) (.int .i64 0); obtain ⟨⟨k7, y7⟩, ⟨k8, y8⟩, _⟩ := store2z ((heap7n (show w.heap.size + 1 + 1 + 1 + 1 ≠ w.heap.size + 1 + 1 + 1 by omega) (.int .i64 2) (.int .i64 mm) (.string ⟨#[]⟩) (.bool false) (.string vl) (.bool sv) (.int .i64 0)).trans S9.out.r7) (.slice A9 (addL mx ⟨nm, vl, false⟩ l).length c9) (.int .i64 (mx : Int)))))

              all_goals
                first
                  | (with_reducible refine absE _ (FinW w A9 c9 (addL mx ⟨nm, vl, false⟩ l) (.int .i64 2) (.int .i64 mm) (.string ⟨#[]⟩) (.bool false) (.string vl) (.bool sv) (.int .i64 0) (.slice A9 (addL mx ⟨nm, vl, false⟩ l).length c9) (.int .i64 (mx : Int))) (OnS.fin S9.out HR9.out HN9.out (.int .i64 2) (.int .i64 mm) (.string ⟨#[]⟩) (.bool false) (.string vl) (.bool sv) (.int .i64 0) (.slice A9 (addL mx ⟨nm, vl, false⟩ l).length c9) (.int .i64 (mx : Int))) ?_)
                  | (with_reducible refine absE _ (FinW w A9 c9 (addL mx ⟨nm, vl, false⟩ l) (.int .i64 2) (.int .i64 mm) (.string ⟨#[]⟩) (.bool false) (.string vl) (.bool sv) (.int .i64 0) (.slice A9 (addL mx ⟨nm, vl, false⟩ l).length c9) (.int .i64 (mx : Int))) (OnS.fin0 S9.out HR9.out HN9.out (.int .i64 2) (.int .i64 mm) (.string ⟨#[]⟩) (.bool false) (.string vl) (.bool sv) (.int .i64 0) (.slice A9 (addL mx ⟨nm, vl, false⟩ l).length c9) (.int .i64 (mx : Int))) ?_)
                clear k0 y0 k1 y1 k2 y2 k3 y3 k4 y4 k5 y5 k6 y6 k7 y7 k8 y8
                intro W9 ⟨x6, x7, xd, xs, xe⟩
                have XD := hide xd
                have XS := hide xs
                have XE := hide xe
                obtain ⟨a0_, a1_, a2_, a3_, a4_, a5_, a6_⟩ := row7D x6
                obtain ⟨a7_, a8_⟩ := row2 x7
                clear x6 x7 xd xs xe
                go_wp2_with fail
                refine bodyPost_ret (v := .tuple #[.agg #[.int .i64 2, .int .i64 mm, .string ⟨#[]⟩, .bool false, .string vl, .bool sv, .int .i64 0], .agg #[.slice A9 (addL mx ⟨nm, vl, false⟩ l).length c9, .int .i64 (mx : Int)]]) ?_ rfl ⟨_, _, _, _, _, _, (addL mx ⟨nm, vl, false⟩ l), A9, c9, rfl, ⟨pl, mm, HPx.out, HM.out, .inr ⟨HC.out, HKK.out, rfl, HI.out.1.symm, HI.out.2.symm, rfl, rfl, rfl⟩⟩, XD.out, fun a ha => ⟨XS.out a ha, .inr (Nat.le_trans hsz9 (HA9.out a ha).1)⟩, XE.out⟩
                rw [results_cc rfl]
                go_simp
end Go.Proofs.YtnkcbljhgcgpaaaDoor
