/- Cb1, Cb2, Cb3, Cb4, Cb5 in one text. -/
import Derived.Test.YtnkcbljhgcgpaaaDoorMA
import Derived.Great.Walk
import Derived.Deep.MidRow
import Derived.Test.YtnkcbljhgcgpaaaDoorVal
import Derived.RegionTactic
import Derived.ChangeAlike
import Derived.Deep.RegionHeld3
import Derived.StillTailTactics
import Derived.Deep.Cut
namespace Go.Proofs.YtnkcbljhgcgpaaaDoor
set_option linter.unusedVariables false
set_option linter.unusedSimpArgs false
section
open Go.RowKit

/-- The lengths of the symbols' codes, from 0 on. -/
def lenL : List Nat := [13, 23, 28, 28, 28, 28, 28, 28, 28, 24, 30, 28, 28, 30, 28, 28,
  28, 28, 28, 28, 28, 28, 30, 28, 28, 28, 28, 28, 28, 28, 28, 28,
  6, 10, 10, 12, 13, 6, 8, 11, 10, 10, 8, 11, 8, 6, 6, 6,
  5, 5, 5, 6, 6, 6, 6, 6, 6, 6, 7, 8, 15, 6, 12, 10,
  13, 6, 7, 7, 7, 7, 7, 7, 7, 7, 7, 7, 7, 7, 7, 7,
  7, 7, 7, 7, 7, 7, 7, 7, 8, 7, 8, 13, 19, 13, 14, 6,
  15, 5, 6, 5, 6, 5, 6, 6, 6, 5, 7, 7, 6, 6, 6, 5,
  6, 7, 6, 5, 5, 6, 7, 7, 7, 7, 7, 15, 11, 14, 13, 28,
  20, 22, 20, 20, 22, 22, 22, 23, 22, 23, 23, 23, 23, 23, 24, 23,
  24, 24, 22, 23, 24, 23, 23, 23, 23, 21, 22, 23, 22, 23, 23, 24,
  22, 21, 20, 22, 22, 23, 23, 21, 23, 22, 22, 24, 21, 22, 23, 23,
  21, 21, 22, 21, 23, 22, 23, 23, 20, 22, 22, 22, 23, 22, 22, 23,
  26, 26, 20, 19, 22, 23, 22, 25, 26, 26, 26, 27, 27, 26, 24, 25,
  19, 21, 26, 27, 27, 26, 27, 24, 21, 21, 26, 26, 28, 27, 27, 27,
  20, 24, 20, 21, 22, 21, 21, 23, 22, 22, 25, 25, 24, 24, 26, 23,
  26, 27, 26, 26, 27, 27, 27, 27, 27, 28, 27, 27, 27, 27, 27, 26,
  30]
/-- A symbol's. -/
def len (s : Nat) : Nat := lenL.getD s 0
def intL (l : List Nat) : List Value := l.map (fun (n : Nat) => Value.int .i64 (n : Int))
theorem below_cells {B g : Nat} {a : World} (hg : B ≤ g) : ∀ (vs : List Value) (o : Nat) (w : World), Below B a w → Below B a (w.setCells g o vs) := by
  intro vs
  induction vs with
  | nil => exact fun _ _ h => h
  | cons v r ih => exact fun o w h => ih (o + 1) _ (h.setCell (p := ⟨g, o, none⟩) hg v)
theorem info41 : (Tryd.prog.info? 161).map (·.size) = some (intL lenL).length := by kernel_rfl
theorem one_intL : ((intL lenL).toArray.all (·.oneCell')) = true := by kernel_rfl

theorem results_cellC {fn : Func} {p : Tmp} {ty : TypeId} (h : fn.results = #[.cell p ty]) (tmps : Array Value) (P : Program) (w : World) :
    (results fn tmps).run P w = ((asAddr (tmps.getD p undef)).run P w).andThen fun a w' => (loadVar ty a).run P w' := by
  simp [results, h]
theorem ret_cell {P : Program} {fn : Func} {p : Tmp} {ty : TypeId} {R : Ending → World → Prop} {a : Act} {w : World} {x : Addr} {v : Value} (h : fn.results = #[.cell p ty]) (hp : a.tmps.getD p undef = .pointer (some x)) (hd : a.defers = [])
    (hl : (loadVar ty x).run P w = .ok v w) (hR : R (.returned v) w) : Code.ret.wp P (bodyPost P fn R) a w := by
  refine wp_ret ?_
  refine bodyPost_ret (v := v) ?_ hd hR
  rw [results_cellC h, hp]
  exact hl
theorem there_new (w : World) (cs : Array Value) (e : TypeId) : (w.alloc (.cells cs e)).there w.heap.size 0 cs.size := fun j hj => by
  have h := heap_alloc_new w (.cells cs e)
  refine ⟨?_, frozen_of_row _ _ _ _ _ h⟩
  rw [cell_of_row _ _ _ _ _ _ h]
  simp [hj]

set_option maxRecDepth 100000 in
set_option maxHeartbeats 4000000 in
theorem lengths_any (w : World) : Calls Tryd.prog 116 #[] w fun e w' => e = .returned (.agg (intL lenL).toArray) ∧ Below w.heap.size w w' := by
  obtain ⟨cs, hcs⟩ : ∃ cs, cs = intL lenL := ⟨_, rfl⟩
  have hi : (Tryd.prog.info? 161).map (·.size) = some cs.length := by rw [hcs]; exact info41
  have h1 : cs.toArray.all (·.oneCell') = true := by rw [hcs]; exact one_intL
  have hl : cs.length = 257 := by rw [hcs]; rfl
  rw [← hcs]
  have Ht : (w.alloc (.cells (Array.replicate 257 (.int .i64 0)) 161)).there w.heap.size 0 cs.length := by
    rw [hl]
    exact there_new w (Array.replicate 257 (.int .i64 0)) _
  go_enter Tryd.func116, Tryd.ntmps116
  refine wp_seq_k fun K1 k1 => ?_
  refine wp_region_list ?_
  refine Go.Great.wpList_runTo rfl _ rfl (.pointer (some ⟨w.heap.size, 0, none⟩)) (w.alloc (.cells (Array.replicate 257 (.int .i64 0)) 161)) (by kernel_rfl) ?_
  refine wpList_nil ?_
  refine k1 _ _ ?_
  refine wp_seq_k fun K2 k2 => ?_
  refine wp_region_list ?_
  refine Go.Great.wpList_readTo rfl _ rfl (.agg cs.toArray) (by rw [hcs]; kernel_rfl) ?_
  refine wpList_store_mid rfl _ _ _ rfl w.heap.size 0 cs.toArray rfl rfl Ht hi h1 ?_
  refine wpList_nil ?_
  have hr := run_loadVar_mid (P := Tryd.prog) ((w.alloc (.cells (Array.replicate 257 (.int .i64 0)) 161)).setCells w.heap.size 0 cs) w.heap.size 0 161 cs _ (World.rangeAt_setCells_same _ _ _ _ Ht) Tryd.underlying161 rfl hi
  have hb : Below w.heap.size w ((w.alloc (.cells (Array.replicate 257 (.int .i64 0)) 161)).setCells w.heap.size 0 cs) := below_cells (Nat.le_refl _) _ _ _ ((Below.refl _ _).alloc (Nat.le_refl _) _)
  exact k2 _ _ (ret_cell rfl (by kernel_rfl) (by kernel_rfl) hr ⟨rfl, hb⟩)
end

section
open Go.RowKit

/-! ### blocks -/
/-- Block b holds the n cells C 0 .. C (n-1), and none is frozen. -/
def Blk (w : World) (b : Nat) (T : TypeId) (n : Nat) (C : Nat → Value) : Prop := w.heap[b]? = some (.cells ⟨rowV n C⟩ T (0, 0))
section
variable {w w' : World} {b : Nat} {T : TypeId} {n : Nat} {C : Nat → Value}
theorem Blk.cell (h : Blk w b T n C) {j : Nat} (hj : j < n) : w.cell? ⟨b, j, none⟩ = some (C j) := by
  rw [cell_of_row w b j _ _ _ h]
  simpa using rowV_get n C j hj
theorem Blk.frozen (h : Blk w b T n C) (j : Nat) : w.frozen? ⟨b, j, none⟩ = false := frozen_of_row w b j _ _ h
theorem Blk.lt (h : Blk w b T n C) : b < w.heap.size := (Array.getElem?_eq_some_iff.1 h).1
theorem Blk.below (h : Blk w b T n C) (hb : Below w.heap.size w w') : Blk w' b T n C := keepRow h hb
theorem Blk.alloc (h : Blk w b T n C) (o : Obj) : Blk (w.alloc o) b T n C := h.below ((Below.refl _ _).alloc (Nat.le_refl _) _)
theorem Blk.drew (h : Blk w b T n C) : Blk w.drew b T n C := h
theorem Blk.drewN (h : Blk w b T n C) (k : Nat) : Blk (w.drewN k) b T n C := h
theorem Blk.set (h : Blk w b T n C) (j : Nat) (u : Value) : Blk (w.setCell ⟨b, j, none⟩ u) b T n (setV C j u) := by
  have h1 := heap_setCell_same w b j _ T u h
  unfold Blk
  rw [h1, ← rowV_set]
  simp
theorem Blk.other (h : Blk w b T n C) (p : Addr) (u : Value) (hne : b ≠ p.block) : Blk (w.setCell p u) b T n C := (Below.heap_setCell w p u b hne).trans h
theorem Blk.congr {C' : Nat → Value} (h : Blk w b T n C) (e : ∀ i, i < n → C i = C' i) : Blk w b T n C' := by
  unfold Blk at *
  rw [← rowV_congr e]
  exact h
theorem Blk.new (w : World) (cs : Array Value) (T : TypeId) (C : Nat → Value) (h : cs = ⟨rowV n C⟩) : Blk (w.alloc (.cells cs T)) w.heap.size T n C := by
  subst h
  exact heap_alloc_new w _
theorem Blk.range (h : Blk w b T n C) (o m : Nat) (hm : o + m ≤ n) : w.rangeAt b o (rowV m (fun i => C (o + i))) := fun j v hv => by
  obtain ⟨hj, rfl⟩ := rowV_get_some hv
  exact h.cell (by omega)
end

/-! ### tables -/
/-- The symbols by their codes' lengths. -/
def ordL : List Nat := [48, 49, 50, 97, 99, 101, 105, 111, 115, 116, 32, 37, 45, 46, 47, 51,
  52, 53, 54, 55, 56, 57, 61, 65, 95, 98, 100, 102, 103, 104, 108, 109,
  110, 112, 114, 117, 58, 66, 67, 68, 69, 70, 71, 72, 73, 74, 75, 76,
  77, 78, 79, 80, 81, 82, 83, 84, 85, 86, 87, 89, 106, 107, 113, 118,
  119, 120, 121, 122, 38, 42, 44, 59, 88, 90, 33, 34, 40, 41, 63, 39,
  43, 124, 35, 62, 0, 36, 64, 91, 93, 126, 94, 125, 60, 96, 123, 92,
  195, 208, 128, 130, 131, 162, 184, 194, 224, 226, 153, 161, 167, 172, 176, 177,
  179, 209, 216, 217, 227, 229, 230, 129, 132, 133, 134, 136, 146, 154, 156, 160,
  163, 164, 169, 170, 173, 178, 181, 185, 186, 187, 189, 190, 196, 198, 228, 232,
  233, 1, 135, 137, 138, 139, 140, 141, 143, 147, 149, 150, 151, 152, 155, 157,
  158, 165, 166, 168, 174, 175, 180, 182, 183, 188, 191, 197, 231, 239, 9, 142,
  144, 145, 148, 159, 171, 206, 215, 225, 236, 237, 199, 207, 234, 235, 192, 193,
  200, 201, 202, 205, 210, 213, 218, 219, 238, 240, 242, 243, 255, 203, 204, 211,
  212, 214, 221, 222, 223, 241, 244, 245, 246, 247, 248, 250, 251, 252, 253, 254,
  2, 3, 4, 5, 6, 7, 8, 11, 12, 14, 15, 16, 17, 18, 19, 20,
  21, 23, 24, 25, 26, 27, 28, 29, 30, 31, 127, 220, 249, 10, 13, 22,
  256]
/-- A symbol's place among them. -/
def rnkL : List Nat := [84, 145, 224, 225, 226, 227, 228, 229, 230, 174, 253, 231, 232, 254, 233, 234,
  235, 236, 237, 238, 239, 240, 255, 241, 242, 243, 244, 245, 246, 247, 248, 249,
  10, 74, 75, 82, 85, 11, 68, 79, 76, 77, 69, 80, 70, 12, 13, 14,
  0, 1, 2, 15, 16, 17, 18, 19, 20, 21, 36, 71, 92, 22, 83, 78,
  86, 23, 37, 38, 39, 40, 41, 42, 43, 44, 45, 46, 47, 48, 49, 50,
  51, 52, 53, 54, 55, 56, 57, 58, 72, 59, 73, 87, 95, 88, 90, 24,
  93, 3, 25, 4, 26, 5, 27, 28, 29, 6, 60, 61, 30, 31, 32, 7,
  33, 62, 34, 8, 9, 35, 63, 64, 65, 66, 67, 94, 81, 91, 89, 250,
  98, 119, 99, 100, 120, 121, 122, 146, 123, 147, 148, 149, 150, 151, 175, 152,
  176, 177, 124, 153, 178, 154, 155, 156, 157, 106, 125, 158, 126, 159, 160, 179,
  127, 107, 101, 128, 129, 161, 162, 108, 163, 130, 131, 180, 109, 132, 164, 165,
  110, 111, 133, 112, 166, 134, 167, 168, 102, 135, 136, 137, 169, 138, 139, 170,
  190, 191, 103, 96, 140, 171, 141, 186, 192, 193, 194, 205, 206, 195, 181, 187,
  97, 113, 196, 207, 208, 197, 209, 182, 114, 115, 198, 199, 251, 210, 211, 212,
  104, 183, 105, 116, 142, 117, 118, 172, 143, 144, 188, 189, 184, 185, 200, 173,
  201, 213, 202, 203, 214, 215, 216, 217, 218, 252, 219, 220, 221, 222, 223, 204,
  256]
/-- The codes, by place. -/
def cdL : List Nat := [0, 1, 2, 3, 4, 5, 6, 7, 8, 9, 20, 21, 22, 23, 24, 25,
  26, 27, 28, 29, 30, 31, 32, 33, 34, 35, 36, 37, 38, 39, 40, 41,
  42, 43, 44, 45, 92, 93, 94, 95, 96, 97, 98, 99, 100, 101, 102, 103,
  104, 105, 106, 107, 108, 109, 110, 111, 112, 113, 114, 115, 116, 117, 118, 119,
  120, 121, 122, 123, 248, 249, 250, 251, 252, 253, 1016, 1017, 1018, 1019, 1020, 2042,
  2043, 2044, 4090, 4091, 8184, 8185, 8186, 8187, 8188, 8189, 16380, 16381, 32764, 32765, 32766, 524272,
  524273, 524274, 1048550, 1048551, 1048552, 1048553, 1048554, 1048555, 1048556, 1048557, 2097116, 2097117, 2097118, 2097119, 2097120, 2097121,
  2097122, 2097123, 2097124, 2097125, 2097126, 2097127, 2097128, 4194258, 4194259, 4194260, 4194261, 4194262, 4194263, 4194264, 4194265, 4194266,
  4194267, 4194268, 4194269, 4194270, 4194271, 4194272, 4194273, 4194274, 4194275, 4194276, 4194277, 4194278, 4194279, 4194280, 4194281, 4194282,
  4194283, 8388568, 8388569, 8388570, 8388571, 8388572, 8388573, 8388574, 8388575, 8388576, 8388577, 8388578, 8388579, 8388580, 8388581, 8388582,
  8388583, 8388584, 8388585, 8388586, 8388587, 8388588, 8388589, 8388590, 8388591, 8388592, 8388593, 8388594, 8388595, 8388596, 16777194, 16777195,
  16777196, 16777197, 16777198, 16777199, 16777200, 16777201, 16777202, 16777203, 16777204, 16777205, 33554412, 33554413, 33554414, 33554415, 67108832, 67108833,
  67108834, 67108835, 67108836, 67108837, 67108838, 67108839, 67108840, 67108841, 67108842, 67108843, 67108844, 67108845, 67108846, 134217694, 134217695, 134217696,
  134217697, 134217698, 134217699, 134217700, 134217701, 134217702, 134217703, 134217704, 134217705, 134217706, 134217707, 134217708, 134217709, 134217710, 134217711, 134217712,
  268435426, 268435427, 268435428, 268435429, 268435430, 268435431, 268435432, 268435433, 268435434, 268435435, 268435436, 268435437, 268435438, 268435439, 268435440, 268435441,
  268435442, 268435443, 268435444, 268435445, 268435446, 268435447, 268435448, 268435449, 268435450, 268435451, 268435452, 268435453, 268435454, 1073741820, 1073741821, 1073741822,
  1073741823]
/-- How many symbols have a code shorter than so many bits. -/
def bgL : List Nat := [0, 0, 0, 0, 0, 0, 10, 36, 68, 74, 74, 79, 82, 84, 90, 92,
  95, 95, 95, 95, 98, 106, 119, 145, 174, 186, 190, 205, 224, 253, 253, 257]
def ord (i : Nat) : Nat := ordL.getD i 0
def rnk (s : Nat) : Nat := rnkL.getD s 0
def cd (i : Nat) : Nat := cdL.getD i 0
def bg (j : Nat) : Nat := bgL.getD j 0
/-- How many of the first k symbols have a code of so many bits. -/
def cnt (n k : Nat) : Nat := (lenL.take k).count n
theorem all_lt {n : Nat} {p : Nat → Bool} (h : (List.range n).all p = true) : ∀ i, i < n → p i = true := fun i hi => List.all_eq_true.1 h i (List.mem_range.2 hi)
theorem len_bd : ∀ s, s < 257 → 5 ≤ len s ∧ len s ≤ 30 := fun s hs => by
  have h := all_lt (p := fun s => decide (5 ≤ len s ∧ len s ≤ 30)) (by decide +kernel) s hs
  simpa using h
theorem ord_bd : ∀ i, i < 257 → ord i < 257 ∧ rnk (ord i) = i := fun i hi => by
  have h := all_lt (p := fun i => decide (ord i < 257 ∧ rnk (ord i) = i)) (by decide +kernel) i hi
  simpa using h
theorem rnk_bd : ∀ s, s < 257 → rnk s < 257 ∧ ord (rnk s) = s := fun s hs => by
  have h := all_lt (p := fun i => decide (rnk i < 257 ∧ ord (rnk i) = i)) (by decide +kernel) s hs
  simpa using h
theorem place_of : ∀ s, s < 257 → bg (len s) + cnt (len s) s = rnk s := fun s hs => by
  have h := all_lt (p := fun s => decide (bg (len s) + cnt (len s) s = rnk s)) (by decide +kernel) s hs
  simpa using h
theorem bg_succ : ∀ j, j < 31 → bg (j + 1) = bg j + cnt j 257 := fun j hj => by
  have h := all_lt (p := fun j => decide (bg (j + 1) = bg j + cnt j 257)) (by decide +kernel) j hj
  simpa using h
theorem bg_bd : ∀ j, j < 32 → bg j ≤ 257 := fun j hj => by
  have h := all_lt (p := fun j => decide (bg j ≤ 257)) (by decide +kernel) j hj
  simpa using h
/-- The code ahead and one more; its length. -/
def pc (i : Nat) : Nat := if i = 0 then 0 else cd (i - 1) + 1
def ah (i : Nat) : Nat := if i = 0 then 0 else len (ord (i - 1))
theorem cd_of : ∀ i, i < 257 → ah i ≤ len (ord i) ∧ pc i * 2 ^ (len (ord i) - ah i) = cd i ∧ cd i < 1073741824 := fun i hi => by
  have h := all_lt (p := fun i => decide (ah i ≤ len (ord i) ∧ pc i * 2 ^ (len (ord i) - ah i) = cd i ∧ cd i < 1073741824)) (by decide +kernel) i hi
  simpa using h
/-- Where a code's bits begin among all numbers of thirty bits. -/
def st (i : Nat) : Nat := cd i * 2 ^ (30 - len (ord i))
theorem st_succ : ∀ i, i < 256 → st (i + 1) = st i + 2 ^ (30 - len (ord i)) := fun i hi => by
  have h := all_lt (p := fun i => decide (st (i + 1) = st i + 2 ^ (30 - len (ord i)))) (by decide +kernel) i hi
  simpa using h
theorem st_zero : st 0 = 0 := by decide +kernel
theorem st_end : st 256 + 2 ^ (30 - len (ord 256)) = 1073741824 := by decide +kernel
theorem cnt_succ (n k : Nat) (hk : k < 257) : cnt n (k + 1) = cnt n k + if len k = n then 1 else 0 := by
  unfold cnt
  have hl : lenL.length = 257 := by decide +kernel
  have e : lenL.take (k + 1) = lenL.take k ++ [len k] := by
    rw [List.take_succ_eq_append_getElem (by omega)]
    unfold len
    rw [List.getD_eq_getElem?_getD, List.getElem?_eq_getElem (by omega), Option.getD_some]
  rw [e, List.count_append]
  by_cases h : len k = n
  · simp [h]
  · simp [h]
theorem cnt_zero (n : Nat) : cnt n 0 = 0 := by simp [cnt]
theorem cnt_le (n k : Nat) (hk : k ≤ 257) : cnt n k ≤ k := by
  unfold cnt
  refine Nat.le_trans (List.count_le_length) ?_
  simp
  omega
end

section
open Go.RowKit

section
variable {P : Program} {w w' : World} {ops : Array Oper} {o : Oper} {a : Act} {v : Value} {K : Act → World → Prop} {Q : Exit → Act → World → Prop} {E : Prop}
theorem step_run (hgd : o.guard = none) (hrun : (execOp a.eval o).run P w = .ok (.value v) w') (h : K (a.put o.dst v) w') : if Region.wanted o (yielded ops a.tmps) = true then Oper.wp P o a w K Q else E := by
  have hw : Region.wanted o (yielded ops a.tmps) = true := by simp [Region.wanted, hgd]
  rw [if_pos hw]
  unfold Oper.wp
  rw [hrun, Oper.upon_value]
  exact h
end
/-- The cells of a book: lengths, codes, the order's slice, where each length begins. -/
def bookC (le : Nat → Int) (co : Nat → Int) (og : Nat) (be : Nat → Int) : Nat → Value := fun i =>
  if i < 257 then .int .i64 (le i) else if i < 514 then .int .i64 (co (i - 257)) else if i = 514 then .slice (some ⟨og, 0, none⟩) 257 257 else .int .i64 (be (i - 515))
def lenI (s : Nat) : Int := (len s : Int)
theorem book_cells (og : Nat) : (intL lenL ++ List.replicate 257 (.int .i64 0) ++ [.slice (some ⟨og, 0, none⟩) 257 257] ++ List.replicate 32 (.int .i64 0) : List Value) = rowV 547 (bookC lenI (oneF 0) og (oneF 0)) := by kernel_rfl
/-- A book in the making. -/
def Mk (w W : World) (og B : Nat) (co od be : Nat → Int) : Prop :=
  Blk W B 165 547 (bookC lenI co og be) ∧ Own .i64 3 w.heap.size W (.slice (some ⟨og, 0, none⟩) 257 257) 257 od ∧ Below w.heap.size w W ∧ og ≠ B ∧ w.heap.size ≤ B

/-- How many of the first k symbols have a code one bit shorter than j. -/
def b1 (k j : Nat) : Int := if j = 0 then 0 else (cnt (j - 1) k : Int)
theorem idx41 {cs : List Value} (k : Nat) (hk : k < 257) (L : Nat) (h : cs[k]? = some (.int .i64 (L : Int))) (W : World) : (Instr.index 161 (.agg cs.toArray) (.int .i64 (k : Int))).run Tryd.prog W = .ok (.int .i64 (L : Int)) W := by
  have hu : Tryd.prog.underlying 161 = some (.array 257 3) := Tryd.underlying161
  have h3 : (Tryd.prog.info? 3).map (·.size) = some 1 := by kernel_rfl
  obtain ⟨i, hi, h1⟩ := Option.map_eq_some_iff.1 h3
  have hz : Tryd.prog.underlying 3 = some (.int .i64) := Tryd.underlying3
  have e1 : (0 : Int) ≤ (k : Int) ∧ (k : Int) < 257 := by omega
  simp [Instr.index, run_underlying hu, asIntOf, e1, sizeOf, typeInfo, hi, h1, isAgg, run_underlying hz, h, go_sem]
  intro h2
  omega
def bookL (og : Nat) : List Value := intL lenL ++ List.replicate 257 (.int .i64 0) ++ [.slice (some ⟨og, 0, none⟩) 257 257] ++ List.replicate 32 (.int .i64 0)
theorem mk_new (w W : World) (og : Nat) (ho : Own .i64 3 w.heap.size W (.slice (some ⟨og, 0, none⟩) 257 257) 257 (oneF 0)) (hb : Below w.heap.size w W) (hlt : og < W.heap.size) :
    Mk w (W.alloc (.cells ⟨bookL og⟩ 165)) og W.heap.size (oneF 0) (oneF 0) (oneF 0) :=
  ⟨Blk.new W _ _ _ (by rw [show bookL og = rowV 547 (bookC lenI (oneF 0) og (oneF 0)) from book_cells og]), ho.alloc _, hb.alloc hb.size _, by omega, hb.size⟩

theorem Own.far {k : IntKind} {e : TypeId} {B0 g b n c : Nat} {w : World} {f : Nat → Int} (h : Own k e B0 w (.slice (some ⟨g, 0, none⟩) n c) n f) (j : Nat) (u : Value) (hne : g ≠ b) : Own k e B0 (w.setCell ⟨b, j, none⟩ u) (.slice (some ⟨g, 0, none⟩) n c) n f :=
  World.ownsRow.kept (row := some b) h (grown_set w b j u) (by simp [Value.ownBlock, hne])
section
variable {w W : World} {og B : Nat} {co od be : Nat → Int}
theorem Mk.setBe (h : Mk w W og B co od be) (j : Nat) (x : Int) : Mk w (W.setCell ⟨B, 515 + j, none⟩ (.int .i64 x)) og B co od (setF be j x) :=
  ⟨(h.1.set (515 + j) _).congr (fun i _ => by
    unfold setV bookC setF
    by_cases h1 : i < 257
    · have : ¬ i = 515 + j := by omega
      simp [h1, this]
    · by_cases h2 : i < 514
      · have : ¬ i = 515 + j := by omega
        simp [h1, h2, this]
      · by_cases h3 : i = 514
        · subst h3
          have : ¬ 514 = 515 + j := by omega
          simp [this]
        · by_cases h4 : i = 515 + j
          · subst h4
            simp [h1, h2, h3]
          · have : ¬ i - 515 = j := by omega
            simp [h1, h2, h3, h4, this]), h.2.1.far _ _ h.2.2.2.1, h.2.2.1.setCell h.2.2.2.2 _, h.2.2.2.1, h.2.2.2.2⟩
theorem Mk.setCo (h : Mk w W og B co od be) (j : Nat) (hj : j < 257) (x : Int) : Mk w (W.setCell ⟨B, 257 + j, none⟩ (.int .i64 x)) og B (setF co j x) od be :=
  ⟨(h.1.set (257 + j) _).congr (fun i _ => by
    unfold setV bookC setF
    by_cases h1 : i < 257
    · have : ¬ i = 257 + j := by omega
      simp [h1, this]
    · by_cases h2 : i < 514
      · by_cases h4 : i = 257 + j
        · subst h4
          simp [h1, h2]
        · have : ¬ i - 257 = j := by omega
          simp [h1, h2, h4, this]
      · have : ¬ i = 257 + j := by omega
        simp [h1, h2, this]), h.2.1.far _ _ h.2.2.2.1, h.2.2.1.setCell h.2.2.2.2 _, h.2.2.2.1, h.2.2.2.2⟩
theorem Mk.setOd (h : Mk w W og B co od be) (j : Nat) (x : Int) : Mk w (W.setCell ⟨og, j, none⟩ (.int .i64 x)) og B co (setF od j x) be :=
  ⟨h.1.other _ _ h.2.2.2.1.symm, h.2.1.set j x, h.2.2.1.setCell (World.ownsRow.lt h.2.1 og rfl).1 _, h.2.2.2.1, h.2.2.2.2⟩
theorem Mk.drew (h : Mk w W og B co od be) : Mk w W.drew og B co od be := ⟨h.1, h.2.1, h.2.2.1.drew, h.2.2.2⟩
theorem Mk.below {W' : World} (h : Mk w W og B co od be) (hb : Below W.heap.size W W') : Mk w W' og B co od be :=
  ⟨h.1.below hb, h.2.1.below hb, h.2.2.1.of hb, h.2.2.2⟩
theorem Mk.away (h : Mk w W og B co od be) (g j : Nat) (u : Value) (hg : w.heap.size ≤ g) (h1 : og ≠ g) (h2 : B ≠ g) : Mk w (W.setCell ⟨g, j, none⟩ u) og B co od be :=
  ⟨h.1.other _ _ h2, h.2.1.far _ _ h1, h.2.2.1.setCell hg _, h.2.2.2⟩
theorem Mk.congr {co' od' be' : Nat → Int} (h : Mk w W og B co od be) (h1 : ∀ i, i < 257 → co i = co' i) (h2 : ∀ i, i < 257 → od i = od' i) (h3 : ∀ i, i < 32 → be i = be' i) : Mk w W og B co' od' be' :=
  ⟨h.1.congr (fun i hi => by
    unfold bookC
    by_cases a1 : i < 257
    · simp [a1]
    · by_cases a2 : i < 514
      · simp [a1, a2, h1 (i - 257) (by omega)]
      · by_cases a3 : i = 514
        · simp [a3]
        · simp [a1, a2, a3, h3 (i - 515) (by omega)]), h.2.1.congr h2, h.2.2⟩
theorem Mk.ran (h : Mk w W og B co od be) : W.rangeAt B 0 (rowV 257 (fun i => Value.int .i64 (lenI i))) := by
  have k := h.1.range 0 257 (by omega)
  rw [rowV_congr (G := fun i => Value.int .i64 (lenI i)) (fun i hi => by simp [bookC, hi])] at k
  exact k
theorem Mk.rbe (h : Mk w W og B co od be) : W.rangeAt B 515 (rowV 32 (fun i => Value.int .i64 (be i))) := by
  have k := h.1.range 515 32 (by omega)
  rw [rowV_congr (G := fun i => Value.int .i64 (be i)) (fun i hi => by
    have e1 : ¬ 515 + i < 257 := by omega
    have e2 : ¬ 515 + i < 514 := by omega
    have e3 : ¬ 515 + i = 514 := by omega
    simp [bookC, e1, e2, e3])] at k
  exact k
theorem Mk.cbe (h : Mk w W og B co od be) (j : Nat) (hj : j < 32) : W.cell? ⟨B, 515 + j, none⟩ = some (.int .i64 (be j)) := by
  rw [h.1.cell (j := 515 + j) (by omega)]
  have e1 : ¬ 515 + j < 257 := by omega
  have e2 : ¬ 515 + j < 514 := by omega
  have e3 : ¬ 515 + j = 514 := by omega
  simp [bookC, e1, e2, e3]
theorem Mk.csl (h : Mk w W og B co od be) : W.cell? ⟨B, 514, none⟩ = some (.slice (some ⟨og, 0, none⟩) 257 257) := by
  rw [h.1.cell (j := 514) (by omega)]
  rfl
theorem Mk.cle (h : Mk w W og B co od be) (j : Nat) (hj : j < 257) : W.cell? ⟨B, j, none⟩ = some (.int .i64 (len j : Int)) := by
  rw [h.1.cell (j := j) (by omega)]
  simp [bookC, hj, lenI]
theorem Mk.cco (h : Mk w W og B co od be) (j : Nat) (hj : j < 257) : W.cell? ⟨B, 257 + j, none⟩ = some (.int .i64 (co j)) := by
  rw [h.1.cell (j := 257 + j) (by omega)]
  have e1 : ¬ 257 + j < 257 := by omega
  have e2 : 257 + j < 514 := by omega
  simp [bookC, e1, e2]
end
/-- Block g begins with the n integers f 0 .. f (n-1), which may be written. -/
def Cel (w : World) (g n : Nat) (f : Nat → Int) : Prop := ∀ j, j < n → w.cell? ⟨g, j, none⟩ = some (.int .i64 (f j)) ∧ w.frozen? ⟨g, j, none⟩ = false
theorem cel_of {w : World} {g n : Nat} {f : Nat → Int} {cs : List Value} (h : w.rangeAt g 0 cs) (h2 : ∀ j, j < n → w.frozen? ⟨g, 0 + j, none⟩ = false) (hc : ∀ j, j < n → cs[j]? = some (.int .i64 (f j))) : Cel w g n f := fun j hj => by
  have h1 := h j _ (hc j hj)
  have h3 := h2 j hj
  rw [Nat.zero_add] at h1 h3
  exact ⟨h1, h3⟩
theorem Cel.drew {w : World} {g n : Nat} {f : Nat → Int} (h : Cel w g n f) : Cel w.drew g n f := h
theorem Cel.set {w : World} {g n : Nat} {f : Nat → Int} (h : Cel w g n f) (j : Nat) (hj : j < n) (x : Int) : Cel (w.setCell ⟨g, j, none⟩ (.int .i64 x)) g n (setF f j x) := fun i hi => by
  unfold setF
  refine ⟨?_, by rw [World.frozen?_setCell]; exact (h i hi).2⟩
  by_cases e : i = j
  · subst e
    rw [if_pos rfl, World.cell?_setCell_same _ _ _ (h i hi).1]
  · rw [if_neg e, World.cell?_setCell_other _ _ _ _ (by intro h'; injection h' with _ h' _; exact e h'.symm)]
    exact (h i hi).1
theorem Cel.far {w : World} {g n : Nat} {f : Nat → Int} (h : Cel w g n f) (b j : Nat) (u : Value) (hne : b ≠ g) : Cel (w.setCell ⟨b, j, none⟩ u) g n f := fun i hi => by
  refine ⟨?_, by rw [World.frozen?_setCell]; exact (h i hi).2⟩
  rw [World.cell?_setCell_other _ _ _ _ (by intro h'; injection h' with h' _ _; exact hne h')]
  exact (h i hi).1
theorem b1_succ (k : Nat) (hk : k < 257) (L : Nat) (hL : len k = L) : setF (b1 k) (L + 1) ((cnt L k : Int) + 1) = b1 (k + 1) := by
  subst hL
  funext j
  unfold setF b1
  by_cases h0 : j = 0
  · subst h0
    simp
  · by_cases h1 : j = len k + 1
    · subst h1
      simp [cnt_succ _ _ hk]
    · have : ¬ len k = j - 1 := by omega
      simp [h0, h1, cnt_succ _ _ hk, this]
/-- Where the lengths begin, the first n reckoned. -/
def b2 (n j : Nat) : Int := if j ≤ n then (bg j : Int) else b1 257 j
theorem b2_zero (j : Nat) (_ : j < 32) : b1 257 j = b2 0 j := by
  unfold b2 b1
  by_cases h : j = 0
  · subst h
    decide +kernel
  · simp [h]
theorem b2_succ (n : Nat) (hn : n < 31) : setF (b2 n) (n + 1) ((cnt n 257 : Int) + (bg n : Int)) = b2 (n + 1) := by
  funext j
  unfold setF b2
  by_cases h1 : j = n + 1
  · subst h1
    have := bg_succ n hn
    simp
    omega
  · by_cases h2 : j ≤ n
    · have : j ≤ n + 1 := by omega
      simp [h1, h2, this]
    · have : ¬ j ≤ n + 1 := by omega
      simp [h1, h2, this]

/-- The order, the first k symbols laid. -/
def b3 (k i : Nat) : Int := if ord i < k then (ord i : Int) else 0
theorem b3_zero (i : Nat) : b3 0 i = 0 := by simp [b3]
theorem b3_succ (k : Nat) (hk : k < 257) (R : Nat) (hR : rnk k = R) (i : Nat) (hi : i < 257) : setF (b3 k) R (k : Int) i = b3 (k + 1) i := by
  subst hR
  unfold setF b3
  have h1 := ord_bd i hi
  have h2 := rnk_bd k hk
  by_cases h : i = rnk k
  · subst h
    simp [h2.2]
  · have : ord i ≠ k := fun e => h (by rw [← h1.2, e])
    by_cases h3 : ord i < k
    · have : ord i < k + 1 := by omega
      simp [h, h3, this]
    · have : ¬ ord i < k + 1 := by omega
      simp [h, h3, this]
/-- The codes, those of the first k places laid. -/
def b4 (k s : Nat) : Int := if rnk s < k then (cd (rnk s) : Int) else 0
theorem b4_succ (k : Nat) (hk : k < 257) (S : Nat) (hS : ord k = S) (i : Nat) (hi : i < 257) : setF (b4 k) S (cd k : Int) i = b4 (k + 1) i := by
  subst hS
  unfold setF b4
  have h1 := rnk_bd i hi
  have h2 := ord_bd k hk
  by_cases h : i = ord k
  · subst h
    simp [h2.2]
  · have : rnk i ≠ k := fun e => h (by rw [← h1.2, e])
    by_cases h3 : rnk i < k
    · have : rnk i < k + 1 := by omega
      simp [h, h3, this]
    · have : ¬ rnk i < k + 1 := by omega
      simp [h, h3, this]
def nx (k n : Nat) : Int := (bg n : Int) + (cnt n k : Int)
theorem nx_succ (k : Nat) (hk : k < 257) (L : Nat) (hL : len k = L) (R : Nat) (hR : nx k L = (R : Int)) : setF (nx k) L ((R : Int) + 1) = nx (k + 1) := by
  subst hL
  funext j
  unfold setF
  by_cases h : j = len k
  · subst h
    unfold nx at hR ⊢
    rw [cnt_succ _ _ hk]
    simp
    omega
  · have : ¬ len k = j := fun e => h e.symm
    unfold nx
    rw [cnt_succ _ _ hk]
    simp [h, this]

set_option maxRecDepth 100000 in
set_option maxHeartbeats 8000000 in
theorem make_any (w : World) : Calls Tryd.prog 105 #[] w fun e w' => ∃ B og, e = .returned (.pointer (some ⟨B, 0, none⟩)) ∧ Mk w w' og B (fun s => (cd (rnk s) : Int)) (fun i => (ord i : Int)) (fun j => (bg j : Int)) := by
  go_enter Tryd.func105, Tryd.ntmps105
  go_wp2_with fail
  rename_i K hK
  have key : ∀ (W : World) (og B : Nat) (u13 u14 u15 u16 : Value), Mk w W og B (oneF 0) (oneF 0) (oneF 0) → K { tmps := #[.pointer none, .pointer (some ⟨B, 0, none⟩), undef, undef, undef, undef, undef, undef, undef, undef, undef, undef, undef, u13, u14, u15, u16, undef, undef, undef, undef, undef, undef, undef, undef, undef, undef, undef, undef, undef, undef, undef, undef, undef, undef, undef, undef, undef, undef, undef, undef, undef, undef, undef, undef, undef, undef, undef, undef, undef, undef, undef, undef, undef, undef, undef, undef, undef, undef, undef, undef, undef, undef, undef, undef, undef, undef, undef, undef, undef, undef, undef, undef, undef, undef, undef, undef, undef, undef, undef, undef, undef, undef, undef, undef, undef, undef, undef, undef, undef, undef, undef, undef, undef, undef, undef, undef, undef, undef, undef, undef, undef, undef, undef, undef, undef, undef, undef, undef, undef, undef, undef, undef, undef], defers := [] } W := by
    intro W og B u13 u14 u15 u16 hM
    refine hK _ _ ?_
    clear hK
    obtain ⟨hBk, hOd, hB, hne, hle⟩ := hM
    have HBk := hide hBk
    have HOd := hide hOd
    have HB := hide hB
    have hltB := hBk.lt
    clear hBk hOd hB
    obtain ⟨cs, hcs⟩ : ∃ cs, cs = rowV 257 (fun i => Value.int .i64 (lenI i)) := ⟨_, rfl⟩
    have Hcs := hide hcs
    have hcl : cs.length = 257 := by rw [hcs]; exact rowV_len _ _
    have hi41 : (Tryd.prog.info? 161).map (·.size) = some cs.length := by rw [hcl]; kernel_rfl
    have hix : ∀ k : Nat, k < 257 → cs[k]? = some (.int .i64 (lenI k)) := fun k hk => by rw [Hcs.out]; exact rowV_get 257 _ k hk
    have Hix := hide hix
    have hran : W.rangeAt B 0 cs := by
      rw [hcs]
      have h := HBk.out.range 0 257 (by omega)
      rw [rowV_congr (G := fun i => Value.int .i64 (lenI i)) (fun i hi => by simp [bookC, hi])] at h
      exact h
    have Hran := hide hran
    have Hi41 := hide hi41
    clear hcs hix hran hi41 hcl
    go_wp2_with (refine wpList_load_mid (op := ⟨some 20, .load _ _, _, _, _, _⟩) rfl _ _ rfl B 0 rfl cs _ Hran.out Tryd.underlying161 rfl Hi41.out ?_)
    go_loopw [21] (fun i wr => ∃ k : Nat, k ≤ 257 ∧ i = .int .i64 k ∧ Mk w wr og B (oneF 0) (oneF 0) (b1 k)) (fun i _ => 257 - (intOf i).toNat)
    case atStart => exact ⟨0, Nat.zero_le _, rfl, ⟨HBk.out.congr (fun i hi => by unfold bookC; split; rfl; split; rfl; split; rfl; simp [b1, oneF, cnt_zero]), HOd.out, HB.out, hne, hle⟩⟩
    case round =>
      obtain ⟨k, hk, rfl, hM⟩ := hrel
      clear HBk HOd HB hltB
      by_cases hlt : k < 257
      · obtain ⟨hBk, hOd, hB, _, _⟩ := hM
        have HBk := hide hBk
        have HOd := hide hOd
        have HB := hide hB
        have hltB := hBk.lt
        have hkk : decide ((k : Int) < 257) = true := by simp; omega
        have hidx := idx41 (cs := cs) k hlt (len k) (Hix.out k hlt)
        obtain ⟨L, hL⟩ : ∃ L, len k = L := ⟨_, rfl⟩
        have hLb : 5 ≤ L ∧ L ≤ 30 := by rw [← hL]; exact len_bd k hlt
        rw [hL] at hidx
        have HL := hide hL
        have hcell := hBk.cell (j := 515 + (L + 1)) (by omega)
        have hfz := hBk.frozen (515 + (L + 1))
        have hcv : bookC lenI (oneF 0) og (b1 k) (515 + (L + 1)) = .int .i64 (cnt L k : Int) := by
          have e1 : ¬ 515 + (L + 1) < 257 := by omega
          have e2 : ¬ 515 + (L + 1) < 514 := by omega
          have e3 : ¬ 515 + (L + 1) = 514 := by omega
          simp [bookC, b1, e1, e2, e3]
        rw [hcv] at hcell
        have hcl := cnt_le L k hk
        have hw1 : IntKind.i64.wrap ((L : Int) + 1) = (L : Int) + 1 := IntWalk.i64_in _ (by omega)
        have hw2 : IntKind.i64.wrap ((cnt L k : Int) + 1) = (cnt L k : Int) + 1 := IntWalk.i64_in _ (by omega)
        have hL0 : (0 : Int) ≤ (L : Int) + 1 := by omega
        have hL1 : (L : Int) + 1 < 32 := by omega
        have hLn : ((L : Int) + 1).toNat = L + 1 := by omega
        clear hBk hOd hB hL hcv
        go_wp2_with fail
        go_region
        clear hw1 hw2
        have HM' : Hid (Mk w (wr.setCell ⟨B, 515 + (L + 1), none⟩ (.int .i64 ((cnt L k : Int) + 1))).drew og B (oneF 0) (oneF 0) (b1 (k + 1))) := by
          have h := (Mk.setBe ⟨HBk.out, HOd.out, HB.out, hne, hle⟩ (L + 1) ((cnt L k : Int) + 1)).drew
          rw [b1_succ k hlt L HL.out] at h
          exact h
        go_wp2_with fail
        go_roundw
        case rel => exact ⟨k + 1, by omega, by go_num, HM'.out⟩
        case measure => simp [intOf]; omega
      · obtain rfl : k = 257 := by omega
        have HM2 := hide (hM.congr (fun _ _ => rfl) (fun _ _ => rfl) b2_zero)
        clear hM
        go_wp2_with fail
        go_loopw [36] (fun i wr => ∃ n : Nat, n ≤ 31 ∧ i = .int .i64 n ∧ Mk w wr og B (oneF 0) (oneF 0) (b2 n)) (fun i _ => 31 - (intOf i).toNat)
        case atStart => exact ⟨0, Nat.zero_le _, rfl, HM2.out⟩
        case round =>
          obtain ⟨n, hn, rfl, hM⟩ := hrel
          clear HM2
          have HM := hide hM
          by_cases hlt : n < 31
          · have hc1 := hM.cbe (n + 1) (by omega)
            have hc2 := hM.cbe n (by omega)
            have hfz := hM.1.frozen (515 + (n + 1))
            have hltB := hM.1.lt
            have e1 : b2 n (n + 1) = (cnt n 257 : Int) := by unfold b2 b1; rw [if_neg (by omega), if_neg (by omega), Nat.add_sub_cancel]
            have e2 : b2 n n = (bg n : Int) := by simp [b2]
            rw [e1] at hc1
            rw [e2] at hc2
            have hcl := cnt_le n 257 (by omega)
            have hbl := bg_bd n (by omega)
            have hkk : decide ((n : Int) < 31) = true := by simp; omega
            have hw1 : IntKind.i64.wrap ((n : Int) + 1) = (n : Int) + 1 := IntWalk.i64_in _ (by omega)
            have hw2 : IntKind.i64.wrap ((cnt n 257 : Int) + (bg n : Int)) = (cnt n 257 : Int) + (bg n : Int) := IntWalk.i64_in _ (by omega)
            have hL0 : (0 : Int) ≤ (n : Int) + 1 := by omega
            have hL1 : (n : Int) + 1 < 32 := by omega
            have hL2 : (n : Int) < 32 := by omega
            have hLn : ((n : Int) + 1).toNat = n + 1 := by omega
            have HM' : Hid (Mk w (wr.setCell ⟨B, 515 + (n + 1), none⟩ (.int .i64 ((cnt n 257 : Int) + (bg n : Int)))).drew og B (oneF 0) (oneF 0) (b2 (n + 1))) := by
              have h := (HM.out.setBe (n + 1) ((cnt n 257 : Int) + (bg n : Int))).drew
              rw [b2_succ n hlt] at h
              exact h
            clear hM e1 e2
            go_wp2_with fail
            go_region
            clear hw1 hw2
            go_wp2_with fail
            go_roundw
            case rel => exact ⟨n + 1, by omega, by go_num, HM'.out⟩
            case measure => simp [intOf]; omega
          · obtain rfl : n = 31 := by omega
            have HM2 := hide (hM.congr (be' := fun j => (bg j : Int)) (fun _ _ => rfl) (fun _ _ => rfl) (fun i hi => by unfold b2; rw [if_pos (by omega)]))
            clear hM HM
            obtain ⟨ds, hds⟩ : ∃ ds, ds = rowV 32 (fun i => Value.int .i64 (bg i : Int)) := ⟨_, rfl⟩
            have hdl : ds.length = 32 := by rw [hds]; exact rowV_len _ _
            have Hi43 : Hid ((Tryd.prog.info? 163).map (·.size) = some ds.length) := by
              show _ = _
              rw [hdl]
              kernel_rfl
            have Hran2 := hide (show wr.rangeAt B 515 ds by
              rw [hds]
              exact HM2.out.rbe)
            have Hone : Hid (ds.toArray.all (·.oneCell') = true) := by
              show _ = _
              rw [hds]
              exact all_oneCell_toArray (rowV_one (fun _ _ => rfl))
            have Hth : Hid ((wr.alloc (.cells (Array.replicate 32 (.int .i64 0)) 163)).there wr.heap.size 0 ds.length) := by
              show World.there _ _ _ _
              rw [hdl]
              exact there_new wr (Array.replicate 32 (.int .i64 0)) _
            have HB2 : Hid (Below wr.heap.size wr ((wr.alloc (.cells (Array.replicate 32 (.int .i64 0)) 163)).setCells wr.heap.size 0 ds)) := below_cells (Nat.le_refl _) _ _ _ ((Below.refl _ _).alloc (Nat.le_refl _) _)
            have HM3 := hide (HM2.out.below HB2.out)
            have Hran3 : Hid (((wr.alloc (.cells (Array.replicate 32 (.int .i64 0)) 163)).setCells wr.heap.size 0 ds).rangeAt B 0 cs) := by
              show World.rangeAt _ _ _ _
              rw [Hcs.out]
              exact HM3.out.ran
            have HCel : Hid (Cel ((wr.alloc (.cells (Array.replicate 32 (.int .i64 0)) 163)).setCells wr.heap.size 0 ds) wr.heap.size 32 (fun j => (bg j : Int))) := by
              show Cel _ _ _ _
              refine cel_of (World.rangeAt_setCells_same _ _ _ _ Hth.out) (fun j hj => by rw [World.frozen?_setCells]; exact (Hth.out j (by omega)).2) (fun j hj => ?_)
              rw [hds]
              exact rowV_get 32 _ j hj
            have Hds := hide hds
            have hsz := HM2.out.2.2.1.size
            have hgB : B < wr.heap.size := HM2.out.1.lt
            have hgo : og < wr.heap.size := (World.ownsRow.lt HM2.out.2.1 og rfl).2
            clear hds
            go_upto_region 12 with (fail)
            rename_i K2 hK2
            refine wp_region_list ?_
            refine wpList_plain rfl fun K3 hK3 => ?_
            go_simp
            refine hK3 _ _ ?_
            refine wpList_plain rfl fun K3 hK3 => ?_
            go_simp
            refine hK3 _ _ ?_
            refine wpList_plain rfl fun K3 hK3 => ?_
            go_simp
            refine hK3 _ _ ?_
            refine wpList_load_mid rfl _ _ rfl B 515 rfl ds _ Hran2.out Tryd.underlying163 rfl Hi43.out ?_
            refine Go.Great.wpList_runTo rfl (some 5) rfl (.pointer (some ⟨wr.heap.size, 0, none⟩)) (wr.alloc (.cells (Array.replicate 32 (.int .i64 0)) 163)) (by kernel_rfl) ?_
            refine wpList_store_mid rfl _ _ _ rfl wr.heap.size 0 ds.toArray rfl rfl Hth.out Hi43.out Hone.out ?_
            refine wpList_nil ?_
            refine hK2 _ _ ?_
            clear hK2 Hran2 Hone Hth HB2 HM2 Hds Hi43
            generalize (wr.alloc (.cells (Array.replicate 32 (.int .i64 0)) 163)).setCells wr.heap.size 0 ds = W2 at *
            generalize wr.heap.size = g at *
            simp only [Act.put, List.setIfInBounds_toArray, List.set_cons_zero, List.set_cons_succ]
            refine wp_seq_k fun K4 hK4 => ?_
            refine wp_seq_k fun K5 hK5 => ?_
            refine wp_region_list ?_
            have hltB := HM3.out.1.lt
            refine wpList_plain rfl fun K3 hK3 => ?_
            go_simp
            refine hK3 _ _ ?_
            refine wpList_plain rfl fun K3 hK3 => ?_
            go_simp
            refine hK3 _ _ ?_
            refine wpList_plain rfl fun K3 hK3 => ?_
            go_simp
            refine hK3 _ _ ?_
            refine wpList_load_mid rfl _ _ rfl B 0 rfl cs _ Hran3.out Tryd.underlying161 rfl Hi41.out ?_
            refine wpList_plain rfl fun K3 hK3 => ?_
            go_simp
            refine hK3 _ _ ?_
            refine wpList_nil ?_
            refine hK5 _ _ ?_
            clear hK5 Hran3
            go_wp2_with fail
            go_loopw [65] (fun i wr => ∃ k : Nat, k ≤ 257 ∧ i = .int .i64 k ∧ Mk w wr og B (oneF 0) (b3 k) (fun j => (bg j : Int)) ∧ Cel wr g 32 (nx k)) (fun i _ => 257 - (intOf i).toNat)
            case atStart => exact ⟨0, Nat.zero_le _, rfl, HM3.out.congr (fun _ _ => rfl) (fun i _ => by simp [b3, oneF]) (fun _ _ => rfl), by have h := HCel.out; unfold nx; simpa [cnt_zero] using h⟩
            case round =>
              obtain ⟨k, hk, rfl, hM, hC⟩ := hrel
              clear HM3 HCel
              have HM := hide hM
              have HC := hide hC
              by_cases hlt : k < 257
              · have hidx := idx41 (cs := cs) k hlt (len k) (Hix.out k hlt)
                obtain ⟨L, hL⟩ : ∃ L, len k = L := ⟨_, rfl⟩
                have hLb : 5 ≤ L ∧ L ≤ 30 := by rw [← hL]; exact len_bd k hlt
                rw [hL] at hidx
                have hpl := place_of k hlt
                rw [hL] at hpl
                obtain ⟨R, hR⟩ : ∃ R, rnk k = R := ⟨_, rfl⟩
                have hRb : R < 257 := by rw [← hR]; exact (rnk_bd k hlt).1
                rw [hR] at hpl
                obtain ⟨hcg, hfg⟩ := hC L (by omega)
                have hnx : nx k L = (R : Int) := by unfold nx; omega
                rw [hnx] at hcg
                have hcs := hM.csl
                have hfo := hM.2.1.frozen R
                have hco := hM.2.1.cell hRb
                have hltB := hM.1.lt
                have hkk : decide ((k : Int) < 257) = true := by simp; omega
                have hL0 : (0 : Int) ≤ (L : Int) := by omega
                have hL1 : (L : Int) < 32 := by omega
                have hR0 : (0 : Int) ≤ (R : Int) := by omega
                have hR1 : (R : Int) < 257 := by omega
                have hw1 : IntKind.i64.wrap ((R : Int) + 1) = (R : Int) + 1 := IntWalk.i64_in _ (by omega)
                have hgo' : og ≠ g := by omega
                have hgo2 : g ≠ og := by omega
                have hgB' : B ≠ g := by omega
                have HM' : Hid (Mk w (((wr.setCell ⟨og, R, none⟩ (.int .i64 (k : Int))).setCell ⟨g, L, none⟩ (.int .i64 ((R : Int) + 1))).drew) og B (oneF 0) (b3 (k + 1)) (fun j => (bg j : Int))) := by
                  have h := ((HM.out.setOd R (k : Int)).away g L (.int .i64 ((R : Int) + 1)) (by omega) hgo' hgB').drew
                  exact h.congr (fun _ _ => rfl) (b3_succ k hlt R hR) (fun _ _ => rfl)
                have HC' : Hid (Cel (((wr.setCell ⟨og, R, none⟩ (.int .i64 (k : Int))).setCell ⟨g, L, none⟩ (.int .i64 ((R : Int) + 1))).drew) g 32 (nx (k + 1))) := by
                  have h := ((HC.out.far og R (.int .i64 (k : Int)) hgo').set L (by omega) ((R : Int) + 1)).drew
                  rw [nx_succ k hlt L hL R hnx] at h
                  exact h
                clear hM hC hL hR hpl hnx
                go_wp2_with fail
                go_region
                clear hw1
                go_wp2_with fail
                exact ⟨⟨k + 1, by omega, by go_num, HM'.out, HC'.out⟩, by simp [intOf]; omega⟩
              · obtain rfl : k = 257 := by omega
                have HM4 := hide (hM.congr (od' := fun i => (ord i : Int)) (fun _ _ => rfl) (fun i hi => by unfold b3; rw [if_pos (ord_bd i hi).1]) (fun _ _ => rfl))
                have hcs := hM.csl
                have hltB := hM.1.lt
                clear hM hC HM HC
                go_wp2_with fail
                go_loopw [8, 9, 89] (fun c a i wr => ∃ (k : Nat) (z : Int), k ≤ 257 ∧ i = .int .i64 k ∧ c = .int .i64 z ∧ z + 1 = (pc k : Int) ∧ a = .int .i64 (ah k : Int) ∧ Mk w wr og B (b4 k) (fun i => (ord i : Int)) (fun j => (bg j : Int))) (fun _ _ i _ => 257 - (intOf i).toNat)
                case atStart => exact ⟨0, -1, Nat.zero_le _, rfl, rfl, rfl, rfl, HM4.out.congr (fun i _ => by simp [b4, oneF]) (fun _ _ => rfl) (fun _ _ => rfl)⟩
                case round =>
                  obtain ⟨k, z, hk, rfl, rfl, hz, rfl, hM⟩ := hrel
                  clear HM4 hcs
                  have HM := hide hM
                  have hltB := hM.1.lt
                  by_cases hlt : k < 257
                  · have hob := ord_bd k hlt
                    obtain ⟨S, hS⟩ : ∃ S, ord k = S := ⟨_, rfl⟩
                    rw [hS] at hob
                    obtain ⟨hSb, hSr⟩ := hob
                    have hcd := cd_of k hlt
                    rw [hS] at hcd
                    have hLb := len_bd S hSb
                    have hoc := hM.2.1.cell hlt
                    rw [hS] at hoc
                    have hlc := hM.cle S hSb
                    have hcc := hM.cco S hSb
                    have hfz := hM.1.frozen (257 + S)
                    obtain ⟨L, hL⟩ : ∃ L, len S = L := ⟨_, rfl⟩
                    rw [hL] at hcd hlc hLb
                    obtain ⟨m, hm⟩ : ∃ m, L - ah k = m := ⟨_, rfl⟩
                    rw [hm] at hcd
                    obtain ⟨hal, hpm, hcl⟩ := hcd
                    have hmm : (L : Int) - (ah k : Int) = (m : Int) := by omega
                    have hah : ah k ≤ 30 := by omega
                    generalize ah k = a at *
                    have hkk : decide ((k : Int) < 257) = true := by simp; omega
                    have hk0 : (0 : Int) ≤ (k : Int) := by omega
                    have hk1 : (k : Int) < 257 := by omega
                    have hS0 : (0 : Int) ≤ (S : Int) := by omega
                    have hS1 : (S : Int) < 257 := by omega
                    have hz0 : -1 ≤ z := by omega
                    have hm30 : m ≤ 30 := by omega
                    have hv : wrap64 (wrap64 (pc k : Int) * 2 ^ m) = (cd k : Int) := by
                      have h1 : 1 ≤ 2 ^ m := Nat.one_le_two_pow
                      have h2 : pc k ≤ pc k * 2 ^ m := Nat.le_mul_of_pos_right _ h1
                      have h3 : ((pc k * 2 ^ m : Nat) : Int) = (pc k : Int) * 2 ^ m := by simp
                      have h4 : wrap64 (pc k : Int) = (pc k : Int) := by unfold wrap64; omega
                      rw [h4, ← h3, hpm]
                      unfold wrap64
                      omega
                    have Hv := hide hv
                    have HM' : Hid (Mk w (wr.setCell ⟨B, 257 + S, none⟩ (.int .i64 (cd k : Int))) og B (b4 (k + 1)) (fun i => (ord i : Int)) (fun j => (bg j : Int))) :=
                      (HM.out.setCo S hSb (cd k : Int)).congr (b4_succ k hlt S hS) (fun _ _ => rfl) (fun _ _ => rfl)
                    have HA : Hid (ah (k + 1) = L) := by
                      show _ = _
                      unfold ah
                      rw [if_neg (by omega), Nat.add_sub_cancel, hS, hL]
                    have HP : Hid (pc (k + 1) = cd k + 1) := by
                      show _ = _
                      unfold pc
                      rw [if_neg (by omega), Nat.add_sub_cancel]
                    clear hM hS hL hv hpm
                    go_wp2_with fail
                    rw [Hv.out]
                    refine ⟨⟨k + 1, (cd k : Int), by omega, by go_num, rfl, by rw [HP.out]; omega, by rw [HA.out], HM'.out⟩, by simp [intOf]; omega⟩
                  · obtain rfl : k = 257 := by omega
                    clear hM
                    go_wp2_with fail
                    go_ret
                    exact ⟨B, og, rfl, HM.out.congr (fun i hi => by unfold b4; rw [if_pos (rnk_bd i hi).1]) (fun _ _ => rfl) (fun _ _ => rfl)⟩
  refine wp_region_held_drew (S := fun _ => True) (by kernel_rfl) trivial (fun _ => ?_)
  refine wpAnyH_ready (rs := [0, 1]) (by kernel_rfl) (by simp) ?_
  refine AllReadyH.cons rfl (fun K1 k1 => ?_) (AllReadyH.cons rfl (fun K1 k1 => ?_) AllReadyH.nil)
  · go_simp
    refine (lengths_any _).mono ?_
    rintro e w1 ⟨rfl, hb1⟩
    refine k1.out _ _ trivial fun _ => ?_
    refine wpAnyH_ready (rs := [1]) (by kernel_rfl) (by simp) ?_
    refine AllReadyH.cons rfl (fun K2 k2 => ?_) AllReadyH.nil
    refine step_run (v := .slice (some ⟨w1.heap.size, 0, none⟩) 257 257) (w' := w1.alloc (.cells (Array.replicate 257 (.int .i64 0)) 3)) rfl (by kernel_rfl) ?_
    refine k2.out _ _ trivial fun _ => ?_
    refine wpAnyH_ready (rs := [2]) (by kernel_rfl) (by simp) ?_
    refine AllReadyH.cons rfl (fun K3 k3 => ?_) AllReadyH.nil
    refine step_run (v := .agg ⟨bookL w1.heap.size⟩) (w' := w1.alloc (.cells (Array.replicate 257 (.int .i64 0)) 3)) rfl (by kernel_rfl) ?_
    refine k3.out _ _ trivial fun _ => ?_
    have hM := mk_new w _ w1.heap.size (Own.lit .i64 3 w.heap.size w1 (oneF 0) (Array.replicate 257 (.int .i64 0)) 257 (by have := hb1.size; exact this) (by simp [maxLen]) (by kernel_rfl)) (((Below.refl w.heap.size w).drew.trans hb1).alloc hb1.size _) (by simp)
    generalize bookL w1.heap.size = cs at *
    refine wpAnyH_ready (rs := [3]) (by kernel_rfl) (by simp) ?_
    refine AllReadyH.cons rfl (fun K4 k4 => ?_) AllReadyH.nil
    refine step_run (v := .pointer (some ⟨(w1.alloc (.cells (Array.replicate 257 (.int .i64 0)) 3)).heap.size, 0, none⟩)) (w' := (w1.alloc (.cells (Array.replicate 257 (.int .i64 0)) 3)).alloc (.cells ⟨cs⟩ 165)) rfl (by kernel_rfl) ?_
    refine k4.out _ _ trivial fun _ => ?_
    refine wpAnyH_ready (rs := [4]) (by kernel_rfl) (by simp) ?_
    refine AllReadyH.cons rfl (fun K5 k5 => ?_) AllReadyH.nil
    refine step_run (v := .pointer (some ⟨(w1.alloc (.cells (Array.replicate 257 (.int .i64 0)) 3)).heap.size, 0, none⟩)) (w' := (w1.alloc (.cells (Array.replicate 257 (.int .i64 0)) 3)).alloc (.cells ⟨cs⟩ 165)) rfl (by kernel_rfl) ?_
    refine k5.out _ _ trivial fun _ => ?_
    refine wpAnyH_done (by kernel_rfl) ?_ _
    exact key _ _ _ _ _ _ _ hM
  · refine step_run (v := .slice (some ⟨w.drew.heap.size, 0, none⟩) 257 257) (w' := w.drew.alloc (.cells (Array.replicate 257 (.int .i64 0)) 3)) rfl (by kernel_rfl) ?_
    refine k1.out _ _ trivial fun _ => ?_
    have Ho := Own.lit .i64 3 w.heap.size w.drew (oneF 0) (Array.replicate 257 (.int .i64 0)) 257 (Nat.le_refl _) (by simp [maxLen]) (by kernel_rfl)
    have hB : Below w.heap.size w (w.drew.alloc (.cells (Array.replicate 257 (.int .i64 0)) 3)) := (Below.refl w.heap.size w).drew.alloc (Nat.le_refl _) _
    have hlt : w.drew.heap.size < (w.drew.alloc (.cells (Array.replicate 257 (.int .i64 0)) 3)).heap.size := by simp
    generalize w.drew.alloc (.cells (Array.replicate 257 (.int .i64 0)) 3) = W1 at *
    refine wpAnyH_ready (rs := [0]) (by kernel_rfl) (by simp) ?_
    refine AllReadyH.cons rfl (fun K2 k2 => ?_) AllReadyH.nil
    go_simp
    refine (lengths_any _).mono ?_
    rintro e w1 ⟨rfl, hb1⟩
    refine k2.out _ _ trivial fun _ => ?_
    refine wpAnyH_ready (rs := [2]) (by kernel_rfl) (by simp) ?_
    refine AllReadyH.cons rfl (fun K3 k3 => ?_) AllReadyH.nil
    refine step_run (v := .agg ⟨bookL w.drew.heap.size⟩) (w' := w1) rfl (by kernel_rfl) ?_
    refine k3.out _ _ trivial fun _ => ?_
    have hM := mk_new w _ w.drew.heap.size (Ho.below hb1) (hB.of hb1) (Nat.lt_of_lt_of_le hlt hb1.size)
    generalize bookL w.drew.heap.size = cs at *
    refine wpAnyH_ready (rs := [3]) (by kernel_rfl) (by simp) ?_
    refine AllReadyH.cons rfl (fun K4 k4 => ?_) AllReadyH.nil
    refine step_run (v := .pointer (some ⟨w1.heap.size, 0, none⟩)) (w' := w1.alloc (.cells ⟨cs⟩ 165)) rfl (by kernel_rfl) ?_
    refine k4.out _ _ trivial fun _ => ?_
    refine wpAnyH_ready (rs := [4]) (by kernel_rfl) (by simp) ?_
    refine AllReadyH.cons rfl (fun K5 k5 => ?_) AllReadyH.nil
    refine step_run (v := .pointer (some ⟨w1.heap.size, 0, none⟩)) (w' := w1.alloc (.cells ⟨cs⟩ 165)) rfl (by kernel_rfl) ?_
    refine k5.out _ _ trivial fun _ => ?_
    refine wpAnyH_done (by kernel_rfl) ?_ _
    exact key _ _ _ _ _ _ _ hM
end

section
open Go.RowKit

/-- A book that was made. -/
def Book (W : World) (B : Nat) : Prop := ∃ og, Blk W B 165 547 (bookC lenI (fun s => (cd (rnk s) : Int)) og (fun j => (bg j : Int))) ∧ Rd .i64 W (some ⟨og, 0, none⟩) 257 257 (fun i => (ord i : Int))
theorem Book.below {W W' : World} {B : Nat} (h : Book W B) (hb : Below W.heap.size W W') : Book W' B := by
  obtain ⟨og, h1, h2⟩ := h
  exact ⟨og, h1.below hb, h2.below hb⟩
theorem mk_any (w : World) : Calls Tryd.prog 105 #[] w fun e w' => ∃ B, e = .returned (.pointer (some ⟨B, 0, none⟩)) ∧ Book w' B ∧ Below w.heap.size w w' :=
  (make_any w).mono fun e w' hh => by
    obtain ⟨B, og, he, hM⟩ := hh
    obtain ⟨A, c, e1, hr, _⟩ := hM.2.1.rd
    injection e1 with e1 _ e2
    subst e1
    subst e2
    exact ⟨B, he, ⟨og, hM.1, hr⟩, hM.2.2.1⟩
theorem Book.le {W : World} {B : Nat} (h : Book W B) (j : Nat) (hj : j < 257) : W.cell? ⟨B, j, none⟩ = some (.int .i64 (len j : Int)) := by
  obtain ⟨og, h1, _⟩ := h
  rw [h1.cell (j := j) (by omega)]
  simp [bookC, hj, lenI]
theorem Book.co {W : World} {B : Nat} (h : Book W B) (j : Nat) (hj : j < 257) : W.cell? ⟨B, 257 + j, none⟩ = some (.int .i64 (cd (rnk j) : Int)) := by
  obtain ⟨og, h1, _⟩ := h
  rw [h1.cell (j := 257 + j) (by omega)]
  have e1 : ¬ 257 + j < 257 := by omega
  have e2 : 257 + j < 514 := by omega
  simp [bookC, e1, e2]
theorem Book.lt {W : World} {B : Nat} (h : Book W B) : B < W.heap.size := by
  obtain ⟨og, h1, _⟩ := h
  exact h1.lt

/-- A symbol's code, and its length. -/
def codI (s : Int) : Int := if 0 ≤ s ∧ s < 257 then (cd (rnk s.toNat) : Int) else 0
def lnI (s : Int) : Int := if 0 ≤ s ∧ s < 257 then (len s.toNat : Int) else 0
def Coded (w : World) (x n : Int) (e : Ending) (w' : World) : Prop := e = .returned (.tuple #[.int .i64 x, .int .i64 n]) ∧ Drawn w w'
theorem code_none (s : Int) (w : World) : Calls Tryd.prog 113 #[.pointer none, .int .i64 s] w (Coded w 0 0) := by
  go_enter Tryd.func113, Tryd.ntmps113
  go_wp2_with fail
  go_ret2
  exact ⟨rfl, Drawn.refl _⟩
theorem code_out (B : Nat) (s : Int) (w : World) (h : ¬ (0 ≤ s ∧ s < 257)) : Calls Tryd.prog 113 #[.pointer (some ⟨B, 0, none⟩), .int .i64 s] w (Coded w 0 0) := by
  by_cases h0 : s < 0
  · have d0 : decide (s < 0) = true := by simpa using h0
    go_enter Tryd.func113, Tryd.ntmps113
    go_wp2_with fail
    go_ret2
    exact ⟨rfl, Drawn.refl _⟩
  · have d0 : decide (s < 0) = false := by simpa using h0
    have d1 : decide (257 ≤ s) = true := by simp; omega
    go_enter Tryd.func113, Tryd.ntmps113
    go_wp2_with fail
    go_ret2
    exact ⟨rfl, Drawn.refl _⟩
theorem code_at (B S : Nat) (hS : S < 257) (x n : Int) (w : World) (hB : B < w.heap.size) (h1 : w.cell? ⟨B, 257 + S, none⟩ = some (.int .i64 x)) (h2 : w.cell? ⟨B, S, none⟩ = some (.int .i64 n)) : Calls Tryd.prog 113 #[.pointer (some ⟨B, 0, none⟩), .int .i64 (S : Int)] w (Coded w x n) := by
  have d0 : decide ((S : Int) < 0) = false := by simp
  have d1 : decide (257 ≤ (S : Int)) = false := by simp; omega
  have hS0 : (0 : Int) ≤ (S : Int) := by omega
  have hS1 : (S : Int) < 257 := by omega
  go_enter Tryd.func113, Tryd.ntmps113
  go_wp2_with fail
  go_quiet (fail)
  go_wp2_with fail
  go_ret2
  exact ⟨rfl, Drawn.of _ _⟩
theorem code_any (B : Nat) (s : Int) (w : World) (h : Book w B) : Calls Tryd.prog 113 #[.pointer (some ⟨B, 0, none⟩), .int .i64 s] w (Coded w (codI s) (lnI s)) := by
  by_cases hs : 0 ≤ s ∧ s < 257
  · obtain ⟨S, rfl⟩ := Int.eq_ofNat_of_zero_le hs.1
    have hS : S < 257 := by omega
    unfold codI lnI
    rw [if_pos hs, if_pos hs]
    exact code_at B S hS _ _ w h.lt (h.co S hS) (h.le S hS)
  · unfold codI lnI
    rw [if_neg hs, if_neg hs]
    exact code_out B s w hs
theorem cod97 : codI 97 = 3 ∧ lnI 97 = 5 := by decide +kernel
theorem cod32 : codI 32 = 20 ∧ lnI 32 = 6 := by decide +kernel
theorem cod256 : codI 256 = 1073741823 ∧ lnI 256 = 30 := by decide +kernel
theorem cod48 : lnI 48 = 5 := by decide +kernel
end

section
open Go.RowKit

/-- How many numbers of thirty bits a code begins. -/
def wd (i : Nat) : Nat := 2 ^ (30 - len (ord i))
theorem wd_pos (i : Nat) : 0 < wd i := Nat.pow_pos (by omega)
theorem st_next : ∀ i, i < 256 → st (i + 1) = st i + wd i := st_succ
theorem st_le (i : Nat) : ∀ d, i + d < 257 → st i ≤ st (i + d) := by
  intro d
  induction d with
  | zero => intro _; exact Nat.le_refl _
  | succ d ih =>
    intro h
    have h1 := ih (by omega)
    have h2 := st_next (i + d) (by omega)
    rw [← Nat.add_assoc, h2]
    omega
theorem st_lt {i j : Nat} (h : i < j) (hj : j < 257) : st i + wd i ≤ st j := by
  have h1 := st_next i (by omega)
  have h2 := st_le (i + 1) (j - (i + 1)) (by omega)
  rw [show i + 1 + (j - (i + 1)) = j by omega] at h2
  omega
theorem st_find (v : Nat) : ∀ n, n < 257 → v < st n + wd n → ∃ i, i ≤ n ∧ st i ≤ v ∧ v < st i + wd i := by
  intro n
  induction n with
  | zero => exact fun _ h => ⟨0, Nat.le_refl _, by rw [st_zero]; omega, h⟩
  | succ n ih =>
    intro hn h
    by_cases hlt : v < st n + wd n
    · obtain ⟨i, hi, h1, h2⟩ := ih (by omega) hlt
      exact ⟨i, by omega, h1, h2⟩
    · have := st_next n (by omega)
      exact ⟨n + 1, Nat.le_refl _, by omega, h⟩
theorem div_code (v P c : Nat) (hP : 0 < P) : v / P = c ↔ c * P ≤ v ∧ v < c * P + P := by
  constructor
  · rintro rfl
    have h1 := Nat.div_mul_le_self v P
    have h2 := Nat.lt_div_mul_add (a := v) hP
    exact ⟨h1, h2⟩
  · rintro ⟨h1, h2⟩
    refine Nat.le_antisymm ?_ ?_
    · have h3 : v < (c + 1) * P := by rw [Nat.add_mul, Nat.one_mul]; exact h2
      have := (Nat.div_lt_iff_lt_mul hP).2 h3
      omega
    · exact (Nat.le_div_iff_mul_le hP).2 h1
/-- The one symbol whose code begins the bits. -/
theorem one_code (v : Nat) (hv : v < 1073741824) : ∃ t, t < 257 ∧ ∀ s, s < 257 → (v / 2 ^ (30 - len s) = cd (rnk s) ↔ s = t) := by
  obtain ⟨i, hi, h1, h2⟩ := st_find v 256 (by omega) (by unfold wd; rw [st_end]; exact hv)
  have hoi := ord_bd i (by omega)
  refine ⟨ord i, hoi.1, fun s hs => ?_⟩
  have hr := rnk_bd s hs
  have e : v / 2 ^ (30 - len s) = cd (rnk s) ↔ st (rnk s) ≤ v ∧ v < st (rnk s) + wd (rnk s) := by
    unfold st wd
    rw [hr.2]
    exact div_code v _ _ (Nat.pow_pos (by omega))
  rw [e]
  constructor
  · rintro ⟨h3, h4⟩
    have : rnk s = i := by
      rcases Nat.lt_trichotomy (rnk s) i with h | h | h
      · have := st_lt h (by omega)
        omega
      · exact h
      · have := st_lt h hr.1
        omega
    rw [← this, hr.2]
  · rintro rfl
    rw [hoi.2]
    exact ⟨h1, h2⟩

/-- How many of the first k symbols it is. -/
def mn (t k : Nat) : Int := if t < k then 1 else 0
end
end Go.Proofs.YtnkcbljhgcgpaaaDoor
