/- Layer 16: tables and what is true of them (by reckoning), and blocks told by a function. -/
import Derived.Test.YteijpklepgenbaaCb1
import Derived.Test.YteijpklepgenbaaVal
namespace Go.Proofs.Yteijpklepgenbaa
open Go.RowKit

/-! ### blocks -/
/-- Block b holds the n cells C 0 .. C (n-1), and none is frozen. -/
def Blk (w : World) (b : Nat) (T : TypeId) (n : Nat) (C : Nat → Value) : Prop := w.heap[b]? = some (.cells ⟨rowV n C⟩ T (0, 0))
section
variable {w w' : World} {b : Nat} {T : TypeId} {n : Nat} {C : Nat → Value}
theorem Blk.cell (h : Blk w b T n C) {j : Nat} (hj : j < n) : w.cell? ⟨b, j, none⟩ = some (C j) := by
  rw [cell_of_row w b j _ _ _ h]
  simpa using rowV_get n C j hj
theorem Blk.frozen (h : Blk w b T n C) (j : Nat) : w.frozen? ⟨b, j, none⟩ = false := frozen_of_row w b j _ _ h
theorem Blk.lt (h : Blk w b T n C) : b < w.heap.size := (Array.getElem?_eq_some_iff.1 h).1
theorem Blk.below (h : Blk w b T n C) (hb : Below w.heap.size w w') : Blk w' b T n C := keepRow h hb
theorem Blk.alloc (h : Blk w b T n C) (o : Obj) : Blk (w.alloc o) b T n C := h.below ((Below.refl _ _).alloc (Nat.le_refl _) _)
theorem Blk.drew (h : Blk w b T n C) : Blk w.drew b T n C := h
theorem Blk.drewN (h : Blk w b T n C) (k : Nat) : Blk (w.drewN k) b T n C := h
theorem Blk.set (h : Blk w b T n C) (j : Nat) (u : Value) : Blk (w.setCell ⟨b, j, none⟩ u) b T n (setV C j u) := by
  have h1 := heap_setCell_same w b j _ T u h
  unfold Blk
  rw [h1, ← rowV_set]
  simp
theorem Blk.other (h : Blk w b T n C) (p : Addr) (u : Value) (hne : b ≠ p.block) : Blk (w.setCell p u) b T n C := (Below.heap_setCell w p u b hne).trans h
theorem Blk.congr {C' : Nat → Value} (h : Blk w b T n C) (e : ∀ i, i < n → C i = C' i) : Blk w b T n C' := by
  unfold Blk at *
  rw [← rowV_congr e]
  exact h
theorem Blk.new (w : World) (cs : Array Value) (T : TypeId) (C : Nat → Value) (h : cs = ⟨rowV n C⟩) : Blk (w.alloc (.cells cs T)) w.heap.size T n C := by
  subst h
  exact heap_alloc_new w _
theorem Blk.range (h : Blk w b T n C) (o m : Nat) (hm : o + m ≤ n) : w.rangeAt b o (rowV m (fun i => C (o + i))) := fun j v hv => by
  obtain ⟨hj, rfl⟩ := rowV_get_some hv
  exact h.cell (by omega)
end

/-! ### tables -/
/-- The symbols by their codes' lengths. -/
def ordL : List Nat := [48, 49, 50, 97, 99, 101, 105, 111, 115, 116, 32, 37, 45, 46, 47, 51,
  52, 53, 54, 55, 56, 57, 61, 65, 95, 98, 100, 102, 103, 104, 108, 109,
  110, 112, 114, 117, 58, 66, 67, 68, 69, 70, 71, 72, 73, 74, 75, 76,
  77, 78, 79, 80, 81, 82, 83, 84, 85, 86, 87, 89, 106, 107, 113, 118,
  119, 120, 121, 122, 38, 42, 44, 59, 88, 90, 33, 34, 40, 41, 63, 39,
  43, 124, 35, 62, 0, 36, 64, 91, 93, 126, 94, 125, 60, 96, 123, 92,
  195, 208, 128, 130, 131, 162, 184, 194, 224, 226, 153, 161, 167, 172, 176, 177,
  179, 209, 216, 217, 227, 229, 230, 129, 132, 133, 134, 136, 146, 154, 156, 160,
  163, 164, 169, 170, 173, 178, 181, 185, 186, 187, 189, 190, 196, 198, 228, 232,
  233, 1, 135, 137, 138, 139, 140, 141, 143, 147, 149, 150, 151, 152, 155, 157,
  158, 165, 166, 168, 174, 175, 180, 182, 183, 188, 191, 197, 231, 239, 9, 142,
  144, 145, 148, 159, 171, 206, 215, 225, 236, 237, 199, 207, 234, 235, 192, 193,
  200, 201, 202, 205, 210, 213, 218, 219, 238, 240, 242, 243, 255, 203, 204, 211,
  212, 214, 221, 222, 223, 241, 244, 245, 246, 247, 248, 250, 251, 252, 253, 254,
  2, 3, 4, 5, 6, 7, 8, 11, 12, 14, 15, 16, 17, 18, 19, 20,
  21, 23, 24, 25, 26, 27, 28, 29, 30, 31, 127, 220, 249, 10, 13, 22,
  256]
/-- A symbol's place among them. -/
def rnkL : List Nat := [84, 145, 224, 225, 226, 227, 228, 229, 230, 174, 253, 231, 232, 254, 233, 234,
  235, 236, 237, 238, 239, 240, 255, 241, 242, 243, 244, 245, 246, 247, 248, 249,
  10, 74, 75, 82, 85, 11, 68, 79, 76, 77, 69, 80, 70, 12, 13, 14,
  0, 1, 2, 15, 16, 17, 18, 19, 20, 21, 36, 71, 92, 22, 83, 78,
  86, 23, 37, 38, 39, 40, 41, 42, 43, 44, 45, 46, 47, 48, 49, 50,
  51, 52, 53, 54, 55, 56, 57, 58, 72, 59, 73, 87, 95, 88, 90, 24,
  93, 3, 25, 4, 26, 5, 27, 28, 29, 6, 60, 61, 30, 31, 32, 7,
  33, 62, 34, 8, 9, 35, 63, 64, 65, 66, 67, 94, 81, 91, 89, 250,
  98, 119, 99, 100, 120, 121, 122, 146, 123, 147, 148, 149, 150, 151, 175, 152,
  176, 177, 124, 153, 178, 154, 155, 156, 157, 106, 125, 158, 126, 159, 160, 179,
  127, 107, 101, 128, 129, 161, 162, 108, 163, 130, 131, 180, 109, 132, 164, 165,
  110, 111, 133, 112, 166, 134, 167, 168, 102, 135, 136, 137, 169, 138, 139, 170,
  190, 191, 103, 96, 140, 171, 141, 186, 192, 193, 194, 205, 206, 195, 181, 187,
  97, 113, 196, 207, 208, 197, 209, 182, 114, 115, 198, 199, 251, 210, 211, 212,
  104, 183, 105, 116, 142, 117, 118, 172, 143, 144, 188, 189, 184, 185, 200, 173,
  201, 213, 202, 203, 214, 215, 216, 217, 218, 252, 219, 220, 221, 222, 223, 204,
  256]
/-- The codes, by place. -/
def cdL : List Nat := [0, 1, 2, 3, 4, 5, 6, 7, 8, 9, 20, 21, 22, 23, 24, 25,
  26, 27, 28, 29, 30, 31, 32, 33, 34, 35, 36, 37, 38, 39, 40, 41,
  42, 43, 44, 45, 92, 93, 94, 95, 96, 97, 98, 99, 100, 101, 102, 103,
  104, 105, 106, 107, 108, 109, 110, 111, 112, 113, 114, 115, 116, 117, 118, 119,
  120, 121, 122, 123, 248, 249, 250, 251, 252, 253, 1016, 1017, 1018, 1019, 1020, 2042,
  2043, 2044, 4090, 4091, 8184, 8185, 8186, 8187, 8188, 8189, 16380, 16381, 32764, 32765, 32766, 524272,
  524273, 524274, 1048550, 1048551, 1048552, 1048553, 1048554, 1048555, 1048556, 1048557, 2097116, 2097117, 2097118, 2097119, 2097120, 2097121,
  2097122, 2097123, 2097124, 2097125, 2097126, 2097127, 2097128, 4194258, 4194259, 4194260, 4194261, 4194262, 4194263, 4194264, 4194265, 4194266,
  4194267, 4194268, 4194269, 4194270, 4194271, 4194272, 4194273, 4194274, 4194275, 4194276, 4194277, 4194278, 4194279, 4194280, 4194281, 4194282,
  4194283, 8388568, 8388569, 8388570, 8388571, 8388572, 8388573, 8388574, 8388575, 8388576, 8388577, 8388578, 8388579, 8388580, 8388581, 8388582,
  8388583, 8388584, 8388585, 8388586, 8388587, 8388588, 8388589, 8388590, 8388591, 8388592, 8388593, 8388594, 8388595, 8388596, 16777194, 16777195,
  16777196, 16777197, 16777198, 16777199, 16777200, 16777201, 16777202, 16777203, 16777204, 16777205, 33554412, 33554413, 33554414, 33554415, 67108832, 67108833,
  67108834, 67108835, 67108836, 67108837, 67108838, 67108839, 67108840, 67108841, 67108842, 67108843, 67108844, 67108845, 67108846, 134217694, 134217695, 134217696,
  134217697, 134217698, 134217699, 134217700, 134217701, 134217702, 134217703, 134217704, 134217705, 134217706, 134217707, 134217708, 134217709, 134217710, 134217711, 134217712,
  268435426, 268435427, 268435428, 268435429, 268435430, 268435431, 268435432, 268435433, 268435434, 268435435, 268435436, 268435437, 268435438, 268435439, 268435440, 268435441,
  268435442, 268435443, 268435444, 268435445, 268435446, 268435447, 268435448, 268435449, 268435450, 268435451, 268435452, 268435453, 268435454, 1073741820, 1073741821, 1073741822,
  1073741823]
/-- How many symbols have a code shorter than so many bits. -/
def bgL : List Nat := [0, 0, 0, 0, 0, 0, 10, 36, 68, 74, 74, 79, 82, 84, 90, 92,
  95, 95, 95, 95, 98, 106, 119, 145, 174, 186, 190, 205, 224, 253, 253, 257]
def ord (i : Nat) : Nat := ordL.getD i 0
def rnk (s : Nat) : Nat := rnkL.getD s 0
def cd (i : Nat) : Nat := cdL.getD i 0
def bg (j : Nat) : Nat := bgL.getD j 0
/-- How many of the first k symbols have a code of so many bits. -/
def cnt (n k : Nat) : Nat := (lenL.take k).count n
theorem all_lt {n : Nat} {p : Nat → Bool} (h : (List.range n).all p = true) : ∀ i, i < n → p i = true := fun i hi => List.all_eq_true.1 h i (List.mem_range.2 hi)
theorem len_bd : ∀ s, s < 257 → 5 ≤ len s ∧ len s ≤ 30 := fun s hs => by
  have h := all_lt (p := fun s => decide (5 ≤ len s ∧ len s ≤ 30)) (by decide +kernel) s hs
  simpa using h
theorem ord_bd : ∀ i, i < 257 → ord i < 257 ∧ rnk (ord i) = i := fun i hi => by
  have h := all_lt (p := fun i => decide (ord i < 257 ∧ rnk (ord i) = i)) (by decide +kernel) i hi
  simpa using h
theorem rnk_bd : ∀ s, s < 257 → rnk s < 257 ∧ ord (rnk s) = s := fun s hs => by
  have h := all_lt (p := fun i => decide (rnk i < 257 ∧ ord (rnk i) = i)) (by decide +kernel) s hs
  simpa using h
theorem place_of : ∀ s, s < 257 → bg (len s) + cnt (len s) s = rnk s := fun s hs => by
  have h := all_lt (p := fun s => decide (bg (len s) + cnt (len s) s = rnk s)) (by decide +kernel) s hs
  simpa using h
theorem bg_succ : ∀ j, j < 31 → bg (j + 1) = bg j + cnt j 257 := fun j hj => by
  have h := all_lt (p := fun j => decide (bg (j + 1) = bg j + cnt j 257)) (by decide +kernel) j hj
  simpa using h
theorem bg_bd : ∀ j, j < 32 → bg j ≤ 257 := fun j hj => by
  have h := all_lt (p := fun j => decide (bg j ≤ 257)) (by decide +kernel) j hj
  simpa using h
/-- The code ahead and one more; its length. -/
def pc (i : Nat) : Nat := if i = 0 then 0 else cd (i - 1) + 1
def ah (i : Nat) : Nat := if i = 0 then 0 else len (ord (i - 1))
theorem cd_of : ∀ i, i < 257 → ah i ≤ len (ord i) ∧ pc i * 2 ^ (len (ord i) - ah i) = cd i ∧ cd i < 1073741824 := fun i hi => by
  have h := all_lt (p := fun i => decide (ah i ≤ len (ord i) ∧ pc i * 2 ^ (len (ord i) - ah i) = cd i ∧ cd i < 1073741824)) (by decide +kernel) i hi
  simpa using h
/-- Where a code's bits begin among all numbers of thirty bits. -/
def st (i : Nat) : Nat := cd i * 2 ^ (30 - len (ord i))
theorem st_succ : ∀ i, i < 256 → st (i + 1) = st i + 2 ^ (30 - len (ord i)) := fun i hi => by
  have h := all_lt (p := fun i => decide (st (i + 1) = st i + 2 ^ (30 - len (ord i)))) (by decide +kernel) i hi
  simpa using h
theorem st_zero : st 0 = 0 := by decide +kernel
theorem st_end : st 256 + 2 ^ (30 - len (ord 256)) = 1073741824 := by decide +kernel
theorem cnt_succ (n k : Nat) (hk : k < 257) : cnt n (k + 1) = cnt n k + if len k = n then 1 else 0 := by
  unfold cnt
  have hl : lenL.length = 257 := by decide +kernel
  have e : lenL.take (k + 1) = lenL.take k ++ [len k] := by
    rw [List.take_succ_eq_append_getElem (by omega)]
    unfold len
    rw [List.getD_eq_getElem?_getD, List.getElem?_eq_getElem (by omega), Option.getD_some]
  rw [e, List.count_append]
  by_cases h : len k = n
  · simp [h]
  · simp [h]
theorem cnt_zero (n : Nat) : cnt n 0 = 0 := by simp [cnt]
theorem cnt_le (n k : Nat) (hk : k ≤ 257) : cnt n k ≤ k := by
  unfold cnt
  refine Nat.le_trans (List.count_le_length) ?_
  simp
  omega
end Go.Proofs.Yteijpklepgenbaa
