/- Layer 9: faults are sorted (the library's sort at pairs). -/
import Derived.Test.YtbkdegjkjjdcdaaDoorFa1
import Derived.Test.YtbkdegjkjjdcdaaDoorShls
namespace Go.Proofs.YtbkdegjkjjdcdaaDoor
set_option linter.unusedVariables false
set_option linter.unusedSimpArgs false
open Go Go.RowKit Go.PlainAid
open Go.Sort (flatK get_flatK size_flatK HoldsK putRowK)

def encF (x : Int × Int) : List Value := [.int .i64 x.1, .int .i64 x.2]
def cfF (x y : Int × Int) : Int := cmpF x.1 x.2 y.1 y.2
/-- One stands ahead of another one. -/
def LtP (x y : Int × Int) : Prop := x.1 < y.1 ∨ (x.1 = y.1 ∧ x.2 < y.2)
instance (x y : Int × Int) : Decidable (LtP x y) := by unfold LtP; exact inferInstance
theorem cmpF_neg (a0 a1 b0 b1 : Int) : cmpF a0 a1 b0 b1 < 0 ↔ LtP (a0, a1) (b0, b1) := by
  unfold cmpF orI Lib.compareInt LtP
  by_cases h1 : a0 < b0
  · simp [h1]
  · by_cases h2 : a0 > b0
    · have : ¬ a0 = b0 := by omega
      simp [h1, h2, this]
    · have : a0 = b0 := by omega
      subst this
      by_cases h3 : a1 < b1
      · simp [h3]
      · by_cases h4 : a1 > b1 <;> simp [h3, h4]
theorem ltF_iff (x y : Int × Int) : ltOf cfF x y = decide (LtP x y) := by
  unfold ltOf cfF
  by_cases h : LtP x y
  · rw [decide_eq_true h, decide_eq_true ((cmpF_neg _ _ _ _).2 h)]
  · rw [decide_eq_false h, decide_eq_false (fun k => h ((cmpF_neg _ _ _ _).1 k))]
theorem swoF : Sort.SWO (ltOf cfF) where
  irrefl x := by rw [ltF_iff]; exact decide_eq_false (by unfold LtP; omega)
  trans x y z h1 h2 := by
    rw [ltF_iff] at *
    have a := of_decide_eq_true h1
    have b := of_decide_eq_true h2
    exact decide_eq_true (by unfold LtP at *; omega)
  ntrans x y z h1 h2 := by
    rw [ltF_iff] at *
    have a := of_decide_eq_false h1
    have b := of_decide_eq_false h2
    exact decide_eq_false (by unfold LtP at *; omega)
def arrF (n : Nat) (f g : Nat → Int) : Array (Int × Int) := (Array.range n).map fun i => (f i, g i)
theorem arrF_size (n : Nat) (f g : Nat → Int) : (arrF n f g).size = n := by simp [arrF]
theorem arrF_get (n : Nat) (f g : Nat → Int) (i : Nat) (h : i < n) : (arrF n f g)[i]! = (f i, g i) := by simp [arrF, h]
theorem flatF_get (n : Nat) (d : Array (Int × Int)) (hd : d.size = n) (t : Nat) (h : t < n * 2) : (flatK encF 2 d)[t]! = pr (fun i => d[i]!.1) (fun i => d[i]!.2) t := by
  rw [get_flatK _ _ _ _ (by omega)]
  unfold pr encF
  by_cases h2 : t % 2 = 0
  · rw [h2, if_pos rfl]
    rfl
  · have : t % 2 = 1 := by omega
    rw [this, if_neg (by decide)]
    rfl
theorem own_holds {B : Nat} {w : World} {b n c : Nat} {f g : Nat → Int} (h : OwnV 2 31 B w (.slice (some ⟨b, 0, none⟩) n c) n (pr f g)) :
    HoldsK encF 2 w b 0 (arrF n f g) ∧ b < w.heap.size ∧ B ≤ b ∧ n ≤ c ∧ c ≤ maxLen ∧ ∃ cur, w.heap[b]? = some (.cells cur 31 (0, 0)) ∧ cur.size = c * 2 := by
  unfold OwnV World.ownsRow at h
  obtain ⟨_, ⟨h, _⟩ | ⟨q, cap, cur, hv, hB, hg, hnc, hc, hs, ht⟩⟩ := h
  · cases h
  · simp only [Value.slice.injEq, Option.some.injEq, Addr.mk.injEq] at hv
    obtain ⟨⟨rfl, _⟩, _, rfl⟩ := hv
    have hlt : b < w.heap.size := by
      have := Array.getElem?_eq_some_iff.1 hg
      exact this.1
    refine ⟨fun j hj => ?_, hlt, hB, hnc, hc, cur, hg, hs⟩
    rw [size_flatK, arrF_size] at hj
    have e1 : cur[j]? = some (pr f g j) := by
      have h1 : (cur.toList.take (n * 2))[j]? = some (pr f g j) := by rw [ht]; exact rowV_get _ _ _ hj
      rw [List.getElem?_take_of_lt hj] at h1
      simpa using h1
    have e2 : (flatK encF 2 (arrF n f g))[j]! = pr f g j := by
      rw [flatF_get n _ (arrF_size n f g) j hj]
      have hi : j / 2 < n := by omega
      unfold pr
      simp only [arrF_get n f g _ hi]
    refine ⟨?_, ?_⟩
    · unfold World.cell?
      simp only [hg, Nat.zero_add]
      rw [e2, id, ← e1]
      simp
    · unfold World.frozen?
      simp [hg]
theorem sorted_own {B : Nat} {w : World} {b n c m : Nat} {os : Array Obj} {cur : Array Value} (d : Array (Int × Int)) (hd : d.size = n) (hb : b < w.heap.size) (hB : B ≤ b) (hnc : n ≤ c) (hc : c ≤ maxLen) (hg : w.heap[b]? = some (.cells cur 31 (0, 0))) (hs : cur.size = c * 2) :
    OwnV 2 31 B (sortWorldK encF 2 w b 0 m d os) (.slice (some ⟨b, 0, none⟩) n c) n (pr (fun i => d[i]!.1) (fun i => d[i]!.2)) ∧ Below B w (sortWorldK encF 2 w b 0 m d os) := by
  have hh : (sortWorldK encF 2 w b 0 m d os).heap[b]? = some (.cells (Sort.putCells id 0 (flatK encF 2 d) cur) 31 (0, 0)) := by
    unfold sortWorldK putRowK
    rw [Sort.heap_grow_old _ _ (by simpa using hb)]
    simp [Sort.putRow, Sort.mapBlock, Array.getElem?_modify, hg, Sort.onCells]
  refine ⟨?_, ?_⟩
  · unfold OwnV World.ownsRow
    refine ⟨rowV_len _ _, .inr ⟨b, c, _, rfl, hB, hh, hnc, hc, by simp [Sort.putCells, hs], ?_⟩⟩
    apply List.ext_getElem?
    intro t
    by_cases h : t < n * 2
    · rw [List.getElem?_take_of_lt h, rowV_get _ _ _ h, ← flatF_get n d hd t h]
      have h3 : t < cur.size := by rw [hs]; have := Nat.mul_le_mul_right 2 hnc; omega
      have h4 : t < (flatK encF 2 d).size := by rw [size_flatK, hd]; exact h
      simp [Sort.putCells, h3, h4]
      intro h5
      omega
    · rw [List.getElem?_eq_none (by rw [List.length_take]; omega), List.getElem?_eq_none (by rw [rowV_len]; omega)]
  · refine ⟨rfl, rfl, rfl, ?_, fun k hk => ?_⟩
    · unfold sortWorldK putRowK
      simp
    · unfold sortWorldK putRowK
      rw [Sort.heap_grow_old _ _ (by simp; omega)]
      simp [Sort.putRow, Sort.mapBlock, Array.getElem?_modify, show ¬ b = k by omega]
/-- The pairs of a row. -/
def lsF (n : Nat) (f g : Nat → Int) : List (Int × Int) := (List.range n).map fun i => (f i, g i)
theorem lsF_len (n : Nat) (f g : Nat → Int) : (lsF n f g).length = n := by simp [lsF]
theorem lsF_get (n : Nat) (f g : Nat → Int) (i : Nat) (h : i < n) : (lsF n f g)[i]? = some (f i, g i) := by simp [lsF, h]
theorem arrF_list (n : Nat) (f g : Nat → Int) : (arrF n f g).toList = lsF n f g := by simp [arrF, lsF]
theorem lsF_arr (n : Nat) (d : Array (Int × Int)) (h : d.size = n) : lsF n (fun i => d[i]!.1) (fun i => d[i]!.2) = d.toList := by
  apply List.ext_getElem?
  intro i
  by_cases hi : i < n
  · rw [lsF_get _ _ _ _ hi]
    have : i < d.size := by omega
    simp [this]
  · rw [List.getElem?_eq_none (by rw [lsF_len]; omega), List.getElem?_eq_none (by simp; omega)]
theorem sort09 {B : Nat} (v : Value) (n : Nat) (f g : Nat → Int) (w : World) (h : OwnV 2 31 B w v n (pr f g)) (hn : n < 4611686018427387904) :
    Calls Tryd.prog 43 #[v, .func (.func 44) #[] #[]] w fun e w' => e = .returned (.tuple #[]) ∧ ∃ f' g', OwnV 2 31 B w' v n (pr f' g') ∧ (lsF n f' g').Perm (lsF n f g) ∧ (∀ i j, i < j → j < n → ¬ LtP (f' j, g' j) (f' i, g' i)) ∧ Below B w w' := by
  have h0 := h
  unfold OwnV World.ownsRow at h0
  obtain ⟨_, ⟨rfl, rfl⟩ | ⟨b, c, cur, rfl, _⟩⟩ := h0
  · refine (AnyF.slices_SortFunc_none Tryd.sortF none 0 _ w).mono ?_
    rintro e w' ⟨rfl, rfl⟩
    exact ⟨rfl, f, g, h, List.Perm.refl _, fun i j _ hj => absurd hj (by omega), Below.refl _ _⟩
  · obtain ⟨hH, hlt, hB, hnc, hc, cur, hg, hs⟩ := own_holds h
    have eg : ∀ args w, (callFunc 44 args).run Tryd.prog w = .ok (.enter 44 args) w := enters_of Tryd.func44 (by kernel_rfl) rfl
    have hl : CmpLays Tryd.prog 44 #[] encF 2 cfF b 0 (arrF n f g).size w := fun _ _ _ _ x y => compare09 x.1 x.2 y.1 y.2 _
    have hcon := AnyQ.slices_SortFunc Tryd.sortF 2 Tryd.isAgg31 Tryd.sizeOf31 encF (fun _ => rfl) (fun x v hv => by simp [encF] at hv; rcases hv with rfl | rfl <;> rfl) cfF swoF 44 #[] b 0 c (arrF n f g) w eg hl hH hlt (by rw [arrF_size]; exact hn)
    rw [arrF_size] at hcon
    refine Calls.mono hcon ?_
    rintro e w' ⟨rfl, d, m, os, hp, hso, rfl⟩
    have hd : d.size = n := by rw [hp.1, arrF_size]
    obtain ⟨h1, h2⟩ := sorted_own (m := m) (os := os) d hd hlt hB hnc hc hg hs
    refine ⟨rfl, _, _, h1, ?_, fun i j hij hj k => ?_, h2⟩
    · have h3 := hp.2.2
      rw [lsF_arr n d hd, ← arrF_list]
      have e1 : d.extract 0 n = d := by rw [← hd]; simp
      have e2 : (arrF n f g).extract 0 n = arrF n f g := by simp [Array.extract_eq_self_of_le, arrF_size]
      rw [e1, e2] at h3
      exact h3
    · have h3 := hso i j (Nat.zero_le _) hij hj
      rw [ltF_iff] at h3
      exact absurd k (of_decide_eq_false h3)
end Go.Proofs.YtbkdegjkjjdcdaaDoor
