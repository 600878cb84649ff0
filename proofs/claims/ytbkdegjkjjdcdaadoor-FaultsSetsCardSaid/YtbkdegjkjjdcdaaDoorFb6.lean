/- Layer 9: the set of all of two lists. -/
import Derived.Test.YtbkdegjkjjdcdaaDoorFb5
namespace Go.Proofs.YtbkdegjkjjdcdaaDoor
set_option linter.unusedVariables false
set_option linter.unusedSimpArgs false
open Go.RowKit Go.PlainAid

theorem lsF_cat (n m : Nat) (f g p r : Nat → Int) : lsF (n + m) (catF n f p) (catF n g r) = lsF n f g ++ lsF m p r := by
  apply List.ext_getElem?
  intro i
  by_cases h : i < n
  · rw [List.getElem?_append_left (by rw [lsF_len]; exact h), lsF_get _ _ _ _ h, lsF_get _ _ _ _ (by omega)]
    simp [catF, h]
  · rw [List.getElem?_append_right (by rw [lsF_len]; omega), lsF_len]
    by_cases h2 : i < n + m
    · rw [lsF_get _ _ _ _ h2, lsF_get _ _ _ _ (by omega)]
      simp [catF, h]
    · rw [List.getElem?_eq_none (by rw [lsF_len]; omega), List.getElem?_eq_none (by rw [lsF_len]; omega)]
set_option maxRecDepth 20000 in
set_option maxHeartbeats 1600000 in
theorem union09 (A C : Option Addr) (n c m d : Nat) (f g p r : Nat → Int) (w : World) (ha : Rd2 w A n c f g) (hb : Rd2 w C m d p r) (hnm : n + m ≤ 100000) :
    Calls Tryd.prog 19 #[.slice A n c, .slice C m d] w (SetE (lsF n f g ++ lsF m p r) w) := by
  have b0 : Below w.heap.size w (w.alloc (.cells #[.slice A n c, .slice C m d] 29)) := (Below.refl _ _).alloc (Nat.le_refl _) _
  obtain ⟨c0, c1⟩ := row2 (heap_alloc_new w (.cells #[.slice A n c, .slice C m d] 29))
  have K := hide (concat09 w.heap.size A C n c m d f g p r _ c0 c1 (ha.below b0) (hb.below b0) hnm)
  have B0 := hide b0
  clear ha hb b0 c0 c1
  go_enter Tryd.func19, Tryd.ntmps19
  go_wp2_with fail
  refine K.out.mono ?_
  rintro e w1 ⟨A1, c1, rfl, hr1, hb1⟩
  have HR1 := hide hr1
  have HB1 := hide (B0.out.of hb1)
  have hs1 := HB1.out.size
  clear hr1 hb1 K
  go_wp2_with fail
  refine (ofG09 A1 (n + m) c1 _ _ _ HR1.out hnm).mono ?_
  rintro e w2 ⟨A2, q, c2, f2, g2, rfl, hr2, hl2, hz2, hb2⟩
  have HR2 := hide hr2
  rw [lsF_cat] at hl2
  have HL2 := hide hl2
  have HZ2 : Hid (∀ a, A2 = some a → w.heap.size ≤ a.block) := fun a e => Nat.le_trans hs1 (hz2 a e)
  have HB2 := hide (HB1.out.of hb2)
  clear hr2 hl2 hz2 hb2
  go_wp2_with fail
  go_ret
  exact ⟨A2, q, c2, f2, g2, rfl, HR2.out, HL2.out, HZ2.out, HB2.out⟩
theorem setL_comm (L M : List (Int × Int)) : setL (L ++ M) = setL (M ++ L) :=
  strict_ext _ _ (setL_up _) (setL_up _) (fun p => by rw [setL_mem, setL_mem, List.mem_append, List.mem_append]; exact ⟨fun h => ⟨h.1.symm, h.2⟩, fun h => ⟨h.1.symm, h.2⟩⟩)
theorem setL_again (L M : List (Int × Int)) : setL (setL (L ++ M) ++ M) = setL (L ++ M) :=
  strict_ext _ _ (setL_up _) (setL_up _) (fun p => by
    rw [setL_mem, List.mem_append, setL_mem, List.mem_append]
    constructor
    · rintro ⟨h | h, k⟩
      · exact h
      · exact ⟨.inr h, k⟩
    · exact fun h => ⟨.inl h, h.2⟩)
theorem setL_assoc (L M N : List (Int × Int)) : setL (setL (L ++ M) ++ N) = setL (L ++ setL (M ++ N)) :=
  strict_ext _ _ (setL_up _) (setL_up _) (fun p => by
    rw [setL_mem, setL_mem, List.mem_append, List.mem_append, setL_mem, setL_mem, List.mem_append, List.mem_append]
    constructor
    · rintro ⟨⟨h | h, _⟩ | h, k⟩
      · exact ⟨.inl h, k⟩
      · exact ⟨.inr ⟨.inl h, k⟩, k⟩
      · exact ⟨.inr ⟨.inr h, k⟩, k⟩
    · rintro ⟨h | ⟨h | h, _⟩, k⟩
      · exact ⟨.inl ⟨.inl h, k⟩, k⟩
      · exact ⟨.inl ⟨.inr h, k⟩, k⟩
      · exact ⟨.inr h, k⟩)
theorem setL_small {n : Nat} {m : Nat} {f' g' : Nat → Int} {L : List (Int × Int)} (h : lsF m f' g' = setL L) (hn : L.length ≤ n) : m ≤ n := by
  have := setL_len L
  rw [← h, lsF_len] at this
  omega
end Go.Proofs.YtbkdegjkjjdcdaaDoor
