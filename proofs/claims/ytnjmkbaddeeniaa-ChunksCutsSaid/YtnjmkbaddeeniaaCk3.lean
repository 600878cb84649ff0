/- Layer 10: the example. -/
import Derived.Test.YtnjmkbaddeeniaaCk2
import Derived.Lib.SlBytesConst
namespace Go.Proofs.Ytnjmkbaddeeniaa
open Go.RowKit

theorem rd_marked (w : World) (cs : Array Value) (n : Nat) (m : Nat × Nat) (f : Nat → Int) (hn : n ≤ maxLen) (h : ∀ i, i < n → cs[i]? = some (.int .u8 (f i))) : Rd .u8 (w.alloc (.cells cs 5 m)) (some ⟨w.heap.size, 0, none⟩) n n f :=
  ⟨Nat.le_refl _, hn, fun e => (by cases e), fun _ => ⟨_, _, rfl, fun i hi => by
    have h1 : (w.alloc (.cells cs 5 m)).cell? ⟨w.heap.size, 0 + i, none⟩ = cs[0 + i]? := World.cell?_alloc_mark _ _ _ _ _
    rw [h1, Nat.zero_add]
    exact h i hi⟩⟩
def fL (l : List Int) : Nat → Int := fun i => l.getD i 0
theorem byt_fL (l : List Int) (h : ∀ x ∈ l, 0 ≤ x ∧ x ≤ 255) : Byt l.length (fL l) := fun i hi => by
  unfold fL
  rw [List.getD_eq_getElem?_getD, List.getElem?_eq_getElem hi]
  exact h _ (List.getElem_mem _)
theorem rdc_lit (w : World) (cs : Array Value) (n : Nat) (F : Nat → Ck) (hn : n ≤ maxLen) (hc : ∀ i, i < n → cs[i * 2]? = some (.int .i64 (F i).from_) ∧ cs[i * 2 + 1]? = some (.slice (F i).A (F i).n (F i).c)) (hb : ∀ i, i < n → Rd .u8 w (F i).A (F i).n (F i).c (F i).b ∧ Byt (F i).n (F i).b) :
    RdC (w.alloc (.cells cs 137)) (some ⟨w.heap.size, 0, none⟩) n n F :=
  ⟨Nat.le_refl _, hn, fun e => (by cases e), fun _ => ⟨_, _, rfl, fun i hi => by
    have key : ∀ j, (w.alloc (.cells cs 137)).cell? ⟨w.heap.size, 0 + j, none⟩ = cs[0 + j]? := fun j => World.cell?_alloc_mark _ _ _ _ _
    refine ⟨?_, ?_⟩
    · rw [key, Nat.zero_add]
      exact (hc i hi).1
    · rw [Nat.add_assoc, key, Nat.zero_add]
      exact (hc i hi).2⟩, fun i hi => ⟨(hb i hi).1.alloc _, (hb i hi).2⟩⟩
def ckF (l : List Ck) : Nat → Ck := fun i => l.getD i ⟨0, none, 0, 0, fun _ => 0⟩
set_option maxRecDepth 100000 in
set_option maxHeartbeats 3200000 in
theorem alive10 (w : World) : Calls Try.prog 16 #[] w (Yes w) := by
  obtain ⟨W1, hW1⟩ : ∃ W, W = (w.alloc (.cells #[.int .u8 97, .int .u8 98, .int .u8 99] 5 (3, 4))) := ⟨_, rfl⟩
  have z1 : W1.heap.size = w.heap.size + 1 := by rw [hW1]; simp
  have k1 := Go.Lib.run_convert_bytes_const (P := Try.prog) w 114 5 #[.int .u8 97, .int .u8 98, .int .u8 99] 3 3 Try.underlying114 Try.underlying5
  simp only [List.size_toArray, List.length_cons, List.length_nil, Nat.zero_add, Nat.reduceAdd] at k1
  rw [← hW1] at k1
  have k2 := Go.Lib.run_convert_bytes_const (P := Try.prog) W1 114 5 #[.int .u8 100] 1 1 Try.underlying114 Try.underlying5
  simp only [List.size_toArray, List.length_cons, List.length_nil, Nat.zero_add, Nat.reduceAdd] at k2
  rw [z1] at k2
  have B1 := hide ((Below.refl w.heap.size w).alloc (Nat.le_refl _) (.cells #[.int .u8 97, .int .u8 98, .int .u8 99] 5 (3, 4)))
  rw [← hW1] at B1
  have D1 := hide (rd_marked w #[.int .u8 97, .int .u8 98, .int .u8 99] 3 (3, 4) (fL [97, 98, 99]) (by simp [maxLen]) (fun i hi => by
    have : i = 0 ∨ i = 1 ∨ i = 2 := by omega
    rcases this with rfl | rfl | rfl <;> rfl))
  rw [← hW1] at D1
  obtain ⟨W2, hW2⟩ : ∃ W, W = (W1.alloc (.cells #[.int .u8 100] 5 (1, 2))) := ⟨_, rfl⟩
  have z2 : W2.heap.size = w.heap.size + 2 := by rw [hW2]; simp [z1]
  rw [← hW2] at k2
  have b12 : Below W1.heap.size W1 W2 := by rw [hW2]; exact (Below.refl _ _).alloc (Nat.le_refl _) _
  have B2 := hide (B1.out.of b12)
  have D2 := hide (rd_marked W1 #[.int .u8 100] 1 (1, 2) (fL [100]) (by simp [maxLen]) (fun i hi => by
    have : i = 0 := by omega
    subst this; rfl))
  rw [← hW2, z1] at D2
  have D1' := hide (D1.out.below b12)
  have C3 := hide (rdc_lit W2 #[.int .i64 0, .slice (some ⟨w.heap.size, 0, none⟩) 3 3, .int .i64 1, .slice (some ⟨w.heap.size + 1, 0, none⟩) 1 1] 2 (ckF [⟨0, some ⟨w.heap.size, 0, none⟩, 3, 3, fL [97, 98, 99]⟩, ⟨1, some ⟨w.heap.size + 1, 0, none⟩, 1, 1, fL [100]⟩]) (by simp [maxLen]) (fun i hi => by
    have : i = 0 ∨ i = 1 := by omega
    rcases this with rfl | rfl <;> exact ⟨rfl, rfl⟩) (fun i hi => by
    have : i = 0 ∨ i = 1 := by omega
    rcases this with rfl | rfl
    · exact ⟨D1'.out, byt_fL [97, 98, 99] (by decide)⟩
    · exact ⟨D2.out, byt_fL [100] (by decide)⟩))
  rw [z2] at C3
  have B3 := hide (B2.out.alloc B2.out.size (.cells #[.int .i64 0, .slice (some ⟨w.heap.size, 0, none⟩) 3 3, .int .i64 1, .slice (some ⟨w.heap.size + 1, 0, none⟩) 1 1] 137))
  have C4 := hide (C3.out.below ((Below.refl _ _).alloc (Nat.le_refl _) (.cells #[.int .i64 2, .int .i64 1] 3)))
  have B4 := hide (B3.out.alloc B3.out.size (.cells #[.int .i64 2, .int .i64 1] 3))
  have I4 := hide (Own.rdS (Own.lit .i64 3 0 (W2.alloc (.cells #[.int .i64 0, .slice (some ⟨w.heap.size, 0, none⟩) 3 3, .int .i64 1, .slice (some ⟨w.heap.size + 1, 0, none⟩) 1 1] 137)) (fL [2, 1]) #[.int .i64 2, .int .i64 1] 2 (Nat.zero_le _) (by simp [maxLen]) rfl))
  have zz : (W2.alloc (.cells #[.int .i64 0, .slice (some ⟨w.heap.size, 0, none⟩) 3 3, .int .i64 1, .slice (some ⟨w.heap.size + 1, 0, none⟩) 1 1] 137)).heap.size = w.heap.size + 3 := by simp [z2]
  rw [zz] at I4
  clear hW1 hW2 b12 D1 D2 D1' C3 B3 B2 B1
  go_enter Try.func16, Try.ntmps16
  go_wp2_with fail
  refine (cut_ex _ _ _ _ 3 1 _ _ (fL [97, 98, 99]) (fL [100]) (fL [2, 1]) _ _ C4.out rfl rfl I4.out rfl rfl).mono ?_
  rintro e W5 ⟨v, V, rfl, hP, hB5⟩
  have B5 := hide (B4.out.of hB5)
  have hex : ∀ j, j < 3 → Byt (exN j) (exG (fL [97, 98, 99]) (fL [100]) j) := by
    intro j hj
    have : j = 0 ∨ j = 1 ∨ j = 2 := by omega
    rcases this with rfl | rfl | rfl
    · intro i hi
      exact byt_fL [97, 98, 99] (by decide) i (Nat.lt_of_lt_of_le hi (by decide))
    · intro i hi
      have : i = 0 := by have : i < 1 := hi; omega
      subst this
      decide
    · exact byt_fL [100] (by decide)
  obtain ⟨A5, cp5, F5, rfl, hR5, hF5⟩ := hP.rd hex
  have R5 := hide hR5
  have HF5 := hide hF5
  clear hex hP hR5 hF5 hB5 B4 C4 I4 k1 k2
  obtain ⟨W6, hW6⟩ : ∃ W, W = (W5.alloc (.cells #[.int .u8 97, .int .u8 98] 5 (2, 3))) := ⟨_, rfl⟩
  have zW6 : W6.heap.size = W5.heap.size + 1 := by rw [hW6]; simp
  have k3 := Go.Lib.run_convert_bytes_const (P := Try.prog) W5 114 5 #[.int .u8 97, .int .u8 98] 2 2 Try.underlying114 Try.underlying5
  simp only [List.size_toArray, List.length_cons, List.length_nil, Nat.zero_add, Nat.reduceAdd] at k3
  rw [← hW6] at k3
  have bW6 := hide (show Below W5.heap.size W5 W6 by rw [hW6]; exact (Below.refl _ _).alloc (Nat.le_refl _) _)
  have DW6 := hide (rd_marked W5 #[.int .u8 97, .int .u8 98] 2 (2, 3) (fL [97, 98]) (by simp [maxLen]) (fun i hi => by
    have : i = 0 ∨ i = 1 := by omega
    rcases this with rfl | rfl <;> rfl))
  rw [← hW6] at DW6
  clear hW6
  obtain ⟨W7, hW7⟩ : ∃ W, W = (W6.alloc (.cells #[.int .u8 99] 5 (1, 2))) := ⟨_, rfl⟩
  have zW7 : W7.heap.size = W5.heap.size + 2 := by rw [hW7]; simp [zW6]
  have k4 := Go.Lib.run_convert_bytes_const (P := Try.prog) W6 114 5 #[.int .u8 99] 1 1 Try.underlying114 Try.underlying5
  simp only [List.size_toArray, List.length_cons, List.length_nil, Nat.zero_add, Nat.reduceAdd] at k4
  rw [← hW7] at k4
  rw [zW6] at k4
  have bW7 := hide (show Below W6.heap.size W6 W7 by rw [hW7]; exact (Below.refl _ _).alloc (Nat.le_refl _) _)
  have DW7 := hide (rd_marked W6 #[.int .u8 99] 1 (1, 2) (fL [99]) (by simp [maxLen]) (fun i hi => by
    have : i = 0 := by omega
    subst this; rfl))
  rw [← hW7] at DW7
  clear hW7
  rw [zW6] at DW7
  obtain ⟨W8, hW8⟩ : ∃ W, W = (W7.alloc (.cells #[.int .u8 100] 5 (1, 2))) := ⟨_, rfl⟩
  have zW8 : W8.heap.size = W5.heap.size + 3 := by rw [hW8]; simp [zW7]
  have k5 := Go.Lib.run_convert_bytes_const (P := Try.prog) W7 114 5 #[.int .u8 100] 1 1 Try.underlying114 Try.underlying5
  simp only [List.size_toArray, List.length_cons, List.length_nil, Nat.zero_add, Nat.reduceAdd] at k5
  rw [← hW8] at k5
  rw [zW7] at k5
  have bW8 := hide (show Below W7.heap.size W7 W8 by rw [hW8]; exact (Below.refl _ _).alloc (Nat.le_refl _) _)
  have DW8 := hide (rd_marked W7 #[.int .u8 100] 1 (1, 2) (fL [100]) (by simp [maxLen]) (fun i hi => by
    have : i = 0 := by omega
    subst this; rfl))
  rw [← hW8] at DW8
  clear hW8
  rw [zW7] at DW8
  have E8 := hide (((B5.out.of bW6.out).of bW7.out).of bW8.out)
  have R8 := hide (((R5.out.below bW6.out).below bW7.out).below bW8.out)
  have D6 := hide ((DW6.out.below bW7.out).below bW8.out)
  have D7 := hide (DW7.out.below bW8.out)
  have L9 := hide (rdc_lit W8 #[.int .i64 0, .slice (some ⟨W5.heap.size, 0, none⟩) 2 2, .int .i64 0, .slice (some ⟨W5.heap.size + 1, 0, none⟩) 1 1, .int .i64 1, .slice (some ⟨W5.heap.size + 2, 0, none⟩) 1 1] 3 (ckF [⟨0, some ⟨W5.heap.size, 0, none⟩, 2, 2, fL [97, 98]⟩, ⟨0, some ⟨W5.heap.size + 1, 0, none⟩, 1, 1, fL [99]⟩, ⟨1, some ⟨W5.heap.size + 2, 0, none⟩, 1, 1, fL [100]⟩]) (by simp [maxLen]) (fun i hi => by
    have : i = 0 ∨ i = 1 ∨ i = 2 := by omega
    rcases this with rfl | rfl | rfl <;> exact ⟨rfl, rfl⟩) (fun i hi => by
    have : i = 0 ∨ i = 1 ∨ i = 2 := by omega
    rcases this with rfl | rfl | rfl
    · exact ⟨D6.out, byt_fL [97, 98] (by decide)⟩
    · exact ⟨D7.out, byt_fL [99] (by decide)⟩
    · exact ⟨DW8.out, byt_fL [100] (by decide)⟩))
  rw [zW8] at L9
  have R9 := hide (R8.out.below ((Below.refl _ _).alloc (Nat.le_refl _) (.cells #[.int .i64 0, .slice (some ⟨W5.heap.size, 0, none⟩) 2 2, .int .i64 0, .slice (some ⟨W5.heap.size + 1, 0, none⟩) 1 1, .int .i64 1, .slice (some ⟨W5.heap.size + 2, 0, none⟩) 1 1] 137)))
  have E9 := hide (E8.out.alloc E8.out.size (.cells #[.int .i64 0, .slice (some ⟨W5.heap.size, 0, none⟩) 2 2, .int .i64 0, .slice (some ⟨W5.heap.size + 1, 0, none⟩) 1 1, .int .i64 1, .slice (some ⟨W5.heap.size + 2, 0, none⟩) 1 1] 137))
  clear R5 B5 bW6 bW7 bW8 DW6 DW7 DW8 D6 D7 R8 E8
  go_wp2_with fail
  refine (rcsame_yes _ _ _ _ _ _ _ _ R9.out L9.out ?_).mono ?_
  · intro i hi
    have : i = 0 ∨ i = 1 ∨ i = 2 := by omega
    rcases this with rfl | rfl | rfl
    all_goals
      obtain ⟨e1, e2, e3⟩ := HF5.out _ hi
      refine ⟨e1.trans rfl, e2.trans rfl, fun j hj => ?_⟩
      rw [e3]
      rw [e2] at hj
    · have : j = 0 ∨ j = 1 := by have : j < 2 := hj; omega
      rcases this with rfl | rfl <;> rfl
    · have : j = 0 := by have : j < 1 := hj; omega
      subst this; rfl
    · rfl
  rintro e W10 ⟨rfl, hd⟩
  go_wp2_with fail
  go_ret
  exact ⟨rfl, E9.out.trans (drawn_below hd _)⟩
end Go.Proofs.Ytnjmkbaddeeniaa
