/- Layer 22: the walk of the law on putting and getting back. -/
import Derived.Test.YtnkcbljhgcgpaaaDoorRpi
namespace Go.Proofs.YtnkcbljhgcgpaaaDoor
set_option linter.unusedVariables false
set_option linter.unusedSimpArgs false
open Go.RowKit Go.PlainAid

theorem cat_byt {n m : Nat} {f g : Nat → Int} (hf : Byt n f) (hg : Byt m g) : Byt (n + m) (catF n f g) := fun i hi => by
  unfold catF
  split
  · exact hf i (by assumption)
  · exact hg _ (by omega)
theorem sl_byt (s : ByteArray) (sh : Bool) (hs : s.size ≤ 1000) : Byt (slN s sh) (slF s sh) := by
  have hle := txN_le s sh
  exact cat_byt (pf_byt (pfE19 sh (by omega))) (tx_byt s sh)
theorem rp_byt {k i : Int} {ns : ByteArray} {a : Bool} {vs : ByteArray} {b : Bool} {z : Int} (hr : rpB k i ns a vs b z = true) (hns : ns.size ≤ 1000) (hvs : vs.size ≤ 1000) : Byt (rpN k i ns a vs b z) (rpF k i ns a vs b z) := by
  rcases rpB_cases hr with ⟨rfl, h1, h2, rfl, rfl, rfl, rfl, rfl⟩ | ⟨rfl, h1, h2, rfl, rfl, rfl, rfl, rfl⟩ | ⟨hk, rfl, h3⟩
  · exact pf_byt (fst_fine (k := 1) (by decide) (by omega) h2)
  · exact pf_byt (fst_fine (k := 5) (by decide) h1 h2)
  · have hk5 : k = 1 ∨ k = 2 ∨ k = 3 ∨ k = 4 ∨ k = 5 := by omega
    have hk1 : k ≠ 1 := by omega
    have hk55 : k ≠ 5 := by omega
    unfold rpN rpF
    rw [if_neg hk1, if_neg hk1, if_neg hk55, if_neg hk55]
    by_cases hi : i = 0
    · rw [if_pos hi, if_pos hi]
      exact cat_byt (cat_byt (pf_byt (fst_fine hk5 (by decide) (by decide))) (sl_byt ns a hns)) (sl_byt vs b hvs)
    · rw [if_neg hi, if_neg hi]
      have h := h3.resolve_left hi
      exact cat_byt (pf_byt (fst_fine hk5 (by omega) h.2.1)) (sl_byt vs b hvs)
theorem slN_top (s : ByteArray) (sh : Bool) : slN s sh ≤ 6 + 4 * s.size := by
  have h1 := txN_le s sh
  have h2 := pfN_bd 7 (txN s sh : Int)
  show pfN 7 (txN s sh : Nat) + txN s sh ≤ 6 + 4 * s.size
  omega
theorem rpN_top (k i : Int) (ns : ByteArray) (a : Bool) (vs : ByteArray) (b : Bool) (z : Int) : rpN k i ns a vs b z ≤ 18 + 4 * ns.size + 4 * vs.size := by
  have h1 := slN_top ns a
  have h2 := slN_top vs b
  have h3 := pfN_bd (bit22 k) i
  have h4 := pfN_bd (bit22 k) z
  have h5 := pfN_bd (bit22 k) 0
  unfold rpN
  repeat' split
  all_goals omega
end Go.Proofs.YtnkcbljhgcgpaaaDoor
