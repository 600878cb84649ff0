/- A text's bytes as numbers. -/
import Derived.PlainAid
namespace Go.Proofs.YtminoofghdpomaaDoor
set_option linter.unusedVariables false
set_option linter.unusedSimpArgs false
open Go.RowKit Go.PlainAid

theorem toList_nil {s : ByteArray} (h : s.size = 0) : s.toList = [] := by
  rw [ByteArray.toList_eq]
  exact List.eq_nil_of_length_eq_zero (by simpa using h)
theorem bt_list (s : ByteArray) (k : Nat) : bt s k = match s.data.toList[k]? with | some c => (c.toNat : Int) | none => 0 := by
  unfold bt
  by_cases h : k < s.size
  · have h' : k < s.data.toList.length := by simpa using h
    rw [dif_pos h, List.getElem?_eq_getElem h']
    rfl
  · have h' : s.data.toList.length ≤ k := by
      have : s.data.toList.length = s.size := by simp
      omega
    rw [dif_neg h, List.getElem?_eq_none h']
theorem bt_data (s : ByteArray) {j : Nat} (h : j < s.data.toList.length) : bt s j = (s.data.toList[j].toNat : Int) := by
  rw [bt_list, List.getElem?_eq_getElem h]
end Go.Proofs.YtminoofghdpomaaDoor
