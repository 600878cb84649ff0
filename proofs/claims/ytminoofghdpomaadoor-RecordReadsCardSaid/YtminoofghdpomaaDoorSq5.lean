/- The parts of a text, met from the left, byte by byte. -/
import Derived.Test.YtminoofghdpomaaDoorSq2
import Derived.Test.YtminoofghdpomaaDoorBtL
import Derived.PlainAid
namespace Go.Proofs.YtminoofghdpomaaDoor
set_option linter.unusedVariables false
set_option linter.unusedSimpArgs false
open Go Go.RowKit Go.PlainAid

def pcT (c : UInt8) (s : ByteArray) (a i : Nat) : List ByteArray := (pcF c ((s.data.toList.take i).drop a) (s.data.toList.drop i)).map fun l => ⟨l.toArray⟩
theorem pcT_start (c : UInt8) (s : ByteArray) : pcT c s 0 0 = pcB c s := rfl
theorem cut_list (s : ByteArray) (a i : Nat) : (⟨((s.data.toList.take i).drop a).toArray⟩ : ByteArray) = s.extract a i := by
  apply ByteArray.ext
  rw [ByteArray.data_extract]
  apply Array.toList_inj.1
  simp [List.drop_take]
theorem tk_succ {s : ByteArray} {i : Nat} (h : i < s.data.toList.length) : s.data.toList.take (i + 1) = s.data.toList.take i ++ [s.data.toList[i]] := by
  rw [List.take_add_one, List.getElem?_eq_getElem h]
  rfl
theorem pcT_skip {c : UInt8} {s : ByteArray} {a i : Nat} (hi : i < s.size) (ha : a ≤ i) (h : bt s i ≠ (c.toNat : Int)) : pcT c s a i = pcT c s a (i + 1) := by
  rw [Lib.size_eq] at hi
  rw [bt_data s hi] at h
  unfold pcT
  rw [List.drop_eq_getElem_cons hi, pcF_more (fun e => h (by rw [e])), tk_succ hi, List.drop_append_of_le_length (by rw [List.length_take]; omega)]
theorem pcT_sep {c : UInt8} {s : ByteArray} {a i : Nat} (hi : i < s.size) (h : bt s i = (c.toNat : Int)) : pcT c s a i = s.extract a i :: pcT c s (i + 1) (i + 1) := by
  rw [Lib.size_eq] at hi
  rw [bt_data s hi] at h
  have e : s.data.toList[i] = c := UInt8.toNat_inj.1 (by omega)
  unfold pcT
  rw [List.drop_eq_getElem_cons hi, e, pcF_sep, List.map_cons, cut_list, List.drop_eq_nil_of_le (as := s.data.toList.take (i + 1)) (by rw [List.length_take]; omega)]
theorem pcT_end {c : UInt8} {s : ByteArray} {a i : Nat} (hi : i = s.size) : pcT c s a i = [s.extract a i] := by
  rw [Lib.size_eq] at hi
  unfold pcT
  rw [List.drop_eq_nil_of_le (as := s.data.toList) (by omega), pcF_nil, List.map_cons, List.map_nil, cut_list]
theorem pcT_mem {c : UInt8} {s : ByteArray} {a i : Nat} {x : ByteArray} {done : List ByteArray} (h : pcB c s = done ++ pcT c s a i) (hx : x ∈ pcT c s a i) : x ∈ pcB c s := by
  rw [h]
  exact List.mem_append.2 (.inr hx)
end Go.Proofs.YtminoofghdpomaaDoor
