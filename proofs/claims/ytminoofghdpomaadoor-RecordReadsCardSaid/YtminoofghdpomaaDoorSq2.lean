/- The parts of a text between bytes of one kind. -/
import Derived.Test.YtminoofghdpomaaDoorSq1
import Derived.Lib.Split
namespace Go.Proofs.YtminoofghdpomaaDoor
set_option linter.unusedVariables false
set_option linter.unusedSimpArgs false
open Go Go.RowKit

def pcF (c : UInt8) : List UInt8 → List UInt8 → List (List UInt8)
  | cur, [] => [cur]
  | cur, b :: l => if b = c then cur :: pcF c [] l else pcF c (cur ++ [b]) l
theorem pcF_nil (c : UInt8) (cur : List UInt8) : pcF c cur [] = [cur] := rfl
theorem pcF_sep (c : UInt8) (cur l : List UInt8) : pcF c cur (c :: l) = cur :: pcF c [] l := by simp [pcF]
theorem pcF_more {c b : UInt8} (h : b ≠ c) (cur l : List UInt8) : pcF c cur (b :: l) = pcF c (cur ++ [b]) l := by simp [pcF, h]
theorem pcF_miss {c : UInt8} : ∀ {l : List UInt8} (cur : List UInt8), Lib.indexByte l c = -1 → pcF c cur l = [cur ++ l]
  | [], cur, _ => by simp [pcF]
  | b :: l, cur, h => by
    unfold Lib.indexByte at h
    by_cases e : b = c
    · subst e
      rw [if_pos (beq_self_eq_true _)] at h
      exact absurd h (by decide)
    · rw [if_neg (by simpa using e)] at h
      by_cases e2 : Lib.indexByte l c = -1
      · rw [pcF_more e, pcF_miss _ e2]
        simp
      · rw [if_neg (by simpa using e2)] at h
        have := Lib.indexByte_ge l c
        omega
theorem pcF_hit {c : UInt8} : ∀ {l : List UInt8} {i : Nat} (cur : List UInt8), Lib.indexByte l c = (i : Int) → i < l.length ∧ pcF c cur l = (cur ++ l.take i) :: pcF c [] (l.drop (i + 1))
  | [], i, cur, h => by
    unfold Lib.indexByte at h
    omega
  | b :: l, i, cur, h => by
    unfold Lib.indexByte at h
    by_cases e : b = c
    · subst e
      rw [if_pos (beq_self_eq_true _)] at h
      obtain rfl : i = 0 := by omega
      rw [pcF_sep]
      simp
    · rw [if_neg (by simpa using e)] at h
      by_cases e2 : Lib.indexByte l c = -1
      · rw [if_pos (by simpa using e2)] at h
        omega
      · rw [if_neg (by simpa using e2)] at h
        obtain ⟨k, rfl⟩ : ∃ k, i = k + 1 := ⟨i - 1, by have := Lib.indexByte_ge l c; omega⟩
        obtain ⟨h1, h2⟩ := pcF_hit (c := c) (l := l) (i := k) (cur ++ [b]) (by omega)
        rw [pcF_more e, h2]
        exact ⟨by simp; omega, by simp⟩
/-- the parts of a text -/
def pcB (c : UInt8) (s : ByteArray) : List ByteArray := (pcF c [] s.data.toList).map fun l => ⟨l.toArray⟩
theorem pcB_miss {c : UInt8} {s : ByteArray} (h : Lib.indexByte s.data.toList c = -1) : pcB c s = [s] := by
  unfold pcB
  rw [pcF_miss _ h]
  simp
theorem take_ext (s : ByteArray) (i : Nat) : (⟨(s.data.toList.take i).toArray⟩ : ByteArray) = s.extract 0 i := by
  apply ByteArray.ext
  apply Array.toList_inj.1
  rw [Lib.extract_from_zero]
theorem pcB_hit {c : UInt8} {s : ByteArray} {i : Nat} (h : Lib.indexByte s.data.toList c = (i : Int)) : i < s.size ∧ pcB c s = s.extract 0 i :: pcB c (s.extract (i + 1) s.size) := by
  obtain ⟨h1, h2⟩ := pcF_hit [] h
  refine ⟨by rw [Lib.size_eq]; exact h1, ?_⟩
  unfold pcB
  rw [h2, List.map_cons, List.nil_append, take_ext, Lib.extract_to_end]
theorem pcB_len (c : UInt8) : ∀ (n : Nat) (s : ByteArray), s.size ≤ n → (pcB c s).length ≤ n + 1
  | 0, s, h => by
    by_cases e : Lib.indexByte s.data.toList c = -1
    · rw [pcB_miss e]; simp
    · obtain ⟨i, hi⟩ : ∃ i : Nat, Lib.indexByte s.data.toList c = i := ⟨(Lib.indexByte s.data.toList c).toNat, by have := Lib.indexByte_ge s.data.toList c; omega⟩
      have := (pcB_hit hi).1
      omega
  | n + 1, s, h => by
    by_cases e : Lib.indexByte s.data.toList c = -1
    · rw [pcB_miss e]; simp
    · obtain ⟨i, hi⟩ : ∃ i : Nat, Lib.indexByte s.data.toList c = i := ⟨(Lib.indexByte s.data.toList c).toNat, by have := Lib.indexByte_ge s.data.toList c; omega⟩
      obtain ⟨h1, h2⟩ := pcB_hit hi
      rw [h2]
      have h3 := pcB_len c n (s.extract (i + 1) s.size) (by rw [ByteArray.size_extract]; omega)
      simp only [List.length_cons]
      omega
theorem pcF_len (c : UInt8) : ∀ (l cur x : List UInt8), x ∈ pcF c cur l → x.length ≤ cur.length + l.length
  | [], cur, x, h => by
    rw [pcF_nil] at h
    rw [List.mem_singleton.1 h]
    simp
  | b :: l, cur, x, h => by
    by_cases e : b = c
    · subst e
      rw [pcF_sep] at h
      rcases List.mem_cons.1 h with rfl | h2
      · simp
      · have := pcF_len b l [] x h2
        simp only [List.length_cons, List.length_nil] at *
        omega
    · rw [pcF_more e] at h
      have := pcF_len c l (cur ++ [b]) x h
      simp only [List.length_append, List.length_cons, List.length_nil] at *
      omega
theorem pcB_size {c : UInt8} {s x : ByteArray} (h : x ∈ pcB c s) : x.size ≤ s.size := by
  unfold pcB at h
  obtain ⟨l, hl, rfl⟩ := List.mem_map.1 h
  have := pcF_len c _ _ _ hl
  rw [Lib.size_eq s]
  show l.toArray.size ≤ _
  simpa using this
end Go.Proofs.YtminoofghdpomaaDoor
