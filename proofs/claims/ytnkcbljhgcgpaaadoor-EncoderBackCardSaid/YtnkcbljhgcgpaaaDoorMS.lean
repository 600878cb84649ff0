/- St1, St2, St3, St4, St5, St6, St7, St8 in one text. -/
import Derived.Test.YtnkcbljhgcgpaaaDoorMA
import Derived.Test.YtnkcbljhgcgpaaaDoorMB
namespace Go.Proofs.YtnkcbljhgcgpaaaDoor
set_option linter.unusedVariables false
set_option linter.unusedSimpArgs false
section
open Go.RowKit

/-- The names and values of the static fields, by their bytes. -/
def stL : List (List UInt8 × List UInt8) := [
  ([58, 97, 117, 116, 104, 111, 114, 105, 116, 121], []),
  ([58, 109, 101, 116, 104, 111, 100], [71, 69, 84]),
  ([58, 109, 101, 116, 104, 111, 100], [80, 79, 83, 84]),
  ([58, 112, 97, 116, 104], [47]),
  ([58, 112, 97, 116, 104], [47, 105, 110, 100, 101, 120, 46, 104, 116, 109, 108]),
  ([58, 115, 99, 104, 101, 109, 101], [104, 116, 116, 112]),
  ([58, 115, 99, 104, 101, 109, 101], [104, 116, 116, 112, 115]),
  ([58, 115, 116, 97, 116, 117, 115], [50, 48, 48]),
  ([58, 115, 116, 97, 116, 117, 115], [50, 48, 52]),
  ([58, 115, 116, 97, 116, 117, 115], [50, 48, 54]),
  ([58, 115, 116, 97, 116, 117, 115], [51, 48, 52]),
  ([58, 115, 116, 97, 116, 117, 115], [52, 48, 48]),
  ([58, 115, 116, 97, 116, 117, 115], [52, 48, 52]),
  ([58, 115, 116, 97, 116, 117, 115], [53, 48, 48]),
  ([97, 99, 99, 101, 112, 116, 45, 99, 104, 97, 114, 115, 101, 116], []),
  ([97, 99, 99, 101, 112, 116, 45, 101, 110, 99, 111, 100, 105, 110, 103], [103, 122, 105, 112, 44, 32, 100, 101, 102, 108, 97, 116, 101]),
  ([97, 99, 99, 101, 112, 116, 45, 108, 97, 110, 103, 117, 97, 103, 101], []),
  ([97, 99, 99, 101, 112, 116, 45, 114, 97, 110, 103, 101, 115], []),
  ([97, 99, 99, 101, 112, 116], []),
  ([97, 99, 99, 101, 115, 115, 45, 99, 111, 110, 116, 114, 111, 108, 45, 97, 108, 108, 111, 119, 45, 111, 114, 105, 103, 105, 110], []),
  ([97, 103, 101], []),
  ([97, 108, 108, 111, 119], []),
  ([97, 117, 116, 104, 111, 114, 105, 122, 97, 116, 105, 111, 110], []),
  ([99, 97, 99, 104, 101, 45, 99, 111, 110, 116, 114, 111, 108], []),
  ([99, 111, 110, 116, 101, 110, 116, 45, 100, 105, 115, 112, 111, 115, 105, 116, 105, 111, 110], []),
  ([99, 111, 110, 116, 101, 110, 116, 45, 101, 110, 99, 111, 100, 105, 110, 103], []),
  ([99, 111, 110, 116, 101, 110, 116, 45, 108, 97, 110, 103, 117, 97, 103, 101], []),
  ([99, 111, 110, 116, 101, 110, 116, 45, 108, 101, 110, 103, 116, 104], []),
  ([99, 111, 110, 116, 101, 110, 116, 45, 108, 111, 99, 97, 116, 105, 111, 110], []),
  ([99, 111, 110, 116, 101, 110, 116, 45, 114, 97, 110, 103, 101], []),
  ([99, 111, 110, 116, 101, 110, 116, 45, 116, 121, 112, 101], []),
  ([99, 111, 111, 107, 105, 101], []),
  ([100, 97, 116, 101], []),
  ([101, 116, 97, 103], []),
  ([101, 120, 112, 101, 99, 116], []),
  ([101, 120, 112, 105, 114, 101, 115], []),
  ([102, 114, 111, 109], []),
  ([104, 111, 115, 116], []),
  ([105, 102, 45, 109, 97, 116, 99, 104], []),
  ([105, 102, 45, 109, 111, 100, 105, 102, 105, 101, 100, 45, 115, 105, 110, 99, 101], []),
  ([105, 102, 45, 110, 111, 110, 101, 45, 109, 97, 116, 99, 104], []),
  ([105, 102, 45, 114, 97, 110, 103, 101], []),
  ([105, 102, 45, 117, 110, 109, 111, 100, 105, 102, 105, 101, 100, 45, 115, 105, 110, 99, 101], []),
  ([108, 97, 115, 116, 45, 109, 111, 100, 105, 102, 105, 101, 100], []),
  ([108, 105, 110, 107], []),
  ([108, 111, 99, 97, 116, 105, 111, 110], []),
  ([109, 97, 120, 45, 102, 111, 114, 119, 97, 114, 100, 115], []),
  ([112, 114, 111, 120, 121, 45, 97, 117, 116, 104, 101, 110, 116, 105, 99, 97, 116, 101], []),
  ([112, 114, 111, 120, 121, 45, 97, 117, 116, 104, 111, 114, 105, 122, 97, 116, 105, 111, 110], []),
  ([114, 97, 110, 103, 101], []),
  ([114, 101, 102, 101, 114, 101, 114], []),
  ([114, 101, 102, 114, 101, 115, 104], []),
  ([114, 101, 116, 114, 121, 45, 97, 102, 116, 101, 114], []),
  ([115, 101, 114, 118, 101, 114], []),
  ([115, 101, 116, 45, 99, 111, 111, 107, 105, 101], []),
  ([115, 116, 114, 105, 99, 116, 45, 116, 114, 97, 110, 115, 112, 111, 114, 116, 45, 115, 101, 99, 117, 114, 105, 116, 121], []),
  ([116, 114, 97, 110, 115, 102, 101, 114, 45, 101, 110, 99, 111, 100, 105, 110, 103], []),
  ([117, 115, 101, 114, 45, 97, 103, 101, 110, 116], []),
  ([118, 97, 114, 121], []),
  ([118, 105, 97], []),
  ([119, 119, 119, 45, 97, 117, 116, 104, 101, 110, 116, 105, 99, 97, 116, 101], [])]
def strV (l : List UInt8) : Value := .string ⟨l.toArray⟩
def fieldV (p : List UInt8 × List UInt8) : List Value := [strV p.1, strV p.2]
def stV : List Value := stL.flatMap fieldV
theorem info61 : (Tryd.prog.info? 141).map (·.size) = some stV.length := by kernel_rfl
theorem one_stV : (stV.toArray.all (·.oneCell')) = true := by kernel_rfl
theorem stV_len : stV.length = 122 := by kernel_rfl
def zero61 : Array Value := Array.replicate 122 (.string ⟨#[]⟩)

set_option maxRecDepth 100000 in
set_option maxHeartbeats 8000000 in
theorem fields_any (w : World) : Calls Tryd.prog 94 #[] w fun e w' => e = .returned (.agg stV.toArray) ∧ Below w.heap.size w w' := by
  obtain ⟨cs, hcs⟩ : ∃ cs, cs = stV := ⟨_, rfl⟩
  have hi : (Tryd.prog.info? 141).map (·.size) = some cs.length := by rw [hcs]; exact info61
  have h1 : cs.toArray.all (·.oneCell') = true := by rw [hcs]; exact one_stV
  have hl : cs.length = 122 := by rw [hcs]; exact stV_len
  rw [← hcs]
  have Ht : (w.alloc (.cells zero61 141)).there w.heap.size 0 cs.length := by
    rw [hl]
    exact there_new w zero61 _
  go_enter Tryd.func94, Tryd.ntmps94
  refine wp_seq_k fun K1 k1 => ?_
  refine wp_region_list ?_
  refine Go.Great.wpList_runTo rfl _ rfl (.pointer (some ⟨w.heap.size, 0, none⟩)) (w.alloc (.cells zero61 141)) (by kernel_rfl) ?_
  refine wpList_nil ?_
  refine k1 _ _ ?_
  simp only [Act.put, List.setIfInBounds_toArray, List.set_cons_zero, List.set_cons_succ]
  refine wp_seq_k fun K2 k2 => ?_
  refine wp_region_list ?_
  refine Go.Great.wpList_readTo rfl (some 1) rfl (.agg #[strV [58, 97, 117, 116, 104, 111, 114, 105, 116, 121], strV []]) (by kernel_rfl) ?_
  simp only [Act.put, List.setIfInBounds_toArray, List.set_cons_zero, List.set_cons_succ]
  refine Go.Great.wpList_readTo rfl (some 2) rfl (.agg #[strV [58, 109, 101, 116, 104, 111, 100], strV [71, 69, 84]]) (by kernel_rfl) ?_
  simp only [Act.put, List.setIfInBounds_toArray, List.set_cons_zero, List.set_cons_succ]
  refine Go.Great.wpList_readTo rfl (some 3) rfl (.agg #[strV [58, 109, 101, 116, 104, 111, 100], strV [80, 79, 83, 84]]) (by kernel_rfl) ?_
  simp only [Act.put, List.setIfInBounds_toArray, List.set_cons_zero, List.set_cons_succ]
  refine Go.Great.wpList_readTo rfl (some 4) rfl (.agg #[strV [58, 112, 97, 116, 104], strV [47]]) (by kernel_rfl) ?_
  simp only [Act.put, List.setIfInBounds_toArray, List.set_cons_zero, List.set_cons_succ]
  refine Go.Great.wpList_readTo rfl (some 5) rfl (.agg #[strV [58, 112, 97, 116, 104], strV [47, 105, 110, 100, 101, 120, 46, 104, 116, 109, 108]]) (by kernel_rfl) ?_
  simp only [Act.put, List.setIfInBounds_toArray, List.set_cons_zero, List.set_cons_succ]
  refine Go.Great.wpList_readTo rfl (some 6) rfl (.agg #[strV [58, 115, 99, 104, 101, 109, 101], strV [104, 116, 116, 112]]) (by kernel_rfl) ?_
  simp only [Act.put, List.setIfInBounds_toArray, List.set_cons_zero, List.set_cons_succ]
  refine Go.Great.wpList_readTo rfl (some 7) rfl (.agg #[strV [58, 115, 99, 104, 101, 109, 101], strV [104, 116, 116, 112, 115]]) (by kernel_rfl) ?_
  simp only [Act.put, List.setIfInBounds_toArray, List.set_cons_zero, List.set_cons_succ]
  refine Go.Great.wpList_readTo rfl (some 8) rfl (.agg #[strV [58, 115, 116, 97, 116, 117, 115], strV [50, 48, 48]]) (by kernel_rfl) ?_
  simp only [Act.put, List.setIfInBounds_toArray, List.set_cons_zero, List.set_cons_succ]
  refine Go.Great.wpList_readTo rfl (some 9) rfl (.agg #[strV [58, 115, 116, 97, 116, 117, 115], strV [50, 48, 52]]) (by kernel_rfl) ?_
  simp only [Act.put, List.setIfInBounds_toArray, List.set_cons_zero, List.set_cons_succ]
  refine Go.Great.wpList_readTo rfl (some 10) rfl (.agg #[strV [58, 115, 116, 97, 116, 117, 115], strV [50, 48, 54]]) (by kernel_rfl) ?_
  simp only [Act.put, List.setIfInBounds_toArray, List.set_cons_zero, List.set_cons_succ]
  refine Go.Great.wpList_readTo rfl (some 11) rfl (.agg #[strV [58, 115, 116, 97, 116, 117, 115], strV [51, 48, 52]]) (by kernel_rfl) ?_
  simp only [Act.put, List.setIfInBounds_toArray, List.set_cons_zero, List.set_cons_succ]
  refine Go.Great.wpList_readTo rfl (some 12) rfl (.agg #[strV [58, 115, 116, 97, 116, 117, 115], strV [52, 48, 48]]) (by kernel_rfl) ?_
  simp only [Act.put, List.setIfInBounds_toArray, List.set_cons_zero, List.set_cons_succ]
  refine Go.Great.wpList_readTo rfl (some 13) rfl (.agg #[strV [58, 115, 116, 97, 116, 117, 115], strV [52, 48, 52]]) (by kernel_rfl) ?_
  simp only [Act.put, List.setIfInBounds_toArray, List.set_cons_zero, List.set_cons_succ]
  refine Go.Great.wpList_readTo rfl (some 14) rfl (.agg #[strV [58, 115, 116, 97, 116, 117, 115], strV [53, 48, 48]]) (by kernel_rfl) ?_
  simp only [Act.put, List.setIfInBounds_toArray, List.set_cons_zero, List.set_cons_succ]
  refine Go.Great.wpList_readTo rfl (some 15) rfl (.agg #[strV [97, 99, 99, 101, 112, 116, 45, 99, 104, 97, 114, 115, 101, 116], strV []]) (by kernel_rfl) ?_
  simp only [Act.put, List.setIfInBounds_toArray, List.set_cons_zero, List.set_cons_succ]
  refine Go.Great.wpList_readTo rfl (some 16) rfl (.agg #[strV [97, 99, 99, 101, 112, 116, 45, 101, 110, 99, 111, 100, 105, 110, 103], strV [103, 122, 105, 112, 44, 32, 100, 101, 102, 108, 97, 116, 101]]) (by kernel_rfl) ?_
  simp only [Act.put, List.setIfInBounds_toArray, List.set_cons_zero, List.set_cons_succ]
  refine Go.Great.wpList_readTo rfl (some 17) rfl (.agg #[strV [97, 99, 99, 101, 112, 116, 45, 108, 97, 110, 103, 117, 97, 103, 101], strV []]) (by kernel_rfl) ?_
  simp only [Act.put, List.setIfInBounds_toArray, List.set_cons_zero, List.set_cons_succ]
  refine Go.Great.wpList_readTo rfl (some 18) rfl (.agg #[strV [97, 99, 99, 101, 112, 116, 45, 114, 97, 110, 103, 101, 115], strV []]) (by kernel_rfl) ?_
  simp only [Act.put, List.setIfInBounds_toArray, List.set_cons_zero, List.set_cons_succ]
  refine Go.Great.wpList_readTo rfl (some 19) rfl (.agg #[strV [97, 99, 99, 101, 112, 116], strV []]) (by kernel_rfl) ?_
  simp only [Act.put, List.setIfInBounds_toArray, List.set_cons_zero, List.set_cons_succ]
  refine Go.Great.wpList_readTo rfl (some 20) rfl (.agg #[strV [97, 99, 99, 101, 115, 115, 45, 99, 111, 110, 116, 114, 111, 108, 45, 97, 108, 108, 111, 119, 45, 111, 114, 105, 103, 105, 110], strV []]) (by kernel_rfl) ?_
  simp only [Act.put, List.setIfInBounds_toArray, List.set_cons_zero, List.set_cons_succ]
  refine Go.Great.wpList_readTo rfl (some 21) rfl (.agg #[strV [97, 103, 101], strV []]) (by kernel_rfl) ?_
  simp only [Act.put, List.setIfInBounds_toArray, List.set_cons_zero, List.set_cons_succ]
  refine Go.Great.wpList_readTo rfl (some 22) rfl (.agg #[strV [97, 108, 108, 111, 119], strV []]) (by kernel_rfl) ?_
  simp only [Act.put, List.setIfInBounds_toArray, List.set_cons_zero, List.set_cons_succ]
  refine Go.Great.wpList_readTo rfl (some 23) rfl (.agg #[strV [97, 117, 116, 104, 111, 114, 105, 122, 97, 116, 105, 111, 110], strV []]) (by kernel_rfl) ?_
  simp only [Act.put, List.setIfInBounds_toArray, List.set_cons_zero, List.set_cons_succ]
  refine Go.Great.wpList_readTo rfl (some 24) rfl (.agg #[strV [99, 97, 99, 104, 101, 45, 99, 111, 110, 116, 114, 111, 108], strV []]) (by kernel_rfl) ?_
  simp only [Act.put, List.setIfInBounds_toArray, List.set_cons_zero, List.set_cons_succ]
  refine Go.Great.wpList_readTo rfl (some 25) rfl (.agg #[strV [99, 111, 110, 116, 101, 110, 116, 45, 100, 105, 115, 112, 111, 115, 105, 116, 105, 111, 110], strV []]) (by kernel_rfl) ?_
  simp only [Act.put, List.setIfInBounds_toArray, List.set_cons_zero, List.set_cons_succ]
  refine Go.Great.wpList_readTo rfl (some 26) rfl (.agg #[strV [99, 111, 110, 116, 101, 110, 116, 45, 101, 110, 99, 111, 100, 105, 110, 103], strV []]) (by kernel_rfl) ?_
  simp only [Act.put, List.setIfInBounds_toArray, List.set_cons_zero, List.set_cons_succ]
  refine Go.Great.wpList_readTo rfl (some 27) rfl (.agg #[strV [99, 111, 110, 116, 101, 110, 116, 45, 108, 97, 110, 103, 117, 97, 103, 101], strV []]) (by kernel_rfl) ?_
  simp only [Act.put, List.setIfInBounds_toArray, List.set_cons_zero, List.set_cons_succ]
  refine Go.Great.wpList_readTo rfl (some 28) rfl (.agg #[strV [99, 111, 110, 116, 101, 110, 116, 45, 108, 101, 110, 103, 116, 104], strV []]) (by kernel_rfl) ?_
  simp only [Act.put, List.setIfInBounds_toArray, List.set_cons_zero, List.set_cons_succ]
  refine Go.Great.wpList_readTo rfl (some 29) rfl (.agg #[strV [99, 111, 110, 116, 101, 110, 116, 45, 108, 111, 99, 97, 116, 105, 111, 110], strV []]) (by kernel_rfl) ?_
  simp only [Act.put, List.setIfInBounds_toArray, List.set_cons_zero, List.set_cons_succ]
  refine Go.Great.wpList_readTo rfl (some 30) rfl (.agg #[strV [99, 111, 110, 116, 101, 110, 116, 45, 114, 97, 110, 103, 101], strV []]) (by kernel_rfl) ?_
  simp only [Act.put, List.setIfInBounds_toArray, List.set_cons_zero, List.set_cons_succ]
  refine Go.Great.wpList_readTo rfl (some 31) rfl (.agg #[strV [99, 111, 110, 116, 101, 110, 116, 45, 116, 121, 112, 101], strV []]) (by kernel_rfl) ?_
  simp only [Act.put, List.setIfInBounds_toArray, List.set_cons_zero, List.set_cons_succ]
  refine Go.Great.wpList_readTo rfl (some 32) rfl (.agg #[strV [99, 111, 111, 107, 105, 101], strV []]) (by kernel_rfl) ?_
  simp only [Act.put, List.setIfInBounds_toArray, List.set_cons_zero, List.set_cons_succ]
  refine Go.Great.wpList_readTo rfl (some 33) rfl (.agg #[strV [100, 97, 116, 101], strV []]) (by kernel_rfl) ?_
  simp only [Act.put, List.setIfInBounds_toArray, List.set_cons_zero, List.set_cons_succ]
  refine Go.Great.wpList_readTo rfl (some 34) rfl (.agg #[strV [101, 116, 97, 103], strV []]) (by kernel_rfl) ?_
  simp only [Act.put, List.setIfInBounds_toArray, List.set_cons_zero, List.set_cons_succ]
  refine Go.Great.wpList_readTo rfl (some 35) rfl (.agg #[strV [101, 120, 112, 101, 99, 116], strV []]) (by kernel_rfl) ?_
  simp only [Act.put, List.setIfInBounds_toArray, List.set_cons_zero, List.set_cons_succ]
  refine Go.Great.wpList_readTo rfl (some 36) rfl (.agg #[strV [101, 120, 112, 105, 114, 101, 115], strV []]) (by kernel_rfl) ?_
  simp only [Act.put, List.setIfInBounds_toArray, List.set_cons_zero, List.set_cons_succ]
  refine Go.Great.wpList_readTo rfl (some 37) rfl (.agg #[strV [102, 114, 111, 109], strV []]) (by kernel_rfl) ?_
  simp only [Act.put, List.setIfInBounds_toArray, List.set_cons_zero, List.set_cons_succ]
  refine Go.Great.wpList_readTo rfl (some 38) rfl (.agg #[strV [104, 111, 115, 116], strV []]) (by kernel_rfl) ?_
  simp only [Act.put, List.setIfInBounds_toArray, List.set_cons_zero, List.set_cons_succ]
  refine Go.Great.wpList_readTo rfl (some 39) rfl (.agg #[strV [105, 102, 45, 109, 97, 116, 99, 104], strV []]) (by kernel_rfl) ?_
  simp only [Act.put, List.setIfInBounds_toArray, List.set_cons_zero, List.set_cons_succ]
  refine Go.Great.wpList_readTo rfl (some 40) rfl (.agg #[strV [105, 102, 45, 109, 111, 100, 105, 102, 105, 101, 100, 45, 115, 105, 110, 99, 101], strV []]) (by kernel_rfl) ?_
  simp only [Act.put, List.setIfInBounds_toArray, List.set_cons_zero, List.set_cons_succ]
  refine Go.Great.wpList_readTo rfl (some 41) rfl (.agg #[strV [105, 102, 45, 110, 111, 110, 101, 45, 109, 97, 116, 99, 104], strV []]) (by kernel_rfl) ?_
  simp only [Act.put, List.setIfInBounds_toArray, List.set_cons_zero, List.set_cons_succ]
  refine Go.Great.wpList_readTo rfl (some 42) rfl (.agg #[strV [105, 102, 45, 114, 97, 110, 103, 101], strV []]) (by kernel_rfl) ?_
  simp only [Act.put, List.setIfInBounds_toArray, List.set_cons_zero, List.set_cons_succ]
  refine Go.Great.wpList_readTo rfl (some 43) rfl (.agg #[strV [105, 102, 45, 117, 110, 109, 111, 100, 105, 102, 105, 101, 100, 45, 115, 105, 110, 99, 101], strV []]) (by kernel_rfl) ?_
  simp only [Act.put, List.setIfInBounds_toArray, List.set_cons_zero, List.set_cons_succ]
  refine Go.Great.wpList_readTo rfl (some 44) rfl (.agg #[strV [108, 97, 115, 116, 45, 109, 111, 100, 105, 102, 105, 101, 100], strV []]) (by kernel_rfl) ?_
  simp only [Act.put, List.setIfInBounds_toArray, List.set_cons_zero, List.set_cons_succ]
  refine Go.Great.wpList_readTo rfl (some 45) rfl (.agg #[strV [108, 105, 110, 107], strV []]) (by kernel_rfl) ?_
  simp only [Act.put, List.setIfInBounds_toArray, List.set_cons_zero, List.set_cons_succ]
  refine Go.Great.wpList_readTo rfl (some 46) rfl (.agg #[strV [108, 111, 99, 97, 116, 105, 111, 110], strV []]) (by kernel_rfl) ?_
  simp only [Act.put, List.setIfInBounds_toArray, List.set_cons_zero, List.set_cons_succ]
  refine Go.Great.wpList_readTo rfl (some 47) rfl (.agg #[strV [109, 97, 120, 45, 102, 111, 114, 119, 97, 114, 100, 115], strV []]) (by kernel_rfl) ?_
  simp only [Act.put, List.setIfInBounds_toArray, List.set_cons_zero, List.set_cons_succ]
  refine Go.Great.wpList_readTo rfl (some 48) rfl (.agg #[strV [112, 114, 111, 120, 121, 45, 97, 117, 116, 104, 101, 110, 116, 105, 99, 97, 116, 101], strV []]) (by kernel_rfl) ?_
  simp only [Act.put, List.setIfInBounds_toArray, List.set_cons_zero, List.set_cons_succ]
  refine Go.Great.wpList_readTo rfl (some 49) rfl (.agg #[strV [112, 114, 111, 120, 121, 45, 97, 117, 116, 104, 111, 114, 105, 122, 97, 116, 105, 111, 110], strV []]) (by kernel_rfl) ?_
  simp only [Act.put, List.setIfInBounds_toArray, List.set_cons_zero, List.set_cons_succ]
  refine Go.Great.wpList_readTo rfl (some 50) rfl (.agg #[strV [114, 97, 110, 103, 101], strV []]) (by kernel_rfl) ?_
  simp only [Act.put, List.setIfInBounds_toArray, List.set_cons_zero, List.set_cons_succ]
  refine Go.Great.wpList_readTo rfl (some 51) rfl (.agg #[strV [114, 101, 102, 101, 114, 101, 114], strV []]) (by kernel_rfl) ?_
  simp only [Act.put, List.setIfInBounds_toArray, List.set_cons_zero, List.set_cons_succ]
  refine Go.Great.wpList_readTo rfl (some 52) rfl (.agg #[strV [114, 101, 102, 114, 101, 115, 104], strV []]) (by kernel_rfl) ?_
  simp only [Act.put, List.setIfInBounds_toArray, List.set_cons_zero, List.set_cons_succ]
  refine Go.Great.wpList_readTo rfl (some 53) rfl (.agg #[strV [114, 101, 116, 114, 121, 45, 97, 102, 116, 101, 114], strV []]) (by kernel_rfl) ?_
  simp only [Act.put, List.setIfInBounds_toArray, List.set_cons_zero, List.set_cons_succ]
  refine Go.Great.wpList_readTo rfl (some 54) rfl (.agg #[strV [115, 101, 114, 118, 101, 114], strV []]) (by kernel_rfl) ?_
  simp only [Act.put, List.setIfInBounds_toArray, List.set_cons_zero, List.set_cons_succ]
  refine Go.Great.wpList_readTo rfl (some 55) rfl (.agg #[strV [115, 101, 116, 45, 99, 111, 111, 107, 105, 101], strV []]) (by kernel_rfl) ?_
  simp only [Act.put, List.setIfInBounds_toArray, List.set_cons_zero, List.set_cons_succ]
  refine Go.Great.wpList_readTo rfl (some 56) rfl (.agg #[strV [115, 116, 114, 105, 99, 116, 45, 116, 114, 97, 110, 115, 112, 111, 114, 116, 45, 115, 101, 99, 117, 114, 105, 116, 121], strV []]) (by kernel_rfl) ?_
  simp only [Act.put, List.setIfInBounds_toArray, List.set_cons_zero, List.set_cons_succ]
  refine Go.Great.wpList_readTo rfl (some 57) rfl (.agg #[strV [116, 114, 97, 110, 115, 102, 101, 114, 45, 101, 110, 99, 111, 100, 105, 110, 103], strV []]) (by kernel_rfl) ?_
  simp only [Act.put, List.setIfInBounds_toArray, List.set_cons_zero, List.set_cons_succ]
  refine Go.Great.wpList_readTo rfl (some 58) rfl (.agg #[strV [117, 115, 101, 114, 45, 97, 103, 101, 110, 116], strV []]) (by kernel_rfl) ?_
  simp only [Act.put, List.setIfInBounds_toArray, List.set_cons_zero, List.set_cons_succ]
  refine Go.Great.wpList_readTo rfl (some 59) rfl (.agg #[strV [118, 97, 114, 121], strV []]) (by kernel_rfl) ?_
  simp only [Act.put, List.setIfInBounds_toArray, List.set_cons_zero, List.set_cons_succ]
  refine Go.Great.wpList_readTo rfl (some 60) rfl (.agg #[strV [118, 105, 97], strV []]) (by kernel_rfl) ?_
  simp only [Act.put, List.setIfInBounds_toArray, List.set_cons_zero, List.set_cons_succ]
  refine Go.Great.wpList_readTo rfl (some 61) rfl (.agg #[strV [119, 119, 119, 45, 97, 117, 116, 104, 101, 110, 116, 105, 99, 97, 116, 101], strV []]) (by kernel_rfl) ?_
  simp only [Act.put, List.setIfInBounds_toArray, List.set_cons_zero, List.set_cons_succ]
  refine Go.Great.wpList_readTo rfl _ rfl (.agg cs.toArray) (by rw [hcs]; kernel_rfl) ?_
  refine wpList_store_mid rfl _ _ _ rfl w.heap.size 0 cs.toArray rfl rfl Ht hi h1 ?_
  refine wpList_nil ?_
  have hr := run_loadVar_mid (P := Tryd.prog) ((w.alloc (.cells zero61 141)).setCells w.heap.size 0 cs) w.heap.size 0 141 cs _ (World.rangeAt_setCells_same _ _ _ _ Ht) Tryd.underlying141 rfl hi
  have hb : Below w.heap.size w ((w.alloc (.cells zero61 141)).setCells w.heap.size 0 cs) := below_cells (Nat.le_refl _) _ _ _ ((Below.refl _ _).alloc (Nat.le_refl _) _)
  exact k2 _ _ (ret_cell rfl (by kernel_rfl) (by kernel_rfl) hr ⟨rfl, hb⟩)
end

section
open Go.RowKit

/-- The k-th name and value, from 0 on. -/
def nmB (k : Nat) : ByteArray := ⟨(stL.getD k ([], [])).1.toArray⟩
def vlB (k : Nat) : ByteArray := ⟨(stL.getD k ([], [])).2.toArray⟩
theorem stV_get : ∀ k, k < 61 → stV[k * 2]? = some (.string (nmB k)) ∧ stV[k * 2 + 1]? = some (.string (vlB k)) := by
  have h : ∀ k : Fin 61, stV[k.val * 2]? = some (.string (nmB k.val)) ∧ stV[k.val * 2 + 1]? = some (.string (vlB k.val)) := by
    intro k
    rcases k with ⟨k, hk⟩
    have : k = 0 ∨ k = 1 ∨ k = 2 ∨ k = 3 ∨ k = 4 ∨ k = 5 ∨ k = 6 ∨ k = 7 ∨ k = 8 ∨ k = 9 ∨ k = 10 ∨ k = 11 ∨ k = 12 ∨ k = 13 ∨ k = 14 ∨ k = 15 ∨ k = 16 ∨ k = 17 ∨ k = 18 ∨ k = 19 ∨ k = 20 ∨ k = 21 ∨ k = 22 ∨ k = 23 ∨ k = 24 ∨ k = 25 ∨ k = 26 ∨ k = 27 ∨ k = 28 ∨ k = 29 ∨ k = 30 ∨ k = 31 ∨ k = 32 ∨ k = 33 ∨ k = 34 ∨ k = 35 ∨ k = 36 ∨ k = 37 ∨ k = 38 ∨ k = 39 ∨ k = 40 ∨ k = 41 ∨ k = 42 ∨ k = 43 ∨ k = 44 ∨ k = 45 ∨ k = 46 ∨ k = 47 ∨ k = 48 ∨ k = 49 ∨ k = 50 ∨ k = 51 ∨ k = 52 ∨ k = 53 ∨ k = 54 ∨ k = 55 ∨ k = 56 ∨ k = 57 ∨ k = 58 ∨ k = 59 ∨ k = 60 := by omega
    rcases this with rfl | rfl | rfl | rfl | rfl | rfl | rfl | rfl | rfl | rfl | rfl | rfl | rfl | rfl | rfl | rfl | rfl | rfl | rfl | rfl | rfl | rfl | rfl | rfl | rfl | rfl | rfl | rfl | rfl | rfl | rfl | rfl | rfl | rfl | rfl | rfl | rfl | rfl | rfl | rfl | rfl | rfl | rfl | rfl | rfl | rfl | rfl | rfl | rfl | rfl | rfl | rfl | rfl | rfl | rfl | rfl | rfl | rfl | rfl | rfl | rfl <;> exact ⟨by kernel_rfl, by kernel_rfl⟩
  exact fun k hk => h ⟨k, hk⟩
theorem idx61 {cs : List Value} (k : Nat) (hk : k < 61) (N V : ByteArray) (hl : cs.length = 122) (h : cs[k * 2]? = some (.string N)) (h' : cs[k * 2 + 1]? = some (.string V)) (W : World) :
    (Instr.index 141 (.agg cs.toArray) (.int .i64 (k : Int))).run Tryd.prog W = .ok (.agg #[.string N, .string V]) W := by
  have hu : Tryd.prog.underlying 141 = some (.array 61 140) := Tryd.underlying141
  have h3 : (Tryd.prog.info? 140).map (·.size) = some 2 := by kernel_rfl
  obtain ⟨i, hi, h1⟩ := Option.map_eq_some_iff.1 h3
  have hz := Tryd.underlying140
  have e1 : (0 : Int) ≤ (k : Int) ∧ (k : Int) < 61 := by omega
  have hd : (cs.drop (k * 2)).take 2 = [.string N, .string V] := by
    refine List.ext_getElem? fun j => ?_
    rw [List.getElem?_take]
    by_cases hj : j < 2
    · rw [if_pos hj, List.getElem?_drop]
      have hj' : j = 0 ∨ j = 1 := by omega
      rcases hj' with rfl | rfl
      · simpa using h
      · simpa using h'
    · rw [if_neg hj, List.getElem?_eq_none (by simp; omega)]
  simp [Instr.index, run_underlying hu, asIntOf, e1, sizeOf, typeInfo, hi, h1, isAgg, run_underlying hz, part, go_sem]
  rw [if_pos hk, hd]

/-! ### At -/
theorem row3s {w : World} {b : Nat} {T : TypeId} {v0 v1 v2 : Value} (h : w.heap[b]? = some (.cells #[v0, v1, v2] T (0, 0))) : w.cell? ⟨b, 0, none⟩ = some v0 ∧ w.cell? ⟨b, 1, none⟩ = some v1 ∧ w.cell? ⟨b, 2, none⟩ = some v2 := by
  refine ⟨?_, ?_, ?_⟩
  · rw [cell_of_row w b 0 _ _ _ h]; rfl
  · rw [cell_of_row w b 1 _ _ _ h]; rfl
  · rw [cell_of_row w b 2 _ _ _ h]; rfl
set_option maxHeartbeats 1600000 in
theorem at_out (z : Int) (w : World) (h : z < 1 ∨ 61 < z) : Calls Tryd.prog 76 #[.int .i64 z] w fun e w' => e = .returned (.tuple #[.agg #[.string ⟨#[]⟩, .string ⟨#[]⟩, .bool false], .bool false]) ∧ Below w.heap.size w w' := by
  have R0 := hide (heap_alloc_new w (.cells #[.string ⟨#[]⟩, .string ⟨#[]⟩, .bool false] 51))
  by_cases h0 : z < 1
  · have d0 : decide (z < 1) = true := by simpa using h0
    go_enter Tryd.func76, Tryd.ntmps76
    go_wp2_with fail
    refine bodyPost_ret (v := .tuple #[.agg #[.string ⟨#[]⟩, .string ⟨#[]⟩, .bool false], .bool false]) ?_ rfl ⟨rfl, ?_⟩
    · rw [results_cell_tmp rfl]
      go_simp
    · repeat (first | exact Below.refl _ _ | refine Below.setCell ?_ (by simp) _ | refine Below.alloc ?_ (by simp) _)
  · have d0 : decide (z < 1) = false := by simpa using h0
    have d1 : decide (61 < z) = true := by simp; omega
    go_enter Tryd.func76, Tryd.ntmps76
    go_wp2_with fail
    refine bodyPost_ret (v := .tuple #[.agg #[.string ⟨#[]⟩, .string ⟨#[]⟩, .bool false], .bool false]) ?_ rfl ⟨rfl, ?_⟩
    · rw [results_cell_tmp rfl]
      go_simp
    · repeat (first | exact Below.refl _ _ | refine Below.setCell ?_ (by simp) _ | refine Below.alloc ?_ (by simp) _)
set_option maxHeartbeats 1600000 in
theorem at_in (k : Nat) (w : World) (hk : k < 61) : Calls Tryd.prog 76 #[.int .i64 ((k : Int) + 1)] w fun e w' => e = .returned (.tuple #[.agg #[.string (nmB k), .string (vlB k), .bool false], .bool true]) ∧ Below w.heap.size w w' := by
  have d0 : decide ((k : Int) + 1 < 1) = false := by simp; omega
  have d1 : decide (61 < (k : Int) + 1) = false := by simp; omega
  obtain ⟨g1, g2⟩ := stV_get k hk
  obtain ⟨N, hN⟩ : ∃ N, nmB k = N := ⟨_, rfl⟩
  obtain ⟨V, hV⟩ : ∃ V, vlB k = V := ⟨_, rfl⟩
  rw [hN] at g1 ⊢
  rw [hV] at g2 ⊢
  obtain ⟨cs, hcs⟩ : ∃ cs, cs = stV := ⟨_, rfl⟩
  have Hf : Hid (∀ W, Calls Tryd.prog 94 #[] W fun e w' => e = .returned (.agg cs.toArray) ∧ Below W.heap.size W w') := fun W => by rw [hcs]; exact fields_any W
  rw [← hcs] at g1 g2
  have hl : cs.length = 122 := by rw [hcs]; exact stV_len
  have hidx := idx61 (cs := cs) k hk N V hl g1 g2
  have hk1 : (k : Int) + 1 - 1 = (k : Int) := by omega
  have R0 := hide (heap_alloc_new w (.cells #[.string ⟨#[]⟩, .string ⟨#[]⟩, .bool false] 51))
  have B0 : Hid (Below w.heap.size w (w.alloc (.cells #[.string ⟨#[]⟩, .string ⟨#[]⟩, .bool false] 51))) := (Below.refl _ _).alloc (Nat.le_refl _) _
  clear hN hV hcs g1 g2 hl
  go_enter Tryd.func76, Tryd.ntmps76
  go_wp2_with fail
  refine (Hf.out _).mono ?_
  rintro e w1 ⟨rfl, hb1⟩
  have R1 := hide (keepRow R0.out hb1)
  have HB1 := hide (B0.out.of hb1)
  have hl1 := rowLt R1.out
  have hs1 := HB1.out.size
  have S1 := setRow w1 w.heap.size 0 (.string N) R1.out
  have S2 := setRow _ w.heap.size 1 (.string V) S1
  have S3 := setRow _ w.heap.size 2 (.bool false) S2
  simp only [List.setIfInBounds_toArray, List.set_cons_zero, List.set_cons_succ] at S1 S2 S3
  have A3 := hide (keepRow S3 ((Below.refl _ _).alloc (Nat.le_refl _) (.cells #[.string N, .string V] 140)))
  have A0 := keepRow R1.out ((Below.refl _ _).alloc (Nat.le_refl _) (.cells #[.string N, .string V] 140))
  have A1 := keepRow S1 ((Below.refl _ _).alloc (Nat.le_refl _) (.cells #[.string N, .string V] 140))
  have A2 := keepRow S2 ((Below.refl _ _).alloc (Nat.le_refl _) (.cells #[.string N, .string V] 140))
  have z00 := frozenRow A0 0
  have z11 := frozenRow A1 1
  have z22 := frozenRow A2 2
  obtain ⟨c00, c01, c02⟩ := row3s A0
  obtain ⟨c10, c11, c12⟩ := row3s A1
  obtain ⟨c20, c21, c22⟩ := row3s A2
  have y00 := frozenRow R1.out 0
  have y11 := frozenRow S1 1
  have y22 := frozenRow S2 2
  obtain ⟨d00, d01, d02⟩ := row3s R1.out
  obtain ⟨d10, d11, d12⟩ := row3s S1
  obtain ⟨d20, d21, d22⟩ := row3s S2
  clear S1 S2 S3 A0 A1 A2
  have hne : w.heap.size ≠ w1.heap.size := by omega
  clear hb1
  go_wp2_with fail
  obtain ⟨e0, e1, e2⟩ := row3s A3.out
  refine bodyPost_ret (v := .tuple #[.agg #[.string N, .string V, .bool false], .bool true]) ?_ rfl ⟨rfl, ?_⟩
  · rw [results_cell_tmp rfl]
    go_simp
  · exact (((HB1.out.setCell (Nat.le_refl _) _).setCell (Nat.le_refl _) _).setCell (Nat.le_refl _) _).alloc (by simp [World.setCell]; exact hs1) _

/-! ### Find -/
/-- Where a field stands: the least place of both; else of the name; else 0. -/
def FdR (n v : ByteArray) (i : Int) (b : Bool) : Prop :=
  (b = true ∧ ∃ k : Nat, k < 61 ∧ i = (k : Int) + 1 ∧ nmB k = n ∧ vlB k = v ∧ ∀ j, j < k → ¬ (nmB j = n ∧ vlB j = v)) ∨
  (b = false ∧ (∀ j, j < 61 → ¬ (nmB j = n ∧ vlB j = v)) ∧ ((i = 0 ∧ ∀ j, j < 61 → nmB j ≠ n) ∨ ∃ k : Nat, k < 61 ∧ i = (k : Int) + 1 ∧ nmB k = n ∧ ∀ j, j < k → nmB j ≠ n))
theorem FdR.same {n v : ByteArray} {i j : Int} {b d : Bool} (h : FdR n v i b) (k : FdR n v j d) : i = j ∧ b = d := by
  rcases h with ⟨rfl, p, hp, rfl, h1, h2, h3⟩ | ⟨rfl, h0, h⟩
  · rcases k with ⟨rfl, q, hq, rfl, k1, k2, k3⟩ | ⟨rfl, k0, _⟩
    · rcases Nat.lt_trichotomy p q with e | e | e
      · exact absurd ⟨h1, h2⟩ (k3 p e)
      · subst e
        exact ⟨rfl, rfl⟩
      · exact absurd ⟨k1, k2⟩ (h3 q e)
    · exact absurd ⟨h1, h2⟩ (k0 p hp)
  · rcases k with ⟨rfl, q, hq, rfl, k1, k2, k3⟩ | ⟨rfl, k0, k⟩
    · exact absurd ⟨k1, k2⟩ (h0 q hq)
    · refine ⟨?_, rfl⟩
      rcases h with ⟨rfl, h⟩ | ⟨p, hp, rfl, h1, h2⟩
      · rcases k with ⟨rfl, _⟩ | ⟨q, hq, _, k1, _⟩
        · rfl
        · exact absurd k1 (h q hq)
      · rcases k with ⟨_, k⟩ | ⟨q, hq, rfl, k1, k2⟩
        · exact absurd h1 (k p hp)
        · rcases Nat.lt_trichotomy p q with e | e | e
          · exact absurd h1 (k2 p e)
          · subst e
            rfl
          · exact absurd k1 (h2 q e)
end

section
open Go.RowKit

theorem sstr_eq {a b : ByteArray} (h : a = b) : (a.toList == b.toList) = true := by subst h; simp
theorem str_ne {a b : ByteArray} (h : a ≠ b) : (a.toList == b.toList) = false := by
  have : ¬ a.toList = b.toList := fun e => h (Go.WideShapes.bytes_inj (by rw [← ByteArray.toList_eq, ← ByteArray.toList_eq]; exact e))
  simpa using this
def FdE (n v : ByteArray) (w : World) (e : Ending) (w' : World) : Prop := ∃ i b, e = .returned (.tuple #[.int .i64 i, .bool b]) ∧ FdR n v i b ∧ Below w.heap.size w w'
set_option maxHeartbeats 3200000 in
theorem sfind_any (n v : ByteArray) (w : World) : Calls Tryd.prog 86 #[.string n, .string v] w (FdE n v w) := by
  obtain ⟨cs, hcs⟩ : ∃ cs, cs = stV := ⟨_, rfl⟩
  have Hf : Hid (∀ W, Calls Tryd.prog 94 #[] W fun e w' => e = .returned (.agg cs.toArray) ∧ Below W.heap.size W w') := fun W => by rw [hcs]; exact fields_any W
  have hl : cs.length = 122 := by rw [hcs]; exact stV_len
  have Hix : Hid (∀ k : Nat, k < 61 → ∀ W, (Instr.index 141 (.agg cs.toArray) (.int .i64 (k : Int))).run Tryd.prog W = .ok (.agg #[.string (nmB k), .string (vlB k)]) W) := fun k hk => by
    obtain ⟨g1, g2⟩ := stV_get k hk
    rw [← hcs] at g1 g2
    exact idx61 (cs := cs) k hk _ _ hl g1 g2
  clear hcs hl
  go_enter Tryd.func86, Tryd.ntmps86
  go_wp2_with fail
  refine (Hf.out _).mono ?_
  rintro e w1 ⟨rfl, hb1⟩
  have HB1 := hide hb1
  have hs1 := hb1.size
  clear hb1
  go_wp2_with fail
  go_loopw [6, 10] (fun f i wr => ∃ (k : Nat) (F : Int), k ≤ 61 ∧ i = .int .i64 k ∧ f = .int .i64 F ∧ (∀ j, j < k → ¬ (nmB j = n ∧ vlB j = v)) ∧ ((F = 0 ∧ ∀ j, j < k → nmB j ≠ n) ∨ ∃ q : Nat, q < k ∧ F = (q : Int) + 1 ∧ nmB q = n ∧ ∀ j, j < q → nmB j ≠ n) ∧ Below w1.heap.size w1 wr) (fun _ i _ => 61 - (intOf i).toNat)
  case atStart => exact ⟨0, 0, Nat.zero_le _, rfl, rfl, fun j h => absurd h (by omega), .inl ⟨rfl, fun j h => absurd h (by omega)⟩, Below.refl _ _⟩
  case round =>
    obtain ⟨k, F, hk, rfl, rfl, hno, hF, hB⟩ := hrel
    have Hno := hide hno
    have HF := hide hF
    have HB := hide hB
    have hsz := hB.size
    clear hno hF hB
    by_cases hlt : k < 61
    · have hd : decide ((k : Int) < 61) = true := by simp; omega
      have hidx := Hix.out k hlt
      obtain ⟨N, hN⟩ : ∃ N, nmB k = N := ⟨_, rfl⟩
      obtain ⟨V, hV⟩ : ∃ V, vlB k = V := ⟨_, rfl⟩
      rw [hN, hV] at hidx
      have HN := hide hN
      have HV := hide hV
      clear hN hV
      have HA : Hid (Below w1.heap.size w1 (wr.alloc (.cells #[.string N, .string V] 140))) := HB.out.alloc hsz _
      by_cases hn : N = n
      · have t1 : (!N.toList == n.toList) = false := by rw [sstr_eq hn]; rfl
        by_cases hv : V = v
        · have t2 := sstr_eq hv
          have HR : Hid (FdR n v ((k : Int) + 1) true) := .inl ⟨rfl, k, hlt, rfl, by rw [HN.out, hn], by rw [HV.out, hv], Hno.out⟩
          clear hn hv
          go_wp2_with fail
          go_ret2
          exact ⟨_, _, rfl, HR.out, HB1.out.of HA.out⟩
        · have t2 := str_ne hv
          have Hno' : Hid (∀ j, j < k + 1 → ¬ (nmB j = n ∧ vlB j = v)) := fun j hj => by
            by_cases e : j = k
            · subst e
              exact fun h => hv (by rw [← HV.out]; exact h.2)
            · exact Hno.out j (by omega)
          have Hn := hide hn
          clear hn hv
          by_cases hF0 : F = 0
          · have t3 : (F == 0) = true := by simpa using hF0
            have HF' : Hid (∃ q : Nat, q < k + 1 ∧ (k : Int) + 1 = (q : Int) + 1 ∧ nmB q = n ∧ ∀ j, j < q → nmB j ≠ n) := by
              refine ⟨k, by omega, rfl, by rw [HN.out, Hn.out], ?_⟩
              rcases HF.out with ⟨_, h⟩ | ⟨q, _, e, _⟩
              · exact h
              · omega
            clear hF0
            go_wp2_with fail
            exact ⟨⟨k + 1, (k : Int) + 1, by omega, by go_num, rfl, Hno'.out, .inr HF'.out, HA.out⟩, by simp [intOf]; omega⟩
          · have t3 : (F == 0) = false := by simpa using hF0
            have HF' : Hid (∃ q : Nat, q < k + 1 ∧ F = (q : Int) + 1 ∧ nmB q = n ∧ ∀ j, j < q → nmB j ≠ n) := by
              rcases HF.out with ⟨e, _⟩ | ⟨q, hq, e, h1, h2⟩
              · exact absurd e hF0
              · exact ⟨q, by omega, e, h1, h2⟩
            clear hF0
            go_wp2_with fail
            exact ⟨⟨k + 1, F, by omega, by go_num, rfl, Hno'.out, .inr HF'.out, HA.out⟩, by simp [intOf]; omega⟩
      · have t1 : (!N.toList == n.toList) = true := by rw [str_ne hn]; rfl
        have hnk : nmB k ≠ n := by rw [HN.out]; exact hn
        have Hno' : Hid (∀ j, j < k + 1 → ¬ (nmB j = n ∧ vlB j = v)) := fun j hj => by
          by_cases e : j = k
          · subst e
            exact fun h => hnk h.1
          · exact Hno.out j (by omega)
        have HF' : Hid ((F = 0 ∧ ∀ j, j < k + 1 → nmB j ≠ n) ∨ ∃ q : Nat, q < k + 1 ∧ F = (q : Int) + 1 ∧ nmB q = n ∧ ∀ j, j < q → nmB j ≠ n) := by
          rcases HF.out with ⟨e, h⟩ | ⟨q, hq, e, h1, h2⟩
          · refine .inl ⟨e, fun j hj => ?_⟩
            by_cases e : j = k
            · subst e
              exact hnk
            · exact h j (by omega)
          · exact .inr ⟨q, by omega, e, h1, h2⟩
        clear hn hnk
        go_wp2_with fail
        exact ⟨⟨k + 1, F, by omega, by go_num, rfl, Hno'.out, HF'.out, HA.out⟩, by simp [intOf]; omega⟩
    · obtain rfl : k = 61 := by omega
      go_wp2_with fail
      go_ret2
      exact ⟨_, _, rfl, .inr ⟨rfl, Hno.out, HF.out⟩, HB1.out.of HB.out⟩
theorem meth_at : nmB 1 = ⟨#[58, 109, 101, 116, 104, 111, 100]⟩ ∧ (∀ j, j < 1 → nmB j ≠ ⟨#[58, 109, 101, 116, 104, 111, 100]⟩) := by
  refine ⟨by kernel_rfl, fun j hj => ?_⟩
  obtain rfl : j = 0 := by omega
  decide +kernel
theorem put_no : ∀ j, j < 61 → ¬ (nmB j = ⟨#[58, 109, 101, 116, 104, 111, 100]⟩ ∧ vlB j = ⟨#[80, 85, 84]⟩) := fun j hj => by
  have h : ∀ i : Fin 61, ¬ (nmB i.val = ⟨#[58, 109, 101, 116, 104, 111, 100]⟩ ∧ vlB i.val = ⟨#[80, 85, 84]⟩) := by decide +kernel
  exact h ⟨j, hj⟩
end

section
open Go.RowKit

def rnm (z : Int) : ByteArray := if 1 ≤ z ∧ z ≤ 61 then nmB (z - 1).toNat else ⟨#[]⟩
def rlt (z : Int) : ByteArray := if 36 ≤ z ∧ z ≤ 61 then nmB (z - 1).toNat else ⟨#[]⟩
def rvl (z : Int) : ByteArray := if 1 ≤ z ∧ z ≤ 61 then vlB (z - 1).toNat else ⟨#[]⟩
theorem rnm_at (k : Nat) (h : k < 61) : rnm ((k : Int) + 1) = nmB k := by
  have e : ((k : Int) + 1 - 1).toNat = k := by omega
  rw [rnm, if_pos (by omega), e]
theorem rvl_at (k : Nat) (h : k < 61) : rvl ((k : Int) + 1) = vlB k := by
  have e : ((k : Int) + 1 - 1).toNat = k := by omega
  rw [rvl, if_pos (by omega), e]
theorem rnm_out (z : Int) (h : z < 1 ∨ 61 < z) : rnm z = ⟨#[]⟩ := by rw [rnm, if_neg (by omega)]
theorem nm_some (k : Nat) (h : k < 61) : nmB k ≠ ⟨#[]⟩ := by
  have a : ∀ i : Fin 61, nmB i.val ≠ ⟨#[]⟩ := by decide +kernel
  exact a ⟨k, h⟩
theorem vl_some : ∀ i : Fin 61, vlB i.val = ⟨#[]⟩ ∨ (1 ≤ i.val ∧ i.val ≤ 13) ∨ i.val = 15 := by decide +kernel
set_option maxHeartbeats 3200000 in
theorem srvalue_any (z : Int) (w : World) : Calls Tryd.prog 82 #[.int .i64 z] w (fun e w' => e = .returned (.string (rvl z)) ∧ w' = w) := by
  go_enter Tryd.func82, Tryd.ntmps82
  go_wp2_with fail
  all_goals (first | (rename_i h; replace h := eq_of_beq h; rw [h]; go_ret; exact ⟨by kernel_rfl, rfl⟩) | skip)
  simp only [beq_eq_false_iff_ne] at *
  have e : rvl z = ⟨#[]⟩ := by
    by_cases hz : 1 ≤ z ∧ z ≤ 61
    · rw [rvl, if_pos hz]
      rcases vl_some ⟨(z - 1).toNat, by omega⟩ with h | h | h
      · exact h
      · simp only at h; omega
      · simp only at h; omega
    · rw [rvl, if_neg hz]
  rw [e]
  go_ret
  exact ⟨rfl, rfl⟩
set_option maxHeartbeats 3200000 in
theorem rlater_any (z : Int) (w : World) : Calls Tryd.prog 99 #[.int .i64 z] w (fun e w' => e = .returned (.string (rlt z)) ∧ w' = w) := by
  go_enter Tryd.func99, Tryd.ntmps99
  go_wp2_with fail
  all_goals (first | (rename_i h; replace h := eq_of_beq h; rw [h]; go_ret; exact ⟨by kernel_rfl, rfl⟩) | skip)
  simp only [beq_eq_false_iff_ne] at *
  have e : rlt z = ⟨#[]⟩ := by rw [rlt, if_neg (by omega)]
  rw [e]
  go_ret
  exact ⟨rfl, rfl⟩
set_option maxHeartbeats 3200000 in
theorem srname_any (z : Int) (w : World) : Calls Tryd.prog 81 #[.int .i64 z] w (fun e w' => e = .returned (.string (rnm z)) ∧ w' = w) := by
  have HL : Hid (∀ W, Calls Tryd.prog 99 #[.int .i64 z] W (fun e w' => e = .returned (.string (rlt z)) ∧ w' = W)) := fun W => rlater_any z W
  go_enter Tryd.func81, Tryd.ntmps81
  go_wp2_with fail
  all_goals (first | (rename_i h; replace h := eq_of_beq h; rw [h]; go_ret; exact ⟨by kernel_rfl, rfl⟩) | skip)
  have e : rlt z = rnm z := by
    simp only [beq_eq_false_iff_ne] at *
    by_cases hz : 36 ≤ z ∧ z ≤ 61
    · rw [rlt, if_pos hz, rnm, if_pos (by omega)]
    · rw [rlt, if_neg hz, rnm, if_neg (by omega)]
  refine (HL.out _).mono ?_
  rintro e w1 ⟨rfl, rfl⟩
  go_wp2_with fail
  go_ret
  exact ⟨rfl, rfl⟩
end

section
open Go.RowKit

theorem str_some {a : ByteArray} (h : a ≠ ⟨#[]⟩) : a.toList.isEmpty = false := by
  cases e : a.toList.isEmpty
  · rfl
  · have e' : a.toList = [] := by simpa using e
    have h2 := str_ne h
    rw [e'] at h2
    exact absurd h2 (by decide +kernel)

set_option maxHeartbeats 1600000 in
theorem rat_out (z : Int) (w : World) (h : z < 1 ∨ 61 < z) : Calls Tryd.prog 60 #[.int .i64 z] w fun e w' => e = .returned (.tuple #[.agg #[.string ⟨#[]⟩, .string ⟨#[]⟩, .bool false], .bool false]) ∧ Below w.heap.size w w' := by
  have R0 := hide (heap_alloc_new w (.cells #[.string ⟨#[]⟩, .string ⟨#[]⟩, .bool false] 51))
  have HN : Hid (∀ W, Calls Tryd.prog 81 #[.int .i64 z] W (fun e w' => e = .returned (.string ⟨#[]⟩) ∧ w' = W)) := fun W => by
    have := srname_any z W
    rwa [rnm_out z h] at this
  go_enter Tryd.func60, Tryd.ntmps60
  go_wp2_with fail
  refine (HN.out _).mono ?_
  rintro e w1 ⟨rfl, rfl⟩
  go_wp2_with fail
  refine bodyPost_ret (v := .tuple #[.agg #[.string ⟨#[]⟩, .string ⟨#[]⟩, .bool false], .bool false]) ?_ rfl ⟨rfl, ?_⟩
  · rw [results_cell_tmp rfl]
    go_simp
  · repeat (first | exact Below.refl _ _ | refine Below.setCell ?_ (by simp) _ | refine Below.alloc ?_ (by simp) _)
set_option maxHeartbeats 1600000 in
theorem rat_in (k : Nat) (w : World) (hk : k < 61) : Calls Tryd.prog 60 #[.int .i64 ((k : Int) + 1)] w fun e w' => e = .returned (.tuple #[.agg #[.string (nmB k), .string (vlB k), .bool false], .bool true]) ∧ Below w.heap.size w w' := by
  have hx := nm_some k hk
  obtain ⟨N, hN⟩ : ∃ N, nmB k = N := ⟨_, rfl⟩
  obtain ⟨V, hV⟩ : ∃ V, vlB k = V := ⟨_, rfl⟩
  have HN : Hid (∀ W, Calls Tryd.prog 81 #[.int .i64 ((k : Int) + 1)] W (fun e w' => e = .returned (.string N) ∧ w' = W)) := fun W => by
    have := srname_any ((k : Int) + 1) W
    rwa [rnm_at k hk, hN] at this
  have HV : Hid (∀ W, Calls Tryd.prog 82 #[.int .i64 ((k : Int) + 1)] W (fun e w' => e = .returned (.string V) ∧ w' = W)) := fun W => by
    have := srvalue_any ((k : Int) + 1) W
    rwa [rvl_at k hk, hV] at this
  rw [hN] at hx ⊢
  rw [hV]
  have t0 := str_some hx
  have R1 := hide (heap_alloc_new w (.cells #[.string ⟨#[]⟩, .string ⟨#[]⟩, .bool false] 51))
  have B0 : Hid (Below w.heap.size w (w.alloc (.cells #[.string ⟨#[]⟩, .string ⟨#[]⟩, .bool false] 51))) := (Below.refl _ _).alloc (Nat.le_refl _) _
  clear hN hV hx
  have hl1 := rowLt R1.out
  have S1 := setRow _ w.heap.size 0 (.string N) R1.out
  have S2 := setRow _ w.heap.size 1 (.string V) S1
  have S3 := setRow _ w.heap.size 2 (.bool false) S2
  simp only [List.setIfInBounds_toArray, List.set_cons_zero, List.set_cons_succ] at S1 S2 S3
  have HS3 := hide S3
  have z00 := frozenRow R1.out 0
  have z11 := frozenRow S1 1
  have z22 := frozenRow S2 2
  obtain ⟨c00, c01, c02⟩ := row3s R1.out
  obtain ⟨c10, c11, c12⟩ := row3s S1
  obtain ⟨c20, c21, c22⟩ := row3s S2
  clear S1 S2 S3
  go_enter Tryd.func60, Tryd.ntmps60
  go_wp2_with fail
  refine (HN.out _).mono ?_
  rintro e w1 ⟨rfl, rfl⟩
  go_wp2_with fail
  refine (HN.out _).mono ?_
  rintro e w1 ⟨rfl, rfl⟩
  go_wp2_with fail
  refine (HV.out _).mono ?_
  rintro e w1 ⟨rfl, rfl⟩
  go_wp2_with fail
  obtain ⟨e0, e1, e2⟩ := row3s HS3.out
  refine bodyPost_ret (v := .tuple #[.agg #[.string N, .string V, .bool false], .bool true]) ?_ rfl ⟨rfl, ?_⟩
  · rw [results_cell_tmp rfl]
    go_simp
  · exact (Below.refl _ _).alloc (Nat.le_refl _) _
end

section
open Go.RowKit

theorem at_pair (z : Int) : ∃ N V b, Hid (∀ W, Calls Tryd.prog 76 #[.int .i64 z] W fun e w' => e = .returned (.tuple #[.agg #[.string N, .string V, .bool false], .bool b]) ∧ Below W.heap.size W w') ∧ Hid (∀ W, Calls Tryd.prog 60 #[.int .i64 z] W fun e w' => e = .returned (.tuple #[.agg #[.string N, .string V, .bool false], .bool b]) ∧ Below W.heap.size W w') := by
  by_cases h : z < 1 ∨ 61 < z
  · exact ⟨_, _, _, fun W => at_out z W h, fun W => rat_out z W h⟩
  · obtain ⟨k, rfl⟩ : ∃ k : Nat, z = (k : Int) + 1 := ⟨(z - 1).toNat, by omega⟩
    exact ⟨_, _, _, fun W => at_in k W (by omega), fun W => rat_in k W (by omega)⟩
end

section
open Go.RowKit

/-- The least place of the name from m on, one more; else 0. -/
def Fd1 (n : ByteArray) (m : Nat) (F : Int) : Prop := (F = 0 ∧ ∀ j, m ≤ j → j < 61 → nmB j ≠ n) ∨ ∃ q : Nat, m ≤ q ∧ q < 61 ∧ F = (q : Int) + 1 ∧ nmB q = n ∧ ∀ j, m ≤ j → j < q → nmB j ≠ n
theorem Fd1.no {n : ByteArray} {k : Nat} {F : Int} (h : Fd1 n (k + 1) F) (hn : nmB k ≠ n) : Fd1 n k F := by
  rcases h with ⟨e, h⟩ | ⟨q, h1, h2, e, h3, h4⟩
  · refine .inl ⟨e, fun j hj hl => ?_⟩
    by_cases ej : j = k
    · subst ej
      exact hn
    · exact h j (by omega) hl
  · refine .inr ⟨q, by omega, h2, e, h3, fun j hj hl => ?_⟩
    by_cases ej : j = k
    · subst ej
      exact hn
    · exact h4 j (by omega) hl
theorem Fd1.yes {n : ByteArray} {k : Nat} (hk : k < 61) (hn : nmB k = n) : Fd1 n k ((k : Int) + 1) := .inr ⟨k, Nat.le_refl _, hk, rfl, hn, fun j hj hl => by omega⟩
theorem str_none {a : ByteArray} (h : a = ⟨#[]⟩) : a.toList.isEmpty = true := by subst h; decide +kernel
def RfE (n v : ByteArray) (w : World) (e : Ending) (w' : World) : Prop := ∃ i b, e = .returned (.tuple #[.int .i64 i, .bool b]) ∧ FdR n v i b ∧ w' = w
set_option maxHeartbeats 3200000 in
theorem srfind_any (n v : ByteArray) (w : World) : Calls Tryd.prog 91 #[.string n, .string v] w (RfE n v w) := by
  have HN : Hid (∀ (k : Nat) (_ : k < 61) (W : World), Calls Tryd.prog 81 #[.int .i64 ((k : Int) + 1)] W (fun e w' => e = .returned (.string (nmB k)) ∧ w' = W)) := fun k hk W => by
    have := srname_any ((k : Int) + 1) W
    rwa [rnm_at k hk] at this
  have HV : Hid (∀ (k : Nat) (_ : k < 61) (W : World), Calls Tryd.prog 82 #[.int .i64 ((k : Int) + 1)] W (fun e w' => e = .returned (.string (vlB k)) ∧ w' = W)) := fun k hk W => by
    have := srvalue_any ((k : Int) + 1) W
    rwa [rvl_at k hk] at this
  by_cases h0 : n = ⟨#[]⟩
  · have t0 := str_none h0
    have HR : Hid (FdR n v 0 false) := .inr ⟨rfl, fun j hj h => nm_some j hj (by rw [h.1, h0]), .inl ⟨rfl, fun j hj h => nm_some j hj (by rw [h, h0])⟩⟩
    clear h0
    go_enter Tryd.func91, Tryd.ntmps91
    go_wp2_with fail
    go_ret2
    exact ⟨_, _, rfl, HR.out, rfl⟩
  have t0 := str_some h0
  clear h0
  go_enter Tryd.func91, Tryd.ntmps91
  go_wp2_with fail
  go_loopw [6, 7] (fun f i wr => ∃ (m : Nat) (I F : Int), m ≤ 61 ∧ I = m ∧ i = .int .i64 I ∧ f = .int .i64 F ∧ Fd1 n m F ∧ wr = w) (fun _ i _ => (intOf i).toNat)
  case atStart => exact ⟨61, 61, 0, Nat.le_refl _, rfl, rfl, rfl, .inl ⟨rfl, fun j h1 h2 => by omega⟩, rfl⟩
  case round =>
    obtain ⟨m, I, F, hm, hI, rfl, rfl, hF, rfl⟩ := hrel
    have HF := hide hF
    clear hF
    by_cases h1 : 1 ≤ m
    · obtain ⟨k, rfl⟩ : ∃ k, m = k + 1 := ⟨m - 1, by omega⟩
      have hk : k < 61 := by omega
      have hI' : I = (k : Int) + 1 := by omega
      clear hI
      subst hI'
      have hd : decide (1 ≤ (k : Int) + 1) = true := by simp; omega
      have hNk := hide (HN.out k hk)
      obtain ⟨N, hN⟩ : ∃ N, nmB k = N := ⟨_, rfl⟩
      rw [hN] at hNk
      have e1 : (k : Int) + 1 - 1 = (k : Int) := by omega
      by_cases hn : N = n
      · have t1 := sstr_eq hn
        have HF' : Hid (Fd1 n k ((k : Int) + 1)) := Fd1.yes hk (by rw [hN, hn])
        clear hn hN
        go_wp2_with fail
        refine (hNk.out _).mono ?_
        rintro e w1 ⟨rfl, rfl⟩
        go_wp2_with fail
        exact ⟨⟨k, k, (k : Int) + 1, by omega, rfl, by go_num, rfl, HF'.out, trivial⟩, by simp [intOf]⟩
      · have t1 := str_ne hn
        have HF' : Hid (Fd1 n k F) := HF.out.no (by rw [hN]; exact hn)
        clear hn hN
        go_wp2_with fail
        refine (hNk.out _).mono ?_
        rintro e w1 ⟨rfl, rfl⟩
        go_wp2_with fail
        exact ⟨⟨k, k, F, by omega, rfl, by go_num, rfl, HF'.out, trivial⟩, by simp [intOf]⟩
    · obtain rfl : m = 0 := by omega
      have hI' : I = 0 := by omega
      clear hI
      subst hI'
      have HF0 : Hid (Fd1 n 0 F) := HF.out
      go_wp2_with fail
      go_loopw [8] (fun i wr' => ∃ k : Nat, k ≤ 61 ∧ i = .int .i64 ((k : Int) + 1) ∧ (∀ j, j < k → ¬ (nmB j = n ∧ vlB j = v)) ∧ wr' = wr) (fun i _ => 62 - (intOf i).toNat)
      case atStart => exact ⟨0, by omega, rfl, fun j h => absurd h (by omega), rfl⟩
      case round =>
        obtain ⟨k, hk, rfl, hno, rfl⟩ := hrel
        have Hno := hide hno
        clear hno
        by_cases hlt : k < 61
        · have hd : decide ((k : Int) + 1 ≤ 61) = true := by simp; omega
          have hNk := hide (HN.out k hlt)
          have hVk := hide (HV.out k hlt)
          obtain ⟨N, hN⟩ : ∃ N, nmB k = N := ⟨_, rfl⟩
          obtain ⟨V, hV⟩ : ∃ V, vlB k = V := ⟨_, rfl⟩
          rw [hN] at hNk
          rw [hV] at hVk
          by_cases hn : N = n
          · have t1 := sstr_eq hn
            by_cases hv : V = v
            · have t2 := sstr_eq hv
              have HR : Hid (FdR n v ((k : Int) + 1) true) := .inl ⟨rfl, k, hlt, rfl, by rw [hN, hn], by rw [hV, hv], Hno.out⟩
              clear hn hv hN hV
              go_wp2_with fail
              refine (hNk.out _).mono ?_
              rintro e w1 ⟨rfl, rfl⟩
              go_wp2_with fail
              refine (hVk.out _).mono ?_
              rintro e w1 ⟨rfl, rfl⟩
              go_wp2_with fail
              go_ret2
              exact ⟨_, _, rfl, HR.out, rfl⟩
            · have t2 := str_ne hv
              have Hno' : Hid (∀ j, j < k + 1 → ¬ (nmB j = n ∧ vlB j = v)) := fun j hj => by
                by_cases e : j = k
                · subst e
                  exact fun h => hv (by rw [← hV]; exact h.2)
                · exact Hno.out j (by omega)
              clear hn hv hN hV
              go_wp2_with fail
              refine (hNk.out _).mono ?_
              rintro e w1 ⟨rfl, rfl⟩
              go_wp2_with fail
              refine (hVk.out _).mono ?_
              rintro e w1 ⟨rfl, rfl⟩
              go_wp2_with fail
              exact ⟨⟨k + 1, by omega, by go_num, Hno'.out, trivial⟩, by simp [intOf]; omega⟩
          · have t1 := str_ne hn
            have Hno' : Hid (∀ j, j < k + 1 → ¬ (nmB j = n ∧ vlB j = v)) := fun j hj => by
              by_cases e : j = k
              · subst e
                exact fun h => hn (by rw [← hN]; exact h.1)
              · exact Hno.out j (by omega)
            clear hn hN hV
            go_wp2_with fail
            refine (hNk.out _).mono ?_
            rintro e w1 ⟨rfl, rfl⟩
            go_wp2_with fail
            exact ⟨⟨k + 1, by omega, by go_num, Hno'.out, trivial⟩, by simp [intOf]; omega⟩
        · obtain rfl : k = 61 := by omega
          have HR : Hid (FdR n v F false) := by
            refine .inr ⟨rfl, Hno.out, ?_⟩
            rcases HF0.out with ⟨e, h⟩ | ⟨q, _, h2, e, h3, h4⟩
            · exact .inl ⟨e, fun j hj => h j (Nat.zero_le _) hj⟩
            · exact .inr ⟨q, h2, e, h3, fun j hj => h4 j (Nat.zero_le _) hj⟩
          go_wp2_with fail
          go_ret2
          exact ⟨_, _, rfl, HR.out, rfl⟩
end

section
open Go.RowKit

end
end Go.Proofs.YtnkcbljhgcgpaaaDoor
