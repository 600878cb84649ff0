/- Layer 20: the static fields, as the program gives them. -/
import Derived.Test.YtlpbonfapglocaaCurA
import Derived.Test.YtlpbonfapglocaaCb1
namespace Go.Proofs.Ytlpbonfapglocaa
open Go.RowKit

/-- The names and values of the static fields, by their bytes. -/
def stL : List (List UInt8 × List UInt8) := [
  ([58, 97, 117, 116, 104, 111, 114, 105, 116, 121], []),
  ([58, 109, 101, 116, 104, 111, 100], [71, 69, 84]),
  ([58, 109, 101, 116, 104, 111, 100], [80, 79, 83, 84]),
  ([58, 112, 97, 116, 104], [47]),
  ([58, 112, 97, 116, 104], [47, 105, 110, 100, 101, 120, 46, 104, 116, 109, 108]),
  ([58, 115, 99, 104, 101, 109, 101], [104, 116, 116, 112]),
  ([58, 115, 99, 104, 101, 109, 101], [104, 116, 116, 112, 115]),
  ([58, 115, 116, 97, 116, 117, 115], [50, 48, 48]),
  ([58, 115, 116, 97, 116, 117, 115], [50, 48, 52]),
  ([58, 115, 116, 97, 116, 117, 115], [50, 48, 54]),
  ([58, 115, 116, 97, 116, 117, 115], [51, 48, 52]),
  ([58, 115, 116, 97, 116, 117, 115], [52, 48, 48]),
  ([58, 115, 116, 97, 116, 117, 115], [52, 48, 52]),
  ([58, 115, 116, 97, 116, 117, 115], [53, 48, 48]),
  ([97, 99, 99, 101, 112, 116, 45, 99, 104, 97, 114, 115, 101, 116], []),
  ([97, 99, 99, 101, 112, 116, 45, 101, 110, 99, 111, 100, 105, 110, 103], [103, 122, 105, 112, 44, 32, 100, 101, 102, 108, 97, 116, 101]),
  ([97, 99, 99, 101, 112, 116, 45, 108, 97, 110, 103, 117, 97, 103, 101], []),
  ([97, 99, 99, 101, 112, 116, 45, 114, 97, 110, 103, 101, 115], []),
  ([97, 99, 99, 101, 112, 116], []),
  ([97, 99, 99, 101, 115, 115, 45, 99, 111, 110, 116, 114, 111, 108, 45, 97, 108, 108, 111, 119, 45, 111, 114, 105, 103, 105, 110], []),
  ([97, 103, 101], []),
  ([97, 108, 108, 111, 119], []),
  ([97, 117, 116, 104, 111, 114, 105, 122, 97, 116, 105, 111, 110], []),
  ([99, 97, 99, 104, 101, 45, 99, 111, 110, 116, 114, 111, 108], []),
  ([99, 111, 110, 116, 101, 110, 116, 45, 100, 105, 115, 112, 111, 115, 105, 116, 105, 111, 110], []),
  ([99, 111, 110, 116, 101, 110, 116, 45, 101, 110, 99, 111, 100, 105, 110, 103], []),
  ([99, 111, 110, 116, 101, 110, 116, 45, 108, 97, 110, 103, 117, 97, 103, 101], []),
  ([99, 111, 110, 116, 101, 110, 116, 45, 108, 101, 110, 103, 116, 104], []),
  ([99, 111, 110, 116, 101, 110, 116, 45, 108, 111, 99, 97, 116, 105, 111, 110], []),
  ([99, 111, 110, 116, 101, 110, 116, 45, 114, 97, 110, 103, 101], []),
  ([99, 111, 110, 116, 101, 110, 116, 45, 116, 121, 112, 101], []),
  ([99, 111, 111, 107, 105, 101], []),
  ([100, 97, 116, 101], []),
  ([101, 116, 97, 103], []),
  ([101, 120, 112, 101, 99, 116], []),
  ([101, 120, 112, 105, 114, 101, 115], []),
  ([102, 114, 111, 109], []),
  ([104, 111, 115, 116], []),
  ([105, 102, 45, 109, 97, 116, 99, 104], []),
  ([105, 102, 45, 109, 111, 100, 105, 102, 105, 101, 100, 45, 115, 105, 110, 99, 101], []),
  ([105, 102, 45, 110, 111, 110, 101, 45, 109, 97, 116, 99, 104], []),
  ([105, 102, 45, 114, 97, 110, 103, 101], []),
  ([105, 102, 45, 117, 110, 109, 111, 100, 105, 102, 105, 101, 100, 45, 115, 105, 110, 99, 101], []),
  ([108, 97, 115, 116, 45, 109, 111, 100, 105, 102, 105, 101, 100], []),
  ([108, 105, 110, 107], []),
  ([108, 111, 99, 97, 116, 105, 111, 110], []),
  ([109, 97, 120, 45, 102, 111, 114, 119, 97, 114, 100, 115], []),
  ([112, 114, 111, 120, 121, 45, 97, 117, 116, 104, 101, 110, 116, 105, 99, 97, 116, 101], []),
  ([112, 114, 111, 120, 121, 45, 97, 117, 116, 104, 111, 114, 105, 122, 97, 116, 105, 111, 110], []),
  ([114, 97, 110, 103, 101], []),
  ([114, 101, 102, 101, 114, 101, 114], []),
  ([114, 101, 102, 114, 101, 115, 104], []),
  ([114, 101, 116, 114, 121, 45, 97, 102, 116, 101, 114], []),
  ([115, 101, 114, 118, 101, 114], []),
  ([115, 101, 116, 45, 99, 111, 111, 107, 105, 101], []),
  ([115, 116, 114, 105, 99, 116, 45, 116, 114, 97, 110, 115, 112, 111, 114, 116, 45, 115, 101, 99, 117, 114, 105, 116, 121], []),
  ([116, 114, 97, 110, 115, 102, 101, 114, 45, 101, 110, 99, 111, 100, 105, 110, 103], []),
  ([117, 115, 101, 114, 45, 97, 103, 101, 110, 116], []),
  ([118, 97, 114, 121], []),
  ([118, 105, 97], []),
  ([119, 119, 119, 45, 97, 117, 116, 104, 101, 110, 116, 105, 99, 97, 116, 101], [])]
def strV (l : List UInt8) : Value := .string ⟨l.toArray⟩
def fieldV (p : List UInt8 × List UInt8) : List Value := [strV p.1, strV p.2]
def stV : List Value := stL.flatMap fieldV
theorem info61 : (Try.prog.info? 86).map (·.size) = some stV.length := by kernel_rfl
theorem one_stV : (stV.toArray.all (·.oneCell')) = true := by kernel_rfl
theorem stV_len : stV.length = 122 := by kernel_rfl
def zero61 : Array Value := Array.replicate 122 (.string ⟨#[]⟩)

set_option maxRecDepth 100000 in
set_option maxHeartbeats 8000000 in
theorem fields_any (w : World) : Calls Try.prog 63 #[] w fun e w' => e = .returned (.agg stV.toArray) ∧ Below w.heap.size w w' := by
  obtain ⟨cs, hcs⟩ : ∃ cs, cs = stV := ⟨_, rfl⟩
  have hi : (Try.prog.info? 86).map (·.size) = some cs.length := by rw [hcs]; exact info61
  have h1 : cs.toArray.all (·.oneCell') = true := by rw [hcs]; exact one_stV
  have hl : cs.length = 122 := by rw [hcs]; exact stV_len
  rw [← hcs]
  have Ht : (w.alloc (.cells zero61 86)).there w.heap.size 0 cs.length := by
    rw [hl]
    exact there_new w zero61 _
  go_enter Try.func63, Try.ntmps63
  refine wp_seq_k fun K1 k1 => ?_
  refine wp_region_list ?_
  refine Go.Great.wpList_runTo rfl _ rfl (.pointer (some ⟨w.heap.size, 0, none⟩)) (w.alloc (.cells zero61 86)) (by kernel_rfl) ?_
  refine wpList_nil ?_
  refine k1 _ _ ?_
  simp only [Act.put, List.setIfInBounds_toArray, List.set_cons_zero, List.set_cons_succ]
  refine wp_seq_k fun K2 k2 => ?_
  refine wp_region_list ?_
  refine Go.Great.wpList_readTo rfl (some 1) rfl (.agg #[strV [58, 97, 117, 116, 104, 111, 114, 105, 116, 121], strV []]) (by kernel_rfl) ?_
  simp only [Act.put, List.setIfInBounds_toArray, List.set_cons_zero, List.set_cons_succ]
  refine Go.Great.wpList_readTo rfl (some 2) rfl (.agg #[strV [58, 109, 101, 116, 104, 111, 100], strV [71, 69, 84]]) (by kernel_rfl) ?_
  simp only [Act.put, List.setIfInBounds_toArray, List.set_cons_zero, List.set_cons_succ]
  refine Go.Great.wpList_readTo rfl (some 3) rfl (.agg #[strV [58, 109, 101, 116, 104, 111, 100], strV [80, 79, 83, 84]]) (by kernel_rfl) ?_
  simp only [Act.put, List.setIfInBounds_toArray, List.set_cons_zero, List.set_cons_succ]
  refine Go.Great.wpList_readTo rfl (some 4) rfl (.agg #[strV [58, 112, 97, 116, 104], strV [47]]) (by kernel_rfl) ?_
  simp only [Act.put, List.setIfInBounds_toArray, List.set_cons_zero, List.set_cons_succ]
  refine Go.Great.wpList_readTo rfl (some 5) rfl (.agg #[strV [58, 112, 97, 116, 104], strV [47, 105, 110, 100, 101, 120, 46, 104, 116, 109, 108]]) (by kernel_rfl) ?_
  simp only [Act.put, List.setIfInBounds_toArray, List.set_cons_zero, List.set_cons_succ]
  refine Go.Great.wpList_readTo rfl (some 6) rfl (.agg #[strV [58, 115, 99, 104, 101, 109, 101], strV [104, 116, 116, 112]]) (by kernel_rfl) ?_
  simp only [Act.put, List.setIfInBounds_toArray, List.set_cons_zero, List.set_cons_succ]
  refine Go.Great.wpList_readTo rfl (some 7) rfl (.agg #[strV [58, 115, 99, 104, 101, 109, 101], strV [104, 116, 116, 112, 115]]) (by kernel_rfl) ?_
  simp only [Act.put, List.setIfInBounds_toArray, List.set_cons_zero, List.set_cons_succ]
  refine Go.Great.wpList_readTo rfl (some 8) rfl (.agg #[strV [58, 115, 116, 97, 116, 117, 115], strV [50, 48, 48]]) (by kernel_rfl) ?_
  simp only [Act.put, List.setIfInBounds_toArray, List.set_cons_zero, List.set_cons_succ]
  refine Go.Great.wpList_readTo rfl (some 9) rfl (.agg #[strV [58, 115, 116, 97, 116, 117, 115], strV [50, 48, 52]]) (by kernel_rfl) ?_
  simp only [Act.put, List.setIfInBounds_toArray, List.set_cons_zero, List.set_cons_succ]
  refine Go.Great.wpList_readTo rfl (some 10) rfl (.agg #[strV [58, 115, 116, 97, 116, 117, 115], strV [50, 48, 54]]) (by kernel_rfl) ?_
  simp only [Act.put, List.setIfInBounds_toArray, List.set_cons_zero, List.set_cons_succ]
  refine Go.Great.wpList_readTo rfl (some 11) rfl (.agg #[strV [58, 115, 116, 97, 116, 117, 115], strV [51, 48, 52]]) (by kernel_rfl) ?_
  simp only [Act.put, List.setIfInBounds_toArray, List.set_cons_zero, List.set_cons_succ]
  refine Go.Great.wpList_readTo rfl (some 12) rfl (.agg #[strV [58, 115, 116, 97, 116, 117, 115], strV [52, 48, 48]]) (by kernel_rfl) ?_
  simp only [Act.put, List.setIfInBounds_toArray, List.set_cons_zero, List.set_cons_succ]
  refine Go.Great.wpList_readTo rfl (some 13) rfl (.agg #[strV [58, 115, 116, 97, 116, 117, 115], strV [52, 48, 52]]) (by kernel_rfl) ?_
  simp only [Act.put, List.setIfInBounds_toArray, List.set_cons_zero, List.set_cons_succ]
  refine Go.Great.wpList_readTo rfl (some 14) rfl (.agg #[strV [58, 115, 116, 97, 116, 117, 115], strV [53, 48, 48]]) (by kernel_rfl) ?_
  simp only [Act.put, List.setIfInBounds_toArray, List.set_cons_zero, List.set_cons_succ]
  refine Go.Great.wpList_readTo rfl (some 15) rfl (.agg #[strV [97, 99, 99, 101, 112, 116, 45, 99, 104, 97, 114, 115, 101, 116], strV []]) (by kernel_rfl) ?_
  simp only [Act.put, List.setIfInBounds_toArray, List.set_cons_zero, List.set_cons_succ]
  refine Go.Great.wpList_readTo rfl (some 16) rfl (.agg #[strV [97, 99, 99, 101, 112, 116, 45, 101, 110, 99, 111, 100, 105, 110, 103], strV [103, 122, 105, 112, 44, 32, 100, 101, 102, 108, 97, 116, 101]]) (by kernel_rfl) ?_
  simp only [Act.put, List.setIfInBounds_toArray, List.set_cons_zero, List.set_cons_succ]
  refine Go.Great.wpList_readTo rfl (some 17) rfl (.agg #[strV [97, 99, 99, 101, 112, 116, 45, 108, 97, 110, 103, 117, 97, 103, 101], strV []]) (by kernel_rfl) ?_
  simp only [Act.put, List.setIfInBounds_toArray, List.set_cons_zero, List.set_cons_succ]
  refine Go.Great.wpList_readTo rfl (some 18) rfl (.agg #[strV [97, 99, 99, 101, 112, 116, 45, 114, 97, 110, 103, 101, 115], strV []]) (by kernel_rfl) ?_
  simp only [Act.put, List.setIfInBounds_toArray, List.set_cons_zero, List.set_cons_succ]
  refine Go.Great.wpList_readTo rfl (some 19) rfl (.agg #[strV [97, 99, 99, 101, 112, 116], strV []]) (by kernel_rfl) ?_
  simp only [Act.put, List.setIfInBounds_toArray, List.set_cons_zero, List.set_cons_succ]
  refine Go.Great.wpList_readTo rfl (some 20) rfl (.agg #[strV [97, 99, 99, 101, 115, 115, 45, 99, 111, 110, 116, 114, 111, 108, 45, 97, 108, 108, 111, 119, 45, 111, 114, 105, 103, 105, 110], strV []]) (by kernel_rfl) ?_
  simp only [Act.put, List.setIfInBounds_toArray, List.set_cons_zero, List.set_cons_succ]
  refine Go.Great.wpList_readTo rfl (some 21) rfl (.agg #[strV [97, 103, 101], strV []]) (by kernel_rfl) ?_
  simp only [Act.put, List.setIfInBounds_toArray, List.set_cons_zero, List.set_cons_succ]
  refine Go.Great.wpList_readTo rfl (some 22) rfl (.agg #[strV [97, 108, 108, 111, 119], strV []]) (by kernel_rfl) ?_
  simp only [Act.put, List.setIfInBounds_toArray, List.set_cons_zero, List.set_cons_succ]
  refine Go.Great.wpList_readTo rfl (some 23) rfl (.agg #[strV [97, 117, 116, 104, 111, 114, 105, 122, 97, 116, 105, 111, 110], strV []]) (by kernel_rfl) ?_
  simp only [Act.put, List.setIfInBounds_toArray, List.set_cons_zero, List.set_cons_succ]
  refine Go.Great.wpList_readTo rfl (some 24) rfl (.agg #[strV [99, 97, 99, 104, 101, 45, 99, 111, 110, 116, 114, 111, 108], strV []]) (by kernel_rfl) ?_
  simp only [Act.put, List.setIfInBounds_toArray, List.set_cons_zero, List.set_cons_succ]
  refine Go.Great.wpList_readTo rfl (some 25) rfl (.agg #[strV [99, 111, 110, 116, 101, 110, 116, 45, 100, 105, 115, 112, 111, 115, 105, 116, 105, 111, 110], strV []]) (by kernel_rfl) ?_
  simp only [Act.put, List.setIfInBounds_toArray, List.set_cons_zero, List.set_cons_succ]
  refine Go.Great.wpList_readTo rfl (some 26) rfl (.agg #[strV [99, 111, 110, 116, 101, 110, 116, 45, 101, 110, 99, 111, 100, 105, 110, 103], strV []]) (by kernel_rfl) ?_
  simp only [Act.put, List.setIfInBounds_toArray, List.set_cons_zero, List.set_cons_succ]
  refine Go.Great.wpList_readTo rfl (some 27) rfl (.agg #[strV [99, 111, 110, 116, 101, 110, 116, 45, 108, 97, 110, 103, 117, 97, 103, 101], strV []]) (by kernel_rfl) ?_
  simp only [Act.put, List.setIfInBounds_toArray, List.set_cons_zero, List.set_cons_succ]
  refine Go.Great.wpList_readTo rfl (some 28) rfl (.agg #[strV [99, 111, 110, 116, 101, 110, 116, 45, 108, 101, 110, 103, 116, 104], strV []]) (by kernel_rfl) ?_
  simp only [Act.put, List.setIfInBounds_toArray, List.set_cons_zero, List.set_cons_succ]
  refine Go.Great.wpList_readTo rfl (some 29) rfl (.agg #[strV [99, 111, 110, 116, 101, 110, 116, 45, 108, 111, 99, 97, 116, 105, 111, 110], strV []]) (by kernel_rfl) ?_
  simp only [Act.put, List.setIfInBounds_toArray, List.set_cons_zero, List.set_cons_succ]
  refine Go.Great.wpList_readTo rfl (some 30) rfl (.agg #[strV [99, 111, 110, 116, 101, 110, 116, 45, 114, 97, 110, 103, 101], strV []]) (by kernel_rfl) ?_
  simp only [Act.put, List.setIfInBounds_toArray, List.set_cons_zero, List.set_cons_succ]
  refine Go.Great.wpList_readTo rfl (some 31) rfl (.agg #[strV [99, 111, 110, 116, 101, 110, 116, 45, 116, 121, 112, 101], strV []]) (by kernel_rfl) ?_
  simp only [Act.put, List.setIfInBounds_toArray, List.set_cons_zero, List.set_cons_succ]
  refine Go.Great.wpList_readTo rfl (some 32) rfl (.agg #[strV [99, 111, 111, 107, 105, 101], strV []]) (by kernel_rfl) ?_
  simp only [Act.put, List.setIfInBounds_toArray, List.set_cons_zero, List.set_cons_succ]
  refine Go.Great.wpList_readTo rfl (some 33) rfl (.agg #[strV [100, 97, 116, 101], strV []]) (by kernel_rfl) ?_
  simp only [Act.put, List.setIfInBounds_toArray, List.set_cons_zero, List.set_cons_succ]
  refine Go.Great.wpList_readTo rfl (some 34) rfl (.agg #[strV [101, 116, 97, 103], strV []]) (by kernel_rfl) ?_
  simp only [Act.put, List.setIfInBounds_toArray, List.set_cons_zero, List.set_cons_succ]
  refine Go.Great.wpList_readTo rfl (some 35) rfl (.agg #[strV [101, 120, 112, 101, 99, 116], strV []]) (by kernel_rfl) ?_
  simp only [Act.put, List.setIfInBounds_toArray, List.set_cons_zero, List.set_cons_succ]
  refine Go.Great.wpList_readTo rfl (some 36) rfl (.agg #[strV [101, 120, 112, 105, 114, 101, 115], strV []]) (by kernel_rfl) ?_
  simp only [Act.put, List.setIfInBounds_toArray, List.set_cons_zero, List.set_cons_succ]
  refine Go.Great.wpList_readTo rfl (some 37) rfl (.agg #[strV [102, 114, 111, 109], strV []]) (by kernel_rfl) ?_
  simp only [Act.put, List.setIfInBounds_toArray, List.set_cons_zero, List.set_cons_succ]
  refine Go.Great.wpList_readTo rfl (some 38) rfl (.agg #[strV [104, 111, 115, 116], strV []]) (by kernel_rfl) ?_
  simp only [Act.put, List.setIfInBounds_toArray, List.set_cons_zero, List.set_cons_succ]
  refine Go.Great.wpList_readTo rfl (some 39) rfl (.agg #[strV [105, 102, 45, 109, 97, 116, 99, 104], strV []]) (by kernel_rfl) ?_
  simp only [Act.put, List.setIfInBounds_toArray, List.set_cons_zero, List.set_cons_succ]
  refine Go.Great.wpList_readTo rfl (some 40) rfl (.agg #[strV [105, 102, 45, 109, 111, 100, 105, 102, 105, 101, 100, 45, 115, 105, 110, 99, 101], strV []]) (by kernel_rfl) ?_
  simp only [Act.put, List.setIfInBounds_toArray, List.set_cons_zero, List.set_cons_succ]
  refine Go.Great.wpList_readTo rfl (some 41) rfl (.agg #[strV [105, 102, 45, 110, 111, 110, 101, 45, 109, 97, 116, 99, 104], strV []]) (by kernel_rfl) ?_
  simp only [Act.put, List.setIfInBounds_toArray, List.set_cons_zero, List.set_cons_succ]
  refine Go.Great.wpList_readTo rfl (some 42) rfl (.agg #[strV [105, 102, 45, 114, 97, 110, 103, 101], strV []]) (by kernel_rfl) ?_
  simp only [Act.put, List.setIfInBounds_toArray, List.set_cons_zero, List.set_cons_succ]
  refine Go.Great.wpList_readTo rfl (some 43) rfl (.agg #[strV [105, 102, 45, 117, 110, 109, 111, 100, 105, 102, 105, 101, 100, 45, 115, 105, 110, 99, 101], strV []]) (by kernel_rfl) ?_
  simp only [Act.put, List.setIfInBounds_toArray, List.set_cons_zero, List.set_cons_succ]
  refine Go.Great.wpList_readTo rfl (some 44) rfl (.agg #[strV [108, 97, 115, 116, 45, 109, 111, 100, 105, 102, 105, 101, 100], strV []]) (by kernel_rfl) ?_
  simp only [Act.put, List.setIfInBounds_toArray, List.set_cons_zero, List.set_cons_succ]
  refine Go.Great.wpList_readTo rfl (some 45) rfl (.agg #[strV [108, 105, 110, 107], strV []]) (by kernel_rfl) ?_
  simp only [Act.put, List.setIfInBounds_toArray, List.set_cons_zero, List.set_cons_succ]
  refine Go.Great.wpList_readTo rfl (some 46) rfl (.agg #[strV [108, 111, 99, 97, 116, 105, 111, 110], strV []]) (by kernel_rfl) ?_
  simp only [Act.put, List.setIfInBounds_toArray, List.set_cons_zero, List.set_cons_succ]
  refine Go.Great.wpList_readTo rfl (some 47) rfl (.agg #[strV [109, 97, 120, 45, 102, 111, 114, 119, 97, 114, 100, 115], strV []]) (by kernel_rfl) ?_
  simp only [Act.put, List.setIfInBounds_toArray, List.set_cons_zero, List.set_cons_succ]
  refine Go.Great.wpList_readTo rfl (some 48) rfl (.agg #[strV [112, 114, 111, 120, 121, 45, 97, 117, 116, 104, 101, 110, 116, 105, 99, 97, 116, 101], strV []]) (by kernel_rfl) ?_
  simp only [Act.put, List.setIfInBounds_toArray, List.set_cons_zero, List.set_cons_succ]
  refine Go.Great.wpList_readTo rfl (some 49) rfl (.agg #[strV [112, 114, 111, 120, 121, 45, 97, 117, 116, 104, 111, 114, 105, 122, 97, 116, 105, 111, 110], strV []]) (by kernel_rfl) ?_
  simp only [Act.put, List.setIfInBounds_toArray, List.set_cons_zero, List.set_cons_succ]
  refine Go.Great.wpList_readTo rfl (some 50) rfl (.agg #[strV [114, 97, 110, 103, 101], strV []]) (by kernel_rfl) ?_
  simp only [Act.put, List.setIfInBounds_toArray, List.set_cons_zero, List.set_cons_succ]
  refine Go.Great.wpList_readTo rfl (some 51) rfl (.agg #[strV [114, 101, 102, 101, 114, 101, 114], strV []]) (by kernel_rfl) ?_
  simp only [Act.put, List.setIfInBounds_toArray, List.set_cons_zero, List.set_cons_succ]
  refine Go.Great.wpList_readTo rfl (some 52) rfl (.agg #[strV [114, 101, 102, 114, 101, 115, 104], strV []]) (by kernel_rfl) ?_
  simp only [Act.put, List.setIfInBounds_toArray, List.set_cons_zero, List.set_cons_succ]
  refine Go.Great.wpList_readTo rfl (some 53) rfl (.agg #[strV [114, 101, 116, 114, 121, 45, 97, 102, 116, 101, 114], strV []]) (by kernel_rfl) ?_
  simp only [Act.put, List.setIfInBounds_toArray, List.set_cons_zero, List.set_cons_succ]
  refine Go.Great.wpList_readTo rfl (some 54) rfl (.agg #[strV [115, 101, 114, 118, 101, 114], strV []]) (by kernel_rfl) ?_
  simp only [Act.put, List.setIfInBounds_toArray, List.set_cons_zero, List.set_cons_succ]
  refine Go.Great.wpList_readTo rfl (some 55) rfl (.agg #[strV [115, 101, 116, 45, 99, 111, 111, 107, 105, 101], strV []]) (by kernel_rfl) ?_
  simp only [Act.put, List.setIfInBounds_toArray, List.set_cons_zero, List.set_cons_succ]
  refine Go.Great.wpList_readTo rfl (some 56) rfl (.agg #[strV [115, 116, 114, 105, 99, 116, 45, 116, 114, 97, 110, 115, 112, 111, 114, 116, 45, 115, 101, 99, 117, 114, 105, 116, 121], strV []]) (by kernel_rfl) ?_
  simp only [Act.put, List.setIfInBounds_toArray, List.set_cons_zero, List.set_cons_succ]
  refine Go.Great.wpList_readTo rfl (some 57) rfl (.agg #[strV [116, 114, 97, 110, 115, 102, 101, 114, 45, 101, 110, 99, 111, 100, 105, 110, 103], strV []]) (by kernel_rfl) ?_
  simp only [Act.put, List.setIfInBounds_toArray, List.set_cons_zero, List.set_cons_succ]
  refine Go.Great.wpList_readTo rfl (some 58) rfl (.agg #[strV [117, 115, 101, 114, 45, 97, 103, 101, 110, 116], strV []]) (by kernel_rfl) ?_
  simp only [Act.put, List.setIfInBounds_toArray, List.set_cons_zero, List.set_cons_succ]
  refine Go.Great.wpList_readTo rfl (some 59) rfl (.agg #[strV [118, 97, 114, 121], strV []]) (by kernel_rfl) ?_
  simp only [Act.put, List.setIfInBounds_toArray, List.set_cons_zero, List.set_cons_succ]
  refine Go.Great.wpList_readTo rfl (some 60) rfl (.agg #[strV [118, 105, 97], strV []]) (by kernel_rfl) ?_
  simp only [Act.put, List.setIfInBounds_toArray, List.set_cons_zero, List.set_cons_succ]
  refine Go.Great.wpList_readTo rfl (some 61) rfl (.agg #[strV [119, 119, 119, 45, 97, 117, 116, 104, 101, 110, 116, 105, 99, 97, 116, 101], strV []]) (by kernel_rfl) ?_
  simp only [Act.put, List.setIfInBounds_toArray, List.set_cons_zero, List.set_cons_succ]
  refine Go.Great.wpList_readTo rfl _ rfl (.agg cs.toArray) (by rw [hcs]; kernel_rfl) ?_
  refine wpList_store_mid rfl _ _ _ rfl w.heap.size 0 cs.toArray rfl rfl Ht hi h1 ?_
  refine wpList_nil ?_
  have hr := run_loadVar_mid (P := Try.prog) ((w.alloc (.cells zero61 86)).setCells w.heap.size 0 cs) w.heap.size 0 86 cs _ (World.rangeAt_setCells_same _ _ _ _ Ht) Try.underlying86 rfl hi
  have hb : Below w.heap.size w ((w.alloc (.cells zero61 86)).setCells w.heap.size 0 cs) := below_cells (Nat.le_refl _) _ _ _ ((Below.refl _ _).alloc (Nat.le_refl _) _)
  exact k2 _ _ (ret_cell rfl (by kernel_rfl) (by kernel_rfl) hr ⟨rfl, hb⟩)
end Go.Proofs.Ytlpbonfapglocaa
