/- Layer 3: digits.Text of any number; the texts of many, a comma between. -/
import Derived.Test.YtminoofghdpomaaDoorKn2
import Derived.Test.YtminoofghdpomaaDoorRd4
import Derived.Lib.Join
namespace Go.Proofs.YtminoofghdpomaaDoor
set_option linter.unusedVariables false
set_option linter.unusedSimpArgs false
open Go.RowKit Go.PlainAid

theorem itoa_int (t : Int) : (⟨(Lib.itoa t).toArray⟩ : ByteArray) = intS t := by
  unfold Lib.itoa intS
  by_cases h : t < 0
  · rw [if_pos h, if_pos h, dec_lib, show t.natAbs = (-t).toNat by omega]
    rfl
  · rw [if_neg h, if_neg h, dec_lib]
    rfl
set_option maxRecDepth 20000 in
theorem dtextI (t : Int) (h0 : -9223372036854775808 ≤ t) (h1 : t ≤ 9223372036854775807) (w : World) (hp : PowW w) : Calls Tryd.prog 19 #[.int .i64 t] w fun e w' => e = .returned (.string (intS t)) ∧ Below w.heap.size w w' := by
  have h := hide (Tryd.strconv_Itoa t h0 h1 w hp.tab)
  rw [itoa_int] at h
  obtain ⟨s, hs⟩ : ∃ s, intS t = s := ⟨_, rfl⟩
  rw [hs] at h
  rw [hs]
  clear hs hp h0 h1
  go_enter Tryd.func19, Tryd.ntmps19
  go_wp2_with fail
  refine h.out.mono ?_
  rintro e w1 ⟨rfl, k, os, rfl⟩
  go_wp2_with fail
  go_ret
  exact ⟨rfl, below_grow⟩
/-- texts, a text between -/
def jnS (sep : ByteArray) (xs : List ByteArray) : ByteArray := ⟨(Lib.join (xs.map (·.data.toList)) sep.data.toList).toArray⟩
theorem jnS_nil (sep : ByteArray) : jnS sep [] = ⟨#[]⟩ := rfl
theorem jnS_one (sep x : ByteArray) : jnS sep [x] = x := by
  unfold jnS
  rw [List.map_cons, List.map_nil, Lib.join_one, data_back]
theorem joinT_app (sep : List UInt8) (r : List (List UInt8)) (y : List UInt8) : Lib.joinTail sep (r ++ [y]) = Lib.joinTail sep r ++ sep ++ y := by simp [Lib.joinTail]
theorem join_snoc (sep : List UInt8) {r : List (List UInt8)} (h : r ≠ []) (y : List UInt8) : Lib.join (r ++ [y]) sep = Lib.join r sep ++ sep ++ y := by
  cases r with
  | nil => exact absurd rfl h
  | cons x r => rw [List.cons_append, Lib.join_cons, Lib.join_cons, joinT_app]; simp
theorem cat_data (a b : ByteArray) : (a ++ b).data.toList = a.data.toList ++ b.data.toList := by simp
theorem jnS_snoc (sep : ByteArray) {xs : List ByteArray} (h : xs ≠ []) (y : ByteArray) : jnS sep (xs ++ [y]) = jnS sep xs ++ sep ++ y := by
  unfold jnS
  rw [List.map_append, List.map_cons, List.map_nil, join_snoc _ (by simpa using h)]
  apply data_eq
  rw [cat_data, cat_data]
theorem join_len (sep : List UInt8) (M : Nat) : ∀ (xs : List (List UInt8)), (∀ x ∈ xs, x.length ≤ M) → (Lib.join xs sep).length ≤ xs.length * (M + sep.length)
  | [], _ => by simp [Lib.join_nil]
  | x :: r, h => by
    rw [Lib.join_cons]
    have hx := h x (by simp)
    have : ∀ r : List (List UInt8), (∀ x ∈ r, x.length ≤ M) → (Lib.joinTail sep r).length ≤ r.length * (M + sep.length) := by
      intro r
      induction r with
      | nil => intro _; simp [Lib.joinTail]
      | cons y r ih =>
        intro h2
        have h3 := ih (fun z hz => h2 z (by simp [hz]))
        have h4 := h2 y (by simp)
        have e : Lib.joinTail sep (y :: r) = sep ++ y ++ Lib.joinTail sep r := by simp [Lib.joinTail]
        rw [e, List.length_append, List.length_append, List.length_cons, Nat.succ_mul]
        omega
    have h2 := this r (fun z hz => h z (by simp [hz]))
    rw [List.length_append, List.length_cons, Nat.succ_mul]
    omega
/-- the texts of numbers -/
def itL (f : Nat → Int) (k : Nat) : List ByteArray := (List.range k).map fun i => intS (f i)
theorem itL_succ (f : Nat → Int) (k : Nat) : itL f (k + 1) = itL f k ++ [intS (f k)] := by simp [itL, List.range_succ]
theorem itL_len (f : Nat → Int) (k : Nat) : (itL f k).length = k := by simp [itL]
theorem itL_at (f : Nat → Int) {k j : Nat} (h : j < k) : (itL f k)[j]? = some (intS (f j)) := by simp [itL, h]
theorem itL_bd {f : Nat → Int} {k : Nat} (h : ∀ i, i < k → -9223372036854775808 ≤ f i ∧ f i ≤ 9223372036854775807) (sep : ByteArray) : (jnS sep (itL f k)).size ≤ k * (20 + sep.size) := by
  have := join_len sep.data.toList 20 ((itL f k).map (·.data.toList)) (by
    intro x hx
    simp only [itL, List.map_map, List.mem_map, List.mem_range] at hx
    obtain ⟨i, hi, rfl⟩ := hx
    have := (intS_size (h i hi).1 (h i hi).2).2
    rw [Lib.size_eq] at this
    exact this)
  rw [List.length_map, itL_len] at this
  unfold jnS
  show (Lib.join _ _).toArray.size ≤ _
  rw [List.size_toArray, Lib.size_eq sep]
  exact this
end Go.Proofs.YtminoofghdpomaaDoor
