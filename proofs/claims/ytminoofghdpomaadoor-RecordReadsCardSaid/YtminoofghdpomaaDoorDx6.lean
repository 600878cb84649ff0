/- Layer 3: the law on lists of numbers. -/
import Derived.Test.YtminoofghdpomaaDoorDx5
namespace Go.Proofs.YtminoofghdpomaaDoor
set_option linter.unusedVariables false
set_option linter.unusedSimpArgs false
open Go.RowKit Go.PlainAid

theorem pcF_run (c : UInt8) : ∀ (x cur rest : List UInt8), c ∉ x → pcF c cur (x ++ rest) = pcF c (cur ++ x) rest
  | [], cur, rest, _ => by simp
  | b :: x, cur, rest, h => by
    have h1 : b ≠ c := fun e => h (by simp [e])
    have h2 : c ∉ x := fun e => h (by simp [e])
    rw [List.cons_append, pcF_more h1, pcF_run c x _ _ h2]
    simp
theorem pcF_tail (c : UInt8) : ∀ (r : List (List UInt8)) (x : List UInt8), c ∉ x → (∀ y ∈ r, c ∉ y) → pcF c [] (x ++ Lib.joinTail [c] r) = x :: r
  | [], x, hx, _ => by
    rw [pcF_run c x [] _ hx]
    rfl
  | y :: r, x, hx, hr => by
    have e : Lib.joinTail [c] (y :: r) = c :: (y ++ Lib.joinTail [c] r) := by simp [Lib.joinTail]
    rw [pcF_run c x [] _ hx, e, List.nil_append, pcF_sep, pcF_tail c r y (hr y (by simp)) (fun z hz => hr z (by simp [hz]))]
theorem pcB_join {c : UInt8} {xs : List ByteArray} (h : xs ≠ []) (hc : ∀ x ∈ xs, c ∉ x.data.toList) : pcB c (jnS ⟨#[c]⟩ xs) = xs := by
  unfold pcB jnS
  show (pcF c [] (Lib.join (xs.map (·.data.toList)) [c])).map _ = xs
  cases xs with
  | nil => exact absurd rfl h
  | cons x r =>
    rw [List.map_cons, Lib.join_cons, pcF_tail c _ _ (hc x (by simp)) (fun y hy => by
      obtain ⟨z, hz, rfl⟩ := List.mem_map.1 hy
      exact hc z (by simp [hz])), List.map_cons, data_back, List.map_map]
    refine congrArg (x :: ·) ?_
    calc r.map ((fun l => (⟨l.toArray⟩ : ByteArray)) ∘ fun x => x.data.toList) = r.map id := List.map_congr_left fun y _ => data_back y
      _ = r := List.map_id r
theorem join_two (x y : List UInt8) (r : List (List UInt8)) (sep : List UInt8) : Lib.join (x :: y :: r) sep = x ++ sep ++ Lib.join (y :: r) sep := by
  rw [Lib.join_cons, Lib.join_cons]
  simp [Lib.joinTail]
theorem pcF_ne (c : UInt8) : ∀ (l cur : List UInt8), pcF c cur l ≠ []
  | [], cur => by simp [pcF]
  | b :: l, cur => by
    by_cases e : b = c
    · subst e; rw [pcF_sep]; simp
    · rw [pcF_more e]; exact pcF_ne c l _
theorem join_pcF (c : UInt8) : ∀ (l cur : List UInt8), Lib.join (pcF c cur l) [c] = cur ++ l
  | [], cur => by rw [pcF_nil, Lib.join_one]; simp
  | b :: l, cur => by
    by_cases e : b = c
    · subst e
      rw [pcF_sep]
      have ih := join_pcF b l []
      cases hp : pcF b [] l with
      | nil => exact absurd hp (pcF_ne b l [])
      | cons y r =>
        rw [hp] at ih
        rw [join_two, ih]
        simp
    · rw [pcF_more e, join_pcF c l _]
      simp
theorem jnS_pcB (c : UInt8) (s : ByteArray) : jnS ⟨#[c]⟩ (pcB c s) = s := by
  unfold jnS pcB
  rw [List.map_map]
  have : ((fun x : ByteArray => x.data.toList) ∘ fun l => (⟨l.toArray⟩ : ByteArray)) = id := rfl
  rw [this, List.map_id]
  show (⟨(Lib.join (pcF c [] s.data.toList) [c]).toArray⟩ : ByteArray) = s
  rw [join_pcF, List.nil_append, data_back]
theorem no_comma (t : Int) : (44 : UInt8) ∉ (intS t).data.toList := fun h => by
  unfold intS at h
  have hd : ∀ n, (44 : UInt8) ∉ decL n := fun n hn => by
    have := (decL_dig n 44 hn).1
    exact absurd this (by decide)
  by_cases hn : t < 0
  · rw [if_pos hn, negS_data] at h
    rcases List.mem_cons.1 h with h2 | h2
    · exact absurd h2 (by decide)
    · exact hd _ h2
  · rw [if_neg hn, decS_dat] at h
    exact hd _ h
theorem itL_inj {k m : Nat} {f g : Nat → Int} (h : itL f k = itL g m) (hf : I64F k f) (hg : I64F m g) : k = m ∧ ∀ i, i < k → f i = g i := by
  have hl : k = m := by
    have := congrArg List.length h
    rwa [itL_len, itL_len] at this
  subst hl
  refine ⟨rfl, fun i hi => ?_⟩
  have a := itL_at f hi
  rw [h, itL_at g hi] at a
  exact (intS_inj3 (hg i hi).1 (hg i hi).2 (hf i hi).1 (hf i hi).2 (Option.some.inj a)).symm
theorem pcB_no {s x : ByteArray} {k : Nat} {f : Nat → Int} (h : pcB 44 s = itL f k) (hf : I64F k f) (hx : x ∈ pcB 44 s) (hn : ∀ u, -9223372036854775808 ≤ u → u ≤ 9223372036854775807 → x ≠ intS u) : False := by
  rw [h] at hx
  simp only [itL, List.mem_map, List.mem_range] at hx
  obtain ⟨i, hi, e⟩ := hx
  exact hn (f i) (hf i hi).1 (hf i hi).2 e.symm
theorem RlR.same {s : ByteArray} {k m : Nat} {f g : Nat → Int} {a b : Bool} (h : RlR s k f a) (q : RlR s m g b) : a = b ∧ k = m ∧ ∀ i, i < k → f i = g i := by
  rcases h with ⟨rfl, hf, h⟩ | ⟨rfl, rfl, h1, x, hx, hn⟩ <;> rcases q with ⟨rfl, hg, q⟩ | ⟨rfl, rfl, q1, y, hy, qn⟩
  · rcases h with ⟨h1, rfl⟩ | ⟨h1, h2⟩ <;> rcases q with ⟨q1, rfl⟩ | ⟨q1, q2⟩
    · exact ⟨rfl, rfl, fun i hi => absurd hi (by omega)⟩
    · omega
    · omega
    · exact ⟨rfl, itL_inj (h2.symm.trans q2) hf hg⟩
  · rcases h with ⟨h1, rfl⟩ | ⟨h1, h2⟩
    · omega
    · exact (pcB_no h2 hf hy qn).elim
  · rcases q with ⟨h1, rfl⟩ | ⟨h1, h2⟩
    · omega
    · exact (pcB_no h2 hg hx hn).elim
  · exact ⟨rfl, rfl, fun i hi => absurd hi (by omega)⟩
theorem jn_read {n k : Nat} {f g : Nat → Int} {ok : Bool} (hf : I64F n f) (h : RlR (jnS ⟨#[44]⟩ (itL f n)) k g ok) : ok = true ∧ k = n ∧ ∀ i, i < n → g i = f i := by
  by_cases h0 : n = 0
  · subst h0
    have e : jnS ⟨#[44]⟩ (itL f 0) = ⟨#[]⟩ := rfl
    rw [e] at h
    rcases h with ⟨rfl, _, ⟨_, rfl⟩ | ⟨h, _⟩⟩ | ⟨_, _, h, _⟩
    · exact ⟨rfl, rfl, fun i hi => absurd hi (by omega)⟩
    · exact absurd h (by decide)
    · exact absurd h (by decide)
  · have hp : pcB 44 (jnS ⟨#[44]⟩ (itL f n)) = itL f n := pcB_join (fun e => by have := congrArg List.length e; rw [itL_len] at this; exact h0 this) (fun x hx => by
      simp only [itL, List.mem_map, List.mem_range] at hx
      obtain ⟨i, _, rfl⟩ := hx
      exact no_comma _)
    rcases h with ⟨rfl, hg, ⟨h1, _⟩ | ⟨_, h1⟩⟩ | ⟨_, _, _, x, hx, hn⟩
    · exfalso
      have := congrArg List.length hp
      have e : jnS ⟨#[44]⟩ (itL f n) = ⟨#[]⟩ := by
        apply ByteArray.ext
        exact Array.eq_empty_of_size_eq_zero h1
      rw [e] at hp
      have h2 : pcB 44 ⟨#[]⟩ = [⟨#[]⟩] := rfl
      rw [h2] at hp
      have h3 := itL_at f (k := n) (j := 0) (by omega)
      rw [← hp] at h3
      have := hf 0 (by omega)
      exact intS_ne0 this.1 this.2 (Option.some.inj h3)
    · rw [hp] at h1
      obtain ⟨rfl, h2⟩ := itL_inj h1 hf hg
      exact ⟨rfl, rfl, fun i hi => (h2 i hi).symm⟩
    · exact (pcB_no hp hf hx hn).elim
theorem rl_back {s : ByteArray} {k : Nat} {f : Nat → Int} (h : RlR s k f true) : jnS ⟨#[44]⟩ (itL f k) = s ∧ I64F k f ∧ k ≤ s.size + 1 := by
  rcases h with ⟨_, hf, ⟨h1, rfl⟩ | ⟨_, h1⟩⟩ | ⟨h, _⟩
  · refine ⟨?_, hf, by omega⟩
    show (⟨#[]⟩ : ByteArray) = s
    apply ByteArray.ext
    exact (Array.eq_empty_of_size_eq_zero h1).symm
  · refine ⟨by rw [← h1, jnS_pcB], hf, ?_⟩
    have := pcB_len 44 s.size s (Nat.le_refl _)
    rw [h1, itL_len] at this
    exact this
  · cases h
end Go.Proofs.YtminoofghdpomaaDoor
