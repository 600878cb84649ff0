/- Layer 11: the preface: contracts and walks. -/
import Derived.Test.YtcoofiepoacmbaaKeep
import Derived.Deep.RegionHeld3
import Derived.Lib.SmallJoins
namespace Go.Proofs.Ytcoofiepoacmbaa
open Go.RowKit Go.Joins

def ptL : List Int := [80, 82, 73, 32, 42, 32, 72, 84, 84, 80, 47, 50, 46, 48, 13, 10, 13, 10, 83, 77, 13, 10, 13, 10]
/-- The preface's bytes. -/
def pt (i : Nat) : Int := ptL.getD i 0
def ptS : ByteArray := ⟨#[80, 82, 73, 32, 42, 32, 72, 84, 84, 80, 47, 50, 46, 48, 13, 10, 13, 10, 83, 77, 13, 10, 13, 10]⟩
def ptC : Array Value := #[.int .u8 80, .int .u8 82, .int .u8 73, .int .u8 32, .int .u8 42, .int .u8 32, .int .u8 72, .int .u8 84, .int .u8 84, .int .u8 80, .int .u8 47, .int .u8 50, .int .u8 46, .int .u8 48, .int .u8 13, .int .u8 10, .int .u8 13, .int .u8 10, .int .u8 83, .int .u8 77, .int .u8 13, .int .u8 10, .int .u8 13, .int .u8 10]
theorem pt_byt : Byt 24 pt := by
  intro i hi
  have : ∀ j : Fin 24, 0 ≤ pt j ∧ pt j ≤ 255 := by decide
  exact this ⟨i, hi⟩
theorem ptC_row : ptC.toList = row .u8 24 pt := by rfl
theorem ptS_size : ptS.size = 24 := rfl
theorem ptS_at (k : Nat) (hk : k < 24) : (((ptS[k]'(by rw [ptS_size]; exact hk)).toNat : Nat) : Int) = pt k := by
  have : ∀ j : Fin 24, (((ptS[j.val]'(by rw [ptS_size]; exact j.2)).toNat : Nat) : Int) = pt j := by decide
  exact this ⟨k, hk⟩
theorem run_pt (k : Nat) (hk : k < 24) (W : World) : (Instr.index 9 (.string ptS) (.int .i64 (k : Int))).run Try.prog W = .ok (.int .u8 (pt k)) W := by
  rw [run_index_string (P := Try.prog) W 9 ptS .i64 (k : Int) Try.underlying9, dif_pos ⟨by omega, by rw [ptS_size]; omega⟩]
  have h := ptS_at k hk
  simp only [Int.toNat_natCast]
  rw [h]

/-- So many of the first bytes are the preface's. -/
def IsLike (n : Nat) (f : Nat → Int) (k : Nat) : Prop := k ≤ 24 ∧ k ≤ n ∧ (∀ j, j < k → f j = pt j) ∧ (k = 24 ∨ k = n ∨ f k ≠ pt k)
theorem IsLike.one {n : Nat} {f : Nat → Int} {a b : Nat} (ha : IsLike n f a) (hb : IsLike n f b) : a = b := by
  obtain ⟨a1, a2, a3, a4⟩ := ha
  obtain ⟨b1, b2, b3, b4⟩ := hb
  rcases Nat.lt_trichotomy a b with h | h | h
  · rcases a4 with e | e | e
    · omega
    · omega
    · exact absurd (b3 a h) e
  · exact h
  · rcases b4 with e | e | e
    · omega
    · omega
    · exact absurd (a3 b h) e
/-- The number of first bytes that are the preface's. -/
def likeN (n : Nat) (f : Nat → Int) : Nat → Nat
  | 0 => 0
  | k + 1 => if likeN n f k = k ∧ k < n ∧ f k = pt k then k + 1 else likeN n f k
theorem likeN_le (n : Nat) (f : Nat → Int) (k : Nat) : likeN n f k ≤ k := by
  induction k with
  | zero => exact Nat.le_refl _
  | succ k ih => unfold likeN; split <;> omega
theorem likeN_is (n : Nat) (f : Nat → Int) : ∀ k, k ≤ 24 → (likeN n f k ≤ n ∧ (∀ j, j < likeN n f k → f j = pt j) ∧ (likeN n f k = k ∨ likeN n f k = n ∨ f (likeN n f k) ≠ pt (likeN n f k))) := by
  intro k
  induction k with
  | zero => intro _; exact ⟨Nat.zero_le _, fun j hj => absurd hj (by simp [likeN]), .inl rfl⟩
  | succ k ih =>
    intro hk
    obtain ⟨h1, h2, h3⟩ := ih (by omega)
    by_cases h : likeN n f k = k ∧ k < n ∧ f k = pt k
    · have e : likeN n f (k + 1) = k + 1 := by simp [likeN, h]
      rw [e]
      refine ⟨by omega, fun j hj => ?_, .inl rfl⟩
      by_cases hjk : j = k
      · subst hjk; exact h.2.2
      · exact h2 j (by omega)
    · have e : likeN n f (k + 1) = likeN n f k := by simp only [likeN]; rw [if_neg h]
      rw [e]
      refine ⟨h1, h2, ?_⟩
      rcases h3 with h3 | h3 | h3
      · by_cases hn : k < n
        · exact .inr (.inr (by rw [h3]; exact fun hf => h ⟨h3, hn, hf⟩))
        · exact .inr (.inl (by omega))
      · exact .inr (.inl h3)
      · exact .inr (.inr h3)
theorem like_is (n : Nat) (f : Nat → Int) : IsLike n f (likeN n f 24) := by
  obtain ⟨h1, h2, h3⟩ := likeN_is n f 24 (Nat.le_refl _)
  exact ⟨likeN_le n f 24, h1, h2, h3⟩

set_option maxHeartbeats 800000 in
theorem plike_any (A : Option Addr) (n c : Nat) (f : Nat → Int) (w : World) (ha : Rd .u8 w A n c f) :
    Calls Try.prog 5 #[.slice A n c] w fun e w' => e = .returned (.int .i64 (likeN n f 24)) ∧ Drawn w w' := by
  have hn : n ≤ 9223372036854775807 := by have h1 := ha.1; have h2 := ha.2.1; simp only [maxLen] at h2; omega
  have Ha := hide ha
  have Hl := hide (like_is n f)
  obtain ⟨L, hL⟩ : ∃ L, likeN n f 24 = L := ⟨_, rfl⟩
  rw [hL] at Hl
  have HL := hide hL
  clear ha hL
  rw [HL.out]
  go_enter Try.func5, Try.ntmps5
  go_wp2
  go_loopw [3] (fun i wr => ∃ k : Nat, k ≤ L ∧ i = .int .i64 k ∧ Drawn w wr) (fun i _ => L - (intOf i).toNat)
  case atStart => exact ⟨0, Nat.zero_le _, rfl, Drawn.refl _⟩
  case round =>
    obtain ⟨k, hk, rfl, q, rfl⟩ := hrel
    by_cases hlt : k < L
    · obtain ⟨b, off, rfl, hca⟩ := Ha.out.at_ (i := k) (by have := Hl.out.2.1; omega)
      have hkn : k < n := by have := Hl.out.2.1; omega
      have hk24 : k < 24 := by have := Hl.out.1; omega
      have he := Hl.out.2.2.1 k hlt
      rw [he] at hca
      clear he
      have hr := run_pt k hk24
      have hm : decide ((k : Int) < if (n : Int) < 24 then (n : Int) else 24) = true := by split <;> simp <;> omega
      have hb2 : (k : Int) < (n : Int) := by omega
      unfold ptS at hr
      generalize pt k = x at *
      go_wp2
      go_quiet (fail)
      go_wp2
      go_roundw
      case rel => exact ⟨k + 1, by omega, by go_num, _, rfl⟩
      case measure => simp [intOf]; omega
    · obtain rfl : k = L := by omega
      by_cases hg : k < 24 ∧ k < n
      · obtain ⟨hk24, hkn⟩ := hg
        obtain ⟨b, off, rfl, hca⟩ := Ha.out.at_ hkn
        have hne : (f k == pt k) = false := by
          rcases Hl.out.2.2.2 with h | h | h
          · omega
          · omega
          · simpa using h
        have hr := run_pt k hk24
        have hm : decide ((k : Int) < if (n : Int) < 24 then (n : Int) else 24) = true := by split <;> simp <;> omega
        have hb2 : (k : Int) < (n : Int) := by omega
        unfold ptS at hr
        clear HL
        generalize pt k = x at *
        generalize f k = y at *
        go_wp2
        go_quiet (fail)
        go_wp2
        all_goals
          go_ret
          exact ⟨rfl, _, rfl⟩
      · by_cases h24 : (n : Int) < 24
        · have hm : decide (k < n) = false := by simp; omega
          clear hg
          go_wp2
          go_quiet (fail)
          go_wp2
          all_goals
            go_ret
            exact ⟨rfl, Drawn.more ⟨q, rfl⟩ _⟩
        · have hm : decide ((k : Int) < 24) = false := by simp; omega
          clear hg
          go_wp2
          go_quiet (fail)
          go_wp2
          all_goals
            go_ret
            exact ⟨rfl, Drawn.more ⟨q, rfl⟩ _⟩
set_option maxRecDepth 20000 in
theorem rtext_any (w : World) : Calls Try.prog 10 #[] w fun e w' => e = .returned (.slice (some ⟨w.heap.size, 0, none⟩) 24 24) ∧ w.alloc (.cells ptC 5) = w' := by
  unfold ptC
  go_enter Try.func10, Try.ntmps10
  go_wp2
  go_ret
  exact ⟨rfl, rfl⟩
theorem Rd.mark (w : World) (cs : Array Value) (n : Nat) (f : Nat → Int) (fr : Nat × Nat) (hn : n ≤ maxLen) (h : cs.toList = row .u8 n f) : Rd .u8 (w.alloc (.cells cs 5 fr)) (some ⟨w.heap.size, 0, none⟩) n n f :=
  ⟨Nat.le_refl _, hn, fun e => (by cases e), fun _ => ⟨w.heap.size, 0, rfl, fun i hi => by
    rw [Nat.zero_add, World.cell?_alloc_mark, ← Array.getElem?_toList, h, row_get _ _ _ _ hi]⟩⟩
set_option maxRecDepth 20000 in
theorem ptext_any (w : World) : Calls Try.prog 9 #[] w fun e w' => e = .returned (.slice (some ⟨w.heap.size, 0, none⟩) 24 24) ∧ w.alloc (.cells ptC 5 (24, 25)) = w' := by
  have hc := run_convert_bytes_const_at (P := Try.prog) w 22 5 ptC 24 24 w.heap.size rfl Try.underlying22 Try.underlying5
  unfold ptC at hc ⊢
  go_enter Try.func9, Try.ntmps9
  go_wp2
  go_ret
  exact ⟨rfl, rfl⟩
end Go.Proofs.Ytcoofiepoacmbaa
