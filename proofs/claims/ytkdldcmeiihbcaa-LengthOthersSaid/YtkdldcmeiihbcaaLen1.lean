/- Layer 26: how long data are said to be; the look at fields' sizes. -/
import Derived.Test.YtkdldcmeiihbcaaNat3
import Derived.Test.YtkdldcmeiihbcaaFd1
import Derived.Test.YtkdldcmeiihbcaaTok5
namespace Go.Proofs.Ytkdldcmeiihbcaa
open Go.RowKit Go.PlainAid

/-- 'content-length', and the greatest number. -/
def CL : ByteArray := ⟨#[99, 111, 110, 116, 101, 110, 116, 45, 108, 101, 110, 103, 116, 104]⟩
def MX : Int := 4503599627370496
theorem bytes_eq_iff (x : ByteArray) (l : List UInt8) : (x.toList == l) = decide (x = ⟨l.toArray⟩) := by
  rw [ByteArray.toList_eq]
  by_cases h : x = ⟨l.toArray⟩
  · subst h
    simp
  · have : ¬ x.data.toList = l := fun e => h (by
      obtain ⟨⟨m⟩⟩ := x
      simp only at e
      subst e
      rfl)
    simp [h, this]
theorem cl_yes {x : ByteArray} (h : x = CL) : (x.toList == [99, 111, 110, 116, 101, 110, 116, 45, 108, 101, 110, 103, 116, 104]) = true := by
  rw [bytes_eq_iff]
  exact decide_eq_true h
theorem cl_no {x : ByteArray} (h : x ≠ CL) : (x.toList == [99, 111, 110, 116, 101, 110, 116, 45, 108, 101, 110, 103, 116, 104]) = false := by
  rw [bytes_eq_iff]
  exact decide_eq_false h
/-- The first n fields tell t. -/
def OkL (F : Nat → Fd) (n : Nat) (t : Option Int) : Prop :=
  (∀ i, i < n → (F i).name = CL → natB (F i).val MX = true ∧ t = some (natN (F i).val MX)) ∧ (t ≠ none → ∃ i, i < n ∧ (F i).name = CL)
theorem OkL.zero (F : Nat → Fd) : OkL F 0 none := ⟨fun i hi => by omega, fun h => absurd rfl h⟩
theorem OkL.same {F : Nat → Fd} {n : Nat} {t u : Option Int} (h : OkL F n t) (k : OkL F n u) : t = u := by
  by_cases e : ∃ i, i < n ∧ (F i).name = CL
  · obtain ⟨i, hi, hn⟩ := e
    rw [(h.1 i hi hn).2, (k.1 i hi hn).2]
  · have h1 : t = none := Classical.byContradiction fun hh => e (h.2 hh)
    have h2 : u = none := Classical.byContradiction fun hh => e (k.2 hh)
    rw [h1, h2]
theorem OkL.skip {F : Nat → Fd} {k : Nat} {t : Option Int} (h : OkL F k t) (hn : (F k).name ≠ CL) : OkL F (k + 1) t :=
  ⟨fun i hi e => by
    by_cases hk : i = k
    · subst hk; exact absurd e hn
    · exact h.1 i (by omega) e, fun ht => by
    obtain ⟨i, hi, e⟩ := h.2 ht
    exact ⟨i, by omega, e⟩⟩
theorem OkL.first {F : Nat → Fd} {k : Nat} (h : OkL F k none) (hn : (F k).name = CL) (hb : natB (F k).val MX = true) : OkL F (k + 1) (some (natN (F k).val MX)) :=
  ⟨fun i hi e => by
    by_cases hk : i = k
    · subst hk; exact ⟨hb, rfl⟩
    · exact absurd (h.1 i (by omega) e).2 (fun hh => nomatch hh), fun _ => ⟨k, by omega, hn⟩⟩
theorem OkL.again {F : Nat → Fd} {k : Nat} {m : Int} (h : OkL F k (some m)) (hn : (F k).name = CL) (hb : natB (F k).val MX = true) (hm : natN (F k).val MX = m) : OkL F (k + 1) (some m) :=
  ⟨fun i hi e => by
    by_cases hk : i = k
    · subst hk; exact ⟨hb, by rw [hm]⟩
    · exact h.1 i (by omega) e, fun _ => ⟨k, by omega, hn⟩⟩
theorem ok_bad {F : Nat → Fd} {k n : Nat} (hk : k < n) (hn : (F k).name = CL) (hb : natB (F k).val MX = false) (t : Option Int) : ¬ OkL F n t := fun h => by
  have := (h.1 k hk hn).1
  rw [hb] at this
  cases this
theorem ok_differ {F : Nat → Fd} {k n : Nat} {m : Int} (h : OkL F k (some m)) (hk : k < n) (hn : (F k).name = CL) (hm : natN (F k).val MX ≠ m) (t : Option Int) : ¬ OkL F n t := fun h' => by
  obtain ⟨i, hi, e⟩ := h.2 (by simp)
  have h1 := (h.1 i hi e).2
  have h2 := (h'.1 i (by omega) e).2
  have h3 := (h'.1 k hk hn).2
  rw [h3] at h2
  rw [← h1] at h2
  exact hm (Option.some.inj h2)
/-- What they tell: the number, whether there is one, whether that may be. -/
def LenR (F : Nat → Fd) (n : Nat) (N : Int) (T B : Bool) : Prop :=
  (B = true ∧ ∃ t, OkL F n t ∧ N = t.getD 0 ∧ T = t.isSome) ∨ (B = false ∧ N = 0 ∧ T = false ∧ ∀ t, ¬ OkL F n t)
theorem LenR.same {F : Nat → Fd} {n : Nat} {N M : Int} {T U B D : Bool} (h : LenR F n N T B) (k : LenR F n M U D) : N = M ∧ T = U ∧ B = D := by
  rcases h with ⟨rfl, t, h1, rfl, rfl⟩ | ⟨rfl, rfl, rfl, h1⟩ <;> rcases k with ⟨rfl, u, k1, rfl, rfl⟩ | ⟨rfl, rfl, rfl, k1⟩
  · obtain rfl := h1.same k1
    exact ⟨rfl, rfl, rfl⟩
  · exact absurd h1 (k1 _)
  · exact absurd k1 (h1 _)
  · exact ⟨rfl, rfl, rfl⟩

def LrgE (F : Nat → Fd) (n m l : Nat) (w : World) (e : Ending) (w' : World) : Prop := ∃ b, e = .returned (.bool b) ∧ Drawn w w' ∧ (b = false → n ≤ m ∧ ∀ i, i < n → (F i).name.size ≤ l ∧ (F i).val.size ≤ l)
set_option maxHeartbeats 1600000 in
theorem flarge_any (A : Option Addr) (n c m l : Nat) (F : Nat → Fd) (w : World) (ha : RdFd w A n c F) :
    Calls Try.prog 35 #[.slice A n c, .int .i64 (m : Int), .int .i64 (l : Int)] w (LrgE F n m l w) := by
  by_cases hbig : m < n
  · have hd : decide ((m : Int) < (n : Int)) = true := decide_eq_true (by omega)
    have hd' : m < n := hbig
    go_enter Try.func35, Try.ntmps35
    go_wp2_with fail
    go_ret
    exact ⟨_, rfl, Drawn.refl _, fun h => by cases h⟩
  have hd : decide ((m : Int) < (n : Int)) = false := decide_eq_false (by omega)
  have hd' : n ≤ m := by omega
  clear hbig
  have Ha := hide ha
  have Hm := hide ha.le
  clear ha
  go_enter Try.func35, Try.ntmps35
  go_wp2_with fail
  go_loopw [7] (fun i wr => ∃ k : Nat, k ≤ n ∧ i = .int .i64 k ∧ (∀ j, j < k → (F j).name.size ≤ l ∧ (F j).val.size ≤ l) ∧ Drawn w wr) (fun i _ => n - (intOf i).toNat)
  case atStart => exact ⟨0, Nat.zero_le _, rfl, fun j hj => absurd hj (by omega), Drawn.refl _⟩
  case round =>
    obtain ⟨k, hk, rfl, hall, q, rfl⟩ := hrel
    have Hall := hide hall
    clear hall
    by_cases hlt : k < n
    · obtain ⟨b, off, rfl, hc0, hc1, hc2⟩ := Ha.out.at_ hlt
      have hln := Ha.out.len hlt
      have hkn : (k : Int) < (n : Int) := by omega
      have hn := Hm.out
      have Hy : Hid (((F k).name.size ≤ l ∧ (F k).val.size ≤ l) → ∀ j, j < k + 1 → (F j).name.size ≤ l ∧ (F j).val.size ≤ l) := fun h j hj => by
        by_cases e : j = k
        · subst e; exact h
        · exact Hall.out j (by omega)
      generalize F k = X at *
      obtain ⟨x0, x1, x2⟩ := X
      simp only at hc0 hc1 hc2 hln
      have Hx := hide hln
      clear hc2 hln
      by_cases h1 : l < x0.size
      · have d1 : decide ((l : Int) < (x0.size : Int)) = true := decide_eq_true (by omega)
        go_wp2_with fail
        go_ret
        exact ⟨_, rfl, ⟨_, rfl⟩, fun h => by cases h⟩
      · have d1 : decide ((l : Int) < (x0.size : Int)) = false := decide_eq_false (by omega)
        by_cases h2 : l < x1.size
        · have d2 : decide ((l : Int) < (x1.size : Int)) = true := decide_eq_true (by omega)
          go_wp2_with fail
          go_ret
          exact ⟨_, rfl, ⟨_, rfl⟩, fun h => by cases h⟩
        · have d2 : decide ((l : Int) < (x1.size : Int)) = false := decide_eq_false (by omega)
          have Hy' := hide (Hy.out ⟨by show x0.size ≤ l; omega, by show x1.size ≤ l; omega⟩)
          go_wp2_with fail
          exact ⟨⟨k + 1, by omega, by go_num, Hy'.out, _, rfl⟩, by simp [intOf]; omega⟩
    · obtain rfl : k = n := by omega
      go_wp2_with fail
      go_ret
      exact ⟨_, rfl, ⟨_, rfl⟩, fun _ => ⟨hd', Hall.out⟩⟩
end Go.Proofs.Ytkdldcmeiihbcaa
