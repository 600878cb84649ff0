/- Len1, Len2, Len3, Len4, Len5 in one text. -/
import Derived.Test.YtnjmkbaddeeniaaMN
import Derived.Test.YtnjmkbaddeeniaaMG
import Derived.Test.YtnjmkbaddeeniaaMT
namespace Go.Proofs.Ytnjmkbaddeeniaa
section
open Go.RowKit Go.PlainAid

/-- 'content-length', and the greatest number. -/
def CL : ByteArray := ⟨#[99, 111, 110, 116, 101, 110, 116, 45, 108, 101, 110, 103, 116, 104]⟩
def MX : Int := 4503599627370496
theorem bytes_eq_iff (x : ByteArray) (l : List UInt8) : (x.toList == l) = decide (x = ⟨l.toArray⟩) := by
  rw [ByteArray.toList_eq]
  by_cases h : x = ⟨l.toArray⟩
  · subst h
    simp
  · have : ¬ x.data.toList = l := fun e => h (by
      obtain ⟨⟨m⟩⟩ := x
      simp only at e
      subst e
      rfl)
    simp [h, this]
theorem cl_yes {x : ByteArray} (h : x = CL) : (x.toList == [99, 111, 110, 116, 101, 110, 116, 45, 108, 101, 110, 103, 116, 104]) = true := by
  rw [bytes_eq_iff]
  exact decide_eq_true h
theorem cl_no {x : ByteArray} (h : x ≠ CL) : (x.toList == [99, 111, 110, 116, 101, 110, 116, 45, 108, 101, 110, 103, 116, 104]) = false := by
  rw [bytes_eq_iff]
  exact decide_eq_false h
/-- The first n fields tell t. -/
def OkL (F : Nat → Fd) (n : Nat) (t : Option Int) : Prop :=
  (∀ i, i < n → (F i).name = CL → natB (F i).val MX = true ∧ t = some (natN (F i).val MX)) ∧ (t ≠ none → ∃ i, i < n ∧ (F i).name = CL)
theorem OkL.zero (F : Nat → Fd) : OkL F 0 none := ⟨fun i hi => by omega, fun h => absurd rfl h⟩
theorem OkL.same {F : Nat → Fd} {n : Nat} {t u : Option Int} (h : OkL F n t) (k : OkL F n u) : t = u := by
  by_cases e : ∃ i, i < n ∧ (F i).name = CL
  · obtain ⟨i, hi, hn⟩ := e
    rw [(h.1 i hi hn).2, (k.1 i hi hn).2]
  · have h1 : t = none := Classical.byContradiction fun hh => e (h.2 hh)
    have h2 : u = none := Classical.byContradiction fun hh => e (k.2 hh)
    rw [h1, h2]
theorem OkL.skip {F : Nat → Fd} {k : Nat} {t : Option Int} (h : OkL F k t) (hn : (F k).name ≠ CL) : OkL F (k + 1) t :=
  ⟨fun i hi e => by
    by_cases hk : i = k
    · subst hk; exact absurd e hn
    · exact h.1 i (by omega) e, fun ht => by
    obtain ⟨i, hi, e⟩ := h.2 ht
    exact ⟨i, by omega, e⟩⟩
theorem OkL.first {F : Nat → Fd} {k : Nat} (h : OkL F k none) (hn : (F k).name = CL) (hb : natB (F k).val MX = true) : OkL F (k + 1) (some (natN (F k).val MX)) :=
  ⟨fun i hi e => by
    by_cases hk : i = k
    · subst hk; exact ⟨hb, rfl⟩
    · exact absurd (h.1 i (by omega) e).2 (fun hh => nomatch hh), fun _ => ⟨k, by omega, hn⟩⟩
theorem OkL.again {F : Nat → Fd} {k : Nat} {m : Int} (h : OkL F k (some m)) (hn : (F k).name = CL) (hb : natB (F k).val MX = true) (hm : natN (F k).val MX = m) : OkL F (k + 1) (some m) :=
  ⟨fun i hi e => by
    by_cases hk : i = k
    · subst hk; exact ⟨hb, by rw [hm]⟩
    · exact h.1 i (by omega) e, fun _ => ⟨k, by omega, hn⟩⟩
theorem ok_bad {F : Nat → Fd} {k n : Nat} (hk : k < n) (hn : (F k).name = CL) (hb : natB (F k).val MX = false) (t : Option Int) : ¬ OkL F n t := fun h => by
  have := (h.1 k hk hn).1
  rw [hb] at this
  cases this
theorem ok_differ {F : Nat → Fd} {k n : Nat} {m : Int} (h : OkL F k (some m)) (hk : k < n) (hn : (F k).name = CL) (hm : natN (F k).val MX ≠ m) (t : Option Int) : ¬ OkL F n t := fun h' => by
  obtain ⟨i, hi, e⟩ := h.2 (by simp)
  have h1 := (h.1 i hi e).2
  have h2 := (h'.1 i (by omega) e).2
  have h3 := (h'.1 k hk hn).2
  rw [h3] at h2
  rw [← h1] at h2
  exact hm (Option.some.inj h2)
/-- What they tell: the number, whether there is one, whether that may be. -/
def LenR (F : Nat → Fd) (n : Nat) (N : Int) (T B : Bool) : Prop :=
  (B = true ∧ ∃ t, OkL F n t ∧ N = t.getD 0 ∧ T = t.isSome) ∨ (B = false ∧ N = 0 ∧ T = false ∧ ∀ t, ¬ OkL F n t)
theorem LenR.same {F : Nat → Fd} {n : Nat} {N M : Int} {T U B D : Bool} (h : LenR F n N T B) (k : LenR F n M U D) : N = M ∧ T = U ∧ B = D := by
  rcases h with ⟨rfl, t, h1, rfl, rfl⟩ | ⟨rfl, rfl, rfl, h1⟩ <;> rcases k with ⟨rfl, u, k1, rfl, rfl⟩ | ⟨rfl, rfl, rfl, k1⟩
  · obtain rfl := h1.same k1
    exact ⟨rfl, rfl, rfl⟩
  · exact absurd h1 (k1 _)
  · exact absurd k1 (h1 _)
  · exact ⟨rfl, rfl, rfl⟩

def LrgE (F : Nat → Fd) (n m l : Nat) (w : World) (e : Ending) (w' : World) : Prop := ∃ b, e = .returned (.bool b) ∧ Drawn w w' ∧ (b = false → n ≤ m ∧ ∀ i, i < n → (F i).name.size ≤ l ∧ (F i).val.size ≤ l)
set_option maxHeartbeats 1600000 in
theorem flarge_any (A : Option Addr) (n c m l : Nat) (F : Nat → Fd) (w : World) (ha : RdFd w A n c F) :
    Calls Try.prog 28 #[.slice A n c, .int .i64 (m : Int), .int .i64 (l : Int)] w (LrgE F n m l w) := by
  by_cases hbig : m < n
  · have hd : decide ((m : Int) < (n : Int)) = true := decide_eq_true (by omega)
    have hd' : m < n := hbig
    go_enter Try.func28, Try.ntmps28
    go_wp2_with fail
    go_ret
    exact ⟨_, rfl, Drawn.refl _, fun h => by cases h⟩
  have hd : decide ((m : Int) < (n : Int)) = false := decide_eq_false (by omega)
  have hd' : n ≤ m := by omega
  clear hbig
  have Ha := hide ha
  have Hm := hide ha.le
  clear ha
  go_enter Try.func28, Try.ntmps28
  go_wp2_with fail
  go_loopw [7] (fun i wr => ∃ k : Nat, k ≤ n ∧ i = .int .i64 k ∧ (∀ j, j < k → (F j).name.size ≤ l ∧ (F j).val.size ≤ l) ∧ Drawn w wr) (fun i _ => n - (intOf i).toNat)
  case atStart => exact ⟨0, Nat.zero_le _, rfl, fun j hj => absurd hj (by omega), Drawn.refl _⟩
  case round =>
    obtain ⟨k, hk, rfl, hall, q, rfl⟩ := hrel
    have Hall := hide hall
    clear hall
    by_cases hlt : k < n
    · obtain ⟨b, off, rfl, hc0, hc1, hc2⟩ := Ha.out.at_ hlt
      have hln := Ha.out.len hlt
      have hkn : (k : Int) < (n : Int) := by omega
      have hn := Hm.out
      have Hy : Hid (((F k).name.size ≤ l ∧ (F k).val.size ≤ l) → ∀ j, j < k + 1 → (F j).name.size ≤ l ∧ (F j).val.size ≤ l) := fun h j hj => by
        by_cases e : j = k
        · subst e; exact h
        · exact Hall.out j (by omega)
      generalize F k = X at *
      obtain ⟨x0, x1, x2⟩ := X
      simp only at hc0 hc1 hc2 hln
      have Hx := hide hln
      clear hc2 hln
      by_cases h1 : l < x0.size
      · have d1 : decide ((l : Int) < (x0.size : Int)) = true := decide_eq_true (by omega)
        go_wp2_with fail
        go_ret
        exact ⟨_, rfl, ⟨_, rfl⟩, fun h => by cases h⟩
      · have d1 : decide ((l : Int) < (x0.size : Int)) = false := decide_eq_false (by omega)
        by_cases h2 : l < x1.size
        · have d2 : decide ((l : Int) < (x1.size : Int)) = true := decide_eq_true (by omega)
          go_wp2_with fail
          go_ret
          exact ⟨_, rfl, ⟨_, rfl⟩, fun h => by cases h⟩
        · have d2 : decide ((l : Int) < (x1.size : Int)) = false := decide_eq_false (by omega)
          have Hy' := hide (Hy.out ⟨by show x0.size ≤ l; omega, by show x1.size ≤ l; omega⟩)
          go_wp2_with fail
          exact ⟨⟨k + 1, by omega, by go_num, Hy'.out, _, rfl⟩, by simp [intOf]; omega⟩
    · obtain rfl : k = n := by omega
      go_wp2_with fail
      go_ret
      exact ⟨_, rfl, ⟨_, rfl⟩, fun _ => ⟨hd', Hall.out⟩⟩
end

section
open Go.RowKit Go.PlainAid

def LenE (F : Nat → Fd) (n : Nat) (w : World) (e : Ending) (w' : World) : Prop := ∃ N T B, e = .returned (.tuple #[.agg #[.int .i64 N, .bool T], .bool B]) ∧ LenR F n N T B ∧ Below w.heap.size w w'
theorem zero_again {w2 : World} {p : Nat} {T : TypeId} (h : w2.heap[p]? = some (.cells #[.int .i64 0, .bool false] T (0, 0))) :
    (w2.setCell ⟨p, 0, none⟩ (.int .i64 0)).heap[p]? = some (.cells #[.int .i64 0, .bool false] T (0, 0)) ∧ ((w2.setCell ⟨p, 0, none⟩ (.int .i64 0)).setCell ⟨p, 1, none⟩ (.bool false)).heap[p]? = some (.cells #[.int .i64 0, .bool false] T (0, 0)) := by
  have S1 := setRow w2 p 0 (.int .i64 0) h
  simp only [List.setIfInBounds_toArray, List.set_cons_zero, List.set_cons_succ] at S1
  have S2 := setRow _ p 1 (.bool false) S1
  simp only [List.setIfInBounds_toArray, List.set_cons_zero, List.set_cons_succ] at S2
  exact ⟨S1, S2⟩
end

section
open Go.RowKit Go.PlainAid

def LenE3 (F : Nat → Fd) (n : Nat) (w : World) (e : Ending) (w' : World) : Prop := ∃ N T B, e = .returned (.tuple #[.int .i64 N, .bool T, .bool B]) ∧ LenR F n N T B ∧ Below w.heap.size w w'
/-- The numbers of the first k fields: m of them, v. -/
def LstR (F : Nat → Fd) (k m : Nat) (v : Nat → Int) : Prop :=
  (∀ i, i < k → (F i).name = CL → natB (F i).val MX = true ∧ ∃ j, j < m ∧ v j = natN (F i).val MX) ∧ (∀ j, j < m → ∃ i, i < k ∧ (F i).name = CL ∧ v j = natN (F i).val MX) ∧ m ≤ k
theorem LstR.zero (F : Nat → Fd) (v : Nat → Int) : LstR F 0 0 v := ⟨fun i hi => by omega, fun j hj => by omega, Nat.le_refl _⟩
theorem LstR.skip {F : Nat → Fd} {k m : Nat} {v : Nat → Int} (h : LstR F k m v) (hn : (F k).name ≠ CL) : LstR F (k + 1) m v :=
  ⟨fun i hi e => by
    by_cases hk : i = k
    · subst hk; exact absurd e hn
    · exact h.1 i (by omega) e, fun j hj => by
    obtain ⟨i, hi, e⟩ := h.2.1 j hj
    exact ⟨i, by omega, e⟩, by have := h.2.2; omega⟩
theorem LstR.add {F : Nat → Fd} {k m : Nat} {v : Nat → Int} (h : LstR F k m v) (hn : (F k).name = CL) (hb : natB (F k).val MX = true) (x : Int) (hx : natN (F k).val MX = x) : LstR F (k + 1) (m + 1) (catF m v (oneF x)) :=
  ⟨fun i hi e => by
    by_cases hk : i = k
    · subst hk
      exact ⟨hb, m, by omega, by simp [catF, oneF, hx]⟩
    · obtain ⟨h1, j, hj, h2⟩ := h.1 i (by omega) e
      exact ⟨h1, j, by omega, by simp [catF, hj, h2]⟩, fun j hj => by
    by_cases hm : j < m
    · obtain ⟨i, hi, e, h2⟩ := h.2.1 j hm
      exact ⟨i, by omega, e, by simp [catF, hm, h2]⟩
    · obtain rfl : j = m := by omega
      exact ⟨k, by omega, hn, by simp [catF, oneF, hx]⟩, by have := h.2.2; omega⟩
theorem LstR.none_ {F : Nat → Fd} {n : Nat} {v : Nat → Int} (h : LstR F n 0 v) : OkL F n none :=
  ⟨fun i hi e => by
    obtain ⟨_, j, hj, _⟩ := h.1 i hi e
    omega, fun h => absurd rfl h⟩
theorem LstR.all {F : Nat → Fd} {n m : Nat} {v : Nat → Int} (h : LstR F n m v) (hm : 0 < m) (ha : ∀ j, j < m → v j = v 0) : OkL F n (some (v 0)) :=
  ⟨fun i hi e => by
    obtain ⟨h1, j, hj, h2⟩ := h.1 i hi e
    exact ⟨h1, by rw [← h2, ha j hj]⟩, fun _ => by
    obtain ⟨i, hi, e, _⟩ := h.2.1 0 hm
    exact ⟨i, hi, e⟩⟩
theorem LstR.not {F : Nat → Fd} {n m j : Nat} {v : Nat → Int} (h : LstR F n m v) (hj : j < m) (hv : v j ≠ v 0) (t : Option Int) : ¬ OkL F n t := fun hk => by
  obtain ⟨i, hi, e, h1⟩ := h.2.1 j hj
  obtain ⟨i', hi', e', h1'⟩ := h.2.1 0 (by omega)
  have a := (hk.1 i hi e).2
  have b := (hk.1 i' hi' e').2
  rw [a] at b
  exact hv (by rw [h1, h1']; exact Option.some.inj b)
theorem iint_info : (Try.prog.info? 3).map (fun i => (i.zero, i.size, i.bytes)) = some (some (.int .i64 0), 1, 8) := by kernel_rfl
end

section
open Go.RowKit Go.PlainAid

/-- Two fields of a literal. -/
def two (a b : ByteArray) : Nat → Fd := fun i => if i = 0 then ⟨CL, a, false⟩ else ⟨CL, b, false⟩
theorem rdfd_two (a b : ByteArray) (ha : a.size ≤ 100) (hb : b.size ≤ 100) (w : World) :
    RdFd (w.alloc (.cells #[.string CL, .string a, .bool false, .string CL, .string b, .bool false] 46)) (some ⟨w.heap.size, 0, none⟩) 2 2 (two a b) := by
  have h := heap_alloc_new w (.cells #[.string CL, .string a, .bool false, .string CL, .string b, .bool false] 46)
  have hc : CL.size ≤ maxLen := by decide
  refine ⟨Nat.le_refl _, by simp [maxLen], fun e => (by cases e), fun _ => ⟨_, _, rfl, fun i hi => ?_⟩, fun i hi => ?_⟩
  · have h2 : i = 0 ∨ i = 1 := by omega
    rcases h2 with rfl | rfl
    · refine ⟨?_, ?_, ?_⟩ <;> (rw [cell_of_row _ _ _ _ _ _ h]; rfl)
    · refine ⟨?_, ?_, ?_⟩ <;> (rw [cell_of_row _ _ _ _ _ _ h]; rfl)
  · unfold two
    have h1 : (100 : Nat) ≤ maxLen := by simp [maxLen]
    split
    · exact ⟨hc, Nat.le_trans ha h1⟩
    · exact ⟨hc, Nat.le_trans hb h1⟩
def e12 : ByteArray := ⟨#[49, 50]⟩
def e012 : ByteArray := ⟨#[48, 49, 50]⟩
def e13 : ByteArray := ⟨#[49, 51]⟩
theorem v12 : natN e12 MX = 12 ∧ natB e12 MX = true := by decide +kernel
theorem v012 : natN e012 MX = 12 ∧ natB e012 MX = true := by decide +kernel
theorem v13 : natN e13 MX = 13 ∧ natB e13 MX = true := by decide +kernel
theorem ex_one : LenR (two e12 e012) 2 12 true true := .inl ⟨rfl, some 12, ⟨fun i hi _ => by
  have h2 : i = 0 ∨ i = 1 := by omega
  rcases h2 with rfl | rfl
  · exact ⟨v12.2, by show _ = some (natN e12 MX); rw [v12.1]⟩
  · exact ⟨v012.2, by show _ = some (natN e012 MX); rw [v012.1]⟩, fun _ => ⟨0, by omega, rfl⟩⟩, rfl, rfl⟩
theorem ex_two : LenR (two e12 e13) 2 0 false false := .inr ⟨rfl, rfl, rfl, fun t h => by
  have a := (h.1 0 (by omega) rfl).2
  have b := (h.1 1 (by omega) rfl).2
  have a' : t = some (natN e12 MX) := a
  have b' : t = some (natN e13 MX) := b
  rw [v12.1] at a'
  rw [v13.1, a'] at b'
  exact absurd (Option.some.inj b') (by decide)⟩
end

section
open Go.RowKit Go.PlainAid

/-- G has F's fields, and f. -/
def Ins (F : Nat → Fd) (n : Nat) (G : Nat → Fd) (f : Fd) : Prop :=
  (∀ i, i < n → ∃ j, j < n + 1 ∧ G j = F i) ∧ (∀ j, j < n + 1 → G j = f ∨ ∃ i, i < n ∧ G j = F i) ∧ ∃ j, j < n + 1 ∧ G j = f
def insF (F : Nat → Fd) (a : Nat) (f : Fd) : Nat → Fd := catFd (a + 1) (catFd a F (fun _ => f)) (fun i => F (a + i))
theorem ins_of (F : Nat → Fd) (n a : Nat) (f : Fd) (ha : a ≤ n) : Ins F n (insF F a f) f := by
  have key : ∀ j, insF F a f j = if j < a then F j else if j = a then f else F (j - 1) := fun j => by
    unfold insF catFd
    by_cases h1 : j < a
    · simp [h1, show j < a + 1 by omega]
    · by_cases h2 : j = a
      · subst h2
        simp
      · have h3 : ¬ j < a + 1 := by omega
        simp only [h1, h2, h3, if_false]
        rw [show a + (j - (a + 1)) = j - 1 by omega]
  refine ⟨fun i hi => ?_, fun j hj => ?_, ⟨a, by omega, by rw [key]; simp⟩⟩
  · by_cases h : i < a
    · exact ⟨i, by omega, by rw [key, if_pos h]⟩
    · exact ⟨i + 1, by omega, by rw [key, if_neg (by omega), if_neg (by omega)]; simp⟩
  · rw [key]
    by_cases h1 : j < a
    · exact .inr ⟨j, by omega, by rw [if_pos h1]⟩
    · by_cases h2 : j = a
      · exact .inl (by rw [if_neg h1, if_pos h2])
      · exact .inr ⟨j - 1, by omega, by rw [if_neg h1, if_neg h2]⟩
theorem Ins.other {F G : Nat → Fd} {n : Nat} {f : Fd} {t : Option Int} (h : Ins F n G f) (hf : f.name ≠ CL) : OkL F n t ↔ OkL G (n + 1) t := by
  obtain ⟨h1, h2, _⟩ := h
  constructor
  · rintro ⟨a, b⟩
    refine ⟨fun j hj e => ?_, fun ht => ?_⟩
    · rcases h2 j hj with e2 | ⟨i, hi, e2⟩
      · rw [e2] at e; exact absurd e hf
      · rw [e2] at e ⊢; exact a i hi e
    · obtain ⟨i, hi, e⟩ := b ht
      obtain ⟨j, hj, e2⟩ := h1 i hi
      exact ⟨j, hj, by rw [e2]; exact e⟩
  · rintro ⟨a, b⟩
    refine ⟨fun i hi e => ?_, fun ht => ?_⟩
    · obtain ⟨j, hj, e2⟩ := h1 i hi
      have := a j hj (by rw [e2]; exact e)
      rw [e2] at this
      exact this
    · obtain ⟨j, hj, e⟩ := b ht
      rcases h2 j hj with e2 | ⟨i, hi, e2⟩
      · rw [e2] at e; exact absurd e hf
      · exact ⟨i, hi, by rw [← e2]; exact e⟩
theorem Ins.othersR {F G : Nat → Fd} {n : Nat} {f : Fd} {N M : Int} {T U B D : Bool} (h : Ins F n G f) (hf : f.name ≠ CL) (a : LenR F n N T B) (b : LenR G (n + 1) M U D) : N = M ∧ T = U ∧ B = D := by
  refine LenR.same (F := G) (n := n + 1) ?_ b
  rcases a with ⟨rfl, t, h1, rfl, rfl⟩ | ⟨rfl, rfl, rfl, h1⟩
  · exact .inl ⟨rfl, t, (h.other hf).1 h1, rfl, rfl⟩
  · exact .inr ⟨rfl, rfl, rfl, fun t ht => h1 t ((h.other hf).2 ht)⟩
/-- What holds with a length more. -/
theorem Ins.down {F G : Nat → Fd} {n : Nat} {f : Fd} {t : Option Int} (h : Ins F n G f) (hk : OkL G (n + 1) t) : ∃ u, OkL F n u ∧ (u ≠ none → u = t) := by
  obtain ⟨h1, _, _⟩ := h
  by_cases e : ∃ i, i < n ∧ (F i).name = CL
  · refine ⟨t, ⟨fun i hi e => ?_, fun _ => e⟩, fun _ => rfl⟩
    obtain ⟨j, hj, e2⟩ := h1 i hi
    have := hk.1 j hj (by rw [e2]; exact e)
    rw [e2] at this
    exact this
  · exact ⟨none, ⟨fun i hi e2 => absurd ⟨i, hi, e2⟩ e, fun h => absurd rfl h⟩, fun h => absurd rfl h⟩
theorem Ins.told {F G : Nat → Fd} {n : Nat} {f : Fd} {N M : Int} {T U : Bool} (h : Ins F n G f) (a : LenR F n N T true) (hT : T = true) (b : LenR G (n + 1) M U true) : N = M ∧ T = U := by
  rcases a with ⟨_, t, h1, rfl, rfl⟩ | ⟨h1, _⟩
  · rcases b with ⟨_, u, h2, rfl, rfl⟩ | ⟨h2, _⟩
    · obtain ⟨z, hz, hz2⟩ := h.down h2
      obtain rfl := h1.same hz
      have : t ≠ none := fun e => by rw [e] at hT; cases hT
      rw [hz2 this]
      exact ⟨rfl, rfl⟩
    · cases h2
  · cases h1
theorem Ins.may {F G : Nat → Fd} {n : Nat} {f : Fd} {N M : Int} {T U B D : Bool} (h : Ins F n G f) (a : LenR F n N T B) (b : LenR G (n + 1) M U D) : D = true → B = true := by
  rintro rfl
  rcases b with ⟨_, u, h2, _⟩ | ⟨h2, _⟩
  · obtain ⟨z, hz, _⟩ := h.down h2
    rcases a with ⟨rfl, _⟩ | ⟨_, _, _, h1⟩
    · rfl
    · exact absurd hz (h1 _)
  · cases h2
end
end Go.Proofs.Ytnjmkbaddeeniaa
