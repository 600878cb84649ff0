/- Len1, Len2, Len3, Len4, Len5 in one text. -/
import Derived.Test.YtpohgehojmeodaaDoorMN
import Derived.Test.YtpohgehojmeodaaDoorMG
import Derived.Test.YtpohgehojmeodaaDoorMT
namespace Go.Proofs.YtpohgehojmeodaaDoor
set_option linter.unusedVariables false
set_option linter.unusedSimpArgs false
section
open Go.RowKit Go.PlainAid

/-- 'content-length', and the greatest number. -/
def CL : ByteArray := ⟨#[99, 111, 110, 116, 101, 110, 116, 45, 108, 101, 110, 103, 116, 104]⟩
def MX : Int := 4503599627370496
theorem bytes_eq_iff (x : ByteArray) (l : List UInt8) : (x.toList == l) = decide (x = ⟨l.toArray⟩) := by
  rw [ByteArray.toList_eq]
  by_cases h : x = ⟨l.toArray⟩
  · subst h
    simp
  · have : ¬ x.data.toList = l := fun e => h (by
      obtain ⟨⟨m⟩⟩ := x
      simp only at e
      subst e
      rfl)
    simp [h, this]
theorem cl_yes {x : ByteArray} (h : x = CL) : (x.toList == [99, 111, 110, 116, 101, 110, 116, 45, 108, 101, 110, 103, 116, 104]) = true := by
  rw [bytes_eq_iff]
  exact decide_eq_true h
theorem cl_no {x : ByteArray} (h : x ≠ CL) : (x.toList == [99, 111, 110, 116, 101, 110, 116, 45, 108, 101, 110, 103, 116, 104]) = false := by
  rw [bytes_eq_iff]
  exact decide_eq_false h
/-- The first n fields tell t. -/
def OkL (F : Nat → Fd) (n : Nat) (t : Option Int) : Prop :=
  (∀ i, i < n → (F i).name = CL → natB (F i).val MX = true ∧ t = some (natN (F i).val MX)) ∧ (t ≠ none → ∃ i, i < n ∧ (F i).name = CL)
theorem OkL.zero (F : Nat → Fd) : OkL F 0 none := ⟨fun i hi => by omega, fun h => absurd rfl h⟩
theorem OkL.same {F : Nat → Fd} {n : Nat} {t u : Option Int} (h : OkL F n t) (k : OkL F n u) : t = u := by
  by_cases e : ∃ i, i < n ∧ (F i).name = CL
  · obtain ⟨i, hi, hn⟩ := e
    rw [(h.1 i hi hn).2, (k.1 i hi hn).2]
  · have h1 : t = none := Classical.byContradiction fun hh => e (h.2 hh)
    have h2 : u = none := Classical.byContradiction fun hh => e (k.2 hh)
    rw [h1, h2]
theorem OkL.skip {F : Nat → Fd} {k : Nat} {t : Option Int} (h : OkL F k t) (hn : (F k).name ≠ CL) : OkL F (k + 1) t :=
  ⟨fun i hi e => by
    by_cases hk : i = k
    · subst hk; exact absurd e hn
    · exact h.1 i (by omega) e, fun ht => by
    obtain ⟨i, hi, e⟩ := h.2 ht
    exact ⟨i, by omega, e⟩⟩
theorem OkL.first {F : Nat → Fd} {k : Nat} (h : OkL F k none) (hn : (F k).name = CL) (hb : natB (F k).val MX = true) : OkL F (k + 1) (some (natN (F k).val MX)) :=
  ⟨fun i hi e => by
    by_cases hk : i = k
    · subst hk; exact ⟨hb, rfl⟩
    · exact absurd (h.1 i (by omega) e).2 (fun hh => nomatch hh), fun _ => ⟨k, by omega, hn⟩⟩
theorem OkL.again {F : Nat → Fd} {k : Nat} {m : Int} (h : OkL F k (some m)) (hn : (F k).name = CL) (hb : natB (F k).val MX = true) (hm : natN (F k).val MX = m) : OkL F (k + 1) (some m) :=
  ⟨fun i hi e => by
    by_cases hk : i = k
    · subst hk; exact ⟨hb, by rw [hm]⟩
    · exact h.1 i (by omega) e, fun _ => ⟨k, by omega, hn⟩⟩
theorem ok_bad {F : Nat → Fd} {k n : Nat} (hk : k < n) (hn : (F k).name = CL) (hb : natB (F k).val MX = false) (t : Option Int) : ¬ OkL F n t := fun h => by
  have := (h.1 k hk hn).1
  rw [hb] at this
  cases this
theorem ok_differ {F : Nat → Fd} {k n : Nat} {m : Int} (h : OkL F k (some m)) (hk : k < n) (hn : (F k).name = CL) (hm : natN (F k).val MX ≠ m) (t : Option Int) : ¬ OkL F n t := fun h' => by
  obtain ⟨i, hi, e⟩ := h.2 (by simp)
  have h1 := (h.1 i hi e).2
  have h2 := (h'.1 i (by omega) e).2
  have h3 := (h'.1 k hk hn).2
  rw [h3] at h2
  rw [← h1] at h2
  exact hm (Option.some.inj h2)
/-- What they tell: the number, whether there is one, whether that may be. -/
def LenR (F : Nat → Fd) (n : Nat) (N : Int) (T B : Bool) : Prop :=
  (B = true ∧ ∃ t, OkL F n t ∧ N = t.getD 0 ∧ T = t.isSome) ∨ (B = false ∧ N = 0 ∧ T = false ∧ ∀ t, ¬ OkL F n t)
theorem LenR.same {F : Nat → Fd} {n : Nat} {N M : Int} {T U B D : Bool} (h : LenR F n N T B) (k : LenR F n M U D) : N = M ∧ T = U ∧ B = D := by
  rcases h with ⟨rfl, t, h1, rfl, rfl⟩ | ⟨rfl, rfl, rfl, h1⟩ <;> rcases k with ⟨rfl, u, k1, rfl, rfl⟩ | ⟨rfl, rfl, rfl, k1⟩
  · obtain rfl := h1.same k1
    exact ⟨rfl, rfl, rfl⟩
  · exact absurd h1 (k1 _)
  · exact absurd k1 (h1 _)
  · exact ⟨rfl, rfl, rfl⟩

def LrgE (F : Nat → Fd) (n m l : Nat) (w : World) (e : Ending) (w' : World) : Prop := ∃ b, e = .returned (.bool b) ∧ Drawn w w' ∧ (b = false → n ≤ m ∧ ∀ i, i < n → (F i).name.size ≤ l ∧ (F i).val.size ≤ l)
end

section
open Go.RowKit Go.PlainAid

def LenE (F : Nat → Fd) (n : Nat) (w : World) (e : Ending) (w' : World) : Prop := ∃ N T B, e = .returned (.tuple #[.agg #[.int .i64 N, .bool T], .bool B]) ∧ LenR F n N T B ∧ Below w.heap.size w w'
/-- The two blocks: what is answered, and what was told. -/
def LenS (F : Nat → Fd) (w : World) (k : Nat) (t : Option Int) (wr : World) : Prop :=
  OkL F k t ∧ wr.heap[w.heap.size]? = some (.cells #[.int .i64 0, .bool false] 65 (0, 0)) ∧ wr.heap[w.heap.size + 1]? = some (.cells #[.int .i64 (t.getD 0), .bool t.isSome] 65 (0, 0)) ∧ Below w.heap.size w wr
theorem zero_again {w2 : World} {p : Nat} {T : TypeId} (h : w2.heap[p]? = some (.cells #[.int .i64 0, .bool false] T (0, 0))) :
    (w2.setCell ⟨p, 0, none⟩ (.int .i64 0)).heap[p]? = some (.cells #[.int .i64 0, .bool false] T (0, 0)) ∧ ((w2.setCell ⟨p, 0, none⟩ (.int .i64 0)).setCell ⟨p, 1, none⟩ (.bool false)).heap[p]? = some (.cells #[.int .i64 0, .bool false] T (0, 0)) := by
  have S1 := setRow w2 p 0 (.int .i64 0) h
  simp only [List.setIfInBounds_toArray, List.set_cons_zero, List.set_cons_succ] at S1
  have S2 := setRow _ p 1 (.bool false) S1
  simp only [List.setIfInBounds_toArray, List.set_cons_zero, List.set_cons_succ] at S2
  exact ⟨S1, S2⟩
set_option maxRecDepth 20000 in
set_option maxHeartbeats 3200000 in
theorem lenof_any (A : Option Addr) (n c : Nat) (F : Nat → Fd) (w : World) (ha : RdFd w A n c F) :
    Calls Tryd.prog 165 #[.slice A n c] w (LenE F n w) := by
  have Ha := hide ha
  have Hm := hide ha.le
  clear ha
  obtain ⟨W, hW⟩ : ∃ W, W = (w.alloc (.cells #[.int .i64 0, .bool false] 65)).alloc (.cells #[.int .i64 0, .bool false] 65) := ⟨_, rfl⟩
  have HS : Hid (LenS F w 0 none W) := by
    rw [hW]
    have r0 := heap_alloc_new w (.cells #[.int .i64 0, .bool false] 65)
    have r1 := heap_alloc_new (w.alloc (.cells #[.int .i64 0, .bool false] 65)) (.cells #[.int .i64 0, .bool false] 65)
    have hs : (w.alloc (.cells #[.int .i64 0, .bool false] 65)).heap.size = w.heap.size + 1 := by simp
    rw [hs] at r1
    exact ⟨OkL.zero F, keepRow r0 ((Below.refl _ _).alloc (Nat.le_refl _) _), r1, ((Below.refl _ _).alloc (Nat.le_refl _) _).alloc (by simp) _⟩
  have HW := hide hW
  clear hW
  go_enter Tryd.func165, Tryd.ntmps165
  go_wp2_with fail
  go_loopw [11] (fun i wr => ∃ (k : Nat) (t : Option Int), k ≤ n ∧ i = .int .i64 k ∧ LenS F w k t wr) (fun i _ => n - (intOf i).toNat)
  case atStart => exact ⟨0, none, Nat.zero_le _, rfl, by rw [← HW.out]; exact HS.out⟩
  case round =>
    obtain ⟨k, t, hk, rfl, hS⟩ := hrel
    obtain ⟨hok, r0, r1, hB⟩ := hS
    have Hok := hide hok
    have R0 := hide r0
    have R1 := hide r1
    have HB := hide hB
    have hsz := hB.size
    have hl0 := rowLt r0
    have hl1 := rowLt r1
    clear hok r0 r1
    by_cases hlt : k < n
    · have Hr := hide (Ha.out.below hB)
      clear hB
      obtain ⟨b, off, rfl, hc0, hc1, hc2⟩ := Hr.out.at_ hlt
      have hln := Hr.out.len hlt
      have hkn : (k : Int) < (n : Int) := by omega
      have hn := Hm.out
      obtain ⟨X, hX⟩ : ∃ X, F k = X := ⟨_, rfl⟩
      have HX := hide hX
      rw [hX] at hc0 hc1 hc2 hln
      clear hX
      obtain ⟨x0, x1, x2⟩ := X
      simp only at hc0 hc1 hc2 hln
      obtain ⟨_, hx1⟩ := hln
      have RF := hide (heap_alloc_new wr (.cells #[.string x0, .string x1, .bool x2] 60))
      have BA : Hid (Below wr.heap.size wr (wr.alloc (.cells #[.string x0, .string x1, .bool x2] 60))) := (Below.refl _ _).alloc (Nat.le_refl _) _
      have A0 := hide (keepRow R0.out BA.out)
      have A1 := hide (keepRow R1.out BA.out)
      have HBA := hide (HB.out.of BA.out)
      obtain ⟨d0, d1, d2⟩ := row3 RF.out
      by_cases hcl : x0 = CL
      · have t1 : (!(x0.toList == [99, 111, 110, 116, 101, 110, 116, 45, 108, 101, 110, 103, 116, 104])) = false := by rw [cl_yes hcl]; rfl
        have hnm : Hid ((F k).name = CL) := by rw [HX.out]; exact hcl
        have hvl : Hid ((F k).val = x1) := by rw [HX.out]; rfl
        clear hcl
        go_wp2_with fail
        refine (natural_any x1 MX _ hx1 (by decide) (by decide)).mono ?_
        rintro e w2 ⟨rfl, hb2⟩
        have Q0 := hide (keepRow A0.out hb2)
        have Q1 := hide (keepRow A1.out hb2)
        have HB2 := hide (HBA.out.of hb2)
        have hs2 := HB2.out.size
        have l0 := rowLt Q0.out
        have l1 := rowLt Q1.out
        clear hb2
        obtain ⟨NB, hNB⟩ : ∃ x, natB x1 MX = x := ⟨_, rfl⟩
        obtain ⟨NN, hNN⟩ : ∃ x, natN x1 MX = x := ⟨_, rfl⟩
        rw [hNB, hNN]
        have HNB : Hid (natB (F k).val MX = NB) := by rw [hvl.out]; exact hNB
        have HNN : Hid (natN (F k).val MX = NN) := by rw [hvl.out]; exact hNN
        clear hNB hNN
        obtain ⟨z1, z2⟩ := zero_again Q0.out
        have Z2 := hide z2
        obtain ⟨c00, c01⟩ := row2 Q0.out
        obtain ⟨c10, c11⟩ := row2 z1
        have y00 := frozenRow Q0.out 0
        have y11 := frozenRow z1 1
        obtain ⟨b00, b01⟩ := row2 Q1.out
        clear z1 z2
        cases NB with
        | false =>
          go_wp2_with fail
          obtain ⟨e0, e1⟩ := row2 Z2.out
          refine bodyPost_ret (v := .tuple #[.agg #[.int .i64 0, .bool false], .bool false]) ?_ rfl ⟨_, _, _, rfl, .inr ⟨rfl, rfl, rfl, ok_bad hlt hnm.out HNB.out⟩, ?_⟩
          · rw [results_cell_tmp rfl]
            go_simp
          · exact (HB2.out.setCell (Nat.le_refl _) _).setCell (Nat.le_refl _) _
        | true =>
          have S1 := setRow w2 (w.heap.size + 1) 0 (.int .i64 NN) Q1.out
          simp only [List.setIfInBounds_toArray, List.set_cons_zero, List.set_cons_succ] at S1
          have S2 := setRow _ (w.heap.size + 1) 1 (.bool true) S1
          simp only [List.setIfInBounds_toArray, List.set_cons_zero, List.set_cons_succ] at S2
          have HS2 := hide S2
          have P0 : Hid (((w2.setCell ⟨w.heap.size + 1, 0, none⟩ (.int .i64 NN)).setCell ⟨w.heap.size + 1, 1, none⟩ (.bool true)).heap[w.heap.size]? = some (.cells #[.int .i64 0, .bool false] 65 (0, 0))) :=
            keepOne (keepOne Q0.out (grown_set _ _ _ _) (by omega)) (grown_set _ _ _ _) (by omega)
          have HBS : Hid (Below w.heap.size w ((w2.setCell ⟨w.heap.size + 1, 0, none⟩ (.int .i64 NN)).setCell ⟨w.heap.size + 1, 1, none⟩ (.bool true))) := (HB2.out.setCell (by simp) _).setCell (by simp) _
          obtain ⟨f00, f01⟩ := row2 S1
          have g00 := frozenRow Q1.out 0
          have g11 := frozenRow S1 1
          clear S1 S2
          cases t with
          | none =>
            simp only [Option.getD, Option.isSome] at b00 b01
            have Hn : Hid (OkL F (k + 1) (some NN)) := by have := Hok.out.first hnm.out HNB.out; rw [HNN.out] at this; exact this
            go_wp2_with fail
            exact ⟨⟨k + 1, some NN, by omega, by go_num, ⟨Hn.out, P0.out, HS2.out, HBS.out⟩⟩, by simp [intOf]; omega⟩
          | some m =>
            simp only [Option.getD, Option.isSome] at b00 b01
            by_cases hm : NN = m
            · have t3 : (NN != m) = false := by simp [hm]
              have Hn : Hid (OkL F (k + 1) (some NN)) := by have := Hok.out.again hnm.out HNB.out (HNN.out.trans hm); rw [hm]; exact this
              clear hm
              go_wp2_with fail
              exact ⟨⟨k + 1, some NN, by omega, by go_num, ⟨Hn.out, P0.out, HS2.out, HBS.out⟩⟩, by simp [intOf]; omega⟩
            · have t3 : (NN != m) = true := by simpa using hm
              have Hn : Hid (∀ t, ¬ OkL F n t) := ok_differ Hok.out hlt hnm.out (by rw [HNN.out]; exact hm)
              clear hm
              go_wp2_with fail
              obtain ⟨e0, e1⟩ := row2 Z2.out
              refine bodyPost_ret (v := .tuple #[.agg #[.int .i64 0, .bool false], .bool false]) ?_ rfl ⟨_, _, _, rfl, .inr ⟨rfl, rfl, rfl, Hn.out⟩, ?_⟩
              · rw [results_cell_tmp rfl]
                go_simp
              · exact (HB2.out.setCell (Nat.le_refl _) _).setCell (Nat.le_refl _) _
      · have t1 : (!(x0.toList == [99, 111, 110, 116, 101, 110, 116, 45, 108, 101, 110, 103, 116, 104])) = true := by rw [cl_no hcl]; rfl
        have Hn : Hid (OkL F (k + 1) t) := Hok.out.skip (by rw [HX.out]; exact hcl)
        clear hcl
        go_wp2_with fail
        exact ⟨⟨k + 1, t, by omega, by go_num, ⟨Hn.out, A0.out, A1.out, HBA.out⟩⟩, by simp [intOf]; omega⟩
    · obtain rfl : k = n := by omega
      clear hB
      obtain ⟨N, hN⟩ : ∃ x, t.getD 0 = x := ⟨_, rfl⟩
      obtain ⟨T, hT⟩ : ∃ x, t.isSome = x := ⟨_, rfl⟩
      have hR : LenR F k N T true := .inl ⟨rfl, t, Hok.out, hN.symm, hT.symm⟩
      have HR := hide hR
      have q1 := R1.out
      rw [hN, hT] at q1
      obtain ⟨b00, b01⟩ := row2 q1
      have S1 := setRow wr w.heap.size 0 (.int .i64 N) R0.out
      simp only [List.setIfInBounds_toArray, List.set_cons_zero, List.set_cons_succ] at S1
      have S2 := setRow _ w.heap.size 1 (.bool T) S1
      simp only [List.setIfInBounds_toArray, List.set_cons_zero, List.set_cons_succ] at S2
      have HS2 := hide S2
      obtain ⟨c00, c01⟩ := row2 R0.out
      obtain ⟨f00, f01⟩ := row2 S1
      have g00 := frozenRow R0.out 0
      have g11 := frozenRow S1 1
      clear S1 S2 hR hN hT q1
      go_wp2_with fail
      obtain ⟨e0, e1⟩ := row2 HS2.out
      refine bodyPost_ret (v := .tuple #[.agg #[.int .i64 N, .bool T], .bool true]) ?_ rfl ⟨_, _, _, rfl, HR.out, ?_⟩
      · rw [results_cell_tmp rfl]
        go_simp
      · exact (HB.out.setCell (Nat.le_refl _) _).setCell (Nat.le_refl _) _
end

section
open Go.RowKit Go.PlainAid

def LenE3 (F : Nat → Fd) (n : Nat) (w : World) (e : Ending) (w' : World) : Prop := ∃ N T B, e = .returned (.tuple #[.int .i64 N, .bool T, .bool B]) ∧ LenR F n N T B ∧ Below w.heap.size w w'
/-- The numbers of the first k fields: m of them, v. -/
def LstR (F : Nat → Fd) (k m : Nat) (v : Nat → Int) : Prop :=
  (∀ i, i < k → (F i).name = CL → natB (F i).val MX = true ∧ ∃ j, j < m ∧ v j = natN (F i).val MX) ∧ (∀ j, j < m → ∃ i, i < k ∧ (F i).name = CL ∧ v j = natN (F i).val MX) ∧ m ≤ k
theorem LstR.zero (F : Nat → Fd) (v : Nat → Int) : LstR F 0 0 v := ⟨fun i hi => by omega, fun j hj => by omega, Nat.le_refl _⟩
theorem LstR.skip {F : Nat → Fd} {k m : Nat} {v : Nat → Int} (h : LstR F k m v) (hn : (F k).name ≠ CL) : LstR F (k + 1) m v :=
  ⟨fun i hi e => by
    by_cases hk : i = k
    · subst hk; exact absurd e hn
    · exact h.1 i (by omega) e, fun j hj => by
    obtain ⟨i, hi, e⟩ := h.2.1 j hj
    exact ⟨i, by omega, e⟩, by have := h.2.2; omega⟩
theorem LstR.add {F : Nat → Fd} {k m : Nat} {v : Nat → Int} (h : LstR F k m v) (hn : (F k).name = CL) (hb : natB (F k).val MX = true) (x : Int) (hx : natN (F k).val MX = x) : LstR F (k + 1) (m + 1) (catF m v (oneF x)) :=
  ⟨fun i hi e => by
    by_cases hk : i = k
    · subst hk
      exact ⟨hb, m, by omega, by simp [catF, oneF, hx]⟩
    · obtain ⟨h1, j, hj, h2⟩ := h.1 i (by omega) e
      exact ⟨h1, j, by omega, by simp [catF, hj, h2]⟩, fun j hj => by
    by_cases hm : j < m
    · obtain ⟨i, hi, e, h2⟩ := h.2.1 j hm
      exact ⟨i, by omega, e, by simp [catF, hm, h2]⟩
    · obtain rfl : j = m := by omega
      exact ⟨k, by omega, hn, by simp [catF, oneF, hx]⟩, by have := h.2.2; omega⟩
theorem LstR.none_ {F : Nat → Fd} {n : Nat} {v : Nat → Int} (h : LstR F n 0 v) : OkL F n none :=
  ⟨fun i hi e => by
    obtain ⟨_, j, hj, _⟩ := h.1 i hi e
    omega, fun h => absurd rfl h⟩
theorem LstR.all {F : Nat → Fd} {n m : Nat} {v : Nat → Int} (h : LstR F n m v) (hm : 0 < m) (ha : ∀ j, j < m → v j = v 0) : OkL F n (some (v 0)) :=
  ⟨fun i hi e => by
    obtain ⟨h1, j, hj, h2⟩ := h.1 i hi e
    exact ⟨h1, by rw [← h2, ha j hj]⟩, fun _ => by
    obtain ⟨i, hi, e, _⟩ := h.2.1 0 hm
    exact ⟨i, hi, e⟩⟩
theorem LstR.not {F : Nat → Fd} {n m j : Nat} {v : Nat → Int} (h : LstR F n m v) (hj : j < m) (hv : v j ≠ v 0) (t : Option Int) : ¬ OkL F n t := fun hk => by
  obtain ⟨i, hi, e, h1⟩ := h.2.1 j hj
  obtain ⟨i', hi', e', h1'⟩ := h.2.1 0 (by omega)
  have a := (hk.1 i hi e).2
  have b := (hk.1 i' hi' e').2
  rw [a] at b
  exact hv (by rw [h1, h1']; exact Option.some.inj b)
theorem iint_info : (Tryd.prog.info? 3).map (fun i => (i.zero, i.size, i.bytes)) = some (some (.int .i64 0), 1, 8) := by kernel_rfl
end

section
open Go.RowKit Go.PlainAid

/-- Two fields of a literal. -/
def two (a b : ByteArray) : Nat → Fd := fun i => if i = 0 then ⟨CL, a, false⟩ else ⟨CL, b, false⟩
theorem rdfd_two (a b : ByteArray) (ha : a.size ≤ 100) (hb : b.size ≤ 100) (w : World) :
    RdFd (w.alloc (.cells #[.string CL, .string a, .bool false, .string CL, .string b, .bool false] 60)) (some ⟨w.heap.size, 0, none⟩) 2 2 (two a b) := by
  have h := heap_alloc_new w (.cells #[.string CL, .string a, .bool false, .string CL, .string b, .bool false] 60)
  have hc : CL.size ≤ maxLen := by decide
  refine ⟨Nat.le_refl _, by simp [maxLen], fun e => (by cases e), fun _ => ⟨_, _, rfl, fun i hi => ?_⟩, fun i hi => ?_⟩
  · have h2 : i = 0 ∨ i = 1 := by omega
    rcases h2 with rfl | rfl
    · refine ⟨?_, ?_, ?_⟩ <;> (rw [cell_of_row _ _ _ _ _ _ h]; rfl)
    · refine ⟨?_, ?_, ?_⟩ <;> (rw [cell_of_row _ _ _ _ _ _ h]; rfl)
  · unfold two
    have h1 : (100 : Nat) ≤ maxLen := by simp [maxLen]
    split
    · exact ⟨hc, Nat.le_trans ha h1⟩
    · exact ⟨hc, Nat.le_trans hb h1⟩
def e12 : ByteArray := ⟨#[49, 50]⟩
def e012 : ByteArray := ⟨#[48, 49, 50]⟩
def e13 : ByteArray := ⟨#[49, 51]⟩
theorem v12 : natN e12 MX = 12 ∧ natB e12 MX = true := by decide +kernel
theorem v012 : natN e012 MX = 12 ∧ natB e012 MX = true := by decide +kernel
theorem v13 : natN e13 MX = 13 ∧ natB e13 MX = true := by decide +kernel
theorem ex_one : LenR (two e12 e012) 2 12 true true := .inl ⟨rfl, some 12, ⟨fun i hi _ => by
  have h2 : i = 0 ∨ i = 1 := by omega
  rcases h2 with rfl | rfl
  · exact ⟨v12.2, by show _ = some (natN e12 MX); rw [v12.1]⟩
  · exact ⟨v012.2, by show _ = some (natN e012 MX); rw [v012.1]⟩, fun _ => ⟨0, by omega, rfl⟩⟩, rfl, rfl⟩
theorem ex_two : LenR (two e12 e13) 2 0 false false := .inr ⟨rfl, rfl, rfl, fun t h => by
  have a := (h.1 0 (by omega) rfl).2
  have b := (h.1 1 (by omega) rfl).2
  have a' : t = some (natN e12 MX) := a
  have b' : t = some (natN e13 MX) := b
  rw [v12.1] at a'
  rw [v13.1, a'] at b'
  exact absurd (Option.some.inj b') (by decide)⟩
end

section
open Go.RowKit Go.PlainAid

/-- G has F's fields, and f. -/
def Ins (F : Nat → Fd) (n : Nat) (G : Nat → Fd) (f : Fd) : Prop :=
  (∀ i, i < n → ∃ j, j < n + 1 ∧ G j = F i) ∧ (∀ j, j < n + 1 → G j = f ∨ ∃ i, i < n ∧ G j = F i) ∧ ∃ j, j < n + 1 ∧ G j = f
def insF (F : Nat → Fd) (a : Nat) (f : Fd) : Nat → Fd := catFd (a + 1) (catFd a F (fun _ => f)) (fun i => F (a + i))
theorem ins_of (F : Nat → Fd) (n a : Nat) (f : Fd) (ha : a ≤ n) : Ins F n (insF F a f) f := by
  have key : ∀ j, insF F a f j = if j < a then F j else if j = a then f else F (j - 1) := fun j => by
    unfold insF catFd
    by_cases h1 : j < a
    · simp [h1, show j < a + 1 by omega]
    · by_cases h2 : j = a
      · subst h2
        simp
      · have h3 : ¬ j < a + 1 := by omega
        simp only [h1, h2, h3, if_false]
        rw [show a + (j - (a + 1)) = j - 1 by omega]
  refine ⟨fun i hi => ?_, fun j hj => ?_, ⟨a, by omega, by rw [key]; simp⟩⟩
  · by_cases h : i < a
    · exact ⟨i, by omega, by rw [key, if_pos h]⟩
    · exact ⟨i + 1, by omega, by rw [key, if_neg (by omega), if_neg (by omega)]; simp⟩
  · rw [key]
    by_cases h1 : j < a
    · exact .inr ⟨j, by omega, by rw [if_pos h1]⟩
    · by_cases h2 : j = a
      · exact .inl (by rw [if_neg h1, if_pos h2])
      · exact .inr ⟨j - 1, by omega, by rw [if_neg h1, if_neg h2]⟩
theorem Ins.other {F G : Nat → Fd} {n : Nat} {f : Fd} {t : Option Int} (h : Ins F n G f) (hf : f.name ≠ CL) : OkL F n t ↔ OkL G (n + 1) t := by
  obtain ⟨h1, h2, _⟩ := h
  constructor
  · rintro ⟨a, b⟩
    refine ⟨fun j hj e => ?_, fun ht => ?_⟩
    · rcases h2 j hj with e2 | ⟨i, hi, e2⟩
      · rw [e2] at e; exact absurd e hf
      · rw [e2] at e ⊢; exact a i hi e
    · obtain ⟨i, hi, e⟩ := b ht
      obtain ⟨j, hj, e2⟩ := h1 i hi
      exact ⟨j, hj, by rw [e2]; exact e⟩
  · rintro ⟨a, b⟩
    refine ⟨fun i hi e => ?_, fun ht => ?_⟩
    · obtain ⟨j, hj, e2⟩ := h1 i hi
      have := a j hj (by rw [e2]; exact e)
      rw [e2] at this
      exact this
    · obtain ⟨j, hj, e⟩ := b ht
      rcases h2 j hj with e2 | ⟨i, hi, e2⟩
      · rw [e2] at e; exact absurd e hf
      · exact ⟨i, hi, by rw [← e2]; exact e⟩
theorem Ins.othersR {F G : Nat → Fd} {n : Nat} {f : Fd} {N M : Int} {T U B D : Bool} (h : Ins F n G f) (hf : f.name ≠ CL) (a : LenR F n N T B) (b : LenR G (n + 1) M U D) : N = M ∧ T = U ∧ B = D := by
  refine LenR.same (F := G) (n := n + 1) ?_ b
  rcases a with ⟨rfl, t, h1, rfl, rfl⟩ | ⟨rfl, rfl, rfl, h1⟩
  · exact .inl ⟨rfl, t, (h.other hf).1 h1, rfl, rfl⟩
  · exact .inr ⟨rfl, rfl, rfl, fun t ht => h1 t ((h.other hf).2 ht)⟩
/-- What holds with a length more. -/
theorem Ins.down {F G : Nat → Fd} {n : Nat} {f : Fd} {t : Option Int} (h : Ins F n G f) (hk : OkL G (n + 1) t) : ∃ u, OkL F n u ∧ (u ≠ none → u = t) := by
  obtain ⟨h1, _, _⟩ := h
  by_cases e : ∃ i, i < n ∧ (F i).name = CL
  · refine ⟨t, ⟨fun i hi e => ?_, fun _ => e⟩, fun _ => rfl⟩
    obtain ⟨j, hj, e2⟩ := h1 i hi
    have := hk.1 j hj (by rw [e2]; exact e)
    rw [e2] at this
    exact this
  · exact ⟨none, ⟨fun i hi e2 => absurd ⟨i, hi, e2⟩ e, fun h => absurd rfl h⟩, fun h => absurd rfl h⟩
theorem Ins.told {F G : Nat → Fd} {n : Nat} {f : Fd} {N M : Int} {T U : Bool} (h : Ins F n G f) (a : LenR F n N T true) (hT : T = true) (b : LenR G (n + 1) M U true) : N = M ∧ T = U := by
  rcases a with ⟨_, t, h1, rfl, rfl⟩ | ⟨h1, _⟩
  · rcases b with ⟨_, u, h2, rfl, rfl⟩ | ⟨h2, _⟩
    · obtain ⟨z, hz, hz2⟩ := h.down h2
      obtain rfl := h1.same hz
      have : t ≠ none := fun e => by rw [e] at hT; cases hT
      rw [hz2 this]
      exact ⟨rfl, rfl⟩
    · cases h2
  · cases h1
theorem Ins.may {F G : Nat → Fd} {n : Nat} {f : Fd} {N M : Int} {T U B D : Bool} (h : Ins F n G f) (a : LenR F n N T B) (b : LenR G (n + 1) M U D) : D = true → B = true := by
  rintro rfl
  rcases b with ⟨_, u, h2, _⟩ | ⟨h2, _⟩
  · obtain ⟨z, hz, _⟩ := h.down h2
    rcases a with ⟨rfl, _⟩ | ⟨_, _, _, h1⟩
    · rfl
    · exact absurd hz (h1 _)
  · cases h2
end
end Go.Proofs.YtpohgehojmeodaaDoor
