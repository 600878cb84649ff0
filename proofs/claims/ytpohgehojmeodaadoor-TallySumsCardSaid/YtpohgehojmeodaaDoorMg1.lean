/- Layer 28: which fields are wrong, and which are barred; the first fields. -/
import Derived.Test.YtpohgehojmeodaaDoorPs6
import Derived.Test.YtpohgehojmeodaaDoorPs8
import Derived.Test.YtpohgehojmeodaaDoorTokM
import Derived.Test.YtpohgehojmeodaaDoorML
namespace Go.Proofs.YtpohgehojmeodaaDoor
set_option linter.unusedVariables false
set_option linter.unusedSimpArgs false
open Go.RowKit Go.PlainAid

def anyB (p : Fd → Bool) (F : Nat → Fd) (n : Nat) : Bool := decide (∃ i, i < n ∧ p (F i) = true)
def Sm28 (F : Nat → Fd) (n : Nat) : Prop := ∀ i, i < n → (F i).name.size ≤ 1000 ∧ (F i).val.size ≤ 1000
def wrgB (f : Fd) : Bool := !fieldB f.name f.val
def teN : ByteArray := ⟨#[116, 101]⟩
def trN : ByteArray := ⟨#[116, 114, 97, 105, 108, 101, 114, 115]⟩
def brdB (f : Fd) : Bool := barB f.name || (f.name.toList == [116, 101] && !(smallB f.val).toList == [116, 114, 97, 105, 108, 101, 114, 115])
theorem row3m {w : World} {b : Nat} {T : TypeId} {v0 v1 v2 : Value} (h : w.heap[b]? = some (.cells #[v0, v1, v2] T (0, 0))) : w.cell? ⟨b, 0, none⟩ = some v0 ∧ w.cell? ⟨b, 1, none⟩ = some v1 ∧ w.cell? ⟨b, 2, none⟩ = some v2 := by
  refine ⟨?_, ?_, ?_⟩ <;> simp [World.cell?, h]
set_option maxRecDepth 20000 in
theorem wrong28 (x y : ByteArray) (z : Bool) (w : World) (hx : x.size ≤ 1000) (hy : y.size ≤ 1000) (T : TypeId) (fr : Nat × Nat) (hg : w.heap[6]? = some (.cells barV T fr)) :
    Calls Tryd.prog 162 #[.agg #[.string x, .string y, .bool z]] w fun e w' => e = .returned (.bool (wrgB ⟨x, y, z⟩)) ∧ Below w.heap.size w w' := by
  obtain ⟨d0, d1, d2⟩ := row3m (heap_alloc_new w (.cells #[.string x, .string y, .bool z] 60))
  have E := hide ((Below.refl w.heap.size w).alloc (Nat.le_refl _) (.cells #[.string x, .string y, .bool z] 60))
  obtain ⟨b, hb⟩ : ∃ b, b = fieldB x y := ⟨_, rfl⟩
  have HB := hide hb
  have Hw : Hid (wrgB ⟨x, y, z⟩ = !b) := by show _ = _; rw [HB.out]; rfl
  clear hg hb
  go_enter Tryd.func162, Tryd.ntmps162
  go_wp2_with fail
  refine (field_any x y z _ (by omega) (by omega)).mono ?_
  rw [← HB.out]
  rintro e w1 ⟨rfl, hw1⟩
  have E1 : Hid (Below w.heap.size w w1) := by rw [hw1]; exact E.out.alloc E.out.size _
  clear hw1
  go_wp2_with fail
  go_ret
  exact ⟨by rw [Hw.out]; rfl, E1.out⟩
set_option maxRecDepth 20000 in
theorem barred28 (x y : ByteArray) (z : Bool) (w : World) (hx : x.size ≤ 1000) (hy : y.size ≤ 1000) (T : TypeId) (fr : Nat × Nat) (hg : w.heap[6]? = some (.cells barV T fr)) :
    Calls Tryd.prog 163 #[.agg #[.string x, .string y, .bool z]] w fun e w' => e = .returned (.bool (brdB ⟨x, y, z⟩)) ∧ Below w.heap.size w w' := by
  obtain ⟨d0, d1, d2⟩ := row3m (heap_alloc_new w (.cells #[.string x, .string y, .bool z] 60))
  have E0 := (Below.refl w.heap.size w).alloc (Nat.le_refl _) (.cells #[.string x, .string y, .bool z] 60)
  have Hg := hide ((E0.block _ (rowLt hg)).trans hg)
  have E := hide E0
  obtain ⟨b, hb⟩ : ∃ b, b = barB x := ⟨_, rfl⟩
  obtain ⟨t, ht⟩ : ∃ t, t = (x.toList == [116, 101]) := ⟨_, rfl⟩
  obtain ⟨u, hu⟩ : ∃ u, u = smallB y := ⟨_, rfl⟩
  obtain ⟨v, hv⟩ : ∃ v, v = (u.toList == [116, 114, 97, 105, 108, 101, 114, 115]) := ⟨_, rfl⟩
  have HB := hide hb
  have HU := hide hu
  have Hw : Hid (brdB ⟨x, y, z⟩ = (b || (t && !v))) := by show brdB _ = _; unfold brdB; simp only; rw [← hb, ← ht, ← hu, ← hv]
  clear hg hb E0 hu
  go_enter Tryd.func163, Tryd.ntmps163
  cases b with
  | true =>
    clear ht hv
    go_wp2_with fail
    refine (barred_any x _ T fr Hg.out).mono ?_
    rw [← HB.out]
    rintro e w1 ⟨rfl, rfl⟩
    go_wp2_with fail
    go_ret
    exact ⟨by rw [Hw.out]; rfl, E.out⟩
  | false =>
    cases t with
    | false =>
      have ht' := ht.symm
      clear ht hv
      go_wp2_with fail
      refine (barred_any x _ T fr Hg.out).mono ?_
      rw [← HB.out]
      rintro e w1 ⟨rfl, rfl⟩
      go_wp2_with fail
      go_ret
      exact ⟨by rw [Hw.out]; rfl, E.out⟩
    | true =>
      have ht' := ht.symm
      have hv' : (!u.toList == [116, 114, 97, 105, 108, 101, 114, 115]) = !v := by rw [hv]
      clear ht hv
      go_wp2_with fail
      refine (barred_any x _ T fr Hg.out).mono ?_
      rw [← HB.out]
      rintro e w1 ⟨rfl, rfl⟩
      go_wp2_with fail
      refine (lower_any y _ hy).mono ?_
      rw [← HU.out]
      rintro e w2 ⟨rfl, hb2⟩
      have E2 := hide (E.out.of hb2)
      clear hb2
      go_wp2_with fail
      go_ret
      exact ⟨by rw [Hw.out]; rfl, E2.out⟩
set_option maxRecDepth 20000 in
set_option maxHeartbeats 1600000 in
theorem index_wrong28 (A : Option Addr) (n c : Nat) (F : Nat → Fd) (w : World) (ha : RdFd w A n c F) (hs : Sm28 F n) (T : TypeId) (fr : Nat × Nat) (hg : w.heap[6]? = some (.cells barV T fr)) :
    Calls Tryd.prog 182 #[.slice A n c, .func (.func 162) #[] #[]] w fun e w' => ∃ i, e = .returned (.int .i64 i) ∧ decide (0 ≤ i) = anyB wrgB F n ∧ Below w.heap.size w w' := by
  have Ha := hide ha
  have Hs := hide hs
  have Hg := hide hg
  have hn := ha.le
  clear ha hs hg
  go_enter Tryd.func182, Tryd.ntmps182
  go_wp2_with fail
  go_loopw [8] (fun i wr => ∃ k : Nat, k ≤ n ∧ i = .int .i64 k ∧ (∀ j, j < k → wrgB (F j) = false) ∧ Below w.heap.size w wr) (fun i _ => n - (intOf i).toNat)
  case atStart => exact ⟨0, Nat.zero_le _, rfl, fun j h => absurd h (by omega), Below.refl _ _⟩
  case round =>
    obtain ⟨k, hk, rfl, hall, hB⟩ := hrel
    have HB := hide hB
    have Hall := hide hall
    clear hall
    by_cases hlt : k < n
    · have Hr := hide (Ha.out.below hB)
      have Hgr := hide ((hB.block _ (rowLt Hg.out)).trans Hg.out)
      clear hB
      obtain ⟨b, off, rfl, hc0, hc1, hc2⟩ := Hr.out.at_ hlt
      have hkn : (k : Int) < (n : Int) := by omega
      obtain ⟨s1, s2⟩ := Hs.out k hlt
      obtain ⟨X, hX⟩ : ∃ X, F k = X := ⟨_, rfl⟩
      have HX := hide hX
      rw [hX] at hc0 hc1 hc2 s1 s2
      clear hX
      obtain ⟨x0, x1, x2⟩ := X
      simp only at hc0 hc1 hc2 s1 s2
      cases h0 : wrgB ⟨x0, x1, x2⟩ with
      | false =>
        have Hall' : Hid (∀ j, j < k + 1 → wrgB (F j) = false) := fun j hj => by
          by_cases e : j = k
          · subst e
            rw [HX.out]
            exact h0
          · exact Hall.out j (by omega)
        have H0 := hide h0
        clear h0
        go_wp2_with fail
        refine (wrong28 x0 x1 x2 _ s1 s2 T fr Hgr.out).mono ?_
        rw [H0.out]
        rintro e w1 ⟨rfl, hb1⟩
        have HB1 := hide (HB.out.of hb1)
        clear hb1
        go_wp2_with fail
        exact ⟨⟨k + 1, by omega, by go_num, Hall'.out, HB1.out⟩, by simp [intOf]; omega⟩
      | true =>
        have Hf : Hid (anyB wrgB F n = true) := decide_eq_true ⟨k, hlt, by rw [HX.out]; exact h0⟩
        have H0 := hide h0
        clear h0
        go_wp2_with fail
        refine (wrong28 x0 x1 x2 _ s1 s2 T fr Hgr.out).mono ?_
        rw [H0.out]
        rintro e w1 ⟨rfl, hb1⟩
        have HB1 := hide (HB.out.of hb1)
        clear hb1
        go_wp2_with fail
        go_ret
        exact ⟨_, rfl, by rw [Hf.out]; exact decide_eq_true (by omega), HB1.out⟩
    · obtain rfl : n = k := by omega
      have Hf : Hid (anyB wrgB F n = false) := decide_eq_false fun ⟨j, hj, e⟩ => by rw [Hall.out j hj] at e; cases e
      clear hB
      go_wp2_with fail
      go_ret
      exact ⟨_, rfl, by rw [Hf.out]; rfl, HB.out⟩
set_option maxRecDepth 20000 in
theorem contains_wrong28 (A : Option Addr) (n c : Nat) (F : Nat → Fd) (w : World) (ha : RdFd w A n c F) (hs : Sm28 F n) (T : TypeId) (fr : Nat × Nat) (hg : w.heap[6]? = some (.cells barV T fr)) :
    Calls Tryd.prog 161 #[.slice A n c, .func (.func 162) #[] #[]] w fun e w' => e = .returned (.bool (anyB wrgB F n)) ∧ Below w.heap.size w w' := by
  have Ha := hide ha
  have Hs := hide hs
  have Hg := hide hg
  clear ha hs hg
  go_enter Tryd.func161, Tryd.ntmps161
  go_wp2_with fail
  refine (index_wrong28 A n c F _ Ha.out Hs.out T fr Hg.out).mono ?_
  rintro e w1 ⟨i, rfl, hi, hb⟩
  have HI := hide hi
  have HB := hide hb
  clear hi hb
  go_wp2_with fail
  go_ret
  exact ⟨by rw [← HI.out]; rfl, HB.out⟩
set_option maxRecDepth 20000 in
set_option maxHeartbeats 1600000 in
theorem index_barred28 (A : Option Addr) (n c : Nat) (F : Nat → Fd) (w : World) (ha : RdFd w A n c F) (hs : Sm28 F n) (T : TypeId) (fr : Nat × Nat) (hg : w.heap[6]? = some (.cells barV T fr)) :
    Calls Tryd.prog 182 #[.slice A n c, .func (.func 163) #[] #[]] w fun e w' => ∃ i, e = .returned (.int .i64 i) ∧ decide (0 ≤ i) = anyB brdB F n ∧ Below w.heap.size w w' := by
  have Ha := hide ha
  have Hs := hide hs
  have Hg := hide hg
  have hn := ha.le
  clear ha hs hg
  go_enter Tryd.func182, Tryd.ntmps182
  go_wp2_with fail
  go_loopw [8] (fun i wr => ∃ k : Nat, k ≤ n ∧ i = .int .i64 k ∧ (∀ j, j < k → brdB (F j) = false) ∧ Below w.heap.size w wr) (fun i _ => n - (intOf i).toNat)
  case atStart => exact ⟨0, Nat.zero_le _, rfl, fun j h => absurd h (by omega), Below.refl _ _⟩
  case round =>
    obtain ⟨k, hk, rfl, hall, hB⟩ := hrel
    have HB := hide hB
    have Hall := hide hall
    clear hall
    by_cases hlt : k < n
    · have Hr := hide (Ha.out.below hB)
      have Hgr := hide ((hB.block _ (rowLt Hg.out)).trans Hg.out)
      clear hB
      obtain ⟨b, off, rfl, hc0, hc1, hc2⟩ := Hr.out.at_ hlt
      have hkn : (k : Int) < (n : Int) := by omega
      obtain ⟨s1, s2⟩ := Hs.out k hlt
      obtain ⟨X, hX⟩ : ∃ X, F k = X := ⟨_, rfl⟩
      have HX := hide hX
      rw [hX] at hc0 hc1 hc2 s1 s2
      clear hX
      obtain ⟨x0, x1, x2⟩ := X
      simp only at hc0 hc1 hc2 s1 s2
      cases h0 : brdB ⟨x0, x1, x2⟩ with
      | false =>
        have Hall' : Hid (∀ j, j < k + 1 → brdB (F j) = false) := fun j hj => by
          by_cases e : j = k
          · subst e
            rw [HX.out]
            exact h0
          · exact Hall.out j (by omega)
        have H0 := hide h0
        clear h0
        go_wp2_with fail
        refine (barred28 x0 x1 x2 _ s1 s2 T fr Hgr.out).mono ?_
        rw [H0.out]
        rintro e w1 ⟨rfl, hb1⟩
        have HB1 := hide (HB.out.of hb1)
        clear hb1
        go_wp2_with fail
        exact ⟨⟨k + 1, by omega, by go_num, Hall'.out, HB1.out⟩, by simp [intOf]; omega⟩
      | true =>
        have Hf : Hid (anyB brdB F n = true) := decide_eq_true ⟨k, hlt, by rw [HX.out]; exact h0⟩
        have H0 := hide h0
        clear h0
        go_wp2_with fail
        refine (barred28 x0 x1 x2 _ s1 s2 T fr Hgr.out).mono ?_
        rw [H0.out]
        rintro e w1 ⟨rfl, hb1⟩
        have HB1 := hide (HB.out.of hb1)
        clear hb1
        go_wp2_with fail
        go_ret
        exact ⟨_, rfl, by rw [Hf.out]; exact decide_eq_true (by omega), HB1.out⟩
    · obtain rfl : n = k := by omega
      have Hf : Hid (anyB brdB F n = false) := decide_eq_false fun ⟨j, hj, e⟩ => by rw [Hall.out j hj] at e; cases e
      clear hB
      go_wp2_with fail
      go_ret
      exact ⟨_, rfl, by rw [Hf.out]; rfl, HB.out⟩
set_option maxRecDepth 20000 in
theorem contains_barred28 (A : Option Addr) (n c : Nat) (F : Nat → Fd) (w : World) (ha : RdFd w A n c F) (hs : Sm28 F n) (T : TypeId) (fr : Nat × Nat) (hg : w.heap[6]? = some (.cells barV T fr)) :
    Calls Tryd.prog 161 #[.slice A n c, .func (.func 163) #[] #[]] w fun e w' => e = .returned (.bool (anyB brdB F n)) ∧ Below w.heap.size w w' := by
  have Ha := hide ha
  have Hs := hide hs
  have Hg := hide hg
  clear ha hs hg
  go_enter Tryd.func161, Tryd.ntmps161
  go_wp2_with fail
  refine (index_barred28 A n c F _ Ha.out Hs.out T fr Hg.out).mono ?_
  rintro e w1 ⟨i, rfl, hi, hb⟩
  have HI := hide hi
  have HB := hide hb
  clear hi hb
  go_wp2_with fail
  go_ret
  exact ⟨by rw [← HI.out]; rfl, HB.out⟩
end Go.Proofs.YtpohgehojmeodaaDoor
