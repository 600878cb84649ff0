/- Rp1, Rp2, Rp3, Rp4, Rp5, Rp6, Rp7 in one text. -/
import Derived.Test.YtnkcbljhgcgpaaaDoorSltB
import Derived.Deep.Cut
namespace Go.Proofs.YtnkcbljhgcgpaaaDoor
set_option linter.unusedVariables false
set_option linter.unusedSimpArgs false
section
open Go.RowKit Go.PlainAid

def isN (n : Int) : Bool := decide (0 ≤ n) && decide (n ≤ 2147483647)
def noT (s : ByteArray) (a : Bool) : Bool := s.toList.isEmpty && !a
def rpB (k i : Int) (ns : ByteArray) (a : Bool) (vs : ByteArray) (b : Bool) (z : Int) : Bool :=
  if k = 1 then decide (0 < i) && (isN i && (noT ns a && (noT vs b && (z == 0))))
  else if k = 2 ∨ k = 3 ∨ k = 4 then isN i && ((z == 0) && ((i == 0) || noT ns a))
  else if k = 5 then isN z && ((i == 0) && (noT ns a && noT vs b)) else false
theorem isn22 (n : Int) (w : World) : Calls Tryd.prog 100 #[.int .i64 n] w fun e w' => e = .returned (.bool (isN n)) ∧ w = w' := by
  unfold isN
  go_enter Tryd.func100, Tryd.ntmps100
  go_wp2
  all_goals (go_ret; refine ⟨?_, rfl⟩; first | (simp_all; done) | (simp_all; omega))
set_option maxRecDepth 20000 in
set_option maxHeartbeats 3200000 in
theorem right22_1 (i : Int) (ns : ByteArray) (a : Bool) (vs : ByteArray) (b : Bool) (z : Int) (w : World) : Calls Tryd.prog 83 #[.agg #[.int .i64 1, .int .i64 i, .string ns, .bool a, .string vs, .bool b, .int .i64 z]] w fun e w' => e = .returned (.bool (rpB 1 i ns a vs b z)) ∧ Below w.heap.size w w' := by
  obtain ⟨c, hc⟩ : ∃ c, isN i = c := ⟨_, rfl⟩
  have HC := hide hc
  have HR : Hid (rpB 1 i ns a vs b z = (decide (0 < i) && (c && ((ns.toList.isEmpty && !a) && ((vs.toList.isEmpty && !b) && (z == 0)))))) := by
    show _ = _
    unfold rpB noT
    rw [hc]
    rfl
  clear hc
  go_enter Tryd.func83, Tryd.ntmps83
  go_wp2_with (go_at_call 100; refine (isn22 i _).mono ?_; rw [HC.out]; rintro e w' ⟨rfl, rfl⟩)
  all_goals
    go_ret
    refine ⟨?_, (Below.refl _ _).alloc (Nat.le_refl _) _⟩
    rw [HR.out]
    first | (simp_all; done) | (simp_all; intros; omega)
set_option maxRecDepth 20000 in
set_option maxHeartbeats 3200000 in
theorem right22_2 (i : Int) (ns : ByteArray) (a : Bool) (vs : ByteArray) (b : Bool) (z : Int) (w : World) : Calls Tryd.prog 83 #[.agg #[.int .i64 2, .int .i64 i, .string ns, .bool a, .string vs, .bool b, .int .i64 z]] w fun e w' => e = .returned (.bool (rpB 2 i ns a vs b z)) ∧ Below w.heap.size w w' := by
  obtain ⟨c, hc⟩ : ∃ c, isN i = c := ⟨_, rfl⟩
  have HC := hide hc
  have HR : Hid (rpB 2 i ns a vs b z = (c && ((z == 0) && ((i == 0) || (ns.toList.isEmpty && !a))))) := by
    show _ = _
    unfold rpB noT
    rw [hc]
    rfl
  clear hc
  go_enter Tryd.func83, Tryd.ntmps83
  go_wp2_with (go_at_call 100; refine (isn22 i _).mono ?_; rw [HC.out]; rintro e w' ⟨rfl, rfl⟩)
  all_goals
    go_ret
    refine ⟨?_, (Below.refl _ _).alloc (Nat.le_refl _) _⟩
    rw [HR.out]
    first | (simp_all; done) | (simp_all; intros; omega)
set_option maxRecDepth 20000 in
set_option maxHeartbeats 3200000 in
theorem right22_3 (i : Int) (ns : ByteArray) (a : Bool) (vs : ByteArray) (b : Bool) (z : Int) (w : World) : Calls Tryd.prog 83 #[.agg #[.int .i64 3, .int .i64 i, .string ns, .bool a, .string vs, .bool b, .int .i64 z]] w fun e w' => e = .returned (.bool (rpB 3 i ns a vs b z)) ∧ Below w.heap.size w w' := by
  obtain ⟨c, hc⟩ : ∃ c, isN i = c := ⟨_, rfl⟩
  have HC := hide hc
  have HR : Hid (rpB 3 i ns a vs b z = (c && ((z == 0) && ((i == 0) || (ns.toList.isEmpty && !a))))) := by
    show _ = _
    unfold rpB noT
    rw [hc]
    rfl
  clear hc
  go_enter Tryd.func83, Tryd.ntmps83
  go_wp2_with (go_at_call 100; refine (isn22 i _).mono ?_; rw [HC.out]; rintro e w' ⟨rfl, rfl⟩)
  all_goals
    go_ret
    refine ⟨?_, (Below.refl _ _).alloc (Nat.le_refl _) _⟩
    rw [HR.out]
    first | (simp_all; done) | (simp_all; intros; omega)
set_option maxRecDepth 20000 in
set_option maxHeartbeats 3200000 in
theorem right22_4 (i : Int) (ns : ByteArray) (a : Bool) (vs : ByteArray) (b : Bool) (z : Int) (w : World) : Calls Tryd.prog 83 #[.agg #[.int .i64 4, .int .i64 i, .string ns, .bool a, .string vs, .bool b, .int .i64 z]] w fun e w' => e = .returned (.bool (rpB 4 i ns a vs b z)) ∧ Below w.heap.size w w' := by
  obtain ⟨c, hc⟩ : ∃ c, isN i = c := ⟨_, rfl⟩
  have HC := hide hc
  have HR : Hid (rpB 4 i ns a vs b z = (c && ((z == 0) && ((i == 0) || (ns.toList.isEmpty && !a))))) := by
    show _ = _
    unfold rpB noT
    rw [hc]
    rfl
  clear hc
  go_enter Tryd.func83, Tryd.ntmps83
  go_wp2_with (go_at_call 100; refine (isn22 i _).mono ?_; rw [HC.out]; rintro e w' ⟨rfl, rfl⟩)
  all_goals
    go_ret
    refine ⟨?_, (Below.refl _ _).alloc (Nat.le_refl _) _⟩
    rw [HR.out]
    first | (simp_all; done) | (simp_all; intros; omega)
set_option maxRecDepth 20000 in
set_option maxHeartbeats 3200000 in
theorem right22_5 (i : Int) (ns : ByteArray) (a : Bool) (vs : ByteArray) (b : Bool) (z : Int) (w : World) : Calls Tryd.prog 83 #[.agg #[.int .i64 5, .int .i64 i, .string ns, .bool a, .string vs, .bool b, .int .i64 z]] w fun e w' => e = .returned (.bool (rpB 5 i ns a vs b z)) ∧ Below w.heap.size w w' := by
  obtain ⟨c, hc⟩ : ∃ c, isN z = c := ⟨_, rfl⟩
  have HC := hide hc
  have HR : Hid (rpB 5 i ns a vs b z = (c && ((i == 0) && ((ns.toList.isEmpty && !a) && (vs.toList.isEmpty && !b))))) := by
    show _ = _
    unfold rpB noT
    rw [hc]
    rfl
  clear hc
  go_enter Tryd.func83, Tryd.ntmps83
  go_wp2_with (go_at_call 100; refine (isn22 z _).mono ?_; rw [HC.out]; rintro e w' ⟨rfl, rfl⟩)
  all_goals
    go_ret
    refine ⟨?_, (Below.refl _ _).alloc (Nat.le_refl _) _⟩
    rw [HR.out]
    first | (simp_all; done) | (simp_all; intros; omega)
theorem rpB_out {k i : Int} {ns : ByteArray} {a : Bool} {vs : ByteArray} {b : Bool} {z : Int} (h : k < 1 ∨ 5 < k) : rpB k i ns a vs b z = false := by
  unfold rpB
  rw [if_neg (by omega), if_neg (by omega), if_neg (by omega)]
set_option maxRecDepth 20000 in
set_option maxHeartbeats 3200000 in
theorem right22 (k : Int) (i : Int) (ns : ByteArray) (a : Bool) (vs : ByteArray) (b : Bool) (z : Int) (w : World) : Calls Tryd.prog 83 #[.agg #[.int .i64 k, .int .i64 i, .string ns, .bool a, .string vs, .bool b, .int .i64 z]] w fun e w' => e = .returned (.bool (rpB k i ns a vs b z)) ∧ Below w.heap.size w w' := by
  by_cases h : 1 ≤ k ∧ k ≤ 5
  · have : k = 1 ∨ k = 2 ∨ k = 3 ∨ k = 4 ∨ k = 5 := by omega
    rcases this with rfl | rfl | rfl | rfl | rfl
    · exact right22_1 i ns a vs b z w
    · exact right22_2 i ns a vs b z w
    · exact right22_3 i ns a vs b z w
    · exact right22_4 i ns a vs b z w
    · exact right22_5 i ns a vs b z w
  · have H := hide (rpB_out (k := k) (i := i) (ns := ns) (a := a) (vs := vs) (b := b) (z := z) (by omega))
    have n1 : (k == 1) = false := by simp; omega
    have n2 : (k == 2) = false := by simp; omega
    have n3 : (k == 3) = false := by simp; omega
    have n4 : (k == 4) = false := by simp; omega
    have n5 : (k == 5) = false := by simp; omega
    clear h
    go_enter Tryd.func83, Tryd.ntmps83
    go_wp2
    go_ret
    exact ⟨by rw [H.out]; rfl, (Below.refl _ _).alloc (Nat.le_refl _) _⟩
end

section
open Go.RowKit Go.PlainAid

end

section
open Go.RowKit Go.PlainAid

def formsV : Array Value := #[.int .i64 0, .int .i64 0, .int .i64 128, .int .i64 7, .int .i64 64, .int .i64 6, .int .i64 0, .int .i64 4, .int .i64 16, .int .i64 4, .int .i64 32, .int .i64 5]
theorem forms_at {w : World} {g : Nat} {T : TypeId} {fr : Nat × Nat} (h : w.heap[g]? = some (.cells formsV T fr)) (j : Nat) (v : Value) (hv : formsV[j]? = some v) : w.cell? ⟨g, j, none⟩ = some v := by
  simp only [World.cell?, h]
  simpa using hv
theorem row7 {w : World} {b : Nat} {T : TypeId} {v0 v1 v2 v3 v4 v5 v6 : Value} (h : w.heap[b]? = some (.cells #[v0, v1, v2, v3, v4, v5, v6] T (0, 0))) : w.cell? ⟨b, 0, none⟩ = some v0 ∧ w.cell? ⟨b, 1, none⟩ = some v1 ∧ w.cell? ⟨b, 2, none⟩ = some v2 ∧ w.cell? ⟨b, 3, none⟩ = some v3 ∧ w.cell? ⟨b, 4, none⟩ = some v4 ∧ w.cell? ⟨b, 5, none⟩ = some v5 ∧ w.cell? ⟨b, 6, none⟩ = some v6 := by
  refine ⟨?_, ?_, ?_, ?_, ?_, ?_, ?_⟩ <;> simp [World.cell?, h]
theorem slN_le (s : ByteArray) (sh : Bool) (hs : s.size ≤ 1000) : slN s sh ≤ 4006 := by
  have h1 := txN_le s sh
  have h2 := pfN_bd 7 (txN s sh : Int)
  show pfN 7 (txN s sh : Nat) + txN s sh ≤ 4006
  omega
theorem noT_e : noT ⟨#[]⟩ false = true := by kernel_rfl
def fst22 (k : Int) : Int := if k = 1 then 128 else if k = 2 then 64 else if k = 5 then 32 else if k = 4 then 16 else 0
def bit22 (k : Int) : Int := if k = 1 then 7 else if k = 2 then 6 else if k = 5 then 5 else 4
/-- How many bytes, and which. -/
def rpN (k i : Int) (ns : ByteArray) (a : Bool) (vs : ByteArray) (b : Bool) (z : Int) : Nat :=
  if k = 1 then pfN (bit22 k) i else if k = 5 then pfN (bit22 k) z else if i = 0 then pfN (bit22 k) 0 + slN ns a + slN vs b else pfN (bit22 k) i + slN vs b
def rpF (k i : Int) (ns : ByteArray) (a : Bool) (vs : ByteArray) (b : Bool) (z : Int) : Nat → Int :=
  if k = 1 then pfF (fst22 k) (bit22 k) i else if k = 5 then pfF (fst22 k) (bit22 k) z
  else if i = 0 then catF (pfN (bit22 k) 0 + slN ns a) (catF (pfN (bit22 k) 0) (pfF (fst22 k) (bit22 k) 0) (slF ns a)) (slF vs b)
  else catF (pfN (bit22 k) i) (pfF (fst22 k) (bit22 k) i) (slF vs b)
def PutG (N : Nat) (F : Nat → Int) (w : World) (e : Ending) (w' : World) : Prop := ∃ v, e = .returned (.tuple #[v, .int .i64 0]) ∧ Own .u8 5 w.heap.size w' v N F ∧ Below w.heap.size w w'
theorem rbegin22 (k : Int) (hk : k = 1 ∨ k = 2 ∨ k = 3 ∨ k = 4 ∨ k = 5) (w : World) : Calls Tryd.prog 56 #[.int .i64 k] w fun e w' => e = .returned (.tuple #[.int .i64 (fst22 k), .int .i64 (bit22 k)]) ∧ w = w' := by
  rcases hk with rfl | rfl | rfl | rfl | rfl <;>
  · go_enter Tryd.func56, Tryd.ntmps56
    go_wp2
    go_ret2
    exact ⟨by rfl, rfl⟩
end

section
open Go.RowKit Go.PlainAid

set_option maxRecDepth 100000 in
set_option maxHeartbeats 3200000 in
theorem put22_1 (i : Int) (h0 : 0 < i) (hM : i ≤ 2147483647) (w : World) (T : TypeId) (fr : Nat × Nat) (hg : w.heap[0]? = some (.cells formsV T fr)) : Calls Tryd.prog 65 #[.agg #[.int .i64 1, .int .i64 i, .string ⟨#[]⟩, .bool false, .string ⟨#[]⟩, .bool false, .int .i64 0]] w (PutG (pfN 7 i) (pfF 128 7 i) w) := by
  obtain ⟨i0, hi, hz0, hz1, hz2⟩ := info_parts u8_info
  have R0 := hide (heap_alloc_new w (.cells #[.int .i64 1, .int .i64 i, .string ⟨#[]⟩, .bool false, .string ⟨#[]⟩, .bool false, .int .i64 0] 81))
  have e0 := (Below.refl w.heap.size w).alloc (Nat.le_refl _) (.cells #[.int .i64 1, .int .i64 i, .string ⟨#[]⟩, .bool false, .string ⟨#[]⟩, .bool false, .int .i64 0] 81)
  have E0 := hide e0
  have G0 := hide ((e0.block _ (rowLt hg)).trans hg)
  have HE : Hid (pfE 128 7 i = 0) := by
    show _ = _
    exact pfE_fine (by decide) (by omega)
  have hbd := pfN_bd 7 i
  have hw1 : IntKind.i64.wrap i = i := IntWalk.i64_in _ (by omega)
  have hw2 : IntKind.i64.wrap (i + 0) = i := by rw [Int.add_zero]; exact hw1
  have HR : Hid (rpB 1 i ⟨#[]⟩ false ⟨#[]⟩ false 0 = true) := by show _ = _; unfold rpB isN; rw [if_pos rfl, noT_e, decide_eq_true h0, decide_eq_true (show (0 : Int) ≤ i by omega), decide_eq_true hM]; rfl
  clear e0 hg
  go_enter Tryd.func65, Tryd.ntmps65
  obtain ⟨c0, c1, c2, c3, c4, c5, c6⟩ := row7 R0.out
  go_wp2_with fail
  refine (right22 1 i ⟨#[]⟩ false ⟨#[]⟩ false 0 _).mono ?_
  rw [HR.out]
  rintro e w1 ⟨rfl, hb⟩
  have R1 := hide (keepRow R0.out hb)
  have E1 := hide (E0.out.of hb)
  have G1 := hide ((hb.block _ (rowLt G0.out)).trans G0.out)
  clear hb R0 E0 G0 c0 c1 c2 c3 c4 c5 c6
  obtain ⟨c0, c1, c2, c3, c4, c5, c6⟩ := row7 R1.out
  have g0 := forms_at G1.out 2 (.int .i64 128) rfl
  have g1 := forms_at G1.out 3 (.int .i64 7) rfl
  have al := (Below.refl w1.heap.size w1).alloc (Nat.le_refl _) (.cells #[.int .i64 128, .int .i64 7] 109)
  have R2 := hide (keepRow R1.out al)
  have E2 := hide (E1.out.of al)
  have FF := hide (heap_alloc_new w1 (.cells #[.int .i64 128, .int .i64 7] 109))
  clear al
  go_upto_region 4 with (fail)
  clear c0 c1 c2 c3 c4 c5 c6 g0 g1 R1 E1 G1
  generalize hW : w1.alloc (.cells #[.int .i64 128, .int .i64 7] 109) = W2 at *
  clear hW
  obtain ⟨c0, c1, c2, c3, c4, c5, c6⟩ := row7 R2.out
  obtain ⟨x0, x1⟩ := row2 FF.out
  go_wp2_with fail
  refine (pput_any 128 7 i _).mono ?_
  rintro e w3 (⟨h, _⟩ | ⟨_, A1, c1', rfl, ho1, hb1⟩)
  case inl => exact absurd HE.out h
  have E3 := hide (E2.out.of hb1)
  have R3 := hide (keepRow R2.out hb1)
  have Ho3 := hide (ho1.baseB (B' := w.heap.size + 1) (rowLt R2.out))
  have hs3 := rowLt R3.out
  clear hb1 ho1 R2 E2 c0 c1 c2 c3 c4 c5 c6 FF x0 x1
  obtain ⟨c0, c1, c2, c3, c4, c5, c6⟩ := row7 R3.out
  go_wp2_with fail
  go_ret2
  exact ⟨_, rfl, Ho3.out.baseB (Nat.le_succ _), E3.out⟩
set_option maxRecDepth 100000 in
set_option maxHeartbeats 3200000 in
theorem put22_5 (z : Int) (h0 : 0 ≤ z) (hM : z ≤ 2147483647) (w : World) (T : TypeId) (fr : Nat × Nat) (hg : w.heap[0]? = some (.cells formsV T fr)) : Calls Tryd.prog 65 #[.agg #[.int .i64 5, .int .i64 0, .string ⟨#[]⟩, .bool false, .string ⟨#[]⟩, .bool false, .int .i64 z]] w (PutG (pfN 5 z) (pfF 32 5 z) w) := by
  obtain ⟨i0, hi, hz0, hz1, hz2⟩ := info_parts u8_info
  have R0 := hide (heap_alloc_new w (.cells #[.int .i64 5, .int .i64 0, .string ⟨#[]⟩, .bool false, .string ⟨#[]⟩, .bool false, .int .i64 z] 81))
  have e0 := (Below.refl w.heap.size w).alloc (Nat.le_refl _) (.cells #[.int .i64 5, .int .i64 0, .string ⟨#[]⟩, .bool false, .string ⟨#[]⟩, .bool false, .int .i64 z] 81)
  have E0 := hide e0
  have G0 := hide ((e0.block _ (rowLt hg)).trans hg)
  have HE : Hid (pfE 32 5 z = 0) := by
    show _ = _
    exact pfE_fine (by decide) (by omega)
  have hbd := pfN_bd 5 z
  have hw1 : IntKind.i64.wrap z = z := IntWalk.i64_in _ (by omega)
  have hw2 : IntKind.i64.wrap (0 + z) = z := by rw [Int.zero_add]; exact hw1
  have HR : Hid (rpB 5 0 ⟨#[]⟩ false ⟨#[]⟩ false z = true) := by show _ = _; unfold rpB isN; rw [if_neg (by decide), if_neg (by decide), if_pos rfl, noT_e, decide_eq_true h0, decide_eq_true hM]; rfl
  clear e0 hg
  go_enter Tryd.func65, Tryd.ntmps65
  obtain ⟨c0, c1, c2, c3, c4, c5, c6⟩ := row7 R0.out
  go_wp2_with fail
  refine (right22 5 0 ⟨#[]⟩ false ⟨#[]⟩ false z _).mono ?_
  rw [HR.out]
  rintro e w1 ⟨rfl, hb⟩
  have R1 := hide (keepRow R0.out hb)
  have E1 := hide (E0.out.of hb)
  have G1 := hide ((hb.block _ (rowLt G0.out)).trans G0.out)
  clear hb R0 E0 G0 c0 c1 c2 c3 c4 c5 c6
  obtain ⟨c0, c1, c2, c3, c4, c5, c6⟩ := row7 R1.out
  have g0 := forms_at G1.out 10 (.int .i64 32) rfl
  have g1 := forms_at G1.out 11 (.int .i64 5) rfl
  have al := (Below.refl w1.heap.size w1).alloc (Nat.le_refl _) (.cells #[.int .i64 32, .int .i64 5] 109)
  have R2 := hide (keepRow R1.out al)
  have E2 := hide (E1.out.of al)
  have FF := hide (heap_alloc_new w1 (.cells #[.int .i64 32, .int .i64 5] 109))
  clear al
  go_upto_region 4 with (fail)
  clear c0 c1 c2 c3 c4 c5 c6 g0 g1 R1 E1 G1
  generalize hW : w1.alloc (.cells #[.int .i64 32, .int .i64 5] 109) = W2 at *
  clear hW
  obtain ⟨c0, c1, c2, c3, c4, c5, c6⟩ := row7 R2.out
  obtain ⟨x0, x1⟩ := row2 FF.out
  go_wp2_with fail
  refine (pput_any 32 5 z _).mono ?_
  rintro e w3 (⟨h, _⟩ | ⟨_, A1, c1', rfl, ho1, hb1⟩)
  case inl => exact absurd HE.out h
  have E3 := hide (E2.out.of hb1)
  have R3 := hide (keepRow R2.out hb1)
  have Ho3 := hide (ho1.baseB (B' := w.heap.size + 1) (rowLt R2.out))
  have hs3 := rowLt R3.out
  clear hb1 ho1 R2 E2 c0 c1 c2 c3 c4 c5 c6 FF x0 x1
  obtain ⟨c0, c1, c2, c3, c4, c5, c6⟩ := row7 R3.out
  go_wp2_with fail
  go_ret2
  exact ⟨_, rfl, Ho3.out.baseB (Nat.le_succ _), E3.out⟩
set_option maxRecDepth 100000 in
set_option maxHeartbeats 3200000 in
theorem put22_2z (ns : ByteArray) (a : Bool) (vs : ByteArray) (b : Bool) (hns : ns.size ≤ 1000) (hvs : vs.size ≤ 1000) (w : World) (T : TypeId) (fr : Nat × Nat) (hg : w.heap[0]? = some (.cells formsV T fr)) : Calls Tryd.prog 65 #[.agg #[.int .i64 2, .int .i64 0, .string ns, .bool a, .string vs, .bool b, .int .i64 0]] w (PutG (pfN 6 0 + slN ns a + slN vs b) (catF (pfN 6 0 + slN ns a) (catF (pfN 6 0) (pfF 64 6 0) (slF ns a)) (slF vs b)) w) := by
  obtain ⟨i0, hi, hz0, hz1, hz2⟩ := info_parts u8_info
  have R0 := hide (heap_alloc_new w (.cells #[.int .i64 2, .int .i64 0, .string ns, .bool a, .string vs, .bool b, .int .i64 0] 81))
  have e0 := (Below.refl w.heap.size w).alloc (Nat.le_refl _) (.cells #[.int .i64 2, .int .i64 0, .string ns, .bool a, .string vs, .bool b, .int .i64 0] 81)
  have E0 := hide e0
  have G0 := hide ((e0.block _ (rowLt hg)).trans hg)
  have HE : Hid (pfE 64 6 0 = 0) := by show _ = _; exact pfE_fine (by decide) (by decide)
  have hbd := pfN_bd 6 0
  have hl1 := slN_le ns a hns
  have hl2 := slN_le vs b hvs
  have HR : Hid (rpB 2 0 ns a vs b 0 = true) := by show _ = _; unfold rpB isN; rw [if_neg (by decide), if_pos (by decide)]; rfl
  clear e0 hg
  go_enter Tryd.func65, Tryd.ntmps65
  obtain ⟨c0, c1, c2, c3, c4, c5, c6⟩ := row7 R0.out
  go_wp2_with fail
  refine (right22 2 0 ns a vs b 0 _).mono ?_
  rw [HR.out]
  rintro e w1 ⟨rfl, hb⟩
  have R1 := hide (keepRow R0.out hb)
  have E1 := hide (E0.out.of hb)
  have G1 := hide ((hb.block _ (rowLt G0.out)).trans G0.out)
  clear hb R0 E0 G0 c0 c1 c2 c3 c4 c5 c6
  obtain ⟨c0, c1, c2, c3, c4, c5, c6⟩ := row7 R1.out
  have g0 := forms_at G1.out 4 (.int .i64 64) rfl
  have g1 := forms_at G1.out 5 (.int .i64 6) rfl
  have al := (Below.refl w1.heap.size w1).alloc (Nat.le_refl _) (.cells #[.int .i64 64, .int .i64 6] 109)
  have R2 := hide (keepRow R1.out al)
  have E2 := hide (E1.out.of al)
  have FF := hide (heap_alloc_new w1 (.cells #[.int .i64 64, .int .i64 6] 109))
  clear al
  go_upto_region 4 with (fail)
  clear c0 c1 c2 c3 c4 c5 c6 g0 g1 R1 E1 G1
  generalize hW : w1.alloc (.cells #[.int .i64 64, .int .i64 6] 109) = W2 at *
  clear hW
  obtain ⟨c0, c1, c2, c3, c4, c5, c6⟩ := row7 R2.out
  obtain ⟨x0, x1⟩ := row2 FF.out
  go_wp2_with fail
  refine (pput_any 64 6 0 _).mono ?_
  rintro e w3 (⟨h, _⟩ | ⟨_, A1, c1', rfl, ho1, hb1⟩)
  case inl => exact absurd HE.out h
  have E3 := hide (E2.out.of hb1)
  have R3 := hide (keepRow R2.out hb1)
  have Ho3 := hide (ho1.baseB (B' := w.heap.size + 1) (rowLt R2.out))
  have hs3 := rowLt R3.out
  clear hb1 ho1 R2 E2 c0 c1 c2 c3 c4 c5 c6 FF x0 x1
  obtain ⟨c0, c1, c2, c3, c4, c5, c6⟩ := row7 R3.out
  go_wp2_with fail
  refine (sput_any ns a _ hns).mono ?_
  rintro e w4 ⟨v4, rfl, ho, hb⟩
  obtain ⟨A4, d4, rfl, hr, _⟩ := ho.rd
  have Hr4 := hide hr
  have E4 := hide (E3.out.of hb)
  have R4 := hide (keepRow R3.out hb)
  have Ho4 := hide (Ho3.out.below hb)
  have hs4 := rowLt R4.out
  clear hr ho hb Ho3 E3 R3 c0 c1 c2 c3 c4 c5 c6
  obtain ⟨c0, c1, c2, c3, c4, c5, c6⟩ := row7 R4.out
  go_wp2_with (at_builtin; refine wp_app rfl _ _ _ rfl i0 0 1 Tryd.underlying22 hi hz0 hz1 hz2 (w.heap.size + 1) _ (pfN 6 0) _ rfl Ho4.out _ (slN ns a) d4 _ rfl Hr4.out (by simp only [maxLen]; omega) (by omega) hs4 ?_; intro v5 w5 hown hg; have E5 := hide (E4.out.grown hg (by omega) (fun j e => by have := (World.ownsRow.lt Ho4.out j e).1; omega)); have Ho5 := hide hown; have R5 := hide (keepGrown R4.out hg (fun e => by have := (World.ownsRow.lt Ho4.out _ e).1; omega)); have hs5 := rowLt R5.out; clear hown hg c0 c1 c2 c3 c4 c5 c6; obtain ⟨c0, c1, c2, c3, c4, c5, c6⟩ := row7 R5.out)
  refine (sput_any vs b _ hvs).mono ?_
  rintro e w6 ⟨v6, rfl, ho, hb⟩
  obtain ⟨A6, d6, rfl, hr, _⟩ := ho.rd
  have Hr6 := hide hr
  have E6 := hide (E5.out.of hb)
  have R6 := hide (keepRow R5.out hb)
  have Ho6 := hide (Ho5.out.below hb)
  have hs6 := rowLt R6.out
  clear hr ho hb Ho5 E5 R5 c0 c1 c2 c3 c4 c5 c6
  obtain ⟨c0, c1, c2, c3, c4, c5, c6⟩ := row7 R6.out
  go_wp2_with (at_builtin; refine wp_app rfl _ _ _ rfl i0 0 1 Tryd.underlying22 hi hz0 hz1 hz2 (w.heap.size + 1) _ (pfN 6 0 + slN ns a) _ rfl Ho6.out _ (slN vs b) d6 _ rfl Hr6.out (by simp only [maxLen]; omega) (by omega) hs6 ?_; intro v7 w7 hown hg)
  have EF := hide (E6.out.grown hg (by omega) (fun j e => by have := (World.ownsRow.lt Ho6.out j e).1; omega))
  have HoF := hide hown
  clear hown hg
  go_ret2
  exact ⟨_, rfl, HoF.out.baseB (Nat.le_succ _), EF.out⟩
set_option maxRecDepth 100000 in
set_option maxHeartbeats 3200000 in
theorem put22_2n (i : Int) (vs : ByteArray) (b : Bool) (hvs : vs.size ≤ 1000) (h0 : 0 < i) (hM : i ≤ 2147483647) (w : World) (T : TypeId) (fr : Nat × Nat) (hg : w.heap[0]? = some (.cells formsV T fr)) : Calls Tryd.prog 65 #[.agg #[.int .i64 2, .int .i64 i, .string ⟨#[]⟩, .bool false, .string vs, .bool b, .int .i64 0]] w (PutG (pfN 6 i + slN vs b) (catF (pfN 6 i) (pfF 64 6 i) (slF vs b)) w) := by
  obtain ⟨i0, hi, hz0, hz1, hz2⟩ := info_parts u8_info
  have R0 := hide (heap_alloc_new w (.cells #[.int .i64 2, .int .i64 i, .string ⟨#[]⟩, .bool false, .string vs, .bool b, .int .i64 0] 81))
  have e0 := (Below.refl w.heap.size w).alloc (Nat.le_refl _) (.cells #[.int .i64 2, .int .i64 i, .string ⟨#[]⟩, .bool false, .string vs, .bool b, .int .i64 0] 81)
  have E0 := hide e0
  have G0 := hide ((e0.block _ (rowLt hg)).trans hg)
  have HE : Hid (pfE 64 6 i = 0) := by
    show _ = _
    exact pfE_fine (by decide) (by omega)
  have hbd := pfN_bd 6 i
  have hl2 := slN_le vs b hvs
  have t0 : (i == 0) = false := by simp; omega
  have hw1 : IntKind.i64.wrap i = i := IntWalk.i64_in _ (by omega)
  have hw2 : IntKind.i64.wrap (i + 0) = i := by rw [Int.add_zero]; exact hw1
  have HR : Hid (rpB 2 i ⟨#[]⟩ false vs b 0 = true) := by show _ = _; unfold rpB isN; rw [if_neg (by decide), if_pos (by decide), noT_e, decide_eq_true (show (0 : Int) ≤ i by omega), decide_eq_true hM, Bool.or_true]; rfl
  clear e0 hg
  go_enter Tryd.func65, Tryd.ntmps65
  obtain ⟨c0, c1, c2, c3, c4, c5, c6⟩ := row7 R0.out
  go_wp2_with fail
  refine (right22 2 i ⟨#[]⟩ false vs b 0 _).mono ?_
  rw [HR.out]
  rintro e w1 ⟨rfl, hb⟩
  have R1 := hide (keepRow R0.out hb)
  have E1 := hide (E0.out.of hb)
  have G1 := hide ((hb.block _ (rowLt G0.out)).trans G0.out)
  clear hb R0 E0 G0 c0 c1 c2 c3 c4 c5 c6
  obtain ⟨c0, c1, c2, c3, c4, c5, c6⟩ := row7 R1.out
  have g0 := forms_at G1.out 4 (.int .i64 64) rfl
  have g1 := forms_at G1.out 5 (.int .i64 6) rfl
  have al := (Below.refl w1.heap.size w1).alloc (Nat.le_refl _) (.cells #[.int .i64 64, .int .i64 6] 109)
  have R2 := hide (keepRow R1.out al)
  have E2 := hide (E1.out.of al)
  have FF := hide (heap_alloc_new w1 (.cells #[.int .i64 64, .int .i64 6] 109))
  clear al
  go_upto_region 4 with (fail)
  clear c0 c1 c2 c3 c4 c5 c6 g0 g1 R1 E1 G1
  generalize hW : w1.alloc (.cells #[.int .i64 64, .int .i64 6] 109) = W2 at *
  clear hW
  obtain ⟨c0, c1, c2, c3, c4, c5, c6⟩ := row7 R2.out
  obtain ⟨x0, x1⟩ := row2 FF.out
  go_wp2_with fail
  refine (pput_any 64 6 i _).mono ?_
  rintro e w3 (⟨h, _⟩ | ⟨_, A1, c1', rfl, ho1, hb1⟩)
  case inl => exact absurd HE.out h
  have E3 := hide (E2.out.of hb1)
  have R3 := hide (keepRow R2.out hb1)
  have Ho3 := hide (ho1.baseB (B' := w.heap.size + 1) (rowLt R2.out))
  have hs3 := rowLt R3.out
  clear hb1 ho1 R2 E2 c0 c1 c2 c3 c4 c5 c6 FF x0 x1
  obtain ⟨c0, c1, c2, c3, c4, c5, c6⟩ := row7 R3.out
  go_wp2_with fail
  refine (sput_any vs b _ hvs).mono ?_
  rintro e w4 ⟨v4, rfl, ho, hb⟩
  obtain ⟨A4, d4, rfl, hr, _⟩ := ho.rd
  have Hr4 := hide hr
  have E4 := hide (E3.out.of hb)
  have R4 := hide (keepRow R3.out hb)
  have Ho4 := hide (Ho3.out.below hb)
  have hs4 := rowLt R4.out
  clear hr ho hb Ho3 E3 R3 c0 c1 c2 c3 c4 c5 c6
  obtain ⟨c0, c1, c2, c3, c4, c5, c6⟩ := row7 R4.out
  go_wp2_with (at_builtin; refine wp_app rfl _ _ _ rfl i0 0 1 Tryd.underlying22 hi hz0 hz1 hz2 (w.heap.size + 1) _ (pfN 6 i) _ rfl Ho4.out _ (slN vs b) d4 _ rfl Hr4.out (by simp only [maxLen]; omega) (by omega) hs4 ?_; intro v5 w5 hown hg)
  have EF := hide (E4.out.grown hg (by omega) (fun j e => by have := (World.ownsRow.lt Ho4.out j e).1; omega))
  have HoF := hide hown
  clear hown hg
  go_ret2
  exact ⟨_, rfl, HoF.out.baseB (Nat.le_succ _), EF.out⟩
set_option maxRecDepth 100000 in
set_option maxHeartbeats 3200000 in
theorem put22_3z (ns : ByteArray) (a : Bool) (vs : ByteArray) (b : Bool) (hns : ns.size ≤ 1000) (hvs : vs.size ≤ 1000) (w : World) (T : TypeId) (fr : Nat × Nat) (hg : w.heap[0]? = some (.cells formsV T fr)) : Calls Tryd.prog 65 #[.agg #[.int .i64 3, .int .i64 0, .string ns, .bool a, .string vs, .bool b, .int .i64 0]] w (PutG (pfN 4 0 + slN ns a + slN vs b) (catF (pfN 4 0 + slN ns a) (catF (pfN 4 0) (pfF 0 4 0) (slF ns a)) (slF vs b)) w) := by
  obtain ⟨i0, hi, hz0, hz1, hz2⟩ := info_parts u8_info
  have R0 := hide (heap_alloc_new w (.cells #[.int .i64 3, .int .i64 0, .string ns, .bool a, .string vs, .bool b, .int .i64 0] 81))
  have e0 := (Below.refl w.heap.size w).alloc (Nat.le_refl _) (.cells #[.int .i64 3, .int .i64 0, .string ns, .bool a, .string vs, .bool b, .int .i64 0] 81)
  have E0 := hide e0
  have G0 := hide ((e0.block _ (rowLt hg)).trans hg)
  have HE : Hid (pfE 0 4 0 = 0) := by show _ = _; exact pfE_fine (by decide) (by decide)
  have hbd := pfN_bd 4 0
  have hl1 := slN_le ns a hns
  have hl2 := slN_le vs b hvs
  have HR : Hid (rpB 3 0 ns a vs b 0 = true) := by show _ = _; unfold rpB isN; rw [if_neg (by decide), if_pos (by decide)]; rfl
  clear e0 hg
  go_enter Tryd.func65, Tryd.ntmps65
  obtain ⟨c0, c1, c2, c3, c4, c5, c6⟩ := row7 R0.out
  go_wp2_with fail
  refine (right22 3 0 ns a vs b 0 _).mono ?_
  rw [HR.out]
  rintro e w1 ⟨rfl, hb⟩
  have R1 := hide (keepRow R0.out hb)
  have E1 := hide (E0.out.of hb)
  have G1 := hide ((hb.block _ (rowLt G0.out)).trans G0.out)
  clear hb R0 E0 G0 c0 c1 c2 c3 c4 c5 c6
  obtain ⟨c0, c1, c2, c3, c4, c5, c6⟩ := row7 R1.out
  have g0 := forms_at G1.out 6 (.int .i64 0) rfl
  have g1 := forms_at G1.out 7 (.int .i64 4) rfl
  have al := (Below.refl w1.heap.size w1).alloc (Nat.le_refl _) (.cells #[.int .i64 0, .int .i64 4] 109)
  have R2 := hide (keepRow R1.out al)
  have E2 := hide (E1.out.of al)
  have FF := hide (heap_alloc_new w1 (.cells #[.int .i64 0, .int .i64 4] 109))
  clear al
  go_upto_region 4 with (fail)
  clear c0 c1 c2 c3 c4 c5 c6 g0 g1 R1 E1 G1
  generalize hW : w1.alloc (.cells #[.int .i64 0, .int .i64 4] 109) = W2 at *
  clear hW
  obtain ⟨c0, c1, c2, c3, c4, c5, c6⟩ := row7 R2.out
  obtain ⟨x0, x1⟩ := row2 FF.out
  go_wp2_with fail
  refine (pput_any 0 4 0 _).mono ?_
  rintro e w3 (⟨h, _⟩ | ⟨_, A1, c1', rfl, ho1, hb1⟩)
  case inl => exact absurd HE.out h
  have E3 := hide (E2.out.of hb1)
  have R3 := hide (keepRow R2.out hb1)
  have Ho3 := hide (ho1.baseB (B' := w.heap.size + 1) (rowLt R2.out))
  have hs3 := rowLt R3.out
  clear hb1 ho1 R2 E2 c0 c1 c2 c3 c4 c5 c6 FF x0 x1
  obtain ⟨c0, c1, c2, c3, c4, c5, c6⟩ := row7 R3.out
  go_wp2_with fail
  refine (sput_any ns a _ hns).mono ?_
  rintro e w4 ⟨v4, rfl, ho, hb⟩
  obtain ⟨A4, d4, rfl, hr, _⟩ := ho.rd
  have Hr4 := hide hr
  have E4 := hide (E3.out.of hb)
  have R4 := hide (keepRow R3.out hb)
  have Ho4 := hide (Ho3.out.below hb)
  have hs4 := rowLt R4.out
  clear hr ho hb Ho3 E3 R3 c0 c1 c2 c3 c4 c5 c6
  obtain ⟨c0, c1, c2, c3, c4, c5, c6⟩ := row7 R4.out
  go_wp2_with (at_builtin; refine wp_app rfl _ _ _ rfl i0 0 1 Tryd.underlying22 hi hz0 hz1 hz2 (w.heap.size + 1) _ (pfN 4 0) _ rfl Ho4.out _ (slN ns a) d4 _ rfl Hr4.out (by simp only [maxLen]; omega) (by omega) hs4 ?_; intro v5 w5 hown hg; have E5 := hide (E4.out.grown hg (by omega) (fun j e => by have := (World.ownsRow.lt Ho4.out j e).1; omega)); have Ho5 := hide hown; have R5 := hide (keepGrown R4.out hg (fun e => by have := (World.ownsRow.lt Ho4.out _ e).1; omega)); have hs5 := rowLt R5.out; clear hown hg c0 c1 c2 c3 c4 c5 c6; obtain ⟨c0, c1, c2, c3, c4, c5, c6⟩ := row7 R5.out)
  refine (sput_any vs b _ hvs).mono ?_
  rintro e w6 ⟨v6, rfl, ho, hb⟩
  obtain ⟨A6, d6, rfl, hr, _⟩ := ho.rd
  have Hr6 := hide hr
  have E6 := hide (E5.out.of hb)
  have R6 := hide (keepRow R5.out hb)
  have Ho6 := hide (Ho5.out.below hb)
  have hs6 := rowLt R6.out
  clear hr ho hb Ho5 E5 R5 c0 c1 c2 c3 c4 c5 c6
  obtain ⟨c0, c1, c2, c3, c4, c5, c6⟩ := row7 R6.out
  go_wp2_with (at_builtin; refine wp_app rfl _ _ _ rfl i0 0 1 Tryd.underlying22 hi hz0 hz1 hz2 (w.heap.size + 1) _ (pfN 4 0 + slN ns a) _ rfl Ho6.out _ (slN vs b) d6 _ rfl Hr6.out (by simp only [maxLen]; omega) (by omega) hs6 ?_; intro v7 w7 hown hg)
  have EF := hide (E6.out.grown hg (by omega) (fun j e => by have := (World.ownsRow.lt Ho6.out j e).1; omega))
  have HoF := hide hown
  clear hown hg
  go_ret2
  exact ⟨_, rfl, HoF.out.baseB (Nat.le_succ _), EF.out⟩
set_option maxRecDepth 100000 in
set_option maxHeartbeats 3200000 in
theorem put22_3n (i : Int) (vs : ByteArray) (b : Bool) (hvs : vs.size ≤ 1000) (h0 : 0 < i) (hM : i ≤ 2147483647) (w : World) (T : TypeId) (fr : Nat × Nat) (hg : w.heap[0]? = some (.cells formsV T fr)) : Calls Tryd.prog 65 #[.agg #[.int .i64 3, .int .i64 i, .string ⟨#[]⟩, .bool false, .string vs, .bool b, .int .i64 0]] w (PutG (pfN 4 i + slN vs b) (catF (pfN 4 i) (pfF 0 4 i) (slF vs b)) w) := by
  obtain ⟨i0, hi, hz0, hz1, hz2⟩ := info_parts u8_info
  have R0 := hide (heap_alloc_new w (.cells #[.int .i64 3, .int .i64 i, .string ⟨#[]⟩, .bool false, .string vs, .bool b, .int .i64 0] 81))
  have e0 := (Below.refl w.heap.size w).alloc (Nat.le_refl _) (.cells #[.int .i64 3, .int .i64 i, .string ⟨#[]⟩, .bool false, .string vs, .bool b, .int .i64 0] 81)
  have E0 := hide e0
  have G0 := hide ((e0.block _ (rowLt hg)).trans hg)
  have HE : Hid (pfE 0 4 i = 0) := by
    show _ = _
    exact pfE_fine (by decide) (by omega)
  have hbd := pfN_bd 4 i
  have hl2 := slN_le vs b hvs
  have t0 : (i == 0) = false := by simp; omega
  have hw1 : IntKind.i64.wrap i = i := IntWalk.i64_in _ (by omega)
  have hw2 : IntKind.i64.wrap (i + 0) = i := by rw [Int.add_zero]; exact hw1
  have HR : Hid (rpB 3 i ⟨#[]⟩ false vs b 0 = true) := by show _ = _; unfold rpB isN; rw [if_neg (by decide), if_pos (by decide), noT_e, decide_eq_true (show (0 : Int) ≤ i by omega), decide_eq_true hM, Bool.or_true]; rfl
  clear e0 hg
  go_enter Tryd.func65, Tryd.ntmps65
  obtain ⟨c0, c1, c2, c3, c4, c5, c6⟩ := row7 R0.out
  go_wp2_with fail
  refine (right22 3 i ⟨#[]⟩ false vs b 0 _).mono ?_
  rw [HR.out]
  rintro e w1 ⟨rfl, hb⟩
  have R1 := hide (keepRow R0.out hb)
  have E1 := hide (E0.out.of hb)
  have G1 := hide ((hb.block _ (rowLt G0.out)).trans G0.out)
  clear hb R0 E0 G0 c0 c1 c2 c3 c4 c5 c6
  obtain ⟨c0, c1, c2, c3, c4, c5, c6⟩ := row7 R1.out
  have g0 := forms_at G1.out 6 (.int .i64 0) rfl
  have g1 := forms_at G1.out 7 (.int .i64 4) rfl
  have al := (Below.refl w1.heap.size w1).alloc (Nat.le_refl _) (.cells #[.int .i64 0, .int .i64 4] 109)
  have R2 := hide (keepRow R1.out al)
  have E2 := hide (E1.out.of al)
  have FF := hide (heap_alloc_new w1 (.cells #[.int .i64 0, .int .i64 4] 109))
  clear al
  go_upto_region 4 with (fail)
  clear c0 c1 c2 c3 c4 c5 c6 g0 g1 R1 E1 G1
  generalize hW : w1.alloc (.cells #[.int .i64 0, .int .i64 4] 109) = W2 at *
  clear hW
  obtain ⟨c0, c1, c2, c3, c4, c5, c6⟩ := row7 R2.out
  obtain ⟨x0, x1⟩ := row2 FF.out
  go_wp2_with fail
  refine (pput_any 0 4 i _).mono ?_
  rintro e w3 (⟨h, _⟩ | ⟨_, A1, c1', rfl, ho1, hb1⟩)
  case inl => exact absurd HE.out h
  have E3 := hide (E2.out.of hb1)
  have R3 := hide (keepRow R2.out hb1)
  have Ho3 := hide (ho1.baseB (B' := w.heap.size + 1) (rowLt R2.out))
  have hs3 := rowLt R3.out
  clear hb1 ho1 R2 E2 c0 c1 c2 c3 c4 c5 c6 FF x0 x1
  obtain ⟨c0, c1, c2, c3, c4, c5, c6⟩ := row7 R3.out
  go_wp2_with fail
  refine (sput_any vs b _ hvs).mono ?_
  rintro e w4 ⟨v4, rfl, ho, hb⟩
  obtain ⟨A4, d4, rfl, hr, _⟩ := ho.rd
  have Hr4 := hide hr
  have E4 := hide (E3.out.of hb)
  have R4 := hide (keepRow R3.out hb)
  have Ho4 := hide (Ho3.out.below hb)
  have hs4 := rowLt R4.out
  clear hr ho hb Ho3 E3 R3 c0 c1 c2 c3 c4 c5 c6
  obtain ⟨c0, c1, c2, c3, c4, c5, c6⟩ := row7 R4.out
  go_wp2_with (at_builtin; refine wp_app rfl _ _ _ rfl i0 0 1 Tryd.underlying22 hi hz0 hz1 hz2 (w.heap.size + 1) _ (pfN 4 i) _ rfl Ho4.out _ (slN vs b) d4 _ rfl Hr4.out (by simp only [maxLen]; omega) (by omega) hs4 ?_; intro v5 w5 hown hg)
  have EF := hide (E4.out.grown hg (by omega) (fun j e => by have := (World.ownsRow.lt Ho4.out j e).1; omega))
  have HoF := hide hown
  clear hown hg
  go_ret2
  exact ⟨_, rfl, HoF.out.baseB (Nat.le_succ _), EF.out⟩
set_option maxRecDepth 100000 in
set_option maxHeartbeats 3200000 in
theorem put22_4z (ns : ByteArray) (a : Bool) (vs : ByteArray) (b : Bool) (hns : ns.size ≤ 1000) (hvs : vs.size ≤ 1000) (w : World) (T : TypeId) (fr : Nat × Nat) (hg : w.heap[0]? = some (.cells formsV T fr)) : Calls Tryd.prog 65 #[.agg #[.int .i64 4, .int .i64 0, .string ns, .bool a, .string vs, .bool b, .int .i64 0]] w (PutG (pfN 4 0 + slN ns a + slN vs b) (catF (pfN 4 0 + slN ns a) (catF (pfN 4 0) (pfF 16 4 0) (slF ns a)) (slF vs b)) w) := by
  obtain ⟨i0, hi, hz0, hz1, hz2⟩ := info_parts u8_info
  have R0 := hide (heap_alloc_new w (.cells #[.int .i64 4, .int .i64 0, .string ns, .bool a, .string vs, .bool b, .int .i64 0] 81))
  have e0 := (Below.refl w.heap.size w).alloc (Nat.le_refl _) (.cells #[.int .i64 4, .int .i64 0, .string ns, .bool a, .string vs, .bool b, .int .i64 0] 81)
  have E0 := hide e0
  have G0 := hide ((e0.block _ (rowLt hg)).trans hg)
  have HE : Hid (pfE 16 4 0 = 0) := by show _ = _; exact pfE_fine (by decide) (by decide)
  have hbd := pfN_bd 4 0
  have hl1 := slN_le ns a hns
  have hl2 := slN_le vs b hvs
  have HR : Hid (rpB 4 0 ns a vs b 0 = true) := by show _ = _; unfold rpB isN; rw [if_neg (by decide), if_pos (by decide)]; rfl
  clear e0 hg
  go_enter Tryd.func65, Tryd.ntmps65
  obtain ⟨c0, c1, c2, c3, c4, c5, c6⟩ := row7 R0.out
  go_wp2_with fail
  refine (right22 4 0 ns a vs b 0 _).mono ?_
  rw [HR.out]
  rintro e w1 ⟨rfl, hb⟩
  have R1 := hide (keepRow R0.out hb)
  have E1 := hide (E0.out.of hb)
  have G1 := hide ((hb.block _ (rowLt G0.out)).trans G0.out)
  clear hb R0 E0 G0 c0 c1 c2 c3 c4 c5 c6
  obtain ⟨c0, c1, c2, c3, c4, c5, c6⟩ := row7 R1.out
  have g0 := forms_at G1.out 8 (.int .i64 16) rfl
  have g1 := forms_at G1.out 9 (.int .i64 4) rfl
  have al := (Below.refl w1.heap.size w1).alloc (Nat.le_refl _) (.cells #[.int .i64 16, .int .i64 4] 109)
  have R2 := hide (keepRow R1.out al)
  have E2 := hide (E1.out.of al)
  have FF := hide (heap_alloc_new w1 (.cells #[.int .i64 16, .int .i64 4] 109))
  clear al
  go_upto_region 4 with (fail)
  clear c0 c1 c2 c3 c4 c5 c6 g0 g1 R1 E1 G1
  generalize hW : w1.alloc (.cells #[.int .i64 16, .int .i64 4] 109) = W2 at *
  clear hW
  obtain ⟨c0, c1, c2, c3, c4, c5, c6⟩ := row7 R2.out
  obtain ⟨x0, x1⟩ := row2 FF.out
  go_wp2_with fail
  refine (pput_any 16 4 0 _).mono ?_
  rintro e w3 (⟨h, _⟩ | ⟨_, A1, c1', rfl, ho1, hb1⟩)
  case inl => exact absurd HE.out h
  have E3 := hide (E2.out.of hb1)
  have R3 := hide (keepRow R2.out hb1)
  have Ho3 := hide (ho1.baseB (B' := w.heap.size + 1) (rowLt R2.out))
  have hs3 := rowLt R3.out
  clear hb1 ho1 R2 E2 c0 c1 c2 c3 c4 c5 c6 FF x0 x1
  obtain ⟨c0, c1, c2, c3, c4, c5, c6⟩ := row7 R3.out
  go_wp2_with fail
  refine (sput_any ns a _ hns).mono ?_
  rintro e w4 ⟨v4, rfl, ho, hb⟩
  obtain ⟨A4, d4, rfl, hr, _⟩ := ho.rd
  have Hr4 := hide hr
  have E4 := hide (E3.out.of hb)
  have R4 := hide (keepRow R3.out hb)
  have Ho4 := hide (Ho3.out.below hb)
  have hs4 := rowLt R4.out
  clear hr ho hb Ho3 E3 R3 c0 c1 c2 c3 c4 c5 c6
  obtain ⟨c0, c1, c2, c3, c4, c5, c6⟩ := row7 R4.out
  go_wp2_with (at_builtin; refine wp_app rfl _ _ _ rfl i0 0 1 Tryd.underlying22 hi hz0 hz1 hz2 (w.heap.size + 1) _ (pfN 4 0) _ rfl Ho4.out _ (slN ns a) d4 _ rfl Hr4.out (by simp only [maxLen]; omega) (by omega) hs4 ?_; intro v5 w5 hown hg; have E5 := hide (E4.out.grown hg (by omega) (fun j e => by have := (World.ownsRow.lt Ho4.out j e).1; omega)); have Ho5 := hide hown; have R5 := hide (keepGrown R4.out hg (fun e => by have := (World.ownsRow.lt Ho4.out _ e).1; omega)); have hs5 := rowLt R5.out; clear hown hg c0 c1 c2 c3 c4 c5 c6; obtain ⟨c0, c1, c2, c3, c4, c5, c6⟩ := row7 R5.out)
  refine (sput_any vs b _ hvs).mono ?_
  rintro e w6 ⟨v6, rfl, ho, hb⟩
  obtain ⟨A6, d6, rfl, hr, _⟩ := ho.rd
  have Hr6 := hide hr
  have E6 := hide (E5.out.of hb)
  have R6 := hide (keepRow R5.out hb)
  have Ho6 := hide (Ho5.out.below hb)
  have hs6 := rowLt R6.out
  clear hr ho hb Ho5 E5 R5 c0 c1 c2 c3 c4 c5 c6
  obtain ⟨c0, c1, c2, c3, c4, c5, c6⟩ := row7 R6.out
  go_wp2_with (at_builtin; refine wp_app rfl _ _ _ rfl i0 0 1 Tryd.underlying22 hi hz0 hz1 hz2 (w.heap.size + 1) _ (pfN 4 0 + slN ns a) _ rfl Ho6.out _ (slN vs b) d6 _ rfl Hr6.out (by simp only [maxLen]; omega) (by omega) hs6 ?_; intro v7 w7 hown hg)
  have EF := hide (E6.out.grown hg (by omega) (fun j e => by have := (World.ownsRow.lt Ho6.out j e).1; omega))
  have HoF := hide hown
  clear hown hg
  go_ret2
  exact ⟨_, rfl, HoF.out.baseB (Nat.le_succ _), EF.out⟩
set_option maxRecDepth 100000 in
set_option maxHeartbeats 3200000 in
theorem put22_4n (i : Int) (vs : ByteArray) (b : Bool) (hvs : vs.size ≤ 1000) (h0 : 0 < i) (hM : i ≤ 2147483647) (w : World) (T : TypeId) (fr : Nat × Nat) (hg : w.heap[0]? = some (.cells formsV T fr)) : Calls Tryd.prog 65 #[.agg #[.int .i64 4, .int .i64 i, .string ⟨#[]⟩, .bool false, .string vs, .bool b, .int .i64 0]] w (PutG (pfN 4 i + slN vs b) (catF (pfN 4 i) (pfF 16 4 i) (slF vs b)) w) := by
  obtain ⟨i0, hi, hz0, hz1, hz2⟩ := info_parts u8_info
  have R0 := hide (heap_alloc_new w (.cells #[.int .i64 4, .int .i64 i, .string ⟨#[]⟩, .bool false, .string vs, .bool b, .int .i64 0] 81))
  have e0 := (Below.refl w.heap.size w).alloc (Nat.le_refl _) (.cells #[.int .i64 4, .int .i64 i, .string ⟨#[]⟩, .bool false, .string vs, .bool b, .int .i64 0] 81)
  have E0 := hide e0
  have G0 := hide ((e0.block _ (rowLt hg)).trans hg)
  have HE : Hid (pfE 16 4 i = 0) := by
    show _ = _
    exact pfE_fine (by decide) (by omega)
  have hbd := pfN_bd 4 i
  have hl2 := slN_le vs b hvs
  have t0 : (i == 0) = false := by simp; omega
  have hw1 : IntKind.i64.wrap i = i := IntWalk.i64_in _ (by omega)
  have hw2 : IntKind.i64.wrap (i + 0) = i := by rw [Int.add_zero]; exact hw1
  have HR : Hid (rpB 4 i ⟨#[]⟩ false vs b 0 = true) := by show _ = _; unfold rpB isN; rw [if_neg (by decide), if_pos (by decide), noT_e, decide_eq_true (show (0 : Int) ≤ i by omega), decide_eq_true hM, Bool.or_true]; rfl
  clear e0 hg
  go_enter Tryd.func65, Tryd.ntmps65
  obtain ⟨c0, c1, c2, c3, c4, c5, c6⟩ := row7 R0.out
  go_wp2_with fail
  refine (right22 4 i ⟨#[]⟩ false vs b 0 _).mono ?_
  rw [HR.out]
  rintro e w1 ⟨rfl, hb⟩
  have R1 := hide (keepRow R0.out hb)
  have E1 := hide (E0.out.of hb)
  have G1 := hide ((hb.block _ (rowLt G0.out)).trans G0.out)
  clear hb R0 E0 G0 c0 c1 c2 c3 c4 c5 c6
  obtain ⟨c0, c1, c2, c3, c4, c5, c6⟩ := row7 R1.out
  have g0 := forms_at G1.out 8 (.int .i64 16) rfl
  have g1 := forms_at G1.out 9 (.int .i64 4) rfl
  have al := (Below.refl w1.heap.size w1).alloc (Nat.le_refl _) (.cells #[.int .i64 16, .int .i64 4] 109)
  have R2 := hide (keepRow R1.out al)
  have E2 := hide (E1.out.of al)
  have FF := hide (heap_alloc_new w1 (.cells #[.int .i64 16, .int .i64 4] 109))
  clear al
  go_upto_region 4 with (fail)
  clear c0 c1 c2 c3 c4 c5 c6 g0 g1 R1 E1 G1
  generalize hW : w1.alloc (.cells #[.int .i64 16, .int .i64 4] 109) = W2 at *
  clear hW
  obtain ⟨c0, c1, c2, c3, c4, c5, c6⟩ := row7 R2.out
  obtain ⟨x0, x1⟩ := row2 FF.out
  go_wp2_with fail
  refine (pput_any 16 4 i _).mono ?_
  rintro e w3 (⟨h, _⟩ | ⟨_, A1, c1', rfl, ho1, hb1⟩)
  case inl => exact absurd HE.out h
  have E3 := hide (E2.out.of hb1)
  have R3 := hide (keepRow R2.out hb1)
  have Ho3 := hide (ho1.baseB (B' := w.heap.size + 1) (rowLt R2.out))
  have hs3 := rowLt R3.out
  clear hb1 ho1 R2 E2 c0 c1 c2 c3 c4 c5 c6 FF x0 x1
  obtain ⟨c0, c1, c2, c3, c4, c5, c6⟩ := row7 R3.out
  go_wp2_with fail
  refine (sput_any vs b _ hvs).mono ?_
  rintro e w4 ⟨v4, rfl, ho, hb⟩
  obtain ⟨A4, d4, rfl, hr, _⟩ := ho.rd
  have Hr4 := hide hr
  have E4 := hide (E3.out.of hb)
  have R4 := hide (keepRow R3.out hb)
  have Ho4 := hide (Ho3.out.below hb)
  have hs4 := rowLt R4.out
  clear hr ho hb Ho3 E3 R3 c0 c1 c2 c3 c4 c5 c6
  obtain ⟨c0, c1, c2, c3, c4, c5, c6⟩ := row7 R4.out
  go_wp2_with (at_builtin; refine wp_app rfl _ _ _ rfl i0 0 1 Tryd.underlying22 hi hz0 hz1 hz2 (w.heap.size + 1) _ (pfN 4 i) _ rfl Ho4.out _ (slN vs b) d4 _ rfl Hr4.out (by simp only [maxLen]; omega) (by omega) hs4 ?_; intro v5 w5 hown hg)
  have EF := hide (E4.out.grown hg (by omega) (fun j e => by have := (World.ownsRow.lt Ho4.out j e).1; omega))
  have HoF := hide hown
  clear hown hg
  go_ret2
  exact ⟨_, rfl, HoF.out.baseB (Nat.le_succ _), EF.out⟩
end

section
open Go.RowKit Go.PlainAid

set_option maxRecDepth 100000 in
set_option maxHeartbeats 3200000 in
theorem rput22_1 (i : Int) (h0 : 0 < i) (hM : i ≤ 2147483647) (w : World) : Calls Tryd.prog 46 #[.agg #[.int .i64 1, .int .i64 i, .string ⟨#[]⟩, .bool false, .string ⟨#[]⟩, .bool false, .int .i64 0]] w (Cloned w (pfN 7 i) (pfF 128 7 i)) := by
  obtain ⟨i0, hi, hz0, hz1, hz2⟩ := info_parts u8_info
  have R0 := hide (heap_alloc_new w (.cells #[.int .i64 1, .int .i64 i, .string ⟨#[]⟩, .bool false, .string ⟨#[]⟩, .bool false, .int .i64 0] 86))
  have e0 := (Below.refl w.heap.size w).alloc (Nat.le_refl _) (.cells #[.int .i64 1, .int .i64 i, .string ⟨#[]⟩, .bool false, .string ⟨#[]⟩, .bool false, .int .i64 0] 86)
  have E0 := hide e0
  have HE : Hid (pfE 128 7 i = 0) := by
    show _ = _
    exact pfE_fine (by decide) (by omega)
  have hbd := pfN_bd 7 i
  have hw1 : IntKind.i64.wrap i = i := IntWalk.i64_in _ (by omega)
  have hw2 : IntKind.i64.wrap (i + 0) = i := by rw [Int.add_zero]; exact hw1
  clear e0
  go_enter Tryd.func46, Tryd.ntmps46
  obtain ⟨c0, c1, c2, c3, c4, c5, c6⟩ := row7 R0.out
  go_wp2_with fail
  refine (rbegin22 1 (by decide) _).mono ?_
  rw [show fst22 1 = 128 by decide, show bit22 1 = 7 by decide]
  rintro e w1 ⟨rfl, rfl⟩
  have R2 := R0
  have E2 := E0
  clear R0 E0
  go_wp2_with fail
  refine (rpput_any 128 7 i _).mono ?_
  rintro e w3 (⟨h, _⟩ | ⟨_, A1, c1', rfl, ho1, hb1⟩)
  case inl => exact absurd HE.out h
  have E3 := hide (E2.out.of hb1)
  have R3 := hide (keepRow R2.out hb1)
  have Ho3 := hide (ho1.baseB (B' := w.heap.size + 1) (rowLt R2.out))
  have hs3 := rowLt R3.out
  clear hb1 ho1 R2 E2 c0 c1 c2 c3 c4 c5 c6
  obtain ⟨c0, c1, c2, c3, c4, c5, c6⟩ := row7 R3.out
  go_wp2_with fail
  go_ret
  exact ⟨_, rfl, Ho3.out.baseB (Nat.le_succ _), E3.out⟩
set_option maxRecDepth 100000 in
set_option maxHeartbeats 3200000 in
theorem rput22_5 (z : Int) (h0 : 0 ≤ z) (hM : z ≤ 2147483647) (w : World) : Calls Tryd.prog 46 #[.agg #[.int .i64 5, .int .i64 0, .string ⟨#[]⟩, .bool false, .string ⟨#[]⟩, .bool false, .int .i64 z]] w (Cloned w (pfN 5 z) (pfF 32 5 z)) := by
  obtain ⟨i0, hi, hz0, hz1, hz2⟩ := info_parts u8_info
  have R0 := hide (heap_alloc_new w (.cells #[.int .i64 5, .int .i64 0, .string ⟨#[]⟩, .bool false, .string ⟨#[]⟩, .bool false, .int .i64 z] 86))
  have e0 := (Below.refl w.heap.size w).alloc (Nat.le_refl _) (.cells #[.int .i64 5, .int .i64 0, .string ⟨#[]⟩, .bool false, .string ⟨#[]⟩, .bool false, .int .i64 z] 86)
  have E0 := hide e0
  have HE : Hid (pfE 32 5 z = 0) := by
    show _ = _
    exact pfE_fine (by decide) (by omega)
  have hbd := pfN_bd 5 z
  have hw1 : IntKind.i64.wrap z = z := IntWalk.i64_in _ (by omega)
  have hw2 : IntKind.i64.wrap (0 + z) = z := by rw [Int.zero_add]; exact hw1
  clear e0
  go_enter Tryd.func46, Tryd.ntmps46
  obtain ⟨c0, c1, c2, c3, c4, c5, c6⟩ := row7 R0.out
  go_wp2_with fail
  refine (rbegin22 5 (by decide) _).mono ?_
  rw [show fst22 5 = 32 by decide, show bit22 5 = 5 by decide]
  rintro e w1 ⟨rfl, rfl⟩
  have R2 := R0
  have E2 := E0
  clear R0 E0
  go_wp2_with fail
  refine (rpput_any 32 5 z _).mono ?_
  rintro e w3 (⟨h, _⟩ | ⟨_, A1, c1', rfl, ho1, hb1⟩)
  case inl => exact absurd HE.out h
  have E3 := hide (E2.out.of hb1)
  have R3 := hide (keepRow R2.out hb1)
  have Ho3 := hide (ho1.baseB (B' := w.heap.size + 1) (rowLt R2.out))
  have hs3 := rowLt R3.out
  clear hb1 ho1 R2 E2 c0 c1 c2 c3 c4 c5 c6
  obtain ⟨c0, c1, c2, c3, c4, c5, c6⟩ := row7 R3.out
  go_wp2_with fail
  go_ret
  exact ⟨_, rfl, Ho3.out.baseB (Nat.le_succ _), E3.out⟩
set_option maxRecDepth 100000 in
set_option maxHeartbeats 3200000 in
theorem rput22_2z (ns : ByteArray) (a : Bool) (vs : ByteArray) (b : Bool) (hns : ns.size ≤ 1000) (hvs : vs.size ≤ 1000) (w : World) : Calls Tryd.prog 46 #[.agg #[.int .i64 2, .int .i64 0, .string ns, .bool a, .string vs, .bool b, .int .i64 0]] w (Cloned w (pfN 6 0 + slN ns a + slN vs b) (catF (pfN 6 0 + slN ns a) (catF (pfN 6 0) (pfF 64 6 0) (slF ns a)) (slF vs b))) := by
  obtain ⟨i0, hi, hz0, hz1, hz2⟩ := info_parts u8_info
  have R0 := hide (heap_alloc_new w (.cells #[.int .i64 2, .int .i64 0, .string ns, .bool a, .string vs, .bool b, .int .i64 0] 86))
  have e0 := (Below.refl w.heap.size w).alloc (Nat.le_refl _) (.cells #[.int .i64 2, .int .i64 0, .string ns, .bool a, .string vs, .bool b, .int .i64 0] 86)
  have E0 := hide e0
  have HE : Hid (pfE 64 6 0 = 0) := by show _ = _; exact pfE_fine (by decide) (by decide)
  have hbd := pfN_bd 6 0
  have hl1 := slN_le ns a hns
  have hl2 := slN_le vs b hvs
  clear e0
  go_enter Tryd.func46, Tryd.ntmps46
  obtain ⟨c0, c1, c2, c3, c4, c5, c6⟩ := row7 R0.out
  go_wp2_with fail
  refine (rbegin22 2 (by decide) _).mono ?_
  rw [show fst22 2 = 64 by decide, show bit22 2 = 6 by decide]
  rintro e w1 ⟨rfl, rfl⟩
  have R2 := R0
  have E2 := E0
  clear R0 E0
  go_wp2_with fail
  refine (rpput_any 64 6 0 _).mono ?_
  rintro e w3 (⟨h, _⟩ | ⟨_, A1, c1', rfl, ho1, hb1⟩)
  case inl => exact absurd HE.out h
  have E3 := hide (E2.out.of hb1)
  have R3 := hide (keepRow R2.out hb1)
  have Ho3 := hide (ho1.baseB (B' := w.heap.size + 1) (rowLt R2.out))
  have hs3 := rowLt R3.out
  clear hb1 ho1 R2 E2 c0 c1 c2 c3 c4 c5 c6
  obtain ⟨c0, c1, c2, c3, c4, c5, c6⟩ := row7 R3.out
  go_wp2_with fail
  refine (rsput_any ns a _ hns).mono ?_
  rintro e w4 ⟨v4, rfl, ho, hb⟩
  obtain ⟨A4, d4, rfl, hr, _⟩ := ho.rd
  have Hr4 := hide hr
  have E4 := hide (E3.out.of hb)
  have R4 := hide (keepRow R3.out hb)
  have Ho4 := hide (Ho3.out.below hb)
  have hs4 := rowLt R4.out
  clear hr ho hb Ho3 E3 R3 c0 c1 c2 c3 c4 c5 c6
  obtain ⟨c0, c1, c2, c3, c4, c5, c6⟩ := row7 R4.out
  go_wp2_with (at_builtin; refine wp_app rfl _ _ _ rfl i0 0 1 Tryd.underlying22 hi hz0 hz1 hz2 (w.heap.size + 1) _ (pfN 6 0) _ rfl Ho4.out _ (slN ns a) d4 _ rfl Hr4.out (by simp only [maxLen]; omega) (by omega) hs4 ?_; intro v5 w5 hown hg; have E5 := hide (E4.out.grown hg (by omega) (fun j e => by have := (World.ownsRow.lt Ho4.out j e).1; omega)); have Ho5 := hide hown; have R5 := hide (keepGrown R4.out hg (fun e => by have := (World.ownsRow.lt Ho4.out _ e).1; omega)); have hs5 := rowLt R5.out; clear hown hg c0 c1 c2 c3 c4 c5 c6; obtain ⟨c0, c1, c2, c3, c4, c5, c6⟩ := row7 R5.out)
  refine (rsput_any vs b _ hvs).mono ?_
  rintro e w6 ⟨v6, rfl, ho, hb⟩
  obtain ⟨A6, d6, rfl, hr, _⟩ := ho.rd
  have Hr6 := hide hr
  have E6 := hide (E5.out.of hb)
  have R6 := hide (keepRow R5.out hb)
  have Ho6 := hide (Ho5.out.below hb)
  have hs6 := rowLt R6.out
  clear hr ho hb Ho5 E5 R5 c0 c1 c2 c3 c4 c5 c6
  obtain ⟨c0, c1, c2, c3, c4, c5, c6⟩ := row7 R6.out
  go_wp2_with (at_builtin; refine wp_app rfl _ _ _ rfl i0 0 1 Tryd.underlying22 hi hz0 hz1 hz2 (w.heap.size + 1) _ (pfN 6 0 + slN ns a) _ rfl Ho6.out _ (slN vs b) d6 _ rfl Hr6.out (by simp only [maxLen]; omega) (by omega) hs6 ?_; intro v7 w7 hown hg)
  have EF := hide (E6.out.grown hg (by omega) (fun j e => by have := (World.ownsRow.lt Ho6.out j e).1; omega))
  have HoF := hide hown
  clear hown hg
  go_ret
  exact ⟨_, rfl, HoF.out.baseB (Nat.le_succ _), EF.out⟩
set_option maxRecDepth 100000 in
set_option maxHeartbeats 3200000 in
theorem rput22_2n (i : Int) (vs : ByteArray) (b : Bool) (hvs : vs.size ≤ 1000) (h0 : 0 < i) (hM : i ≤ 2147483647) (w : World) : Calls Tryd.prog 46 #[.agg #[.int .i64 2, .int .i64 i, .string ⟨#[]⟩, .bool false, .string vs, .bool b, .int .i64 0]] w (Cloned w (pfN 6 i + slN vs b) (catF (pfN 6 i) (pfF 64 6 i) (slF vs b))) := by
  obtain ⟨i0, hi, hz0, hz1, hz2⟩ := info_parts u8_info
  have R0 := hide (heap_alloc_new w (.cells #[.int .i64 2, .int .i64 i, .string ⟨#[]⟩, .bool false, .string vs, .bool b, .int .i64 0] 86))
  have e0 := (Below.refl w.heap.size w).alloc (Nat.le_refl _) (.cells #[.int .i64 2, .int .i64 i, .string ⟨#[]⟩, .bool false, .string vs, .bool b, .int .i64 0] 86)
  have E0 := hide e0
  have HE : Hid (pfE 64 6 i = 0) := by
    show _ = _
    exact pfE_fine (by decide) (by omega)
  have hbd := pfN_bd 6 i
  have hl2 := slN_le vs b hvs
  have t0 : (i == 0) = false := by simp; omega
  have hw1 : IntKind.i64.wrap i = i := IntWalk.i64_in _ (by omega)
  have hw2 : IntKind.i64.wrap (i + 0) = i := by rw [Int.add_zero]; exact hw1
  clear e0
  go_enter Tryd.func46, Tryd.ntmps46
  obtain ⟨c0, c1, c2, c3, c4, c5, c6⟩ := row7 R0.out
  go_wp2_with fail
  refine (rbegin22 2 (by decide) _).mono ?_
  rw [show fst22 2 = 64 by decide, show bit22 2 = 6 by decide]
  rintro e w1 ⟨rfl, rfl⟩
  have R2 := R0
  have E2 := E0
  clear R0 E0
  go_wp2_with fail
  refine (rpput_any 64 6 i _).mono ?_
  rintro e w3 (⟨h, _⟩ | ⟨_, A1, c1', rfl, ho1, hb1⟩)
  case inl => exact absurd HE.out h
  have E3 := hide (E2.out.of hb1)
  have R3 := hide (keepRow R2.out hb1)
  have Ho3 := hide (ho1.baseB (B' := w.heap.size + 1) (rowLt R2.out))
  have hs3 := rowLt R3.out
  clear hb1 ho1 R2 E2 c0 c1 c2 c3 c4 c5 c6
  obtain ⟨c0, c1, c2, c3, c4, c5, c6⟩ := row7 R3.out
  go_wp2_with fail
  refine (rsput_any vs b _ hvs).mono ?_
  rintro e w4 ⟨v4, rfl, ho, hb⟩
  obtain ⟨A4, d4, rfl, hr, _⟩ := ho.rd
  have Hr4 := hide hr
  have E4 := hide (E3.out.of hb)
  have R4 := hide (keepRow R3.out hb)
  have Ho4 := hide (Ho3.out.below hb)
  have hs4 := rowLt R4.out
  clear hr ho hb Ho3 E3 R3 c0 c1 c2 c3 c4 c5 c6
  obtain ⟨c0, c1, c2, c3, c4, c5, c6⟩ := row7 R4.out
  go_wp2_with (at_builtin; refine wp_app rfl _ _ _ rfl i0 0 1 Tryd.underlying22 hi hz0 hz1 hz2 (w.heap.size + 1) _ (pfN 6 i) _ rfl Ho4.out _ (slN vs b) d4 _ rfl Hr4.out (by simp only [maxLen]; omega) (by omega) hs4 ?_; intro v5 w5 hown hg)
  have EF := hide (E4.out.grown hg (by omega) (fun j e => by have := (World.ownsRow.lt Ho4.out j e).1; omega))
  have HoF := hide hown
  clear hown hg
  go_ret
  exact ⟨_, rfl, HoF.out.baseB (Nat.le_succ _), EF.out⟩
set_option maxRecDepth 100000 in
set_option maxHeartbeats 3200000 in
theorem rput22_3z (ns : ByteArray) (a : Bool) (vs : ByteArray) (b : Bool) (hns : ns.size ≤ 1000) (hvs : vs.size ≤ 1000) (w : World) : Calls Tryd.prog 46 #[.agg #[.int .i64 3, .int .i64 0, .string ns, .bool a, .string vs, .bool b, .int .i64 0]] w (Cloned w (pfN 4 0 + slN ns a + slN vs b) (catF (pfN 4 0 + slN ns a) (catF (pfN 4 0) (pfF 0 4 0) (slF ns a)) (slF vs b))) := by
  obtain ⟨i0, hi, hz0, hz1, hz2⟩ := info_parts u8_info
  have R0 := hide (heap_alloc_new w (.cells #[.int .i64 3, .int .i64 0, .string ns, .bool a, .string vs, .bool b, .int .i64 0] 86))
  have e0 := (Below.refl w.heap.size w).alloc (Nat.le_refl _) (.cells #[.int .i64 3, .int .i64 0, .string ns, .bool a, .string vs, .bool b, .int .i64 0] 86)
  have E0 := hide e0
  have HE : Hid (pfE 0 4 0 = 0) := by show _ = _; exact pfE_fine (by decide) (by decide)
  have hbd := pfN_bd 4 0
  have hl1 := slN_le ns a hns
  have hl2 := slN_le vs b hvs
  clear e0
  go_enter Tryd.func46, Tryd.ntmps46
  obtain ⟨c0, c1, c2, c3, c4, c5, c6⟩ := row7 R0.out
  go_wp2_with fail
  refine (rbegin22 3 (by decide) _).mono ?_
  rw [show fst22 3 = 0 by decide, show bit22 3 = 4 by decide]
  rintro e w1 ⟨rfl, rfl⟩
  have R2 := R0
  have E2 := E0
  clear R0 E0
  go_wp2_with fail
  refine (rpput_any 0 4 0 _).mono ?_
  rintro e w3 (⟨h, _⟩ | ⟨_, A1, c1', rfl, ho1, hb1⟩)
  case inl => exact absurd HE.out h
  have E3 := hide (E2.out.of hb1)
  have R3 := hide (keepRow R2.out hb1)
  have Ho3 := hide (ho1.baseB (B' := w.heap.size + 1) (rowLt R2.out))
  have hs3 := rowLt R3.out
  clear hb1 ho1 R2 E2 c0 c1 c2 c3 c4 c5 c6
  obtain ⟨c0, c1, c2, c3, c4, c5, c6⟩ := row7 R3.out
  go_wp2_with fail
  refine (rsput_any ns a _ hns).mono ?_
  rintro e w4 ⟨v4, rfl, ho, hb⟩
  obtain ⟨A4, d4, rfl, hr, _⟩ := ho.rd
  have Hr4 := hide hr
  have E4 := hide (E3.out.of hb)
  have R4 := hide (keepRow R3.out hb)
  have Ho4 := hide (Ho3.out.below hb)
  have hs4 := rowLt R4.out
  clear hr ho hb Ho3 E3 R3 c0 c1 c2 c3 c4 c5 c6
  obtain ⟨c0, c1, c2, c3, c4, c5, c6⟩ := row7 R4.out
  go_wp2_with (at_builtin; refine wp_app rfl _ _ _ rfl i0 0 1 Tryd.underlying22 hi hz0 hz1 hz2 (w.heap.size + 1) _ (pfN 4 0) _ rfl Ho4.out _ (slN ns a) d4 _ rfl Hr4.out (by simp only [maxLen]; omega) (by omega) hs4 ?_; intro v5 w5 hown hg; have E5 := hide (E4.out.grown hg (by omega) (fun j e => by have := (World.ownsRow.lt Ho4.out j e).1; omega)); have Ho5 := hide hown; have R5 := hide (keepGrown R4.out hg (fun e => by have := (World.ownsRow.lt Ho4.out _ e).1; omega)); have hs5 := rowLt R5.out; clear hown hg c0 c1 c2 c3 c4 c5 c6; obtain ⟨c0, c1, c2, c3, c4, c5, c6⟩ := row7 R5.out)
  refine (rsput_any vs b _ hvs).mono ?_
  rintro e w6 ⟨v6, rfl, ho, hb⟩
  obtain ⟨A6, d6, rfl, hr, _⟩ := ho.rd
  have Hr6 := hide hr
  have E6 := hide (E5.out.of hb)
  have R6 := hide (keepRow R5.out hb)
  have Ho6 := hide (Ho5.out.below hb)
  have hs6 := rowLt R6.out
  clear hr ho hb Ho5 E5 R5 c0 c1 c2 c3 c4 c5 c6
  obtain ⟨c0, c1, c2, c3, c4, c5, c6⟩ := row7 R6.out
  go_wp2_with (at_builtin; refine wp_app rfl _ _ _ rfl i0 0 1 Tryd.underlying22 hi hz0 hz1 hz2 (w.heap.size + 1) _ (pfN 4 0 + slN ns a) _ rfl Ho6.out _ (slN vs b) d6 _ rfl Hr6.out (by simp only [maxLen]; omega) (by omega) hs6 ?_; intro v7 w7 hown hg)
  have EF := hide (E6.out.grown hg (by omega) (fun j e => by have := (World.ownsRow.lt Ho6.out j e).1; omega))
  have HoF := hide hown
  clear hown hg
  go_ret
  exact ⟨_, rfl, HoF.out.baseB (Nat.le_succ _), EF.out⟩
set_option maxRecDepth 100000 in
set_option maxHeartbeats 3200000 in
theorem rput22_3n (i : Int) (vs : ByteArray) (b : Bool) (hvs : vs.size ≤ 1000) (h0 : 0 < i) (hM : i ≤ 2147483647) (w : World) : Calls Tryd.prog 46 #[.agg #[.int .i64 3, .int .i64 i, .string ⟨#[]⟩, .bool false, .string vs, .bool b, .int .i64 0]] w (Cloned w (pfN 4 i + slN vs b) (catF (pfN 4 i) (pfF 0 4 i) (slF vs b))) := by
  obtain ⟨i0, hi, hz0, hz1, hz2⟩ := info_parts u8_info
  have R0 := hide (heap_alloc_new w (.cells #[.int .i64 3, .int .i64 i, .string ⟨#[]⟩, .bool false, .string vs, .bool b, .int .i64 0] 86))
  have e0 := (Below.refl w.heap.size w).alloc (Nat.le_refl _) (.cells #[.int .i64 3, .int .i64 i, .string ⟨#[]⟩, .bool false, .string vs, .bool b, .int .i64 0] 86)
  have E0 := hide e0
  have HE : Hid (pfE 0 4 i = 0) := by
    show _ = _
    exact pfE_fine (by decide) (by omega)
  have hbd := pfN_bd 4 i
  have hl2 := slN_le vs b hvs
  have t0 : (i == 0) = false := by simp; omega
  have hw1 : IntKind.i64.wrap i = i := IntWalk.i64_in _ (by omega)
  have hw2 : IntKind.i64.wrap (i + 0) = i := by rw [Int.add_zero]; exact hw1
  clear e0
  go_enter Tryd.func46, Tryd.ntmps46
  obtain ⟨c0, c1, c2, c3, c4, c5, c6⟩ := row7 R0.out
  go_wp2_with fail
  refine (rbegin22 3 (by decide) _).mono ?_
  rw [show fst22 3 = 0 by decide, show bit22 3 = 4 by decide]
  rintro e w1 ⟨rfl, rfl⟩
  have R2 := R0
  have E2 := E0
  clear R0 E0
  go_wp2_with fail
  refine (rpput_any 0 4 i _).mono ?_
  rintro e w3 (⟨h, _⟩ | ⟨_, A1, c1', rfl, ho1, hb1⟩)
  case inl => exact absurd HE.out h
  have E3 := hide (E2.out.of hb1)
  have R3 := hide (keepRow R2.out hb1)
  have Ho3 := hide (ho1.baseB (B' := w.heap.size + 1) (rowLt R2.out))
  have hs3 := rowLt R3.out
  clear hb1 ho1 R2 E2 c0 c1 c2 c3 c4 c5 c6
  obtain ⟨c0, c1, c2, c3, c4, c5, c6⟩ := row7 R3.out
  go_wp2_with fail
  refine (rsput_any vs b _ hvs).mono ?_
  rintro e w4 ⟨v4, rfl, ho, hb⟩
  obtain ⟨A4, d4, rfl, hr, _⟩ := ho.rd
  have Hr4 := hide hr
  have E4 := hide (E3.out.of hb)
  have R4 := hide (keepRow R3.out hb)
  have Ho4 := hide (Ho3.out.below hb)
  have hs4 := rowLt R4.out
  clear hr ho hb Ho3 E3 R3 c0 c1 c2 c3 c4 c5 c6
  obtain ⟨c0, c1, c2, c3, c4, c5, c6⟩ := row7 R4.out
  go_wp2_with (at_builtin; refine wp_app rfl _ _ _ rfl i0 0 1 Tryd.underlying22 hi hz0 hz1 hz2 (w.heap.size + 1) _ (pfN 4 i) _ rfl Ho4.out _ (slN vs b) d4 _ rfl Hr4.out (by simp only [maxLen]; omega) (by omega) hs4 ?_; intro v5 w5 hown hg)
  have EF := hide (E4.out.grown hg (by omega) (fun j e => by have := (World.ownsRow.lt Ho4.out j e).1; omega))
  have HoF := hide hown
  clear hown hg
  go_ret
  exact ⟨_, rfl, HoF.out.baseB (Nat.le_succ _), EF.out⟩
set_option maxRecDepth 100000 in
set_option maxHeartbeats 3200000 in
theorem rput22_4z (ns : ByteArray) (a : Bool) (vs : ByteArray) (b : Bool) (hns : ns.size ≤ 1000) (hvs : vs.size ≤ 1000) (w : World) : Calls Tryd.prog 46 #[.agg #[.int .i64 4, .int .i64 0, .string ns, .bool a, .string vs, .bool b, .int .i64 0]] w (Cloned w (pfN 4 0 + slN ns a + slN vs b) (catF (pfN 4 0 + slN ns a) (catF (pfN 4 0) (pfF 16 4 0) (slF ns a)) (slF vs b))) := by
  obtain ⟨i0, hi, hz0, hz1, hz2⟩ := info_parts u8_info
  have R0 := hide (heap_alloc_new w (.cells #[.int .i64 4, .int .i64 0, .string ns, .bool a, .string vs, .bool b, .int .i64 0] 86))
  have e0 := (Below.refl w.heap.size w).alloc (Nat.le_refl _) (.cells #[.int .i64 4, .int .i64 0, .string ns, .bool a, .string vs, .bool b, .int .i64 0] 86)
  have E0 := hide e0
  have HE : Hid (pfE 16 4 0 = 0) := by show _ = _; exact pfE_fine (by decide) (by decide)
  have hbd := pfN_bd 4 0
  have hl1 := slN_le ns a hns
  have hl2 := slN_le vs b hvs
  clear e0
  go_enter Tryd.func46, Tryd.ntmps46
  obtain ⟨c0, c1, c2, c3, c4, c5, c6⟩ := row7 R0.out
  go_wp2_with fail
  refine (rbegin22 4 (by decide) _).mono ?_
  rw [show fst22 4 = 16 by decide, show bit22 4 = 4 by decide]
  rintro e w1 ⟨rfl, rfl⟩
  have R2 := R0
  have E2 := E0
  clear R0 E0
  go_wp2_with fail
  refine (rpput_any 16 4 0 _).mono ?_
  rintro e w3 (⟨h, _⟩ | ⟨_, A1, c1', rfl, ho1, hb1⟩)
  case inl => exact absurd HE.out h
  have E3 := hide (E2.out.of hb1)
  have R3 := hide (keepRow R2.out hb1)
  have Ho3 := hide (ho1.baseB (B' := w.heap.size + 1) (rowLt R2.out))
  have hs3 := rowLt R3.out
  clear hb1 ho1 R2 E2 c0 c1 c2 c3 c4 c5 c6
  obtain ⟨c0, c1, c2, c3, c4, c5, c6⟩ := row7 R3.out
  go_wp2_with fail
  refine (rsput_any ns a _ hns).mono ?_
  rintro e w4 ⟨v4, rfl, ho, hb⟩
  obtain ⟨A4, d4, rfl, hr, _⟩ := ho.rd
  have Hr4 := hide hr
  have E4 := hide (E3.out.of hb)
  have R4 := hide (keepRow R3.out hb)
  have Ho4 := hide (Ho3.out.below hb)
  have hs4 := rowLt R4.out
  clear hr ho hb Ho3 E3 R3 c0 c1 c2 c3 c4 c5 c6
  obtain ⟨c0, c1, c2, c3, c4, c5, c6⟩ := row7 R4.out
  go_wp2_with (at_builtin; refine wp_app rfl _ _ _ rfl i0 0 1 Tryd.underlying22 hi hz0 hz1 hz2 (w.heap.size + 1) _ (pfN 4 0) _ rfl Ho4.out _ (slN ns a) d4 _ rfl Hr4.out (by simp only [maxLen]; omega) (by omega) hs4 ?_; intro v5 w5 hown hg; have E5 := hide (E4.out.grown hg (by omega) (fun j e => by have := (World.ownsRow.lt Ho4.out j e).1; omega)); have Ho5 := hide hown; have R5 := hide (keepGrown R4.out hg (fun e => by have := (World.ownsRow.lt Ho4.out _ e).1; omega)); have hs5 := rowLt R5.out; clear hown hg c0 c1 c2 c3 c4 c5 c6; obtain ⟨c0, c1, c2, c3, c4, c5, c6⟩ := row7 R5.out)
  refine (rsput_any vs b _ hvs).mono ?_
  rintro e w6 ⟨v6, rfl, ho, hb⟩
  obtain ⟨A6, d6, rfl, hr, _⟩ := ho.rd
  have Hr6 := hide hr
  have E6 := hide (E5.out.of hb)
  have R6 := hide (keepRow R5.out hb)
  have Ho6 := hide (Ho5.out.below hb)
  have hs6 := rowLt R6.out
  clear hr ho hb Ho5 E5 R5 c0 c1 c2 c3 c4 c5 c6
  obtain ⟨c0, c1, c2, c3, c4, c5, c6⟩ := row7 R6.out
  go_wp2_with (at_builtin; refine wp_app rfl _ _ _ rfl i0 0 1 Tryd.underlying22 hi hz0 hz1 hz2 (w.heap.size + 1) _ (pfN 4 0 + slN ns a) _ rfl Ho6.out _ (slN vs b) d6 _ rfl Hr6.out (by simp only [maxLen]; omega) (by omega) hs6 ?_; intro v7 w7 hown hg)
  have EF := hide (E6.out.grown hg (by omega) (fun j e => by have := (World.ownsRow.lt Ho6.out j e).1; omega))
  have HoF := hide hown
  clear hown hg
  go_ret
  exact ⟨_, rfl, HoF.out.baseB (Nat.le_succ _), EF.out⟩
set_option maxRecDepth 100000 in
set_option maxHeartbeats 3200000 in
theorem rput22_4n (i : Int) (vs : ByteArray) (b : Bool) (hvs : vs.size ≤ 1000) (h0 : 0 < i) (hM : i ≤ 2147483647) (w : World) : Calls Tryd.prog 46 #[.agg #[.int .i64 4, .int .i64 i, .string ⟨#[]⟩, .bool false, .string vs, .bool b, .int .i64 0]] w (Cloned w (pfN 4 i + slN vs b) (catF (pfN 4 i) (pfF 16 4 i) (slF vs b))) := by
  obtain ⟨i0, hi, hz0, hz1, hz2⟩ := info_parts u8_info
  have R0 := hide (heap_alloc_new w (.cells #[.int .i64 4, .int .i64 i, .string ⟨#[]⟩, .bool false, .string vs, .bool b, .int .i64 0] 86))
  have e0 := (Below.refl w.heap.size w).alloc (Nat.le_refl _) (.cells #[.int .i64 4, .int .i64 i, .string ⟨#[]⟩, .bool false, .string vs, .bool b, .int .i64 0] 86)
  have E0 := hide e0
  have HE : Hid (pfE 16 4 i = 0) := by
    show _ = _
    exact pfE_fine (by decide) (by omega)
  have hbd := pfN_bd 4 i
  have hl2 := slN_le vs b hvs
  have t0 : (i == 0) = false := by simp; omega
  have hw1 : IntKind.i64.wrap i = i := IntWalk.i64_in _ (by omega)
  have hw2 : IntKind.i64.wrap (i + 0) = i := by rw [Int.add_zero]; exact hw1
  clear e0
  go_enter Tryd.func46, Tryd.ntmps46
  obtain ⟨c0, c1, c2, c3, c4, c5, c6⟩ := row7 R0.out
  go_wp2_with fail
  refine (rbegin22 4 (by decide) _).mono ?_
  rw [show fst22 4 = 16 by decide, show bit22 4 = 4 by decide]
  rintro e w1 ⟨rfl, rfl⟩
  have R2 := R0
  have E2 := E0
  clear R0 E0
  go_wp2_with fail
  refine (rpput_any 16 4 i _).mono ?_
  rintro e w3 (⟨h, _⟩ | ⟨_, A1, c1', rfl, ho1, hb1⟩)
  case inl => exact absurd HE.out h
  have E3 := hide (E2.out.of hb1)
  have R3 := hide (keepRow R2.out hb1)
  have Ho3 := hide (ho1.baseB (B' := w.heap.size + 1) (rowLt R2.out))
  have hs3 := rowLt R3.out
  clear hb1 ho1 R2 E2 c0 c1 c2 c3 c4 c5 c6
  obtain ⟨c0, c1, c2, c3, c4, c5, c6⟩ := row7 R3.out
  go_wp2_with fail
  refine (rsput_any vs b _ hvs).mono ?_
  rintro e w4 ⟨v4, rfl, ho, hb⟩
  obtain ⟨A4, d4, rfl, hr, _⟩ := ho.rd
  have Hr4 := hide hr
  have E4 := hide (E3.out.of hb)
  have R4 := hide (keepRow R3.out hb)
  have Ho4 := hide (Ho3.out.below hb)
  have hs4 := rowLt R4.out
  clear hr ho hb Ho3 E3 R3 c0 c1 c2 c3 c4 c5 c6
  obtain ⟨c0, c1, c2, c3, c4, c5, c6⟩ := row7 R4.out
  go_wp2_with (at_builtin; refine wp_app rfl _ _ _ rfl i0 0 1 Tryd.underlying22 hi hz0 hz1 hz2 (w.heap.size + 1) _ (pfN 4 i) _ rfl Ho4.out _ (slN vs b) d4 _ rfl Hr4.out (by simp only [maxLen]; omega) (by omega) hs4 ?_; intro v5 w5 hown hg)
  have EF := hide (E4.out.grown hg (by omega) (fun j e => by have := (World.ownsRow.lt Ho4.out j e).1; omega))
  have HoF := hide hown
  clear hown hg
  go_ret
  exact ⟨_, rfl, HoF.out.baseB (Nat.le_succ _), EF.out⟩
end

section
open Go.RowKit Go.PlainAid

def kd (x : Int) : Int := if 128 ≤ x then 1 else if 64 ≤ x then 2 else if 32 ≤ x then 5 else if 16 ≤ x then 4 else 3
theorem kd_of {x : Int} (hx0 : 0 ≤ x) (hx1 : x ≤ 255) : kd x = if (x / 128 == 1) = true then 1 else if (x / 64 == 1) = true then 2 else if (x / 16 == 0) = true then 3 else if (x / 16 == 1) = true then 4 else 5 := by
  unfold kd
  by_cases h1 : 128 ≤ x
  · have : (x / 128 == 1) = true := by simp; omega
    rw [if_pos h1, if_pos this]
  have n1 : ¬ (x / 128 == 1) = true := by simp; omega
  rw [if_neg h1, if_neg n1]
  by_cases h2 : 64 ≤ x
  · have : (x / 64 == 1) = true := by simp; omega
    rw [if_pos h2, if_pos this]
  have n2 : ¬ (x / 64 == 1) = true := by simp; omega
  rw [if_neg h2, if_neg n2]
  by_cases h3 : 32 ≤ x
  · have n3 : ¬ (x / 16 == 0) = true := by simp; omega
    have n4 : ¬ (x / 16 == 1) = true := by simp; omega
    rw [if_pos h3, if_neg n3, if_neg n4]
  rw [if_neg h3]
  by_cases h4 : 16 ≤ x
  · have n3 : ¬ (x / 16 == 0) = true := by simp; omega
    have : (x / 16 == 1) = true := by simp; omega
    rw [if_pos h4, if_neg n3, if_pos this]
  · have : (x / 16 == 0) = true := by simp; omega
    rw [if_neg h4, if_pos this]
set_option maxRecDepth 20000 in
set_option maxHeartbeats 3200000 in
theorem kindof22 (x : Int) (hx0 : 0 ≤ x) (hx1 : x ≤ 255) (w : World) (T : TypeId) (fr : Nat × Nat) (hg : w.heap[0]? = some (.cells formsV T fr)) : Calls Tryd.prog 49 #[.int .u8 x] w fun e w' => e = .returned (.int .i64 (kd x)) ∧ Below w.heap.size w w' := by
  have Hg := hide hg
  clear hg
  have hwx : IntKind.i64.wrap x = x := IntWalk.i64_in _ (by omega)
  have hk := kd_of hx0 hx1
  obtain ⟨b1, t1⟩ : ∃ b, (x / 128 == 1) = b := ⟨_, rfl⟩
  obtain ⟨b2, t2⟩ : ∃ b, (x / 64 == 1) = b := ⟨_, rfl⟩
  obtain ⟨b3, t3⟩ : ∃ b, (x / 16 == 0) = b := ⟨_, rfl⟩
  obtain ⟨b4, t4⟩ : ∃ b, (x / 16 == 1) = b := ⟨_, rfl⟩
  rw [t1, t2, t3, t4] at hk
  have HK := hide hk
  clear hk hx0 hx1
  go_enter Tryd.func49, Tryd.ntmps49
  go_wp2
  go_loopw [3] (fun i wr => (i = .int .i64 1 ∨ (i = .int .i64 2 ∧ b1 = false) ∨ (i = .int .i64 3 ∧ b1 = false ∧ b2 = false) ∨ (i = .int .i64 4 ∧ b1 = false ∧ b2 = false ∧ b3 = false) ∨ (i = .int .i64 5 ∧ b1 = false ∧ b2 = false ∧ b3 = false ∧ b4 = false)) ∧ Below w.heap.size w wr) (fun i _ => 5 - (intOf i).toNat)
  case atStart => exact ⟨.inl rfl, Below.refl _ _⟩
  case round =>
    obtain ⟨hi, hb⟩ := hrel
    have G1 := (hb.block _ (rowLt Hg.out)).trans Hg.out
    have HB := hide hb
    have hbs := hb.size
    clear hb
    rcases hi with rfl | ⟨rfl, rfl⟩ | ⟨rfl, rfl, rfl⟩ | ⟨rfl, rfl, rfl, rfl⟩ | ⟨rfl, rfl, rfl, rfl, rfl⟩
    · have g0 := forms_at G1 2 (.int .i64 128) rfl
      have g1 := forms_at G1 3 (.int .i64 7) rfl
      have FF := heap_alloc_new wr (.cells #[.int .i64 128, .int .i64 7] 109)
      have B1 := hide (HB.out.alloc hbs (.cells #[.int .i64 128, .int .i64 7] 109))
      obtain ⟨x0, x1⟩ := row2 FF
      go_wp2
      go_quiet (fail)
      cases b1 with
      | true =>
        go_wp2
        go_ret
        exact ⟨by rw [HK.out]; rfl, B1.out.trans (drawn_below (Drawn.of _ _) _)⟩
      | false =>
        go_wp2
        go_roundw
        case rel => exact ⟨by first | exact .inr (.inl ⟨rfl, rfl⟩) | simp, B1.out.trans (drawn_below (Drawn.of _ _) _)⟩
        case measure => simp [intOf]
    · have g0 := forms_at G1 4 (.int .i64 64) rfl
      have g1 := forms_at G1 5 (.int .i64 6) rfl
      have FF := heap_alloc_new wr (.cells #[.int .i64 64, .int .i64 6] 109)
      have B1 := hide (HB.out.alloc hbs (.cells #[.int .i64 64, .int .i64 6] 109))
      obtain ⟨x0, x1⟩ := row2 FF
      go_wp2
      go_quiet (fail)
      cases b2 with
      | true =>
        go_wp2
        go_ret
        exact ⟨by rw [HK.out]; rfl, B1.out.trans (drawn_below (Drawn.of _ _) _)⟩
      | false =>
        go_wp2
        go_roundw
        case rel => exact ⟨by first | exact .inr (.inr (.inl ⟨rfl, rfl, rfl⟩)) | simp, B1.out.trans (drawn_below (Drawn.of _ _) _)⟩
        case measure => simp [intOf]
    · have g0 := forms_at G1 6 (.int .i64 0) rfl
      have g1 := forms_at G1 7 (.int .i64 4) rfl
      have FF := heap_alloc_new wr (.cells #[.int .i64 0, .int .i64 4] 109)
      have B1 := hide (HB.out.alloc hbs (.cells #[.int .i64 0, .int .i64 4] 109))
      obtain ⟨x0, x1⟩ := row2 FF
      go_wp2
      go_quiet (fail)
      cases b3 with
      | true =>
        go_wp2
        go_ret
        exact ⟨by rw [HK.out]; rfl, B1.out.trans (drawn_below (Drawn.of _ _) _)⟩
      | false =>
        go_wp2
        go_roundw
        case rel => exact ⟨by first | exact .inr (.inr (.inr (.inl ⟨rfl, rfl, rfl, rfl⟩))) | simp, B1.out.trans (drawn_below (Drawn.of _ _) _)⟩
        case measure => simp [intOf]
    · have g0 := forms_at G1 8 (.int .i64 16) rfl
      have g1 := forms_at G1 9 (.int .i64 4) rfl
      have FF := heap_alloc_new wr (.cells #[.int .i64 16, .int .i64 4] 109)
      have B1 := hide (HB.out.alloc hbs (.cells #[.int .i64 16, .int .i64 4] 109))
      obtain ⟨x0, x1⟩ := row2 FF
      go_wp2
      go_quiet (fail)
      cases b4 with
      | true =>
        go_wp2
        go_ret
        exact ⟨by rw [HK.out]; rfl, B1.out.trans (drawn_below (Drawn.of _ _) _)⟩
      | false =>
        go_wp2
        go_roundw
        case rel => exact ⟨by first | exact .inr (.inr (.inr (.inr ⟨rfl, rfl, rfl, rfl, rfl⟩))) | simp, B1.out.trans (drawn_below (Drawn.of _ _) _)⟩
        case measure => simp [intOf]
    · go_wp2
      go_ret
      exact ⟨by rw [HK.out]; rfl, HB.out⟩
set_option maxHeartbeats 1600000 in
theorem rkind22 (x : Int) (hx0 : 0 ≤ x) (hx1 : x ≤ 255) (w : World) : Calls Tryd.prog 55 #[.int .u8 x] w fun e w' => e = .returned (.int .i64 (kd x)) ∧ w = w' := by
  unfold kd
  by_cases h1 : 128 ≤ x
  · have d1 : decide (128 ≤ x) = true := decide_eq_true h1
    rw [if_pos h1]
    clear h1
    go_enter Tryd.func55, Tryd.ntmps55
    go_wp2
    go_ret
    exact ⟨rfl, rfl⟩
  have d1 : decide (128 ≤ x) = false := decide_eq_false h1
  rw [if_neg h1]
  by_cases h2 : 64 ≤ x
  · have d2 : decide (64 ≤ x) = true := decide_eq_true h2
    rw [if_pos h2]
    clear h1 h2
    go_enter Tryd.func55, Tryd.ntmps55
    go_wp2
    go_ret
    exact ⟨rfl, rfl⟩
  have d2 : decide (64 ≤ x) = false := decide_eq_false h2
  rw [if_neg h2]
  by_cases h3 : 32 ≤ x
  · have d3 : decide (32 ≤ x) = true := decide_eq_true h3
    rw [if_pos h3]
    clear h1 h2 h3
    go_enter Tryd.func55, Tryd.ntmps55
    go_wp2
    go_ret
    exact ⟨rfl, rfl⟩
  have d3 : decide (32 ≤ x) = false := decide_eq_false h3
  rw [if_neg h3]
  by_cases h4 : 16 ≤ x
  · have d4 : decide (16 ≤ x) = true := decide_eq_true h4
    rw [if_pos h4]
    clear h1 h2 h3 h4
    go_enter Tryd.func55, Tryd.ntmps55
    go_wp2
    go_ret
    exact ⟨rfl, rfl⟩
  have d4 : decide (16 ≤ x) = false := decide_eq_false h4
  rw [if_neg h4]
  clear h1 h2 h3 h4
  go_enter Tryd.func55, Tryd.ntmps55
  go_wp2
  go_ret
  exact ⟨rfl, rfl⟩
end

section
open Go.RowKit Go.PlainAid

theorem store2r {w : World} {p : Nat} {T : TypeId} {a0 a1 : Value} (h : w.heap[p]? = some (.cells #[a0, a1] T (0, 0))) (b0 b1 : Value) :
    (w.cell? ⟨p, 0, none⟩ = some a0 ∧ w.frozen? ⟨p, 0, none⟩ = false) ∧ ((w.setCell ⟨p, 0, none⟩ b0).cell? ⟨p, 1, none⟩ = some a1 ∧ (w.setCell ⟨p, 0, none⟩ b0).frozen? ⟨p, 1, none⟩ = false) ∧
    ((w.setCell ⟨p, 0, none⟩ b0).setCell ⟨p, 1, none⟩ b1).heap[p]? = some (.cells #[b0, b1] T (0, 0)) := by
  have h1 := setRow w p 0 b0 h
  have h2 := setRow _ p 1 b1 h1
  simp only [List.setIfInBounds_toArray, List.set_cons_zero, List.set_cons_succ] at h1 h2
  exact ⟨⟨(row2 h).1, frozenRow h 0⟩, ⟨(row2 h1).2, frozenRow h1 1⟩, h2⟩
def TGot (f : Nat → Int) (n t : Nat) (w : World) (e : Ending) (w' : World) : Prop :=
  ∃ s sh q er, e = .returned (.tuple #[.agg #[.string s, .bool sh], .int .i64 ((t : Int) + q), .int .i64 er]) ∧ SlR (fun i => f (t + i)) (n - t) n s sh q er ∧ Below w.heap.size w w'
theorem slr_rng {f : Nat → Int} {n : Nat} {most : Int} {s : ByteArray} {sh : Bool} {q er : Int} (h : SlR f n most s sh q er) : 0 ≤ q ∧ q ≤ n := by
  obtain ⟨N, a, d, hp, h⟩ := h
  rcases h with ⟨_, _, _, rfl, _⟩ | ⟨_, _, _, _, rfl, _⟩ | ⟨_, _, _, _, _, rfl, _⟩ | ⟨hd, _, h3, _, _, _, rfl, _⟩ | ⟨hd, _, h3, _, m, h, x, _, hh⟩
  · omega
  · omega
  · omega
  · have := pg_bd7 (f := f) (n := n) (by rw [hp]; exact hd)
    rw [hp] at this
    simp only at this
    omega
  · have := pg_bd7 (f := f) (n := n) (by rw [hp]; exact hd)
    rw [hp] at this
    simp only at this
    rcases hh with ⟨_, _, _, rfl, _⟩ | ⟨_, _, _, rfl, _⟩ <;> omega
set_option maxRecDepth 20000 in
set_option maxHeartbeats 3200000 in
theorem text22 (A : Option Addr) (n c t : Nat) (f : Nat → Int) (w : World) (ha : Rd .u8 w A n c f) (hb : Byt n f) (ht : t ≤ n) (hn : n ≤ 100000) : Calls Tryd.prog 51 #[.slice A n c, .int .i64 (t : Int)] w (TGot f n t w) := by
  have R0 := hide (heap_alloc_new w (.cells #[.string ⟨#[]⟩, .bool false] 79))
  have al := (Below.refl w.heap.size w).alloc (Nat.le_refl _) (.cells #[.string ⟨#[]⟩, .bool false] 79)
  have E0 := hide al
  have hcut := bytes_cut A n c t ht
  have Hr := hide ((ha.below al).cutR (lo := t) (hi := n) ht (Nat.le_refl _))
  have Hb : Hid (Byt (n - t) (fun i => f (t + i))) := fun i hi => hb (t + i) (by omega)
  clear ha hb al
  generalize cutA A c t = A2 at *
  go_enter Tryd.func51, Tryd.ntmps51
  go_wp2_with fail
  refine (sget_any A2 (n - t) (c - t) _ n _ Hr.out Hb.out (by omega)).mono ?_
  rintro e w1 ⟨s, sh, q, er, rfl, hS, hb1⟩
  have hq := slr_rng hS
  have HS := hide hS
  have al := (Below.refl w1.heap.size w1).alloc (Nat.le_refl _) (.cells #[.string s, .bool sh] 79)
  have R2 := hide (keepRow R0.out (hb1.of al))
  have E2 := hide (E0.out.of (hb1.of al))
  have Q2 := hide (heap_alloc_new w1 (.cells #[.string s, .bool sh] 79))
  have hw : IntKind.i64.wrap ((t : Int) + q) = (t : Int) + q := IntWalk.i64_in _ (by omega)
  clear hS hb1 al R0 E0 hcut Hr
  obtain ⟨c0, c1⟩ := row2 Q2.out
  obtain ⟨⟨k0, f0⟩, ⟨k1, f1⟩, rr⟩ := store2r R2.out (.string s) (.bool sh)
  have RF := hide rr
  have EE := hide ((E2.out.setCell (p := ⟨w.heap.size, 0, none⟩) (Nat.le_refl _) (.string s)).setCell (p := ⟨w.heap.size, 1, none⟩) (Nat.le_refl _) (.bool sh))
  clear rr
  go_wp2_with fail
  obtain ⟨n0, n1⟩ := row2 RF.out
  refine bodyPost_ret (v := .tuple #[.agg #[.string s, .bool sh], .int .i64 ((t : Int) + q), .int .i64 er]) ?_ rfl ⟨s, sh, q, er, rfl, HS.out, EE.out⟩
  rw [results_cell_tmp2 rfl]
  go_simp
def zeroR (k i : Int) (ns : ByteArray) (a : Bool) (vs : ByteArray) (b : Bool) (z m : Int) : Prop := k = 0 ∧ i = 0 ∧ ns = ⟨#[]⟩ ∧ a = false ∧ vs = ⟨#[]⟩ ∧ b = false ∧ z = 0 ∧ m = 0
/-- What the bytes begin with, and how many it takes; or why there is none. -/
def GtR (f : Nat → Int) (n : Nat) (k i : Int) (ns : ByteArray) (a : Bool) (vs : ByteArray) (b : Bool) (z m er : Int) : Prop :=
  (n = 0 ∧ zeroR k i ns a vs b z m ∧ er = 3) ∨
  (0 < n ∧ ∃ (N : Int) (t : Nat) (d : Int), pg f n (bit22 (kd (f 0))) = (N, (t : Int), d) ∧
    ((d ≠ 0 ∧ zeroR k i ns a vs b z m ∧ er = d) ∨
     (d = 0 ∧ kd (f 0) = 1 ∧ N = 0 ∧ zeroR k i ns a vs b z m ∧ er = 12) ∨
     (d = 0 ∧ kd (f 0) = 1 ∧ N ≠ 0 ∧ k = 1 ∧ i = N ∧ ns = ⟨#[]⟩ ∧ a = false ∧ vs = ⟨#[]⟩ ∧ b = false ∧ z = 0 ∧ m = t ∧ er = 0) ∨
     (d = 0 ∧ kd (f 0) = 5 ∧ k = 5 ∧ i = 0 ∧ ns = ⟨#[]⟩ ∧ a = false ∧ vs = ⟨#[]⟩ ∧ b = false ∧ z = N ∧ m = t ∧ er = 0) ∨
     (d = 0 ∧ kd (f 0) ≠ 1 ∧ kd (f 0) ≠ 5 ∧ N ≠ 0 ∧ ∃ s sh q e2, SlR (fun j => f (t + j)) (n - t) n s sh q e2 ∧
       ((e2 ≠ 0 ∧ zeroR k i ns a vs b z m ∧ er = e2) ∨ (e2 = 0 ∧ k = kd (f 0) ∧ i = N ∧ ns = ⟨#[]⟩ ∧ a = false ∧ vs = s ∧ b = sh ∧ z = 0 ∧ m = t + q ∧ er = 0))) ∨
     (d = 0 ∧ kd (f 0) ≠ 1 ∧ kd (f 0) ≠ 5 ∧ N = 0 ∧ ∃ s sh q e1, SlR (fun j => f (t + j)) (n - t) n s sh q e1 ∧
       ((e1 ≠ 0 ∧ zeroR k i ns a vs b z m ∧ er = e1) ∨ (e1 = 0 ∧ ∃ s2 sh2 q2 e2, SlR (fun j => f (t + q.toNat + j)) (n - (t + q.toNat)) n s2 sh2 q2 e2 ∧
         ((e2 ≠ 0 ∧ zeroR k i ns a vs b z m ∧ er = e2) ∨ (e2 = 0 ∧ k = kd (f 0) ∧ i = 0 ∧ ns = s ∧ a = sh ∧ vs = s2 ∧ b = sh2 ∧ z = 0 ∧ m = t + q + q2 ∧ er = 0)))))))
end
end Go.Proofs.YtnkcbljhgcgpaaaDoor
