/- Layer 22: the bytes of one that is right, whole; the examples. -/
import Derived.Test.YtdnfhddahpmnmabDoorRpe
import Derived.Test.YtdnfhddahpmnmabDoorRp4
import Derived.Test.YtdnfhddahpmnmabDoorRp5
namespace Go.Proofs.YtdnfhddahpmnmabDoor
open Go.RowKit Go.PlainAid

theorem noT_of {s : ByteArray} {a : Bool} (h : noT s a = true) : s = ⟨#[]⟩ ∧ a = false := by
  unfold noT at h
  rw [Bool.and_eq_true] at h
  refine ⟨?_, by simpa using h.2⟩
  have h1 := List.isEmpty_iff.1 h.1
  rw [ByteArray.toList_eq] at h1
  apply ByteArray.ext
  exact Array.toList_inj.1 h1
theorem isN_of {n : Int} (h : isN n = true) : 0 ≤ n ∧ n ≤ 2147483647 := by
  unfold isN at h
  rw [Bool.and_eq_true] at h
  exact ⟨of_decide_eq_true h.1, of_decide_eq_true h.2⟩
/-- What one that is right looks like. -/
theorem rpB_cases {k i : Int} {ns : ByteArray} {a : Bool} {vs : ByteArray} {b : Bool} {z : Int} (h : rpB k i ns a vs b z = true) :
    (k = 1 ∧ 0 < i ∧ i ≤ 2147483647 ∧ ns = ⟨#[]⟩ ∧ a = false ∧ vs = ⟨#[]⟩ ∧ b = false ∧ z = 0) ∨ (k = 5 ∧ 0 ≤ z ∧ z ≤ 2147483647 ∧ i = 0 ∧ ns = ⟨#[]⟩ ∧ a = false ∧ vs = ⟨#[]⟩ ∧ b = false) ∨
    ((k = 2 ∨ k = 3 ∨ k = 4) ∧ z = 0 ∧ (i = 0 ∨ (0 < i ∧ i ≤ 2147483647 ∧ ns = ⟨#[]⟩ ∧ a = false))) := by
  unfold rpB at h
  split at h
  · rename_i hk
    simp only [Bool.and_eq_true, decide_eq_true_eq, beq_iff_eq] at h
    obtain ⟨h1, h2, h3, h4, h5⟩ := h
    obtain ⟨rfl, rfl⟩ := noT_of h3
    obtain ⟨rfl, rfl⟩ := noT_of h4
    exact .inl ⟨hk, h1, (isN_of h2).2, rfl, rfl, rfl, rfl, h5⟩
  · split at h
    · rename_i hk
      simp only [Bool.and_eq_true, Bool.or_eq_true, beq_iff_eq] at h
      obtain ⟨h1, h2, h3⟩ := h
      refine .inr (.inr ⟨hk, h2, ?_⟩)
      by_cases h0 : i = 0
      · exact .inl h0
      · rcases h3 with h3 | h3
        · exact absurd h3 h0
        · obtain ⟨rfl, rfl⟩ := noT_of h3
          have := isN_of h1
          exact .inr ⟨by omega, this.2, rfl, rfl⟩
    · split at h
      · rename_i hk
        simp only [Bool.and_eq_true, beq_iff_eq] at h
        obtain ⟨h1, h2, h3, h4⟩ := h
        obtain ⟨rfl, rfl⟩ := noT_of h3
        obtain ⟨rfl, rfl⟩ := noT_of h4
        have := isN_of h1
        exact .inr (.inl ⟨hk, this.1, this.2, h2, rfl, rfl, rfl, rfl⟩)
      · cases h
theorem put22 (k i : Int) (ns : ByteArray) (a : Bool) (vs : ByteArray) (b : Bool) (z : Int) (hns : ns.size ≤ 1000) (hvs : vs.size ≤ 1000) (w : World) (hr : rpB k i ns a vs b z = true) (T : TypeId) (fr : Nat × Nat) (hg : w.heap[0]? = some (.cells formsV T fr)) : Calls Tryd.prog 13 #[.agg #[.int .i64 k, .int .i64 i, .string ns, .bool a, .string vs, .bool b, .int .i64 z]] w (PutG (rpN k i ns a vs b z) (rpF k i ns a vs b z) w) := by
  rcases rpB_cases hr with ⟨rfl, h1, h2, rfl, rfl, rfl, rfl, rfl⟩ | ⟨rfl, h1, h2, rfl, rfl, rfl, rfl, rfl⟩ | ⟨hk, rfl, rfl | ⟨h1, h2, rfl, rfl⟩⟩
  · exact put22_1 i h1 h2 w T fr hg
  · exact put22_5 z h1 h2 w T fr hg
  · rcases hk with rfl | rfl | rfl
    · exact put22_2z ns a vs b hns hvs w T fr hg
    · exact put22_3z ns a vs b hns hvs w T fr hg
    · exact put22_4z ns a vs b hns hvs w T fr hg
  · have hi : i ≠ 0 := by omega
    rcases hk with rfl | rfl | rfl
    · have hN : rpN 2 i ⟨#[]⟩ false vs b 0 = pfN 6 i + slN vs b := by unfold rpN; rw [if_neg (by decide), if_neg (by decide), if_neg hi]; rfl
      have hF : rpF 2 i ⟨#[]⟩ false vs b 0 = catF (pfN 6 i) (pfF 64 6 i) (slF vs b) := by unfold rpF; rw [if_neg (by decide), if_neg (by decide), if_neg hi]; rfl
      rw [hN, hF]
      exact put22_2n i vs b hvs h1 h2 w T fr hg
    · have hN : rpN 3 i ⟨#[]⟩ false vs b 0 = pfN 4 i + slN vs b := by unfold rpN; rw [if_neg (by decide), if_neg (by decide), if_neg hi]; rfl
      have hF : rpF 3 i ⟨#[]⟩ false vs b 0 = catF (pfN 4 i) (pfF 0 4 i) (slF vs b) := by unfold rpF; rw [if_neg (by decide), if_neg (by decide), if_neg hi]; rfl
      rw [hN, hF]
      exact put22_3n i vs b hvs h1 h2 w T fr hg
    · have hN : rpN 4 i ⟨#[]⟩ false vs b 0 = pfN 4 i + slN vs b := by unfold rpN; rw [if_neg (by decide), if_neg (by decide), if_neg hi]; rfl
      have hF : rpF 4 i ⟨#[]⟩ false vs b 0 = catF (pfN 4 i) (pfF 16 4 i) (slF vs b) := by unfold rpF; rw [if_neg (by decide), if_neg (by decide), if_neg hi]; rfl
      rw [hN, hF]
      exact put22_4n i vs b hvs h1 h2 w T fr hg
theorem rput22 (k i : Int) (ns : ByteArray) (a : Bool) (vs : ByteArray) (b : Bool) (z : Int) (hns : ns.size ≤ 1000) (hvs : vs.size ≤ 1000) (w : World) (hr : rpB k i ns a vs b z = true)  : Calls Tryd.prog 18 #[.agg #[.int .i64 k, .int .i64 i, .string ns, .bool a, .string vs, .bool b, .int .i64 z]] w (Cloned w (rpN k i ns a vs b z) (rpF k i ns a vs b z)) := by
  rcases rpB_cases hr with ⟨rfl, h1, h2, rfl, rfl, rfl, rfl, rfl⟩ | ⟨rfl, h1, h2, rfl, rfl, rfl, rfl, rfl⟩ | ⟨hk, rfl, rfl | ⟨h1, h2, rfl, rfl⟩⟩
  · exact rput22_1 i h1 h2 w
  · exact rput22_5 z h1 h2 w
  · rcases hk with rfl | rfl | rfl
    · exact rput22_2z ns a vs b hns hvs w
    · exact rput22_3z ns a vs b hns hvs w
    · exact rput22_4z ns a vs b hns hvs w
  · have hi : i ≠ 0 := by omega
    rcases hk with rfl | rfl | rfl
    · have hN : rpN 2 i ⟨#[]⟩ false vs b 0 = pfN 6 i + slN vs b := by unfold rpN; rw [if_neg (by decide), if_neg (by decide), if_neg hi]; rfl
      have hF : rpF 2 i ⟨#[]⟩ false vs b 0 = catF (pfN 6 i) (pfF 64 6 i) (slF vs b) := by unfold rpF; rw [if_neg (by decide), if_neg (by decide), if_neg hi]; rfl
      rw [hN, hF]
      exact rput22_2n i vs b hvs h1 h2 w
    · have hN : rpN 3 i ⟨#[]⟩ false vs b 0 = pfN 4 i + slN vs b := by unfold rpN; rw [if_neg (by decide), if_neg (by decide), if_neg hi]; rfl
      have hF : rpF 3 i ⟨#[]⟩ false vs b 0 = catF (pfN 4 i) (pfF 0 4 i) (slF vs b) := by unfold rpF; rw [if_neg (by decide), if_neg (by decide), if_neg hi]; rfl
      rw [hN, hF]
      exact rput22_3n i vs b hvs h1 h2 w
    · have hN : rpN 4 i ⟨#[]⟩ false vs b 0 = pfN 4 i + slN vs b := by unfold rpN; rw [if_neg (by decide), if_neg (by decide), if_neg hi]; rfl
      have hF : rpF 4 i ⟨#[]⟩ false vs b 0 = catF (pfN 4 i) (pfF 16 4 i) (slF vs b) := by unfold rpF; rw [if_neg (by decide), if_neg (by decide), if_neg hi]; rfl
      rw [hN, hF]
      exact rput22_4n i vs b hvs h1 h2 w
set_option maxRecDepth 20000 in
set_option maxHeartbeats 1600000 in
theorem put22_no (k i : Int) (ns : ByteArray) (a : Bool) (vs : ByteArray) (b : Bool) (z : Int) (w : World) (hr : rpB k i ns a vs b z = false) : Calls Tryd.prog 13 #[.agg #[.int .i64 k, .int .i64 i, .string ns, .bool a, .string vs, .bool b, .int .i64 z]] w fun e w' => e = .returned (.tuple #[.slice none 0 0, .int .i64 1]) ∧ Below w.heap.size w w' := by
  have R0 := hide (heap_alloc_new w (.cells #[.int .i64 k, .int .i64 i, .string ns, .bool a, .string vs, .bool b, .int .i64 z] 35))
  have E0 := hide ((Below.refl w.heap.size w).alloc (Nat.le_refl _) (.cells #[.int .i64 k, .int .i64 i, .string ns, .bool a, .string vs, .bool b, .int .i64 z] 35))
  have HR := hide hr
  clear hr
  go_enter Tryd.func13, Tryd.ntmps13
  obtain ⟨c0, c1, c2, c3, c4, c5, c6⟩ := row7 R0.out
  go_wp2_with fail
  refine (right22 k i ns a vs b z _).mono ?_
  rw [HR.out]
  rintro e w1 ⟨rfl, hb⟩
  have E1 := hide (E0.out.of hb)
  clear hb
  go_wp2_with fail
  go_ret2
  exact ⟨rfl, E1.out⟩
theorem results_cell1 {fn : Func} {p : Tmp} {ty : TypeId} (h : fn.results = #[.cell p ty]) (tmps : Array Value) (P : Program) (w : World) :
    (results fn tmps).run P w = ((asAddr (tmps.getD p undef)).run P w).andThen fun a w' => (loadVar ty a).run P w' := by
  simp [results, h]
theorem own22 (k i : Int) (ns : ByteArray) (a : Bool) (vs : ByteArray) (b : Bool) (z : Int) (w : World) : Calls Tryd.prog 14 #[.agg #[.int .i64 k, .int .i64 i, .string ns, .bool a, .string vs, .bool b, .int .i64 z]] w fun e w' => e = .returned (.agg #[.int .i64 k, .int .i64 i, .string ns, .bool a, .string vs, .bool b, .int .i64 z]) ∧ Below w.heap.size w w' := by
  have E0 : Hid (Below w.heap.size w ((w.alloc (.cells #[.int .i64 k, .int .i64 i, .string ns, .bool a, .string vs, .bool b, .int .i64 z] 27)).alloc (.cells #[.int .i64 k, .int .i64 i, .string ns, .bool a, .string vs, .bool b, .int .i64 z] 35))) := ((Below.refl w.heap.size w).alloc (Nat.le_refl _) _).alloc (by simp) _
  go_enter Tryd.func14, Tryd.ntmps14
  go_wp2_with fail
  refine bodyPost_ret (v := .agg #[.int .i64 k, .int .i64 i, .string ns, .bool a, .string vs, .bool b, .int .i64 z]) ?_ rfl ⟨rfl, E0.out⟩
  rw [results_cell1 rfl]
  go_simp
def e22a : Nat → Int := oneF 130
def e22b : Nat → Int := fun j => if j = 0 then 64 else if j = 1 then 1 else if j = 2 then 97 else 0
def e22c : Nat → Int := fun j => if j = 0 then 63 else 0
theorem e22a_r : GtR e22a 1 1 2 ⟨#[]⟩ false ⟨#[]⟩ false 0 1 0 := .inr ⟨by decide, 2, 1, 0, by decide, .inr (.inr (.inl ⟨rfl, by decide, by decide, rfl, rfl, rfl, rfl, rfl, rfl, rfl, rfl, rfl⟩))⟩
theorem e22b_s1 : SlR (fun j => e22b (1 + j)) (4 - 1) (4 : Nat) ⟨#[97]⟩ false 2 0 := ⟨1, 1, 0, by decide, .inr (.inr (.inr (.inl ⟨rfl, by decide, by decide, by decide, by decide +kernel, rfl, rfl, rfl⟩)))⟩
theorem e22b_s2 : SlR (fun j => e22b (1 + (2 : Int).toNat + j)) (4 - (1 + (2 : Int).toNat)) (4 : Nat) ⟨#[]⟩ false 1 0 := ⟨0, 1, 0, by decide, .inr (.inr (.inr (.inl ⟨rfl, by decide, by decide, by decide, by decide +kernel, rfl, rfl, rfl⟩)))⟩
theorem e22b_r : GtR e22b 4 2 0 ⟨#[97]⟩ false ⟨#[]⟩ false 0 4 0 := .inr ⟨by decide, 0, 1, 0, by decide, .inr (.inr (.inr (.inr (.inr ⟨rfl, by decide, by decide, rfl, _, _, _, _, e22b_s1, .inr ⟨rfl, _, _, _, _, e22b_s2, .inr ⟨rfl, by decide, rfl, rfl, rfl, rfl, rfl, rfl, rfl, rfl⟩⟩⟩))))⟩
theorem e22c_r : GtR e22c 2 5 0 ⟨#[]⟩ false ⟨#[]⟩ false 31 2 0 := .inr ⟨by decide, 31, 2, 0, by decide, .inr (.inr (.inr (.inl ⟨rfl, by decide, rfl, rfl, rfl, rfl, rfl, rfl, rfl, rfl, rfl⟩)))⟩
theorem byt22 {n : Nat} {f : Nat → Int} (h : f = e22a ∨ f = e22b ∨ f = e22c) : Byt n f := fun j _ => by
  rcases h with rfl | rfl | rfl
  · simp [e22a, oneF]
  · unfold e22b
    (repeat' split) <;> omega
  · unfold e22c
    (repeat' split) <;> omega
set_option maxRecDepth 100000 in
set_option maxHeartbeats 6400000 in
theorem alive22 (w : World) (T : TypeId) (fr : Nat × Nat) (hg : w.heap[0]? = some (.cells formsV T fr)) : Calls Tryd.prog 12 #[] w (Yes w) := by
  have G0 := hide hg
  have E0 := hide (Below.refl w.heap.size w)
  clear hg
  go_enter Tryd.func12, Tryd.ntmps12
  have L0 := hide ((Own.lit .u8 5 0 w e22a #[.int .u8 130] 1 (Nat.zero_le _) (by simp [maxLen]) rfl).rdS)
  have al := (Below.refl w.heap.size w).alloc (Nat.le_refl _) (.cells #[.int .u8 130] 5)
  have E0a := hide (E0.out.of al)
  have G0a := hide ((al.block _ (rowLt G0.out)).trans G0.out)
  clear al
  go_wp2_with fail
  refine (get22 _ 1 _ e22a _ L0.out (byt22 (by simp)) (by decide) T fr G0a.out).mono ?_
  rintro e w1 ⟨k, i, ns, a, vs, b, z, m, er, rfl, hR, hb⟩
  obtain ⟨rfl, rfl, rfl, rfl, rfl, rfl, rfl, rfl, rfl⟩ := e22a_r.same hR
  clear hR
  have al := (Below.refl w1.heap.size w1).alloc (Nat.le_refl _) (.cells #[.int .i64 1, .int .i64 2, .string ⟨#[]⟩, .bool false, .string ⟨#[]⟩, .bool false, .int .i64 0] 35)
  have E1 := hide (E0a.out.of (hb.of al))
  have G1 := hide (((hb.of al).block _ (rowLt G0a.out)).trans G0a.out)
  have Q0 := hide (heap_alloc_new w1 (.cells #[.int .i64 1, .int .i64 2, .string ⟨#[]⟩, .bool false, .string ⟨#[]⟩, .bool false, .int .i64 0] 35))
  clear hb al E0a G0a E0 G0 L0
  go_upto_region 2 with (fail)
  generalize w1.alloc (.cells #[.int .i64 1, .int .i64 2, .string ⟨#[]⟩, .bool false, .string ⟨#[]⟩, .bool false, .int .i64 0] 35) = V1 at *
  have L1 := hide ((Own.lit .u8 5 0 V1 e22b #[.int .u8 64, .int .u8 1, .int .u8 97, .int .u8 0] 4 (Nat.zero_le _) (by simp [maxLen]) rfl).rdS)
  have al := (Below.refl V1.heap.size V1).alloc (Nat.le_refl _) (.cells #[.int .u8 64, .int .u8 1, .int .u8 97, .int .u8 0] 5)
  have E1a := hide (E1.out.of al)
  have G1a := hide ((al.block _ (rowLt G1.out)).trans G1.out)
  have Q0_ := hide (keepRow Q0.out al)
  clear Q0
  have Q0 := Q0_
  clear Q0_
  clear al
  go_wp2_with fail
  refine (get22 _ 4 _ e22b _ L1.out (byt22 (by simp)) (by decide) T fr G1a.out).mono ?_
  rintro e w2 ⟨k, i, ns, a, vs, b, z, m, er, rfl, hR, hb⟩
  obtain ⟨rfl, rfl, rfl, rfl, rfl, rfl, rfl, rfl, rfl⟩ := e22b_r.same hR
  clear hR
  have al := (Below.refl w2.heap.size w2).alloc (Nat.le_refl _) (.cells #[.int .i64 2, .int .i64 0, .string ⟨#[97]⟩, .bool false, .string ⟨#[]⟩, .bool false, .int .i64 0] 35)
  have E2 := hide (E1a.out.of (hb.of al))
  have G2 := hide (((hb.of al).block _ (rowLt G1a.out)).trans G1a.out)
  have Q1 := hide (heap_alloc_new w2 (.cells #[.int .i64 2, .int .i64 0, .string ⟨#[97]⟩, .bool false, .string ⟨#[]⟩, .bool false, .int .i64 0] 35))
  have Q0_ := hide (keepRow Q0.out (hb.of al))
  clear Q0
  have Q0 := Q0_
  clear Q0_
  clear hb al E1a G1a E1 G1 L1
  go_upto_region 3 with (fail)
  generalize w2.alloc (.cells #[.int .i64 2, .int .i64 0, .string ⟨#[97]⟩, .bool false, .string ⟨#[]⟩, .bool false, .int .i64 0] 35) = V2 at *
  have L2 := hide ((Own.lit .u8 5 0 V2 e22c #[.int .u8 63, .int .u8 0] 2 (Nat.zero_le _) (by simp [maxLen]) rfl).rdS)
  have al := (Below.refl V2.heap.size V2).alloc (Nat.le_refl _) (.cells #[.int .u8 63, .int .u8 0] 5)
  have E2a := hide (E2.out.of al)
  have G2a := hide ((al.block _ (rowLt G2.out)).trans G2.out)
  have Q0_ := hide (keepRow Q0.out al)
  clear Q0
  have Q0 := Q0_
  clear Q0_
  have Q1_ := hide (keepRow Q1.out al)
  clear Q1
  have Q1 := Q1_
  clear Q1_
  clear al
  go_wp2_with fail
  refine (get22 _ 2 _ e22c _ L2.out (byt22 (by simp)) (by decide) T fr G2a.out).mono ?_
  rintro e w3 ⟨k, i, ns, a, vs, b, z, m, er, rfl, hR, hb⟩
  obtain ⟨rfl, rfl, rfl, rfl, rfl, rfl, rfl, rfl, rfl⟩ := e22c_r.same hR
  clear hR
  have al := (Below.refl w3.heap.size w3).alloc (Nat.le_refl _) (.cells #[.int .i64 5, .int .i64 0, .string ⟨#[]⟩, .bool false, .string ⟨#[]⟩, .bool false, .int .i64 31] 35)
  have E3 := hide (E2a.out.of (hb.of al))
  have G3 := hide (((hb.of al).block _ (rowLt G2a.out)).trans G2a.out)
  have Q2 := hide (heap_alloc_new w3 (.cells #[.int .i64 5, .int .i64 0, .string ⟨#[]⟩, .bool false, .string ⟨#[]⟩, .bool false, .int .i64 31] 35))
  have Q0_ := hide (keepRow Q0.out (hb.of al))
  clear Q0
  have Q0 := Q0_
  clear Q0_
  have Q1_ := hide (keepRow Q1.out (hb.of al))
  clear Q1
  have Q1 := Q1_
  clear Q1_
  clear hb al E2a G2a E2 G2 L2
  go_upto_region 4 with (fail)
  generalize w3.alloc (.cells #[.int .i64 5, .int .i64 0, .string ⟨#[]⟩, .bool false, .string ⟨#[]⟩, .bool false, .int .i64 31] 35) = V3 at *
  obtain ⟨c0_0, c0_1, c0_2, c0_3, c0_4, c0_5, c0_6⟩ := row7 Q0.out
  obtain ⟨c1_0, c1_1, c1_2, c1_3, c1_4, c1_5, c1_6⟩ := row7 Q1.out
  obtain ⟨c2_0, c2_1, c2_2, c2_3, c2_4, c2_5, c2_6⟩ := row7 Q2.out
  go_wp2_with fail
  go_ret
  exact ⟨by first | rfl | kernel_rfl, E3.out⟩
end Go.Proofs.YtdnfhddahpmnmabDoor
