/- Layer 22: the bytes of one that is right, kind by kind. -/
import Derived.Test.YtdnfhddahpmnmabDoorRp3
namespace Go.Proofs.YtdnfhddahpmnmabDoor
open Go.RowKit Go.PlainAid

set_option maxRecDepth 100000 in
set_option maxHeartbeats 3200000 in
theorem put22_1 (i : Int) (h0 : 0 < i) (hM : i ≤ 2147483647) (w : World) (T : TypeId) (fr : Nat × Nat) (hg : w.heap[0]? = some (.cells formsV T fr)) : Calls Tryd.prog 13 #[.agg #[.int .i64 1, .int .i64 i, .string ⟨#[]⟩, .bool false, .string ⟨#[]⟩, .bool false, .int .i64 0]] w (PutG (pfN 7 i) (pfF 128 7 i) w) := by
  obtain ⟨i0, hi, hz0, hz1, hz2⟩ := info_parts u8_info
  have R0 := hide (heap_alloc_new w (.cells #[.int .i64 1, .int .i64 i, .string ⟨#[]⟩, .bool false, .string ⟨#[]⟩, .bool false, .int .i64 0] 35))
  have e0 := (Below.refl w.heap.size w).alloc (Nat.le_refl _) (.cells #[.int .i64 1, .int .i64 i, .string ⟨#[]⟩, .bool false, .string ⟨#[]⟩, .bool false, .int .i64 0] 35)
  have E0 := hide e0
  have G0 := hide ((e0.block _ (rowLt hg)).trans hg)
  have HE : Hid (pfE 128 7 i = 0) := by
    show _ = _
    exact pfE_fine (by decide) (by omega)
  have hbd := pfN_bd 7 i
  have hw1 : IntKind.i64.wrap i = i := IntWalk.i64_in _ (by omega)
  have hw2 : IntKind.i64.wrap (i + 0) = i := by rw [Int.add_zero]; exact hw1
  have HR : Hid (rpB 1 i ⟨#[]⟩ false ⟨#[]⟩ false 0 = true) := by show _ = _; unfold rpB isN; rw [if_pos rfl, noT_e, decide_eq_true h0, decide_eq_true (show (0 : Int) ≤ i by omega), decide_eq_true hM]; rfl
  clear e0 hg
  go_enter Tryd.func13, Tryd.ntmps13
  obtain ⟨c0, c1, c2, c3, c4, c5, c6⟩ := row7 R0.out
  go_wp2_with fail
  refine (right22 1 i ⟨#[]⟩ false ⟨#[]⟩ false 0 _).mono ?_
  rw [HR.out]
  rintro e w1 ⟨rfl, hb⟩
  have R1 := hide (keepRow R0.out hb)
  have E1 := hide (E0.out.of hb)
  have G1 := hide ((hb.block _ (rowLt G0.out)).trans G0.out)
  clear hb R0 E0 G0 c0 c1 c2 c3 c4 c5 c6
  obtain ⟨c0, c1, c2, c3, c4, c5, c6⟩ := row7 R1.out
  have g0 := forms_at G1.out 2 (.int .i64 128) rfl
  have g1 := forms_at G1.out 3 (.int .i64 7) rfl
  have al := (Below.refl w1.heap.size w1).alloc (Nat.le_refl _) (.cells #[.int .i64 128, .int .i64 7] 67)
  have R2 := hide (keepRow R1.out al)
  have E2 := hide (E1.out.of al)
  have FF := hide (heap_alloc_new w1 (.cells #[.int .i64 128, .int .i64 7] 67))
  clear al
  go_upto_region 4 with (fail)
  clear c0 c1 c2 c3 c4 c5 c6 g0 g1 R1 E1 G1
  generalize hW : w1.alloc (.cells #[.int .i64 128, .int .i64 7] 67) = W2 at *
  clear hW
  obtain ⟨c0, c1, c2, c3, c4, c5, c6⟩ := row7 R2.out
  obtain ⟨x0, x1⟩ := row2 FF.out
  go_wp2_with fail
  refine (pput_any 128 7 i _).mono ?_
  rintro e w3 (⟨h, _⟩ | ⟨_, A1, c1', rfl, ho1, hb1⟩)
  case inl => exact absurd HE.out h
  have E3 := hide (E2.out.of hb1)
  have R3 := hide (keepRow R2.out hb1)
  have Ho3 := hide (ho1.baseB (B' := w.heap.size + 1) (rowLt R2.out))
  have hs3 := rowLt R3.out
  clear hb1 ho1 R2 E2 c0 c1 c2 c3 c4 c5 c6 FF x0 x1
  obtain ⟨c0, c1, c2, c3, c4, c5, c6⟩ := row7 R3.out
  go_wp2_with fail
  go_ret2
  exact ⟨_, rfl, Ho3.out.baseB (Nat.le_succ _), E3.out⟩
set_option maxRecDepth 100000 in
set_option maxHeartbeats 3200000 in
theorem put22_5 (z : Int) (h0 : 0 ≤ z) (hM : z ≤ 2147483647) (w : World) (T : TypeId) (fr : Nat × Nat) (hg : w.heap[0]? = some (.cells formsV T fr)) : Calls Tryd.prog 13 #[.agg #[.int .i64 5, .int .i64 0, .string ⟨#[]⟩, .bool false, .string ⟨#[]⟩, .bool false, .int .i64 z]] w (PutG (pfN 5 z) (pfF 32 5 z) w) := by
  obtain ⟨i0, hi, hz0, hz1, hz2⟩ := info_parts u8_info
  have R0 := hide (heap_alloc_new w (.cells #[.int .i64 5, .int .i64 0, .string ⟨#[]⟩, .bool false, .string ⟨#[]⟩, .bool false, .int .i64 z] 35))
  have e0 := (Below.refl w.heap.size w).alloc (Nat.le_refl _) (.cells #[.int .i64 5, .int .i64 0, .string ⟨#[]⟩, .bool false, .string ⟨#[]⟩, .bool false, .int .i64 z] 35)
  have E0 := hide e0
  have G0 := hide ((e0.block _ (rowLt hg)).trans hg)
  have HE : Hid (pfE 32 5 z = 0) := by
    show _ = _
    exact pfE_fine (by decide) (by omega)
  have hbd := pfN_bd 5 z
  have hw1 : IntKind.i64.wrap z = z := IntWalk.i64_in _ (by omega)
  have hw2 : IntKind.i64.wrap (0 + z) = z := by rw [Int.zero_add]; exact hw1
  have HR : Hid (rpB 5 0 ⟨#[]⟩ false ⟨#[]⟩ false z = true) := by show _ = _; unfold rpB isN; rw [if_neg (by decide), if_neg (by decide), if_pos rfl, noT_e, decide_eq_true h0, decide_eq_true hM]; rfl
  clear e0 hg
  go_enter Tryd.func13, Tryd.ntmps13
  obtain ⟨c0, c1, c2, c3, c4, c5, c6⟩ := row7 R0.out
  go_wp2_with fail
  refine (right22 5 0 ⟨#[]⟩ false ⟨#[]⟩ false z _).mono ?_
  rw [HR.out]
  rintro e w1 ⟨rfl, hb⟩
  have R1 := hide (keepRow R0.out hb)
  have E1 := hide (E0.out.of hb)
  have G1 := hide ((hb.block _ (rowLt G0.out)).trans G0.out)
  clear hb R0 E0 G0 c0 c1 c2 c3 c4 c5 c6
  obtain ⟨c0, c1, c2, c3, c4, c5, c6⟩ := row7 R1.out
  have g0 := forms_at G1.out 10 (.int .i64 32) rfl
  have g1 := forms_at G1.out 11 (.int .i64 5) rfl
  have al := (Below.refl w1.heap.size w1).alloc (Nat.le_refl _) (.cells #[.int .i64 32, .int .i64 5] 67)
  have R2 := hide (keepRow R1.out al)
  have E2 := hide (E1.out.of al)
  have FF := hide (heap_alloc_new w1 (.cells #[.int .i64 32, .int .i64 5] 67))
  clear al
  go_upto_region 4 with (fail)
  clear c0 c1 c2 c3 c4 c5 c6 g0 g1 R1 E1 G1
  generalize hW : w1.alloc (.cells #[.int .i64 32, .int .i64 5] 67) = W2 at *
  clear hW
  obtain ⟨c0, c1, c2, c3, c4, c5, c6⟩ := row7 R2.out
  obtain ⟨x0, x1⟩ := row2 FF.out
  go_wp2_with fail
  refine (pput_any 32 5 z _).mono ?_
  rintro e w3 (⟨h, _⟩ | ⟨_, A1, c1', rfl, ho1, hb1⟩)
  case inl => exact absurd HE.out h
  have E3 := hide (E2.out.of hb1)
  have R3 := hide (keepRow R2.out hb1)
  have Ho3 := hide (ho1.baseB (B' := w.heap.size + 1) (rowLt R2.out))
  have hs3 := rowLt R3.out
  clear hb1 ho1 R2 E2 c0 c1 c2 c3 c4 c5 c6 FF x0 x1
  obtain ⟨c0, c1, c2, c3, c4, c5, c6⟩ := row7 R3.out
  go_wp2_with fail
  go_ret2
  exact ⟨_, rfl, Ho3.out.baseB (Nat.le_succ _), E3.out⟩
set_option maxRecDepth 100000 in
set_option maxHeartbeats 3200000 in
theorem put22_2z (ns : ByteArray) (a : Bool) (vs : ByteArray) (b : Bool) (hns : ns.size ≤ 1000) (hvs : vs.size ≤ 1000) (w : World) (T : TypeId) (fr : Nat × Nat) (hg : w.heap[0]? = some (.cells formsV T fr)) : Calls Tryd.prog 13 #[.agg #[.int .i64 2, .int .i64 0, .string ns, .bool a, .string vs, .bool b, .int .i64 0]] w (PutG (pfN 6 0 + slN ns a + slN vs b) (catF (pfN 6 0 + slN ns a) (catF (pfN 6 0) (pfF 64 6 0) (slF ns a)) (slF vs b)) w) := by
  obtain ⟨i0, hi, hz0, hz1, hz2⟩ := info_parts u8_info
  have R0 := hide (heap_alloc_new w (.cells #[.int .i64 2, .int .i64 0, .string ns, .bool a, .string vs, .bool b, .int .i64 0] 35))
  have e0 := (Below.refl w.heap.size w).alloc (Nat.le_refl _) (.cells #[.int .i64 2, .int .i64 0, .string ns, .bool a, .string vs, .bool b, .int .i64 0] 35)
  have E0 := hide e0
  have G0 := hide ((e0.block _ (rowLt hg)).trans hg)
  have HE : Hid (pfE 64 6 0 = 0) := by show _ = _; exact pfE_fine (by decide) (by decide)
  have hbd := pfN_bd 6 0
  have hl1 := slN_le ns a hns
  have hl2 := slN_le vs b hvs
  have HR : Hid (rpB 2 0 ns a vs b 0 = true) := by show _ = _; unfold rpB isN; rw [if_neg (by decide), if_pos (by decide)]; rfl
  clear e0 hg
  go_enter Tryd.func13, Tryd.ntmps13
  obtain ⟨c0, c1, c2, c3, c4, c5, c6⟩ := row7 R0.out
  go_wp2_with fail
  refine (right22 2 0 ns a vs b 0 _).mono ?_
  rw [HR.out]
  rintro e w1 ⟨rfl, hb⟩
  have R1 := hide (keepRow R0.out hb)
  have E1 := hide (E0.out.of hb)
  have G1 := hide ((hb.block _ (rowLt G0.out)).trans G0.out)
  clear hb R0 E0 G0 c0 c1 c2 c3 c4 c5 c6
  obtain ⟨c0, c1, c2, c3, c4, c5, c6⟩ := row7 R1.out
  have g0 := forms_at G1.out 4 (.int .i64 64) rfl
  have g1 := forms_at G1.out 5 (.int .i64 6) rfl
  have al := (Below.refl w1.heap.size w1).alloc (Nat.le_refl _) (.cells #[.int .i64 64, .int .i64 6] 67)
  have R2 := hide (keepRow R1.out al)
  have E2 := hide (E1.out.of al)
  have FF := hide (heap_alloc_new w1 (.cells #[.int .i64 64, .int .i64 6] 67))
  clear al
  go_upto_region 4 with (fail)
  clear c0 c1 c2 c3 c4 c5 c6 g0 g1 R1 E1 G1
  generalize hW : w1.alloc (.cells #[.int .i64 64, .int .i64 6] 67) = W2 at *
  clear hW
  obtain ⟨c0, c1, c2, c3, c4, c5, c6⟩ := row7 R2.out
  obtain ⟨x0, x1⟩ := row2 FF.out
  go_wp2_with fail
  refine (pput_any 64 6 0 _).mono ?_
  rintro e w3 (⟨h, _⟩ | ⟨_, A1, c1', rfl, ho1, hb1⟩)
  case inl => exact absurd HE.out h
  have E3 := hide (E2.out.of hb1)
  have R3 := hide (keepRow R2.out hb1)
  have Ho3 := hide (ho1.baseB (B' := w.heap.size + 1) (rowLt R2.out))
  have hs3 := rowLt R3.out
  clear hb1 ho1 R2 E2 c0 c1 c2 c3 c4 c5 c6 FF x0 x1
  obtain ⟨c0, c1, c2, c3, c4, c5, c6⟩ := row7 R3.out
  go_wp2_with fail
  refine (sput_any ns a _ hns).mono ?_
  rintro e w4 ⟨v4, rfl, ho, hb⟩
  obtain ⟨A4, d4, rfl, hr, _⟩ := ho.rd
  have Hr4 := hide hr
  have E4 := hide (E3.out.of hb)
  have R4 := hide (keepRow R3.out hb)
  have Ho4 := hide (Ho3.out.below hb)
  have hs4 := rowLt R4.out
  clear hr ho hb Ho3 E3 R3 c0 c1 c2 c3 c4 c5 c6
  obtain ⟨c0, c1, c2, c3, c4, c5, c6⟩ := row7 R4.out
  go_wp2_with (at_builtin; refine wp_app rfl _ _ _ rfl i0 0 1 Tryd.underlying28 hi hz0 hz1 hz2 (w.heap.size + 1) _ (pfN 6 0) _ rfl Ho4.out _ (slN ns a) d4 _ rfl Hr4.out (by simp only [maxLen]; omega) (by omega) hs4 ?_; intro v5 w5 hown hg; have E5 := hide (E4.out.grown hg (by omega) (fun j e => by have := (World.ownsRow.lt Ho4.out j e).1; omega)); have Ho5 := hide hown; have R5 := hide (keepGrown R4.out hg (fun e => by have := (World.ownsRow.lt Ho4.out _ e).1; omega)); have hs5 := rowLt R5.out; clear hown hg c0 c1 c2 c3 c4 c5 c6; obtain ⟨c0, c1, c2, c3, c4, c5, c6⟩ := row7 R5.out)
  refine (sput_any vs b _ hvs).mono ?_
  rintro e w6 ⟨v6, rfl, ho, hb⟩
  obtain ⟨A6, d6, rfl, hr, _⟩ := ho.rd
  have Hr6 := hide hr
  have E6 := hide (E5.out.of hb)
  have R6 := hide (keepRow R5.out hb)
  have Ho6 := hide (Ho5.out.below hb)
  have hs6 := rowLt R6.out
  clear hr ho hb Ho5 E5 R5 c0 c1 c2 c3 c4 c5 c6
  obtain ⟨c0, c1, c2, c3, c4, c5, c6⟩ := row7 R6.out
  go_wp2_with (at_builtin; refine wp_app rfl _ _ _ rfl i0 0 1 Tryd.underlying28 hi hz0 hz1 hz2 (w.heap.size + 1) _ (pfN 6 0 + slN ns a) _ rfl Ho6.out _ (slN vs b) d6 _ rfl Hr6.out (by simp only [maxLen]; omega) (by omega) hs6 ?_; intro v7 w7 hown hg)
  have EF := hide (E6.out.grown hg (by omega) (fun j e => by have := (World.ownsRow.lt Ho6.out j e).1; omega))
  have HoF := hide hown
  clear hown hg
  go_ret2
  exact ⟨_, rfl, HoF.out.baseB (Nat.le_succ _), EF.out⟩
set_option maxRecDepth 100000 in
set_option maxHeartbeats 3200000 in
theorem put22_2n (i : Int) (vs : ByteArray) (b : Bool) (hvs : vs.size ≤ 1000) (h0 : 0 < i) (hM : i ≤ 2147483647) (w : World) (T : TypeId) (fr : Nat × Nat) (hg : w.heap[0]? = some (.cells formsV T fr)) : Calls Tryd.prog 13 #[.agg #[.int .i64 2, .int .i64 i, .string ⟨#[]⟩, .bool false, .string vs, .bool b, .int .i64 0]] w (PutG (pfN 6 i + slN vs b) (catF (pfN 6 i) (pfF 64 6 i) (slF vs b)) w) := by
  obtain ⟨i0, hi, hz0, hz1, hz2⟩ := info_parts u8_info
  have R0 := hide (heap_alloc_new w (.cells #[.int .i64 2, .int .i64 i, .string ⟨#[]⟩, .bool false, .string vs, .bool b, .int .i64 0] 35))
  have e0 := (Below.refl w.heap.size w).alloc (Nat.le_refl _) (.cells #[.int .i64 2, .int .i64 i, .string ⟨#[]⟩, .bool false, .string vs, .bool b, .int .i64 0] 35)
  have E0 := hide e0
  have G0 := hide ((e0.block _ (rowLt hg)).trans hg)
  have HE : Hid (pfE 64 6 i = 0) := by
    show _ = _
    exact pfE_fine (by decide) (by omega)
  have hbd := pfN_bd 6 i
  have hl2 := slN_le vs b hvs
  have t0 : (i == 0) = false := by simp; omega
  have hw1 : IntKind.i64.wrap i = i := IntWalk.i64_in _ (by omega)
  have hw2 : IntKind.i64.wrap (i + 0) = i := by rw [Int.add_zero]; exact hw1
  have HR : Hid (rpB 2 i ⟨#[]⟩ false vs b 0 = true) := by show _ = _; unfold rpB isN; rw [if_neg (by decide), if_pos (by decide), noT_e, decide_eq_true (show (0 : Int) ≤ i by omega), decide_eq_true hM, Bool.or_true]; rfl
  clear e0 hg
  go_enter Tryd.func13, Tryd.ntmps13
  obtain ⟨c0, c1, c2, c3, c4, c5, c6⟩ := row7 R0.out
  go_wp2_with fail
  refine (right22 2 i ⟨#[]⟩ false vs b 0 _).mono ?_
  rw [HR.out]
  rintro e w1 ⟨rfl, hb⟩
  have R1 := hide (keepRow R0.out hb)
  have E1 := hide (E0.out.of hb)
  have G1 := hide ((hb.block _ (rowLt G0.out)).trans G0.out)
  clear hb R0 E0 G0 c0 c1 c2 c3 c4 c5 c6
  obtain ⟨c0, c1, c2, c3, c4, c5, c6⟩ := row7 R1.out
  have g0 := forms_at G1.out 4 (.int .i64 64) rfl
  have g1 := forms_at G1.out 5 (.int .i64 6) rfl
  have al := (Below.refl w1.heap.size w1).alloc (Nat.le_refl _) (.cells #[.int .i64 64, .int .i64 6] 67)
  have R2 := hide (keepRow R1.out al)
  have E2 := hide (E1.out.of al)
  have FF := hide (heap_alloc_new w1 (.cells #[.int .i64 64, .int .i64 6] 67))
  clear al
  go_upto_region 4 with (fail)
  clear c0 c1 c2 c3 c4 c5 c6 g0 g1 R1 E1 G1
  generalize hW : w1.alloc (.cells #[.int .i64 64, .int .i64 6] 67) = W2 at *
  clear hW
  obtain ⟨c0, c1, c2, c3, c4, c5, c6⟩ := row7 R2.out
  obtain ⟨x0, x1⟩ := row2 FF.out
  go_wp2_with fail
  refine (pput_any 64 6 i _).mono ?_
  rintro e w3 (⟨h, _⟩ | ⟨_, A1, c1', rfl, ho1, hb1⟩)
  case inl => exact absurd HE.out h
  have E3 := hide (E2.out.of hb1)
  have R3 := hide (keepRow R2.out hb1)
  have Ho3 := hide (ho1.baseB (B' := w.heap.size + 1) (rowLt R2.out))
  have hs3 := rowLt R3.out
  clear hb1 ho1 R2 E2 c0 c1 c2 c3 c4 c5 c6 FF x0 x1
  obtain ⟨c0, c1, c2, c3, c4, c5, c6⟩ := row7 R3.out
  go_wp2_with fail
  refine (sput_any vs b _ hvs).mono ?_
  rintro e w4 ⟨v4, rfl, ho, hb⟩
  obtain ⟨A4, d4, rfl, hr, _⟩ := ho.rd
  have Hr4 := hide hr
  have E4 := hide (E3.out.of hb)
  have R4 := hide (keepRow R3.out hb)
  have Ho4 := hide (Ho3.out.below hb)
  have hs4 := rowLt R4.out
  clear hr ho hb Ho3 E3 R3 c0 c1 c2 c3 c4 c5 c6
  obtain ⟨c0, c1, c2, c3, c4, c5, c6⟩ := row7 R4.out
  go_wp2_with (at_builtin; refine wp_app rfl _ _ _ rfl i0 0 1 Tryd.underlying28 hi hz0 hz1 hz2 (w.heap.size + 1) _ (pfN 6 i) _ rfl Ho4.out _ (slN vs b) d4 _ rfl Hr4.out (by simp only [maxLen]; omega) (by omega) hs4 ?_; intro v5 w5 hown hg)
  have EF := hide (E4.out.grown hg (by omega) (fun j e => by have := (World.ownsRow.lt Ho4.out j e).1; omega))
  have HoF := hide hown
  clear hown hg
  go_ret2
  exact ⟨_, rfl, HoF.out.baseB (Nat.le_succ _), EF.out⟩
set_option maxRecDepth 100000 in
set_option maxHeartbeats 3200000 in
theorem put22_3z (ns : ByteArray) (a : Bool) (vs : ByteArray) (b : Bool) (hns : ns.size ≤ 1000) (hvs : vs.size ≤ 1000) (w : World) (T : TypeId) (fr : Nat × Nat) (hg : w.heap[0]? = some (.cells formsV T fr)) : Calls Tryd.prog 13 #[.agg #[.int .i64 3, .int .i64 0, .string ns, .bool a, .string vs, .bool b, .int .i64 0]] w (PutG (pfN 4 0 + slN ns a + slN vs b) (catF (pfN 4 0 + slN ns a) (catF (pfN 4 0) (pfF 0 4 0) (slF ns a)) (slF vs b)) w) := by
  obtain ⟨i0, hi, hz0, hz1, hz2⟩ := info_parts u8_info
  have R0 := hide (heap_alloc_new w (.cells #[.int .i64 3, .int .i64 0, .string ns, .bool a, .string vs, .bool b, .int .i64 0] 35))
  have e0 := (Below.refl w.heap.size w).alloc (Nat.le_refl _) (.cells #[.int .i64 3, .int .i64 0, .string ns, .bool a, .string vs, .bool b, .int .i64 0] 35)
  have E0 := hide e0
  have G0 := hide ((e0.block _ (rowLt hg)).trans hg)
  have HE : Hid (pfE 0 4 0 = 0) := by show _ = _; exact pfE_fine (by decide) (by decide)
  have hbd := pfN_bd 4 0
  have hl1 := slN_le ns a hns
  have hl2 := slN_le vs b hvs
  have HR : Hid (rpB 3 0 ns a vs b 0 = true) := by show _ = _; unfold rpB isN; rw [if_neg (by decide), if_pos (by decide)]; rfl
  clear e0 hg
  go_enter Tryd.func13, Tryd.ntmps13
  obtain ⟨c0, c1, c2, c3, c4, c5, c6⟩ := row7 R0.out
  go_wp2_with fail
  refine (right22 3 0 ns a vs b 0 _).mono ?_
  rw [HR.out]
  rintro e w1 ⟨rfl, hb⟩
  have R1 := hide (keepRow R0.out hb)
  have E1 := hide (E0.out.of hb)
  have G1 := hide ((hb.block _ (rowLt G0.out)).trans G0.out)
  clear hb R0 E0 G0 c0 c1 c2 c3 c4 c5 c6
  obtain ⟨c0, c1, c2, c3, c4, c5, c6⟩ := row7 R1.out
  have g0 := forms_at G1.out 6 (.int .i64 0) rfl
  have g1 := forms_at G1.out 7 (.int .i64 4) rfl
  have al := (Below.refl w1.heap.size w1).alloc (Nat.le_refl _) (.cells #[.int .i64 0, .int .i64 4] 67)
  have R2 := hide (keepRow R1.out al)
  have E2 := hide (E1.out.of al)
  have FF := hide (heap_alloc_new w1 (.cells #[.int .i64 0, .int .i64 4] 67))
  clear al
  go_upto_region 4 with (fail)
  clear c0 c1 c2 c3 c4 c5 c6 g0 g1 R1 E1 G1
  generalize hW : w1.alloc (.cells #[.int .i64 0, .int .i64 4] 67) = W2 at *
  clear hW
  obtain ⟨c0, c1, c2, c3, c4, c5, c6⟩ := row7 R2.out
  obtain ⟨x0, x1⟩ := row2 FF.out
  go_wp2_with fail
  refine (pput_any 0 4 0 _).mono ?_
  rintro e w3 (⟨h, _⟩ | ⟨_, A1, c1', rfl, ho1, hb1⟩)
  case inl => exact absurd HE.out h
  have E3 := hide (E2.out.of hb1)
  have R3 := hide (keepRow R2.out hb1)
  have Ho3 := hide (ho1.baseB (B' := w.heap.size + 1) (rowLt R2.out))
  have hs3 := rowLt R3.out
  clear hb1 ho1 R2 E2 c0 c1 c2 c3 c4 c5 c6 FF x0 x1
  obtain ⟨c0, c1, c2, c3, c4, c5, c6⟩ := row7 R3.out
  go_wp2_with fail
  refine (sput_any ns a _ hns).mono ?_
  rintro e w4 ⟨v4, rfl, ho, hb⟩
  obtain ⟨A4, d4, rfl, hr, _⟩ := ho.rd
  have Hr4 := hide hr
  have E4 := hide (E3.out.of hb)
  have R4 := hide (keepRow R3.out hb)
  have Ho4 := hide (Ho3.out.below hb)
  have hs4 := rowLt R4.out
  clear hr ho hb Ho3 E3 R3 c0 c1 c2 c3 c4 c5 c6
  obtain ⟨c0, c1, c2, c3, c4, c5, c6⟩ := row7 R4.out
  go_wp2_with (at_builtin; refine wp_app rfl _ _ _ rfl i0 0 1 Tryd.underlying28 hi hz0 hz1 hz2 (w.heap.size + 1) _ (pfN 4 0) _ rfl Ho4.out _ (slN ns a) d4 _ rfl Hr4.out (by simp only [maxLen]; omega) (by omega) hs4 ?_; intro v5 w5 hown hg; have E5 := hide (E4.out.grown hg (by omega) (fun j e => by have := (World.ownsRow.lt Ho4.out j e).1; omega)); have Ho5 := hide hown; have R5 := hide (keepGrown R4.out hg (fun e => by have := (World.ownsRow.lt Ho4.out _ e).1; omega)); have hs5 := rowLt R5.out; clear hown hg c0 c1 c2 c3 c4 c5 c6; obtain ⟨c0, c1, c2, c3, c4, c5, c6⟩ := row7 R5.out)
  refine (sput_any vs b _ hvs).mono ?_
  rintro e w6 ⟨v6, rfl, ho, hb⟩
  obtain ⟨A6, d6, rfl, hr, _⟩ := ho.rd
  have Hr6 := hide hr
  have E6 := hide (E5.out.of hb)
  have R6 := hide (keepRow R5.out hb)
  have Ho6 := hide (Ho5.out.below hb)
  have hs6 := rowLt R6.out
  clear hr ho hb Ho5 E5 R5 c0 c1 c2 c3 c4 c5 c6
  obtain ⟨c0, c1, c2, c3, c4, c5, c6⟩ := row7 R6.out
  go_wp2_with (at_builtin; refine wp_app rfl _ _ _ rfl i0 0 1 Tryd.underlying28 hi hz0 hz1 hz2 (w.heap.size + 1) _ (pfN 4 0 + slN ns a) _ rfl Ho6.out _ (slN vs b) d6 _ rfl Hr6.out (by simp only [maxLen]; omega) (by omega) hs6 ?_; intro v7 w7 hown hg)
  have EF := hide (E6.out.grown hg (by omega) (fun j e => by have := (World.ownsRow.lt Ho6.out j e).1; omega))
  have HoF := hide hown
  clear hown hg
  go_ret2
  exact ⟨_, rfl, HoF.out.baseB (Nat.le_succ _), EF.out⟩
set_option maxRecDepth 100000 in
set_option maxHeartbeats 3200000 in
theorem put22_3n (i : Int) (vs : ByteArray) (b : Bool) (hvs : vs.size ≤ 1000) (h0 : 0 < i) (hM : i ≤ 2147483647) (w : World) (T : TypeId) (fr : Nat × Nat) (hg : w.heap[0]? = some (.cells formsV T fr)) : Calls Tryd.prog 13 #[.agg #[.int .i64 3, .int .i64 i, .string ⟨#[]⟩, .bool false, .string vs, .bool b, .int .i64 0]] w (PutG (pfN 4 i + slN vs b) (catF (pfN 4 i) (pfF 0 4 i) (slF vs b)) w) := by
  obtain ⟨i0, hi, hz0, hz1, hz2⟩ := info_parts u8_info
  have R0 := hide (heap_alloc_new w (.cells #[.int .i64 3, .int .i64 i, .string ⟨#[]⟩, .bool false, .string vs, .bool b, .int .i64 0] 35))
  have e0 := (Below.refl w.heap.size w).alloc (Nat.le_refl _) (.cells #[.int .i64 3, .int .i64 i, .string ⟨#[]⟩, .bool false, .string vs, .bool b, .int .i64 0] 35)
  have E0 := hide e0
  have G0 := hide ((e0.block _ (rowLt hg)).trans hg)
  have HE : Hid (pfE 0 4 i = 0) := by
    show _ = _
    exact pfE_fine (by decide) (by omega)
  have hbd := pfN_bd 4 i
  have hl2 := slN_le vs b hvs
  have t0 : (i == 0) = false := by simp; omega
  have hw1 : IntKind.i64.wrap i = i := IntWalk.i64_in _ (by omega)
  have hw2 : IntKind.i64.wrap (i + 0) = i := by rw [Int.add_zero]; exact hw1
  have HR : Hid (rpB 3 i ⟨#[]⟩ false vs b 0 = true) := by show _ = _; unfold rpB isN; rw [if_neg (by decide), if_pos (by decide), noT_e, decide_eq_true (show (0 : Int) ≤ i by omega), decide_eq_true hM, Bool.or_true]; rfl
  clear e0 hg
  go_enter Tryd.func13, Tryd.ntmps13
  obtain ⟨c0, c1, c2, c3, c4, c5, c6⟩ := row7 R0.out
  go_wp2_with fail
  refine (right22 3 i ⟨#[]⟩ false vs b 0 _).mono ?_
  rw [HR.out]
  rintro e w1 ⟨rfl, hb⟩
  have R1 := hide (keepRow R0.out hb)
  have E1 := hide (E0.out.of hb)
  have G1 := hide ((hb.block _ (rowLt G0.out)).trans G0.out)
  clear hb R0 E0 G0 c0 c1 c2 c3 c4 c5 c6
  obtain ⟨c0, c1, c2, c3, c4, c5, c6⟩ := row7 R1.out
  have g0 := forms_at G1.out 6 (.int .i64 0) rfl
  have g1 := forms_at G1.out 7 (.int .i64 4) rfl
  have al := (Below.refl w1.heap.size w1).alloc (Nat.le_refl _) (.cells #[.int .i64 0, .int .i64 4] 67)
  have R2 := hide (keepRow R1.out al)
  have E2 := hide (E1.out.of al)
  have FF := hide (heap_alloc_new w1 (.cells #[.int .i64 0, .int .i64 4] 67))
  clear al
  go_upto_region 4 with (fail)
  clear c0 c1 c2 c3 c4 c5 c6 g0 g1 R1 E1 G1
  generalize hW : w1.alloc (.cells #[.int .i64 0, .int .i64 4] 67) = W2 at *
  clear hW
  obtain ⟨c0, c1, c2, c3, c4, c5, c6⟩ := row7 R2.out
  obtain ⟨x0, x1⟩ := row2 FF.out
  go_wp2_with fail
  refine (pput_any 0 4 i _).mono ?_
  rintro e w3 (⟨h, _⟩ | ⟨_, A1, c1', rfl, ho1, hb1⟩)
  case inl => exact absurd HE.out h
  have E3 := hide (E2.out.of hb1)
  have R3 := hide (keepRow R2.out hb1)
  have Ho3 := hide (ho1.baseB (B' := w.heap.size + 1) (rowLt R2.out))
  have hs3 := rowLt R3.out
  clear hb1 ho1 R2 E2 c0 c1 c2 c3 c4 c5 c6 FF x0 x1
  obtain ⟨c0, c1, c2, c3, c4, c5, c6⟩ := row7 R3.out
  go_wp2_with fail
  refine (sput_any vs b _ hvs).mono ?_
  rintro e w4 ⟨v4, rfl, ho, hb⟩
  obtain ⟨A4, d4, rfl, hr, _⟩ := ho.rd
  have Hr4 := hide hr
  have E4 := hide (E3.out.of hb)
  have R4 := hide (keepRow R3.out hb)
  have Ho4 := hide (Ho3.out.below hb)
  have hs4 := rowLt R4.out
  clear hr ho hb Ho3 E3 R3 c0 c1 c2 c3 c4 c5 c6
  obtain ⟨c0, c1, c2, c3, c4, c5, c6⟩ := row7 R4.out
  go_wp2_with (at_builtin; refine wp_app rfl _ _ _ rfl i0 0 1 Tryd.underlying28 hi hz0 hz1 hz2 (w.heap.size + 1) _ (pfN 4 i) _ rfl Ho4.out _ (slN vs b) d4 _ rfl Hr4.out (by simp only [maxLen]; omega) (by omega) hs4 ?_; intro v5 w5 hown hg)
  have EF := hide (E4.out.grown hg (by omega) (fun j e => by have := (World.ownsRow.lt Ho4.out j e).1; omega))
  have HoF := hide hown
  clear hown hg
  go_ret2
  exact ⟨_, rfl, HoF.out.baseB (Nat.le_succ _), EF.out⟩
set_option maxRecDepth 100000 in
set_option maxHeartbeats 3200000 in
theorem put22_4z (ns : ByteArray) (a : Bool) (vs : ByteArray) (b : Bool) (hns : ns.size ≤ 1000) (hvs : vs.size ≤ 1000) (w : World) (T : TypeId) (fr : Nat × Nat) (hg : w.heap[0]? = some (.cells formsV T fr)) : Calls Tryd.prog 13 #[.agg #[.int .i64 4, .int .i64 0, .string ns, .bool a, .string vs, .bool b, .int .i64 0]] w (PutG (pfN 4 0 + slN ns a + slN vs b) (catF (pfN 4 0 + slN ns a) (catF (pfN 4 0) (pfF 16 4 0) (slF ns a)) (slF vs b)) w) := by
  obtain ⟨i0, hi, hz0, hz1, hz2⟩ := info_parts u8_info
  have R0 := hide (heap_alloc_new w (.cells #[.int .i64 4, .int .i64 0, .string ns, .bool a, .string vs, .bool b, .int .i64 0] 35))
  have e0 := (Below.refl w.heap.size w).alloc (Nat.le_refl _) (.cells #[.int .i64 4, .int .i64 0, .string ns, .bool a, .string vs, .bool b, .int .i64 0] 35)
  have E0 := hide e0
  have G0 := hide ((e0.block _ (rowLt hg)).trans hg)
  have HE : Hid (pfE 16 4 0 = 0) := by show _ = _; exact pfE_fine (by decide) (by decide)
  have hbd := pfN_bd 4 0
  have hl1 := slN_le ns a hns
  have hl2 := slN_le vs b hvs
  have HR : Hid (rpB 4 0 ns a vs b 0 = true) := by show _ = _; unfold rpB isN; rw [if_neg (by decide), if_pos (by decide)]; rfl
  clear e0 hg
  go_enter Tryd.func13, Tryd.ntmps13
  obtain ⟨c0, c1, c2, c3, c4, c5, c6⟩ := row7 R0.out
  go_wp2_with fail
  refine (right22 4 0 ns a vs b 0 _).mono ?_
  rw [HR.out]
  rintro e w1 ⟨rfl, hb⟩
  have R1 := hide (keepRow R0.out hb)
  have E1 := hide (E0.out.of hb)
  have G1 := hide ((hb.block _ (rowLt G0.out)).trans G0.out)
  clear hb R0 E0 G0 c0 c1 c2 c3 c4 c5 c6
  obtain ⟨c0, c1, c2, c3, c4, c5, c6⟩ := row7 R1.out
  have g0 := forms_at G1.out 8 (.int .i64 16) rfl
  have g1 := forms_at G1.out 9 (.int .i64 4) rfl
  have al := (Below.refl w1.heap.size w1).alloc (Nat.le_refl _) (.cells #[.int .i64 16, .int .i64 4] 67)
  have R2 := hide (keepRow R1.out al)
  have E2 := hide (E1.out.of al)
  have FF := hide (heap_alloc_new w1 (.cells #[.int .i64 16, .int .i64 4] 67))
  clear al
  go_upto_region 4 with (fail)
  clear c0 c1 c2 c3 c4 c5 c6 g0 g1 R1 E1 G1
  generalize hW : w1.alloc (.cells #[.int .i64 16, .int .i64 4] 67) = W2 at *
  clear hW
  obtain ⟨c0, c1, c2, c3, c4, c5, c6⟩ := row7 R2.out
  obtain ⟨x0, x1⟩ := row2 FF.out
  go_wp2_with fail
  refine (pput_any 16 4 0 _).mono ?_
  rintro e w3 (⟨h, _⟩ | ⟨_, A1, c1', rfl, ho1, hb1⟩)
  case inl => exact absurd HE.out h
  have E3 := hide (E2.out.of hb1)
  have R3 := hide (keepRow R2.out hb1)
  have Ho3 := hide (ho1.baseB (B' := w.heap.size + 1) (rowLt R2.out))
  have hs3 := rowLt R3.out
  clear hb1 ho1 R2 E2 c0 c1 c2 c3 c4 c5 c6 FF x0 x1
  obtain ⟨c0, c1, c2, c3, c4, c5, c6⟩ := row7 R3.out
  go_wp2_with fail
  refine (sput_any ns a _ hns).mono ?_
  rintro e w4 ⟨v4, rfl, ho, hb⟩
  obtain ⟨A4, d4, rfl, hr, _⟩ := ho.rd
  have Hr4 := hide hr
  have E4 := hide (E3.out.of hb)
  have R4 := hide (keepRow R3.out hb)
  have Ho4 := hide (Ho3.out.below hb)
  have hs4 := rowLt R4.out
  clear hr ho hb Ho3 E3 R3 c0 c1 c2 c3 c4 c5 c6
  obtain ⟨c0, c1, c2, c3, c4, c5, c6⟩ := row7 R4.out
  go_wp2_with (at_builtin; refine wp_app rfl _ _ _ rfl i0 0 1 Tryd.underlying28 hi hz0 hz1 hz2 (w.heap.size + 1) _ (pfN 4 0) _ rfl Ho4.out _ (slN ns a) d4 _ rfl Hr4.out (by simp only [maxLen]; omega) (by omega) hs4 ?_; intro v5 w5 hown hg; have E5 := hide (E4.out.grown hg (by omega) (fun j e => by have := (World.ownsRow.lt Ho4.out j e).1; omega)); have Ho5 := hide hown; have R5 := hide (keepGrown R4.out hg (fun e => by have := (World.ownsRow.lt Ho4.out _ e).1; omega)); have hs5 := rowLt R5.out; clear hown hg c0 c1 c2 c3 c4 c5 c6; obtain ⟨c0, c1, c2, c3, c4, c5, c6⟩ := row7 R5.out)
  refine (sput_any vs b _ hvs).mono ?_
  rintro e w6 ⟨v6, rfl, ho, hb⟩
  obtain ⟨A6, d6, rfl, hr, _⟩ := ho.rd
  have Hr6 := hide hr
  have E6 := hide (E5.out.of hb)
  have R6 := hide (keepRow R5.out hb)
  have Ho6 := hide (Ho5.out.below hb)
  have hs6 := rowLt R6.out
  clear hr ho hb Ho5 E5 R5 c0 c1 c2 c3 c4 c5 c6
  obtain ⟨c0, c1, c2, c3, c4, c5, c6⟩ := row7 R6.out
  go_wp2_with (at_builtin; refine wp_app rfl _ _ _ rfl i0 0 1 Tryd.underlying28 hi hz0 hz1 hz2 (w.heap.size + 1) _ (pfN 4 0 + slN ns a) _ rfl Ho6.out _ (slN vs b) d6 _ rfl Hr6.out (by simp only [maxLen]; omega) (by omega) hs6 ?_; intro v7 w7 hown hg)
  have EF := hide (E6.out.grown hg (by omega) (fun j e => by have := (World.ownsRow.lt Ho6.out j e).1; omega))
  have HoF := hide hown
  clear hown hg
  go_ret2
  exact ⟨_, rfl, HoF.out.baseB (Nat.le_succ _), EF.out⟩
set_option maxRecDepth 100000 in
set_option maxHeartbeats 3200000 in
theorem put22_4n (i : Int) (vs : ByteArray) (b : Bool) (hvs : vs.size ≤ 1000) (h0 : 0 < i) (hM : i ≤ 2147483647) (w : World) (T : TypeId) (fr : Nat × Nat) (hg : w.heap[0]? = some (.cells formsV T fr)) : Calls Tryd.prog 13 #[.agg #[.int .i64 4, .int .i64 i, .string ⟨#[]⟩, .bool false, .string vs, .bool b, .int .i64 0]] w (PutG (pfN 4 i + slN vs b) (catF (pfN 4 i) (pfF 16 4 i) (slF vs b)) w) := by
  obtain ⟨i0, hi, hz0, hz1, hz2⟩ := info_parts u8_info
  have R0 := hide (heap_alloc_new w (.cells #[.int .i64 4, .int .i64 i, .string ⟨#[]⟩, .bool false, .string vs, .bool b, .int .i64 0] 35))
  have e0 := (Below.refl w.heap.size w).alloc (Nat.le_refl _) (.cells #[.int .i64 4, .int .i64 i, .string ⟨#[]⟩, .bool false, .string vs, .bool b, .int .i64 0] 35)
  have E0 := hide e0
  have G0 := hide ((e0.block _ (rowLt hg)).trans hg)
  have HE : Hid (pfE 16 4 i = 0) := by
    show _ = _
    exact pfE_fine (by decide) (by omega)
  have hbd := pfN_bd 4 i
  have hl2 := slN_le vs b hvs
  have t0 : (i == 0) = false := by simp; omega
  have hw1 : IntKind.i64.wrap i = i := IntWalk.i64_in _ (by omega)
  have hw2 : IntKind.i64.wrap (i + 0) = i := by rw [Int.add_zero]; exact hw1
  have HR : Hid (rpB 4 i ⟨#[]⟩ false vs b 0 = true) := by show _ = _; unfold rpB isN; rw [if_neg (by decide), if_pos (by decide), noT_e, decide_eq_true (show (0 : Int) ≤ i by omega), decide_eq_true hM, Bool.or_true]; rfl
  clear e0 hg
  go_enter Tryd.func13, Tryd.ntmps13
  obtain ⟨c0, c1, c2, c3, c4, c5, c6⟩ := row7 R0.out
  go_wp2_with fail
  refine (right22 4 i ⟨#[]⟩ false vs b 0 _).mono ?_
  rw [HR.out]
  rintro e w1 ⟨rfl, hb⟩
  have R1 := hide (keepRow R0.out hb)
  have E1 := hide (E0.out.of hb)
  have G1 := hide ((hb.block _ (rowLt G0.out)).trans G0.out)
  clear hb R0 E0 G0 c0 c1 c2 c3 c4 c5 c6
  obtain ⟨c0, c1, c2, c3, c4, c5, c6⟩ := row7 R1.out
  have g0 := forms_at G1.out 8 (.int .i64 16) rfl
  have g1 := forms_at G1.out 9 (.int .i64 4) rfl
  have al := (Below.refl w1.heap.size w1).alloc (Nat.le_refl _) (.cells #[.int .i64 16, .int .i64 4] 67)
  have R2 := hide (keepRow R1.out al)
  have E2 := hide (E1.out.of al)
  have FF := hide (heap_alloc_new w1 (.cells #[.int .i64 16, .int .i64 4] 67))
  clear al
  go_upto_region 4 with (fail)
  clear c0 c1 c2 c3 c4 c5 c6 g0 g1 R1 E1 G1
  generalize hW : w1.alloc (.cells #[.int .i64 16, .int .i64 4] 67) = W2 at *
  clear hW
  obtain ⟨c0, c1, c2, c3, c4, c5, c6⟩ := row7 R2.out
  obtain ⟨x0, x1⟩ := row2 FF.out
  go_wp2_with fail
  refine (pput_any 16 4 i _).mono ?_
  rintro e w3 (⟨h, _⟩ | ⟨_, A1, c1', rfl, ho1, hb1⟩)
  case inl => exact absurd HE.out h
  have E3 := hide (E2.out.of hb1)
  have R3 := hide (keepRow R2.out hb1)
  have Ho3 := hide (ho1.baseB (B' := w.heap.size + 1) (rowLt R2.out))
  have hs3 := rowLt R3.out
  clear hb1 ho1 R2 E2 c0 c1 c2 c3 c4 c5 c6 FF x0 x1
  obtain ⟨c0, c1, c2, c3, c4, c5, c6⟩ := row7 R3.out
  go_wp2_with fail
  refine (sput_any vs b _ hvs).mono ?_
  rintro e w4 ⟨v4, rfl, ho, hb⟩
  obtain ⟨A4, d4, rfl, hr, _⟩ := ho.rd
  have Hr4 := hide hr
  have E4 := hide (E3.out.of hb)
  have R4 := hide (keepRow R3.out hb)
  have Ho4 := hide (Ho3.out.below hb)
  have hs4 := rowLt R4.out
  clear hr ho hb Ho3 E3 R3 c0 c1 c2 c3 c4 c5 c6
  obtain ⟨c0, c1, c2, c3, c4, c5, c6⟩ := row7 R4.out
  go_wp2_with (at_builtin; refine wp_app rfl _ _ _ rfl i0 0 1 Tryd.underlying28 hi hz0 hz1 hz2 (w.heap.size + 1) _ (pfN 4 i) _ rfl Ho4.out _ (slN vs b) d4 _ rfl Hr4.out (by simp only [maxLen]; omega) (by omega) hs4 ?_; intro v5 w5 hown hg)
  have EF := hide (E4.out.grown hg (by omega) (fun j e => by have := (World.ownsRow.lt Ho4.out j e).1; omega))
  have HoF := hide hown
  clear hown hg
  go_ret2
  exact ⟨_, rfl, HoF.out.baseB (Nat.le_succ _), EF.out⟩
end Go.Proofs.YtdnfhddahpmnmabDoor
