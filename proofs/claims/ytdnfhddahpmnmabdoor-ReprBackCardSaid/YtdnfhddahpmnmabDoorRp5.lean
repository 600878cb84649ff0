/- Layer 22: the bytes of one that is right, kind by kind. -/
import Derived.Test.YtdnfhddahpmnmabDoorRp3
namespace Go.Proofs.YtdnfhddahpmnmabDoor
open Go.RowKit Go.PlainAid

set_option maxRecDepth 100000 in
set_option maxHeartbeats 3200000 in
theorem rput22_1 (i : Int) (h0 : 0 < i) (hM : i ≤ 2147483647) (w : World) : Calls Tryd.prog 18 #[.agg #[.int .i64 1, .int .i64 i, .string ⟨#[]⟩, .bool false, .string ⟨#[]⟩, .bool false, .int .i64 0]] w (Cloned w (pfN 7 i) (pfF 128 7 i)) := by
  obtain ⟨i0, hi, hz0, hz1, hz2⟩ := info_parts u8_info
  have R0 := hide (heap_alloc_new w (.cells #[.int .i64 1, .int .i64 i, .string ⟨#[]⟩, .bool false, .string ⟨#[]⟩, .bool false, .int .i64 0] 27))
  have e0 := (Below.refl w.heap.size w).alloc (Nat.le_refl _) (.cells #[.int .i64 1, .int .i64 i, .string ⟨#[]⟩, .bool false, .string ⟨#[]⟩, .bool false, .int .i64 0] 27)
  have E0 := hide e0
  have HE : Hid (pfE 128 7 i = 0) := by
    show _ = _
    exact pfE_fine (by decide) (by omega)
  have hbd := pfN_bd 7 i
  have hw1 : IntKind.i64.wrap i = i := IntWalk.i64_in _ (by omega)
  have hw2 : IntKind.i64.wrap (i + 0) = i := by rw [Int.add_zero]; exact hw1
  clear e0
  go_enter Tryd.func18, Tryd.ntmps18
  obtain ⟨c0, c1, c2, c3, c4, c5, c6⟩ := row7 R0.out
  go_wp2_with fail
  refine (rbegin22 1 (by decide) _).mono ?_
  rw [show fst22 1 = 128 by decide, show bit22 1 = 7 by decide]
  rintro e w1 ⟨rfl, rfl⟩
  have R2 := R0
  have E2 := E0
  clear R0 E0
  go_wp2_with fail
  refine (rpput_any 128 7 i _).mono ?_
  rintro e w3 (⟨h, _⟩ | ⟨_, A1, c1', rfl, ho1, hb1⟩)
  case inl => exact absurd HE.out h
  have E3 := hide (E2.out.of hb1)
  have R3 := hide (keepRow R2.out hb1)
  have Ho3 := hide (ho1.baseB (B' := w.heap.size + 1) (rowLt R2.out))
  have hs3 := rowLt R3.out
  clear hb1 ho1 R2 E2 c0 c1 c2 c3 c4 c5 c6
  obtain ⟨c0, c1, c2, c3, c4, c5, c6⟩ := row7 R3.out
  go_wp2_with fail
  go_ret
  exact ⟨_, rfl, Ho3.out.baseB (Nat.le_succ _), E3.out⟩
set_option maxRecDepth 100000 in
set_option maxHeartbeats 3200000 in
theorem rput22_5 (z : Int) (h0 : 0 ≤ z) (hM : z ≤ 2147483647) (w : World) : Calls Tryd.prog 18 #[.agg #[.int .i64 5, .int .i64 0, .string ⟨#[]⟩, .bool false, .string ⟨#[]⟩, .bool false, .int .i64 z]] w (Cloned w (pfN 5 z) (pfF 32 5 z)) := by
  obtain ⟨i0, hi, hz0, hz1, hz2⟩ := info_parts u8_info
  have R0 := hide (heap_alloc_new w (.cells #[.int .i64 5, .int .i64 0, .string ⟨#[]⟩, .bool false, .string ⟨#[]⟩, .bool false, .int .i64 z] 27))
  have e0 := (Below.refl w.heap.size w).alloc (Nat.le_refl _) (.cells #[.int .i64 5, .int .i64 0, .string ⟨#[]⟩, .bool false, .string ⟨#[]⟩, .bool false, .int .i64 z] 27)
  have E0 := hide e0
  have HE : Hid (pfE 32 5 z = 0) := by
    show _ = _
    exact pfE_fine (by decide) (by omega)
  have hbd := pfN_bd 5 z
  have hw1 : IntKind.i64.wrap z = z := IntWalk.i64_in _ (by omega)
  have hw2 : IntKind.i64.wrap (0 + z) = z := by rw [Int.zero_add]; exact hw1
  clear e0
  go_enter Tryd.func18, Tryd.ntmps18
  obtain ⟨c0, c1, c2, c3, c4, c5, c6⟩ := row7 R0.out
  go_wp2_with fail
  refine (rbegin22 5 (by decide) _).mono ?_
  rw [show fst22 5 = 32 by decide, show bit22 5 = 5 by decide]
  rintro e w1 ⟨rfl, rfl⟩
  have R2 := R0
  have E2 := E0
  clear R0 E0
  go_wp2_with fail
  refine (rpput_any 32 5 z _).mono ?_
  rintro e w3 (⟨h, _⟩ | ⟨_, A1, c1', rfl, ho1, hb1⟩)
  case inl => exact absurd HE.out h
  have E3 := hide (E2.out.of hb1)
  have R3 := hide (keepRow R2.out hb1)
  have Ho3 := hide (ho1.baseB (B' := w.heap.size + 1) (rowLt R2.out))
  have hs3 := rowLt R3.out
  clear hb1 ho1 R2 E2 c0 c1 c2 c3 c4 c5 c6
  obtain ⟨c0, c1, c2, c3, c4, c5, c6⟩ := row7 R3.out
  go_wp2_with fail
  go_ret
  exact ⟨_, rfl, Ho3.out.baseB (Nat.le_succ _), E3.out⟩
set_option maxRecDepth 100000 in
set_option maxHeartbeats 3200000 in
theorem rput22_2z (ns : ByteArray) (a : Bool) (vs : ByteArray) (b : Bool) (hns : ns.size ≤ 1000) (hvs : vs.size ≤ 1000) (w : World) : Calls Tryd.prog 18 #[.agg #[.int .i64 2, .int .i64 0, .string ns, .bool a, .string vs, .bool b, .int .i64 0]] w (Cloned w (pfN 6 0 + slN ns a + slN vs b) (catF (pfN 6 0 + slN ns a) (catF (pfN 6 0) (pfF 64 6 0) (slF ns a)) (slF vs b))) := by
  obtain ⟨i0, hi, hz0, hz1, hz2⟩ := info_parts u8_info
  have R0 := hide (heap_alloc_new w (.cells #[.int .i64 2, .int .i64 0, .string ns, .bool a, .string vs, .bool b, .int .i64 0] 27))
  have e0 := (Below.refl w.heap.size w).alloc (Nat.le_refl _) (.cells #[.int .i64 2, .int .i64 0, .string ns, .bool a, .string vs, .bool b, .int .i64 0] 27)
  have E0 := hide e0
  have HE : Hid (pfE 64 6 0 = 0) := by show _ = _; exact pfE_fine (by decide) (by decide)
  have hbd := pfN_bd 6 0
  have hl1 := slN_le ns a hns
  have hl2 := slN_le vs b hvs
  clear e0
  go_enter Tryd.func18, Tryd.ntmps18
  obtain ⟨c0, c1, c2, c3, c4, c5, c6⟩ := row7 R0.out
  go_wp2_with fail
  refine (rbegin22 2 (by decide) _).mono ?_
  rw [show fst22 2 = 64 by decide, show bit22 2 = 6 by decide]
  rintro e w1 ⟨rfl, rfl⟩
  have R2 := R0
  have E2 := E0
  clear R0 E0
  go_wp2_with fail
  refine (rpput_any 64 6 0 _).mono ?_
  rintro e w3 (⟨h, _⟩ | ⟨_, A1, c1', rfl, ho1, hb1⟩)
  case inl => exact absurd HE.out h
  have E3 := hide (E2.out.of hb1)
  have R3 := hide (keepRow R2.out hb1)
  have Ho3 := hide (ho1.baseB (B' := w.heap.size + 1) (rowLt R2.out))
  have hs3 := rowLt R3.out
  clear hb1 ho1 R2 E2 c0 c1 c2 c3 c4 c5 c6
  obtain ⟨c0, c1, c2, c3, c4, c5, c6⟩ := row7 R3.out
  go_wp2_with fail
  refine (rsput_any ns a _ hns).mono ?_
  rintro e w4 ⟨v4, rfl, ho, hb⟩
  obtain ⟨A4, d4, rfl, hr, _⟩ := ho.rd
  have Hr4 := hide hr
  have E4 := hide (E3.out.of hb)
  have R4 := hide (keepRow R3.out hb)
  have Ho4 := hide (Ho3.out.below hb)
  have hs4 := rowLt R4.out
  clear hr ho hb Ho3 E3 R3 c0 c1 c2 c3 c4 c5 c6
  obtain ⟨c0, c1, c2, c3, c4, c5, c6⟩ := row7 R4.out
  go_wp2_with (at_builtin; refine wp_app rfl _ _ _ rfl i0 0 1 Tryd.underlying28 hi hz0 hz1 hz2 (w.heap.size + 1) _ (pfN 6 0) _ rfl Ho4.out _ (slN ns a) d4 _ rfl Hr4.out (by simp only [maxLen]; omega) (by omega) hs4 ?_; intro v5 w5 hown hg; have E5 := hide (E4.out.grown hg (by omega) (fun j e => by have := (World.ownsRow.lt Ho4.out j e).1; omega)); have Ho5 := hide hown; have R5 := hide (keepGrown R4.out hg (fun e => by have := (World.ownsRow.lt Ho4.out _ e).1; omega)); have hs5 := rowLt R5.out; clear hown hg c0 c1 c2 c3 c4 c5 c6; obtain ⟨c0, c1, c2, c3, c4, c5, c6⟩ := row7 R5.out)
  refine (rsput_any vs b _ hvs).mono ?_
  rintro e w6 ⟨v6, rfl, ho, hb⟩
  obtain ⟨A6, d6, rfl, hr, _⟩ := ho.rd
  have Hr6 := hide hr
  have E6 := hide (E5.out.of hb)
  have R6 := hide (keepRow R5.out hb)
  have Ho6 := hide (Ho5.out.below hb)
  have hs6 := rowLt R6.out
  clear hr ho hb Ho5 E5 R5 c0 c1 c2 c3 c4 c5 c6
  obtain ⟨c0, c1, c2, c3, c4, c5, c6⟩ := row7 R6.out
  go_wp2_with (at_builtin; refine wp_app rfl _ _ _ rfl i0 0 1 Tryd.underlying28 hi hz0 hz1 hz2 (w.heap.size + 1) _ (pfN 6 0 + slN ns a) _ rfl Ho6.out _ (slN vs b) d6 _ rfl Hr6.out (by simp only [maxLen]; omega) (by omega) hs6 ?_; intro v7 w7 hown hg)
  have EF := hide (E6.out.grown hg (by omega) (fun j e => by have := (World.ownsRow.lt Ho6.out j e).1; omega))
  have HoF := hide hown
  clear hown hg
  go_ret
  exact ⟨_, rfl, HoF.out.baseB (Nat.le_succ _), EF.out⟩
set_option maxRecDepth 100000 in
set_option maxHeartbeats 3200000 in
theorem rput22_2n (i : Int) (vs : ByteArray) (b : Bool) (hvs : vs.size ≤ 1000) (h0 : 0 < i) (hM : i ≤ 2147483647) (w : World) : Calls Tryd.prog 18 #[.agg #[.int .i64 2, .int .i64 i, .string ⟨#[]⟩, .bool false, .string vs, .bool b, .int .i64 0]] w (Cloned w (pfN 6 i + slN vs b) (catF (pfN 6 i) (pfF 64 6 i) (slF vs b))) := by
  obtain ⟨i0, hi, hz0, hz1, hz2⟩ := info_parts u8_info
  have R0 := hide (heap_alloc_new w (.cells #[.int .i64 2, .int .i64 i, .string ⟨#[]⟩, .bool false, .string vs, .bool b, .int .i64 0] 27))
  have e0 := (Below.refl w.heap.size w).alloc (Nat.le_refl _) (.cells #[.int .i64 2, .int .i64 i, .string ⟨#[]⟩, .bool false, .string vs, .bool b, .int .i64 0] 27)
  have E0 := hide e0
  have HE : Hid (pfE 64 6 i = 0) := by
    show _ = _
    exact pfE_fine (by decide) (by omega)
  have hbd := pfN_bd 6 i
  have hl2 := slN_le vs b hvs
  have t0 : (i == 0) = false := by simp; omega
  have hw1 : IntKind.i64.wrap i = i := IntWalk.i64_in _ (by omega)
  have hw2 : IntKind.i64.wrap (i + 0) = i := by rw [Int.add_zero]; exact hw1
  clear e0
  go_enter Tryd.func18, Tryd.ntmps18
  obtain ⟨c0, c1, c2, c3, c4, c5, c6⟩ := row7 R0.out
  go_wp2_with fail
  refine (rbegin22 2 (by decide) _).mono ?_
  rw [show fst22 2 = 64 by decide, show bit22 2 = 6 by decide]
  rintro e w1 ⟨rfl, rfl⟩
  have R2 := R0
  have E2 := E0
  clear R0 E0
  go_wp2_with fail
  refine (rpput_any 64 6 i _).mono ?_
  rintro e w3 (⟨h, _⟩ | ⟨_, A1, c1', rfl, ho1, hb1⟩)
  case inl => exact absurd HE.out h
  have E3 := hide (E2.out.of hb1)
  have R3 := hide (keepRow R2.out hb1)
  have Ho3 := hide (ho1.baseB (B' := w.heap.size + 1) (rowLt R2.out))
  have hs3 := rowLt R3.out
  clear hb1 ho1 R2 E2 c0 c1 c2 c3 c4 c5 c6
  obtain ⟨c0, c1, c2, c3, c4, c5, c6⟩ := row7 R3.out
  go_wp2_with fail
  refine (rsput_any vs b _ hvs).mono ?_
  rintro e w4 ⟨v4, rfl, ho, hb⟩
  obtain ⟨A4, d4, rfl, hr, _⟩ := ho.rd
  have Hr4 := hide hr
  have E4 := hide (E3.out.of hb)
  have R4 := hide (keepRow R3.out hb)
  have Ho4 := hide (Ho3.out.below hb)
  have hs4 := rowLt R4.out
  clear hr ho hb Ho3 E3 R3 c0 c1 c2 c3 c4 c5 c6
  obtain ⟨c0, c1, c2, c3, c4, c5, c6⟩ := row7 R4.out
  go_wp2_with (at_builtin; refine wp_app rfl _ _ _ rfl i0 0 1 Tryd.underlying28 hi hz0 hz1 hz2 (w.heap.size + 1) _ (pfN 6 i) _ rfl Ho4.out _ (slN vs b) d4 _ rfl Hr4.out (by simp only [maxLen]; omega) (by omega) hs4 ?_; intro v5 w5 hown hg)
  have EF := hide (E4.out.grown hg (by omega) (fun j e => by have := (World.ownsRow.lt Ho4.out j e).1; omega))
  have HoF := hide hown
  clear hown hg
  go_ret
  exact ⟨_, rfl, HoF.out.baseB (Nat.le_succ _), EF.out⟩
set_option maxRecDepth 100000 in
set_option maxHeartbeats 3200000 in
theorem rput22_3z (ns : ByteArray) (a : Bool) (vs : ByteArray) (b : Bool) (hns : ns.size ≤ 1000) (hvs : vs.size ≤ 1000) (w : World) : Calls Tryd.prog 18 #[.agg #[.int .i64 3, .int .i64 0, .string ns, .bool a, .string vs, .bool b, .int .i64 0]] w (Cloned w (pfN 4 0 + slN ns a + slN vs b) (catF (pfN 4 0 + slN ns a) (catF (pfN 4 0) (pfF 0 4 0) (slF ns a)) (slF vs b))) := by
  obtain ⟨i0, hi, hz0, hz1, hz2⟩ := info_parts u8_info
  have R0 := hide (heap_alloc_new w (.cells #[.int .i64 3, .int .i64 0, .string ns, .bool a, .string vs, .bool b, .int .i64 0] 27))
  have e0 := (Below.refl w.heap.size w).alloc (Nat.le_refl _) (.cells #[.int .i64 3, .int .i64 0, .string ns, .bool a, .string vs, .bool b, .int .i64 0] 27)
  have E0 := hide e0
  have HE : Hid (pfE 0 4 0 = 0) := by show _ = _; exact pfE_fine (by decide) (by decide)
  have hbd := pfN_bd 4 0
  have hl1 := slN_le ns a hns
  have hl2 := slN_le vs b hvs
  clear e0
  go_enter Tryd.func18, Tryd.ntmps18
  obtain ⟨c0, c1, c2, c3, c4, c5, c6⟩ := row7 R0.out
  go_wp2_with fail
  refine (rbegin22 3 (by decide) _).mono ?_
  rw [show fst22 3 = 0 by decide, show bit22 3 = 4 by decide]
  rintro e w1 ⟨rfl, rfl⟩
  have R2 := R0
  have E2 := E0
  clear R0 E0
  go_wp2_with fail
  refine (rpput_any 0 4 0 _).mono ?_
  rintro e w3 (⟨h, _⟩ | ⟨_, A1, c1', rfl, ho1, hb1⟩)
  case inl => exact absurd HE.out h
  have E3 := hide (E2.out.of hb1)
  have R3 := hide (keepRow R2.out hb1)
  have Ho3 := hide (ho1.baseB (B' := w.heap.size + 1) (rowLt R2.out))
  have hs3 := rowLt R3.out
  clear hb1 ho1 R2 E2 c0 c1 c2 c3 c4 c5 c6
  obtain ⟨c0, c1, c2, c3, c4, c5, c6⟩ := row7 R3.out
  go_wp2_with fail
  refine (rsput_any ns a _ hns).mono ?_
  rintro e w4 ⟨v4, rfl, ho, hb⟩
  obtain ⟨A4, d4, rfl, hr, _⟩ := ho.rd
  have Hr4 := hide hr
  have E4 := hide (E3.out.of hb)
  have R4 := hide (keepRow R3.out hb)
  have Ho4 := hide (Ho3.out.below hb)
  have hs4 := rowLt R4.out
  clear hr ho hb Ho3 E3 R3 c0 c1 c2 c3 c4 c5 c6
  obtain ⟨c0, c1, c2, c3, c4, c5, c6⟩ := row7 R4.out
  go_wp2_with (at_builtin; refine wp_app rfl _ _ _ rfl i0 0 1 Tryd.underlying28 hi hz0 hz1 hz2 (w.heap.size + 1) _ (pfN 4 0) _ rfl Ho4.out _ (slN ns a) d4 _ rfl Hr4.out (by simp only [maxLen]; omega) (by omega) hs4 ?_; intro v5 w5 hown hg; have E5 := hide (E4.out.grown hg (by omega) (fun j e => by have := (World.ownsRow.lt Ho4.out j e).1; omega)); have Ho5 := hide hown; have R5 := hide (keepGrown R4.out hg (fun e => by have := (World.ownsRow.lt Ho4.out _ e).1; omega)); have hs5 := rowLt R5.out; clear hown hg c0 c1 c2 c3 c4 c5 c6; obtain ⟨c0, c1, c2, c3, c4, c5, c6⟩ := row7 R5.out)
  refine (rsput_any vs b _ hvs).mono ?_
  rintro e w6 ⟨v6, rfl, ho, hb⟩
  obtain ⟨A6, d6, rfl, hr, _⟩ := ho.rd
  have Hr6 := hide hr
  have E6 := hide (E5.out.of hb)
  have R6 := hide (keepRow R5.out hb)
  have Ho6 := hide (Ho5.out.below hb)
  have hs6 := rowLt R6.out
  clear hr ho hb Ho5 E5 R5 c0 c1 c2 c3 c4 c5 c6
  obtain ⟨c0, c1, c2, c3, c4, c5, c6⟩ := row7 R6.out
  go_wp2_with (at_builtin; refine wp_app rfl _ _ _ rfl i0 0 1 Tryd.underlying28 hi hz0 hz1 hz2 (w.heap.size + 1) _ (pfN 4 0 + slN ns a) _ rfl Ho6.out _ (slN vs b) d6 _ rfl Hr6.out (by simp only [maxLen]; omega) (by omega) hs6 ?_; intro v7 w7 hown hg)
  have EF := hide (E6.out.grown hg (by omega) (fun j e => by have := (World.ownsRow.lt Ho6.out j e).1; omega))
  have HoF := hide hown
  clear hown hg
  go_ret
  exact ⟨_, rfl, HoF.out.baseB (Nat.le_succ _), EF.out⟩
set_option maxRecDepth 100000 in
set_option maxHeartbeats 3200000 in
theorem rput22_3n (i : Int) (vs : ByteArray) (b : Bool) (hvs : vs.size ≤ 1000) (h0 : 0 < i) (hM : i ≤ 2147483647) (w : World) : Calls Tryd.prog 18 #[.agg #[.int .i64 3, .int .i64 i, .string ⟨#[]⟩, .bool false, .string vs, .bool b, .int .i64 0]] w (Cloned w (pfN 4 i + slN vs b) (catF (pfN 4 i) (pfF 0 4 i) (slF vs b))) := by
  obtain ⟨i0, hi, hz0, hz1, hz2⟩ := info_parts u8_info
  have R0 := hide (heap_alloc_new w (.cells #[.int .i64 3, .int .i64 i, .string ⟨#[]⟩, .bool false, .string vs, .bool b, .int .i64 0] 27))
  have e0 := (Below.refl w.heap.size w).alloc (Nat.le_refl _) (.cells #[.int .i64 3, .int .i64 i, .string ⟨#[]⟩, .bool false, .string vs, .bool b, .int .i64 0] 27)
  have E0 := hide e0
  have HE : Hid (pfE 0 4 i = 0) := by
    show _ = _
    exact pfE_fine (by decide) (by omega)
  have hbd := pfN_bd 4 i
  have hl2 := slN_le vs b hvs
  have t0 : (i == 0) = false := by simp; omega
  have hw1 : IntKind.i64.wrap i = i := IntWalk.i64_in _ (by omega)
  have hw2 : IntKind.i64.wrap (i + 0) = i := by rw [Int.add_zero]; exact hw1
  clear e0
  go_enter Tryd.func18, Tryd.ntmps18
  obtain ⟨c0, c1, c2, c3, c4, c5, c6⟩ := row7 R0.out
  go_wp2_with fail
  refine (rbegin22 3 (by decide) _).mono ?_
  rw [show fst22 3 = 0 by decide, show bit22 3 = 4 by decide]
  rintro e w1 ⟨rfl, rfl⟩
  have R2 := R0
  have E2 := E0
  clear R0 E0
  go_wp2_with fail
  refine (rpput_any 0 4 i _).mono ?_
  rintro e w3 (⟨h, _⟩ | ⟨_, A1, c1', rfl, ho1, hb1⟩)
  case inl => exact absurd HE.out h
  have E3 := hide (E2.out.of hb1)
  have R3 := hide (keepRow R2.out hb1)
  have Ho3 := hide (ho1.baseB (B' := w.heap.size + 1) (rowLt R2.out))
  have hs3 := rowLt R3.out
  clear hb1 ho1 R2 E2 c0 c1 c2 c3 c4 c5 c6
  obtain ⟨c0, c1, c2, c3, c4, c5, c6⟩ := row7 R3.out
  go_wp2_with fail
  refine (rsput_any vs b _ hvs).mono ?_
  rintro e w4 ⟨v4, rfl, ho, hb⟩
  obtain ⟨A4, d4, rfl, hr, _⟩ := ho.rd
  have Hr4 := hide hr
  have E4 := hide (E3.out.of hb)
  have R4 := hide (keepRow R3.out hb)
  have Ho4 := hide (Ho3.out.below hb)
  have hs4 := rowLt R4.out
  clear hr ho hb Ho3 E3 R3 c0 c1 c2 c3 c4 c5 c6
  obtain ⟨c0, c1, c2, c3, c4, c5, c6⟩ := row7 R4.out
  go_wp2_with (at_builtin; refine wp_app rfl _ _ _ rfl i0 0 1 Tryd.underlying28 hi hz0 hz1 hz2 (w.heap.size + 1) _ (pfN 4 i) _ rfl Ho4.out _ (slN vs b) d4 _ rfl Hr4.out (by simp only [maxLen]; omega) (by omega) hs4 ?_; intro v5 w5 hown hg)
  have EF := hide (E4.out.grown hg (by omega) (fun j e => by have := (World.ownsRow.lt Ho4.out j e).1; omega))
  have HoF := hide hown
  clear hown hg
  go_ret
  exact ⟨_, rfl, HoF.out.baseB (Nat.le_succ _), EF.out⟩
set_option maxRecDepth 100000 in
set_option maxHeartbeats 3200000 in
theorem rput22_4z (ns : ByteArray) (a : Bool) (vs : ByteArray) (b : Bool) (hns : ns.size ≤ 1000) (hvs : vs.size ≤ 1000) (w : World) : Calls Tryd.prog 18 #[.agg #[.int .i64 4, .int .i64 0, .string ns, .bool a, .string vs, .bool b, .int .i64 0]] w (Cloned w (pfN 4 0 + slN ns a + slN vs b) (catF (pfN 4 0 + slN ns a) (catF (pfN 4 0) (pfF 16 4 0) (slF ns a)) (slF vs b))) := by
  obtain ⟨i0, hi, hz0, hz1, hz2⟩ := info_parts u8_info
  have R0 := hide (heap_alloc_new w (.cells #[.int .i64 4, .int .i64 0, .string ns, .bool a, .string vs, .bool b, .int .i64 0] 27))
  have e0 := (Below.refl w.heap.size w).alloc (Nat.le_refl _) (.cells #[.int .i64 4, .int .i64 0, .string ns, .bool a, .string vs, .bool b, .int .i64 0] 27)
  have E0 := hide e0
  have HE : Hid (pfE 16 4 0 = 0) := by show _ = _; exact pfE_fine (by decide) (by decide)
  have hbd := pfN_bd 4 0
  have hl1 := slN_le ns a hns
  have hl2 := slN_le vs b hvs
  clear e0
  go_enter Tryd.func18, Tryd.ntmps18
  obtain ⟨c0, c1, c2, c3, c4, c5, c6⟩ := row7 R0.out
  go_wp2_with fail
  refine (rbegin22 4 (by decide) _).mono ?_
  rw [show fst22 4 = 16 by decide, show bit22 4 = 4 by decide]
  rintro e w1 ⟨rfl, rfl⟩
  have R2 := R0
  have E2 := E0
  clear R0 E0
  go_wp2_with fail
  refine (rpput_any 16 4 0 _).mono ?_
  rintro e w3 (⟨h, _⟩ | ⟨_, A1, c1', rfl, ho1, hb1⟩)
  case inl => exact absurd HE.out h
  have E3 := hide (E2.out.of hb1)
  have R3 := hide (keepRow R2.out hb1)
  have Ho3 := hide (ho1.baseB (B' := w.heap.size + 1) (rowLt R2.out))
  have hs3 := rowLt R3.out
  clear hb1 ho1 R2 E2 c0 c1 c2 c3 c4 c5 c6
  obtain ⟨c0, c1, c2, c3, c4, c5, c6⟩ := row7 R3.out
  go_wp2_with fail
  refine (rsput_any ns a _ hns).mono ?_
  rintro e w4 ⟨v4, rfl, ho, hb⟩
  obtain ⟨A4, d4, rfl, hr, _⟩ := ho.rd
  have Hr4 := hide hr
  have E4 := hide (E3.out.of hb)
  have R4 := hide (keepRow R3.out hb)
  have Ho4 := hide (Ho3.out.below hb)
  have hs4 := rowLt R4.out
  clear hr ho hb Ho3 E3 R3 c0 c1 c2 c3 c4 c5 c6
  obtain ⟨c0, c1, c2, c3, c4, c5, c6⟩ := row7 R4.out
  go_wp2_with (at_builtin; refine wp_app rfl _ _ _ rfl i0 0 1 Tryd.underlying28 hi hz0 hz1 hz2 (w.heap.size + 1) _ (pfN 4 0) _ rfl Ho4.out _ (slN ns a) d4 _ rfl Hr4.out (by simp only [maxLen]; omega) (by omega) hs4 ?_; intro v5 w5 hown hg; have E5 := hide (E4.out.grown hg (by omega) (fun j e => by have := (World.ownsRow.lt Ho4.out j e).1; omega)); have Ho5 := hide hown; have R5 := hide (keepGrown R4.out hg (fun e => by have := (World.ownsRow.lt Ho4.out _ e).1; omega)); have hs5 := rowLt R5.out; clear hown hg c0 c1 c2 c3 c4 c5 c6; obtain ⟨c0, c1, c2, c3, c4, c5, c6⟩ := row7 R5.out)
  refine (rsput_any vs b _ hvs).mono ?_
  rintro e w6 ⟨v6, rfl, ho, hb⟩
  obtain ⟨A6, d6, rfl, hr, _⟩ := ho.rd
  have Hr6 := hide hr
  have E6 := hide (E5.out.of hb)
  have R6 := hide (keepRow R5.out hb)
  have Ho6 := hide (Ho5.out.below hb)
  have hs6 := rowLt R6.out
  clear hr ho hb Ho5 E5 R5 c0 c1 c2 c3 c4 c5 c6
  obtain ⟨c0, c1, c2, c3, c4, c5, c6⟩ := row7 R6.out
  go_wp2_with (at_builtin; refine wp_app rfl _ _ _ rfl i0 0 1 Tryd.underlying28 hi hz0 hz1 hz2 (w.heap.size + 1) _ (pfN 4 0 + slN ns a) _ rfl Ho6.out _ (slN vs b) d6 _ rfl Hr6.out (by simp only [maxLen]; omega) (by omega) hs6 ?_; intro v7 w7 hown hg)
  have EF := hide (E6.out.grown hg (by omega) (fun j e => by have := (World.ownsRow.lt Ho6.out j e).1; omega))
  have HoF := hide hown
  clear hown hg
  go_ret
  exact ⟨_, rfl, HoF.out.baseB (Nat.le_succ _), EF.out⟩
set_option maxRecDepth 100000 in
set_option maxHeartbeats 3200000 in
theorem rput22_4n (i : Int) (vs : ByteArray) (b : Bool) (hvs : vs.size ≤ 1000) (h0 : 0 < i) (hM : i ≤ 2147483647) (w : World) : Calls Tryd.prog 18 #[.agg #[.int .i64 4, .int .i64 i, .string ⟨#[]⟩, .bool false, .string vs, .bool b, .int .i64 0]] w (Cloned w (pfN 4 i + slN vs b) (catF (pfN 4 i) (pfF 16 4 i) (slF vs b))) := by
  obtain ⟨i0, hi, hz0, hz1, hz2⟩ := info_parts u8_info
  have R0 := hide (heap_alloc_new w (.cells #[.int .i64 4, .int .i64 i, .string ⟨#[]⟩, .bool false, .string vs, .bool b, .int .i64 0] 27))
  have e0 := (Below.refl w.heap.size w).alloc (Nat.le_refl _) (.cells #[.int .i64 4, .int .i64 i, .string ⟨#[]⟩, .bool false, .string vs, .bool b, .int .i64 0] 27)
  have E0 := hide e0
  have HE : Hid (pfE 16 4 i = 0) := by
    show _ = _
    exact pfE_fine (by decide) (by omega)
  have hbd := pfN_bd 4 i
  have hl2 := slN_le vs b hvs
  have t0 : (i == 0) = false := by simp; omega
  have hw1 : IntKind.i64.wrap i = i := IntWalk.i64_in _ (by omega)
  have hw2 : IntKind.i64.wrap (i + 0) = i := by rw [Int.add_zero]; exact hw1
  clear e0
  go_enter Tryd.func18, Tryd.ntmps18
  obtain ⟨c0, c1, c2, c3, c4, c5, c6⟩ := row7 R0.out
  go_wp2_with fail
  refine (rbegin22 4 (by decide) _).mono ?_
  rw [show fst22 4 = 16 by decide, show bit22 4 = 4 by decide]
  rintro e w1 ⟨rfl, rfl⟩
  have R2 := R0
  have E2 := E0
  clear R0 E0
  go_wp2_with fail
  refine (rpput_any 16 4 i _).mono ?_
  rintro e w3 (⟨h, _⟩ | ⟨_, A1, c1', rfl, ho1, hb1⟩)
  case inl => exact absurd HE.out h
  have E3 := hide (E2.out.of hb1)
  have R3 := hide (keepRow R2.out hb1)
  have Ho3 := hide (ho1.baseB (B' := w.heap.size + 1) (rowLt R2.out))
  have hs3 := rowLt R3.out
  clear hb1 ho1 R2 E2 c0 c1 c2 c3 c4 c5 c6
  obtain ⟨c0, c1, c2, c3, c4, c5, c6⟩ := row7 R3.out
  go_wp2_with fail
  refine (rsput_any vs b _ hvs).mono ?_
  rintro e w4 ⟨v4, rfl, ho, hb⟩
  obtain ⟨A4, d4, rfl, hr, _⟩ := ho.rd
  have Hr4 := hide hr
  have E4 := hide (E3.out.of hb)
  have R4 := hide (keepRow R3.out hb)
  have Ho4 := hide (Ho3.out.below hb)
  have hs4 := rowLt R4.out
  clear hr ho hb Ho3 E3 R3 c0 c1 c2 c3 c4 c5 c6
  obtain ⟨c0, c1, c2, c3, c4, c5, c6⟩ := row7 R4.out
  go_wp2_with (at_builtin; refine wp_app rfl _ _ _ rfl i0 0 1 Tryd.underlying28 hi hz0 hz1 hz2 (w.heap.size + 1) _ (pfN 4 i) _ rfl Ho4.out _ (slN vs b) d4 _ rfl Hr4.out (by simp only [maxLen]; omega) (by omega) hs4 ?_; intro v5 w5 hown hg)
  have EF := hide (E4.out.grown hg (by omega) (fun j e => by have := (World.ownsRow.lt Ho4.out j e).1; omega))
  have HoF := hide hown
  clear hown hg
  go_ret
  exact ⟨_, rfl, HoF.out.baseB (Nat.le_succ _), EF.out⟩
end Go.Proofs.YtdnfhddahpmnmabDoor
