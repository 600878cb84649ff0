/- Layer 19: texts' bytes, the program's and the reference's; the examples; the walk of the law on putting. -/
import Derived.Test.YteijpklepgenbaaPfx7
import Derived.Test.YteijpklepgenbaaHuI
import Derived.Test.YteijpklepgenbaaSlB
namespace Go.Proofs.Yteijpklepgenbaa
open Go.RowKit Go.PlainAid

/-- A text's bytes as they stand in a block: how many, which; with the number ahead. -/
def txN (s : ByteArray) (sh : Bool) : Nat := if sh then (enT (bt s) s.size + 7) / 8 else s.size
def txF (s : ByteArray) (sh : Bool) : Nat → Int := if sh then byF (enG (bt s) s.size) (enT (bt s) s.size) else bt s
def fst19 (sh : Bool) : Int := if sh then 128 else 0
def slN (s : ByteArray) (sh : Bool) : Nat := pfN 7 (txN s sh : Nat) + txN s sh
def slF (s : ByteArray) (sh : Bool) : Nat → Int := catF (pfN 7 (txN s sh : Nat)) (pfF (fst19 sh) 7 (txN s sh : Nat)) (txF s sh)
theorem pfE19 (sh : Bool) {m : Nat} (hm : m ≤ 2147483647) : pfE (fst19 sh) 7 (m : Int) = 0 := by
  have e : p8 7 = 128 := by decide
  refine pfE_fine ?_ (by omega)
  rw [e]
  cases sh <;> simp [fst19]
theorem txN_le (s : ByteArray) (sh : Bool) : txN s sh ≤ 4 * s.size := by
  have h := enT_le (bt_byt s) s.size (Nat.le_refl _)
  unfold txN
  split <;> omega
theorem tx_byt (s : ByteArray) (sh : Bool) : Byt (txN s sh) (txF s sh) := by
  unfold txN txF
  cases sh
  · exact bt_byt s
  · exact hbyF_byt (fun i _ => enG_bd s.size i) _
set_option maxHeartbeats 1600000 in
theorem sput_plain (s : ByteArray) (w : World) (hs : s.size ≤ 1000) : Calls Try.prog 8 #[.string s, .bool false] w (Cloned w (slN s false) (slF s false)) := by
  obtain ⟨i0, hi, hz0, hz1, hz2⟩ := info_parts u8_info
  have kb := fun (w : World) => run_bytes_of_string (P := Try.prog) w 9 24 5 s Try.underlying9 Try.underlying24 Try.underlying5
  have HE : Hid (pfE 0 7 (s.size : Int) = 0) := pfE19 false (by omega)
  have hbd := pfN_bd 7 (s.size : Int)
  go_enter Try.func8, Try.ntmps8
  go_wp2_with fail
  have Hr := hide (bytes_rd w s 5 (by simp only [maxLen]; omega))
  have HB : Hid (Below w.heap.size w (w.alloc (.cells (bytesRow s (grownCap w s.size 0 5)) 5 ((bytesRow s (grownCap w s.size 0 5)).size, (bytesRow s (grownCap w s.size 0 5)).size + 1))).drew) := ((Below.refl _ _).alloc (Nat.le_refl _) _).drew
  generalize grownCap w s.size 0 5 = cp at *
  clear kb
  refine (pput_any 0 7 s.size _).mono ?_
  rintro e w2 (⟨h, _⟩ | ⟨_, A1, c1, rfl, ho1, hb1⟩)
  case inl => exact absurd HE.out h
  have Hr1 := hide (Hr.out.below hb1)
  have HB1 := hide (HB.out.of hb1)
  have Ho1 := hide (ho1.baseB HB.out.size)
  have hs1 := HB1.out.size
  clear hb1 ho1 Hr HB
  go_wp2_with (at_builtin; refine wp_app rfl _ _ _ rfl i0 0 1 Try.underlying24 hi hz0 hz1 hz2 w.heap.size _ (pfN 7 s.size) _ rfl Ho1.out _ s.size cp _ rfl Hr1.out (by simp only [maxLen]; omega) (by omega) hs1 ?_; intro v3 w3 hown3 hg3)
  go_ret
  exact ⟨_, rfl, hown3, HB1.out.grown hg3 hs1 (fun j e => (World.ownsRow.lt Ho1.out j e).1)⟩
set_option maxHeartbeats 1600000 in
theorem rsput_plain (s : ByteArray) (w : World) (hs : s.size ≤ 1000) : Calls Try.prog 9 #[.string s, .bool false] w (Cloned w (slN s false) (slF s false)) := by
  obtain ⟨i0, hi, hz0, hz1, hz2⟩ := info_parts u8_info
  have kb := fun (w : World) => run_bytes_of_string (P := Try.prog) w 9 24 5 s Try.underlying9 Try.underlying24 Try.underlying5
  have HE : Hid (pfE 0 7 (s.size : Int) = 0) := pfE19 false (by omega)
  have hbd := pfN_bd 7 (s.size : Int)
  go_enter Try.func9, Try.ntmps9
  go_wp2_with fail
  have Hr := hide (bytes_rd w s 5 (by simp only [maxLen]; omega))
  have HB : Hid (Below w.heap.size w (w.alloc (.cells (bytesRow s (grownCap w s.size 0 5)) 5 ((bytesRow s (grownCap w s.size 0 5)).size, (bytesRow s (grownCap w s.size 0 5)).size + 1))).drew) := ((Below.refl _ _).alloc (Nat.le_refl _) _).drew
  generalize grownCap w s.size 0 5 = cp at *
  clear kb
  refine (rpput_any 0 7 s.size _).mono ?_
  rintro e w2 (⟨h, _⟩ | ⟨_, A1, c1, rfl, ho1, hb1⟩)
  case inl => exact absurd HE.out h
  have Hr1 := hide (Hr.out.below hb1)
  have HB1 := hide (HB.out.of hb1)
  have Ho1 := hide (ho1.baseB HB.out.size)
  have hs1 := HB1.out.size
  clear hb1 ho1 Hr HB
  go_wp2_with (at_builtin; refine wp_app rfl _ _ _ rfl i0 0 1 Try.underlying24 hi hz0 hz1 hz2 w.heap.size _ (pfN 7 s.size) _ rfl Ho1.out _ s.size cp _ rfl Hr1.out (by simp only [maxLen]; omega) (by omega) hs1 ?_; intro v3 w3 hown3 hg3)
  go_ret
  exact ⟨_, rfl, hown3, HB1.out.grown hg3 hs1 (fun j e => (World.ownsRow.lt Ho1.out j e).1)⟩
set_option maxHeartbeats 1600000 in
theorem sput_short (s : ByteArray) (w : World) (hs : s.size ≤ 1000) : Calls Try.prog 8 #[.string s, .bool true] w (Cloned w (slN s true) (slF s true)) := by
  obtain ⟨i0, hi, hz0, hz1, hz2⟩ := info_parts u8_info
  have kb := fun (w : World) => run_bytes_of_string (P := Try.prog) w 9 24 5 s Try.underlying9 Try.underlying24 Try.underlying5
  have HE : Hid (pfE 128 7 (((enT (bt s) s.size + 7) / 8 : Nat) : Int) = 0) := pfE19 true (by have := txN_le s true; simp only [txN] at this; simp at this; omega)
  have hle : (enT (bt s) s.size + 7) / 8 ≤ 4000 := by have := txN_le s true; simp only [txN] at this; simp at this; omega
  have HR : Hid (∀ v w', Own .u8 5 w.heap.size w' v (pfN 7 (((enT (bt s) s.size + 7) / 8 : Nat) : Int) + (enT (bt s) s.size + 7) / 8) (catF (pfN 7 (((enT (bt s) s.size + 7) / 8 : Nat) : Int)) (pfF 128 7 (((enT (bt s) s.size + 7) / 8 : Nat) : Int)) (byF (enG (bt s) s.size) (enT (bt s) s.size))) → Own .u8 5 w.heap.size w' v (slN s true) (slF s true)) := fun _ _ h => h
  have HEn := hide (fun (A : Option Addr) (c : Nat) (W : World) (h : Rd .u8 W A s.size c (bt s)) => encode_any A s.size c (bt s) W h (bt_byt s) (by omega))
  generalize byF (enG (bt s) s.size) (enT (bt s) s.size) = tf at *
  generalize (enT (bt s) s.size + 7) / 8 = tn at *
  have hbd := pfN_bd 7 (tn : Int)
  go_enter Try.func8, Try.ntmps8
  go_wp2_with fail
  have Hr := hide (bytes_rd w s 5 (by simp only [maxLen]; omega))
  have HB : Hid (Below w.heap.size w (w.alloc (.cells (bytesRow s (grownCap w s.size 0 5)) 5 ((bytesRow s (grownCap w s.size 0 5)).size, (bytesRow s (grownCap w s.size 0 5)).size + 1))).drew) := ((Below.refl _ _).alloc (Nat.le_refl _) _).drew
  generalize grownCap w s.size 0 5 = cp at *
  clear kb
  refine (HEn.out _ cp _ Hr.out).mono ?_
  rintro e w1 ⟨v1, rfl, ho, hb⟩
  obtain ⟨A0, c0, rfl, hr0, _⟩ := ho.rd
  have Hr0 := hide hr0
  have HB0 := hide (HB.out.of hb)
  clear ho hb hr0 Hr HB HEn
  go_wp2_with fail
  refine (pput_any 128 7 tn _).mono ?_
  rintro e w2 (⟨h, _⟩ | ⟨_, A1, c1, rfl, ho1, hb1⟩)
  case inl => exact absurd HE.out h
  have Hr1 := hide (Hr0.out.below hb1)
  have HB1 := hide (HB0.out.of hb1)
  have Ho1 := hide (ho1.baseB HB0.out.size)
  have hs1 := HB1.out.size
  clear hb1 ho1 Hr0 HB0
  go_wp2_with (at_builtin; refine wp_app rfl _ _ _ rfl i0 0 1 Try.underlying24 hi hz0 hz1 hz2 w.heap.size _ (pfN 7 tn) _ rfl Ho1.out _ tn c0 _ rfl Hr1.out (by simp only [maxLen]; omega) (by omega) hs1 ?_; intro v3 w3 hown3 hg3)
  go_ret
  exact ⟨_, rfl, HR.out _ _ hown3, HB1.out.grown hg3 hs1 (fun j e => (World.ownsRow.lt Ho1.out j e).1)⟩
set_option maxHeartbeats 1600000 in
theorem rsput_short (s : ByteArray) (w : World) (hs : s.size ≤ 1000) : Calls Try.prog 9 #[.string s, .bool true] w (Cloned w (slN s true) (slF s true)) := by
  obtain ⟨i0, hi, hz0, hz1, hz2⟩ := info_parts u8_info
  have kb := fun (w : World) => run_bytes_of_string (P := Try.prog) w 9 24 5 s Try.underlying9 Try.underlying24 Try.underlying5
  have HE : Hid (pfE 128 7 (((enT (bt s) s.size + 7) / 8 : Nat) : Int) = 0) := pfE19 true (by have := txN_le s true; simp only [txN] at this; simp at this; omega)
  have hle : (enT (bt s) s.size + 7) / 8 ≤ 4000 := by have := txN_le s true; simp only [txN] at this; simp at this; omega
  have HR : Hid (∀ v w', Own .u8 5 w.heap.size w' v (pfN 7 (((enT (bt s) s.size + 7) / 8 : Nat) : Int) + (enT (bt s) s.size + 7) / 8) (catF (pfN 7 (((enT (bt s) s.size + 7) / 8 : Nat) : Int)) (pfF 128 7 (((enT (bt s) s.size + 7) / 8 : Nat) : Int)) (byF (enG (bt s) s.size) (enT (bt s) s.size))) → Own .u8 5 w.heap.size w' v (slN s true) (slF s true)) := fun _ _ h => h
  have HEn := hide (fun (A : Option Addr) (c : Nat) (W : World) (h : Rd .u8 W A s.size c (bt s)) => rencode_any A s.size c (bt s) W h (bt_byt s) (by omega))
  generalize byF (enG (bt s) s.size) (enT (bt s) s.size) = tf at *
  generalize (enT (bt s) s.size + 7) / 8 = tn at *
  have hbd := pfN_bd 7 (tn : Int)
  go_enter Try.func9, Try.ntmps9
  go_wp2_with fail
  have Hr := hide (bytes_rd w s 5 (by simp only [maxLen]; omega))
  have HB : Hid (Below w.heap.size w (w.alloc (.cells (bytesRow s (grownCap w s.size 0 5)) 5 ((bytesRow s (grownCap w s.size 0 5)).size, (bytesRow s (grownCap w s.size 0 5)).size + 1))).drew) := ((Below.refl _ _).alloc (Nat.le_refl _) _).drew
  generalize grownCap w s.size 0 5 = cp at *
  clear kb
  refine (HEn.out _ cp _ Hr.out).mono ?_
  rintro e w1 ⟨v1, rfl, ho, hb⟩
  obtain ⟨A0, c0, rfl, hr0, _⟩ := ho.rd
  have Hr0 := hide hr0
  have HB0 := hide (HB.out.of hb)
  clear ho hb hr0 Hr HB HEn
  go_wp2_with fail
  refine (rpput_any 128 7 tn _).mono ?_
  rintro e w2 (⟨h, _⟩ | ⟨_, A1, c1, rfl, ho1, hb1⟩)
  case inl => exact absurd HE.out h
  have Hr1 := hide (Hr0.out.below hb1)
  have HB1 := hide (HB0.out.of hb1)
  have Ho1 := hide (ho1.baseB HB0.out.size)
  have hs1 := HB1.out.size
  clear hb1 ho1 Hr0 HB0
  go_wp2_with (at_builtin; refine wp_app rfl _ _ _ rfl i0 0 1 Try.underlying24 hi hz0 hz1 hz2 w.heap.size _ (pfN 7 tn) _ rfl Ho1.out _ tn c0 _ rfl Hr1.out (by simp only [maxLen]; omega) (by omega) hs1 ?_; intro v3 w3 hown3 hg3)
  go_ret
  exact ⟨_, rfl, HR.out _ _ hown3, HB1.out.grown hg3 hs1 (fun j e => (World.ownsRow.lt Ho1.out j e).1)⟩
theorem sput_any (s : ByteArray) (sh : Bool) (w : World) (hs : s.size ≤ 1000) : Calls Try.prog 8 #[.string s, .bool sh] w (Cloned w (slN s sh) (slF s sh)) := by
  cases sh
  · exact sput_plain s w hs
  · exact sput_short s w hs
theorem rsput_any (s : ByteArray) (sh : Bool) (w : World) (hs : s.size ≤ 1000) : Calls Try.prog 9 #[.string s, .bool sh] w (Cloned w (slN s sh) (slF s sh)) := by
  cases sh
  · exact rsput_plain s w hs
  · exact rsput_short s w hs
def lit19 (x y z : Int) : Nat → Int := fun i => if i = 0 then x else if i = 1 then y else z
theorem rd_lit19 (w : World) (x y z : Int) : Rd .u8 (w.alloc (.cells #[.int .u8 x, .int .u8 y, .int .u8 z] 5)) (some ⟨w.heap.size, 0, none⟩) 3 3 (lit19 x y z) := by
  obtain ⟨A, c, e1, h, _⟩ := (Own.lit .u8 5 0 w (lit19 x y z) #[.int .u8 x, .int .u8 y, .int .u8 z] 3 (Nat.zero_le _) (by simp [maxLen]) rfl).rd
  injection e1 with e1 _ e2
  subst e1
  subst e2
  exact h
theorem ex19 (sh : Bool) : slN ⟨#[97, 98]⟩ sh = 3 ∧ ∀ i, i < 3 → slF ⟨#[97, 98]⟩ sh i = (if sh then lit19 130 28 127 else lit19 2 97 98) i := by
  cases sh
  · refine ⟨by decide +kernel, fun i hi => ?_⟩
    have : i = 0 ∨ i = 1 ∨ i = 2 := by omega
    rcases this with rfl | rfl | rfl <;> decide +kernel
  · refine ⟨by decide +kernel, fun i hi => ?_⟩
    have : i = 0 ∨ i = 1 ∨ i = 2 := by omega
    rcases this with rfl | rfl | rfl <;> decide +kernel
set_option maxHeartbeats 1600000 in
theorem alive19 (w : World) : Calls Try.prog 6 #[] w (Yes w) := by
  go_enter Try.func6, Try.ntmps6
  go_wp2_with fail
  refine (sput_any ⟨#[97, 98]⟩ false _ (by decide)).mono ?_
  rintro e w1 ⟨v1, rfl, ho1, hb1⟩
  rw [(ex19 false).1] at ho1
  obtain ⟨A1, c1, rfl, hr1, _⟩ := ho1.rd
  have Hr1 := hide (hr1.congr (ex19 false).2)
  have HB1 := hide hb1
  clear ho1 hr1 hb1
  go_wp2_with fail
  refine (rsame_yes _ _ 3 _ _ (lit19 2 97 98) (lit19 2 97 98) _ (Hr1.out.alloc _) (rd_lit19 w1 2 97 98) (fun _ _ => rfl)).mono ?_
  rintro e w2 ⟨rfl, hd2⟩
  have HB2 := hide (HB1.out.of (((Below.refl w1.heap.size w1).alloc (Nat.le_refl _) (.cells #[.int .u8 2, .int .u8 97, .int .u8 98] 5)).trans (drawn_below hd2 _)))
  clear hd2 Hr1 HB1
  go_wp2_with fail
  refine (sput_any ⟨#[97, 98]⟩ true _ (by decide)).mono ?_
  rintro e w3 ⟨v3, rfl, ho3, hb3⟩
  rw [(ex19 true).1] at ho3
  obtain ⟨A3, c3, rfl, hr3, _⟩ := ho3.rd
  have Hr3 := hide (hr3.congr (ex19 true).2)
  have HB3 := hide (HB2.out.of hb3)
  clear ho3 hr3 hb3 HB2
  go_wp2_with fail
  refine (rsame_yes _ _ 3 _ _ (lit19 130 28 127) (lit19 130 28 127) _ (Hr3.out.alloc _) (rd_lit19 w3 130 28 127) (fun _ _ => rfl)).mono ?_
  rintro e w4 ⟨rfl, hd4⟩
  have HB4 := hide (HB3.out.of (((Below.refl w3.heap.size w3).alloc (Nat.le_refl _) (.cells #[.int .u8 130, .int .u8 28, .int .u8 127] 5)).trans (drawn_below hd4 _)))
  clear hd4 Hr3 HB3
  go_wp2_with fail
  go_ret
  exact ⟨rfl, HB4.out⟩
set_option maxHeartbeats 1600000 in
theorem strlitPuts_walk (s : ByteArray) (w : World) : Calls Try.prog 3 #[.string s] w (Yes w) := by
  by_cases hbig : 40 < s.size
  · have hd : decide ((40 : Int) < (s.size : Int)) = true := decide_eq_true (by omega)
    clear hbig
    go_enter Try.func3, Try.ntmps3
    go_wp2_with fail
    refine (alive19 _).mono ?_
    rintro e w' ⟨rfl, hb⟩
    have HB := hide hb
    clear hb
    go_wp2_with fail
    go_ret
    exact ⟨rfl, HB.out⟩
  have hd : decide ((40 : Int) < (s.size : Int)) = false := decide_eq_false (by omega)
  have hs : s.size ≤ 1000 := by omega
  clear hbig
  go_enter Try.func3, Try.ntmps3
  go_wp2_with fail
  refine (sput_any s false _ hs).mono ?_
  rintro e w1 ⟨v1, rfl, ho1, hb1⟩
  obtain ⟨A1, c1, rfl, hr1, _⟩ := ho1.rd
  have Hr1 := hide hr1
  have HB1 := hide hb1
  clear ho1 hr1 hb1
  go_wp2_with fail
  refine (rsput_any s false _ hs).mono ?_
  rintro e w2 ⟨v2, rfl, ho2, hb2⟩
  obtain ⟨A2, c2, rfl, hr2, _⟩ := ho2.rd
  have Hr2 := hide hr2
  have Hq2 := hide (Hr1.out.below hb2)
  have HB2 := hide (HB1.out.of hb2)
  clear ho2 hr2 hb2 Hr1 HB1
  go_wp2_with fail
  refine (rsame_yes _ _ _ _ _ _ _ _ Hq2.out Hr2.out (fun _ _ => rfl)).mono ?_
  rintro e w3 ⟨rfl, hd3⟩
  have HB3 := hide (HB2.out.trans (drawn_below hd3 _))
  clear hd3 Hq2 Hr2 HB2
  go_wp2_with fail
  refine (sput_any s true _ hs).mono ?_
  rintro e w4 ⟨v4, rfl, ho4, hb4⟩
  obtain ⟨A4, c4, rfl, hr4, _⟩ := ho4.rd
  have Hr4 := hide hr4
  have HB4 := hide (HB3.out.of hb4)
  clear ho4 hr4 hb4 HB3
  go_wp2_with fail
  refine (rsput_any s true _ hs).mono ?_
  rintro e w5 ⟨v5, rfl, ho5, hb5⟩
  obtain ⟨A5, c5, rfl, hr5, _⟩ := ho5.rd
  have Hr5 := hide hr5
  have Hq5 := hide (Hr4.out.below hb5)
  have HB5 := hide (HB4.out.of hb5)
  clear ho5 hr5 hb5 Hr4 HB4
  go_wp2_with fail
  refine (rsame_yes _ _ _ _ _ _ _ _ Hq5.out Hr5.out (fun _ _ => rfl)).mono ?_
  rintro e w6 ⟨rfl, hd6⟩
  have HB6 := hide (HB5.out.trans (drawn_below hd6 _))
  clear hd6 Hq5 Hr5 HB5
  go_wp2_with fail
  refine (alive19 _).mono ?_
  rintro e w7 ⟨rfl, hb7⟩
  have HB7 := hide (HB6.out.of hb7)
  clear hb7
  go_wp2_with fail
  go_ret
  exact ⟨rfl, HB7.out⟩
end Go.Proofs.Yteijpklepgenbaa
