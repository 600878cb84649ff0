/- Layer 19: texts' bytes, the program's and the reference's; the examples; the walk of the law on putting. -/
import Derived.Test.YtnkcbljhgcgpaaaDoorME
import Derived.Test.YtnkcbljhgcgpaaaDoorMF
import Derived.Test.YtnkcbljhgcgpaaaDoorSlB
namespace Go.Proofs.YtnkcbljhgcgpaaaDoor
set_option linter.unusedVariables false
set_option linter.unusedSimpArgs false
open Go.RowKit Go.PlainAid

/-- A text's bytes as they stand in a block: how many, which; with the number ahead. -/
def txN (s : ByteArray) (sh : Bool) : Nat := if sh then (enT (bt s) s.size + 7) / 8 else s.size
def txF (s : ByteArray) (sh : Bool) : Nat → Int := if sh then byF (enG (bt s) s.size) (enT (bt s) s.size) else bt s
def fst19 (sh : Bool) : Int := if sh then 128 else 0
def slN (s : ByteArray) (sh : Bool) : Nat := pfN 7 (txN s sh : Nat) + txN s sh
def slF (s : ByteArray) (sh : Bool) : Nat → Int := catF (pfN 7 (txN s sh : Nat)) (pfF (fst19 sh) 7 (txN s sh : Nat)) (txF s sh)
theorem pfE19 (sh : Bool) {m : Nat} (hm : m ≤ 2147483647) : pfE (fst19 sh) 7 (m : Int) = 0 := by
  have e : p8 7 = 128 := by decide
  refine pfE_fine ?_ (by omega)
  rw [e]
  cases sh <;> simp [fst19]
theorem txN_le (s : ByteArray) (sh : Bool) : txN s sh ≤ 4 * s.size := by
  have h := enT_le (bt_byt s) s.size (Nat.le_refl _)
  unfold txN
  split <;> omega
theorem tx_byt (s : ByteArray) (sh : Bool) : Byt (txN s sh) (txF s sh) := by
  unfold txN txF
  cases sh
  · exact bt_byt s
  · exact hbyF_byt (fun i _ => enG_bd s.size i) _
set_option maxHeartbeats 1600000 in
theorem sput_plain (s : ByteArray) (w : World) (hs : s.size ≤ 1000) : Calls Tryd.prog 85 #[.string s, .bool false] w (Cloned w (slN s false) (slF s false)) := by
  obtain ⟨i0, hi, hz0, hz1, hz2⟩ := info_parts u8_info
  have kb := fun (w : World) => run_bytes_of_string (P := Tryd.prog) w 9 22 5 s Tryd.underlying9 Tryd.underlying22 Tryd.underlying5
  have HE : Hid (pfE 0 7 (s.size : Int) = 0) := pfE19 false (by omega)
  have hbd := pfN_bd 7 (s.size : Int)
  go_enter Tryd.func85, Tryd.ntmps85
  go_wp2_with fail
  have Hr := hide (bytes_rd w s 5 (by simp only [maxLen]; omega))
  have HB : Hid (Below w.heap.size w (w.alloc (.cells (bytesRow s (grownCap w s.size 0 5)) 5 ((bytesRow s (grownCap w s.size 0 5)).size, (bytesRow s (grownCap w s.size 0 5)).size + 1))).drew) := ((Below.refl _ _).alloc (Nat.le_refl _) _).drew
  generalize grownCap w s.size 0 5 = cp at *
  clear kb
  refine (pput_any 0 7 s.size _).mono ?_
  rintro e w2 (⟨h, _⟩ | ⟨_, A1, c1, rfl, ho1, hb1⟩)
  case inl => exact absurd HE.out h
  have Hr1 := hide (Hr.out.below hb1)
  have HB1 := hide (HB.out.of hb1)
  have Ho1 := hide (ho1.baseB HB.out.size)
  have hs1 := HB1.out.size
  clear hb1 ho1 Hr HB
  go_wp2_with (at_builtin; refine wp_app rfl _ _ _ rfl i0 0 1 Tryd.underlying22 hi hz0 hz1 hz2 w.heap.size _ (pfN 7 s.size) _ rfl Ho1.out _ s.size cp _ rfl Hr1.out (by simp only [maxLen]; omega) (by omega) hs1 ?_; intro v3 w3 hown3 hg3)
  go_ret
  exact ⟨_, rfl, hown3, HB1.out.grown hg3 hs1 (fun j e => (World.ownsRow.lt Ho1.out j e).1)⟩
set_option maxHeartbeats 1600000 in
theorem rsput_plain (s : ByteArray) (w : World) (hs : s.size ≤ 1000) : Calls Tryd.prog 70 #[.string s, .bool false] w (Cloned w (slN s false) (slF s false)) := by
  obtain ⟨i0, hi, hz0, hz1, hz2⟩ := info_parts u8_info
  have kb := fun (w : World) => run_bytes_of_string (P := Tryd.prog) w 9 22 5 s Tryd.underlying9 Tryd.underlying22 Tryd.underlying5
  have HE : Hid (pfE 0 7 (s.size : Int) = 0) := pfE19 false (by omega)
  have hbd := pfN_bd 7 (s.size : Int)
  go_enter Tryd.func70, Tryd.ntmps70
  go_wp2_with fail
  have Hr := hide (bytes_rd w s 5 (by simp only [maxLen]; omega))
  have HB : Hid (Below w.heap.size w (w.alloc (.cells (bytesRow s (grownCap w s.size 0 5)) 5 ((bytesRow s (grownCap w s.size 0 5)).size, (bytesRow s (grownCap w s.size 0 5)).size + 1))).drew) := ((Below.refl _ _).alloc (Nat.le_refl _) _).drew
  generalize grownCap w s.size 0 5 = cp at *
  clear kb
  refine (rpput_any 0 7 s.size _).mono ?_
  rintro e w2 (⟨h, _⟩ | ⟨_, A1, c1, rfl, ho1, hb1⟩)
  case inl => exact absurd HE.out h
  have Hr1 := hide (Hr.out.below hb1)
  have HB1 := hide (HB.out.of hb1)
  have Ho1 := hide (ho1.baseB HB.out.size)
  have hs1 := HB1.out.size
  clear hb1 ho1 Hr HB
  go_wp2_with (at_builtin; refine wp_app rfl _ _ _ rfl i0 0 1 Tryd.underlying22 hi hz0 hz1 hz2 w.heap.size _ (pfN 7 s.size) _ rfl Ho1.out _ s.size cp _ rfl Hr1.out (by simp only [maxLen]; omega) (by omega) hs1 ?_; intro v3 w3 hown3 hg3)
  go_ret
  exact ⟨_, rfl, hown3, HB1.out.grown hg3 hs1 (fun j e => (World.ownsRow.lt Ho1.out j e).1)⟩
set_option maxHeartbeats 1600000 in
theorem sput_short (s : ByteArray) (w : World) (hs : s.size ≤ 1000) : Calls Tryd.prog 85 #[.string s, .bool true] w (Cloned w (slN s true) (slF s true)) := by
  obtain ⟨i0, hi, hz0, hz1, hz2⟩ := info_parts u8_info
  have kb := fun (w : World) => run_bytes_of_string (P := Tryd.prog) w 9 22 5 s Tryd.underlying9 Tryd.underlying22 Tryd.underlying5
  have HE : Hid (pfE 128 7 (((enT (bt s) s.size + 7) / 8 : Nat) : Int) = 0) := pfE19 true (by have := txN_le s true; simp only [txN] at this; simp at this; omega)
  have hle : (enT (bt s) s.size + 7) / 8 ≤ 4000 := by have := txN_le s true; simp only [txN] at this; simp at this; omega
  have HR : Hid (∀ v w', Own .u8 5 w.heap.size w' v (pfN 7 (((enT (bt s) s.size + 7) / 8 : Nat) : Int) + (enT (bt s) s.size + 7) / 8) (catF (pfN 7 (((enT (bt s) s.size + 7) / 8 : Nat) : Int)) (pfF 128 7 (((enT (bt s) s.size + 7) / 8 : Nat) : Int)) (byF (enG (bt s) s.size) (enT (bt s) s.size))) → Own .u8 5 w.heap.size w' v (slN s true) (slF s true)) := fun _ _ h => h
  have HEn := hide (fun (A : Option Addr) (c : Nat) (W : World) (h : Rd .u8 W A s.size c (bt s)) => encode_any A s.size c (bt s) W h (bt_byt s) (by omega))
  generalize byF (enG (bt s) s.size) (enT (bt s) s.size) = tf at *
  generalize (enT (bt s) s.size + 7) / 8 = tn at *
  have hbd := pfN_bd 7 (tn : Int)
  go_enter Tryd.func85, Tryd.ntmps85
  go_wp2_with fail
  have Hr := hide (bytes_rd w s 5 (by simp only [maxLen]; omega))
  have HB : Hid (Below w.heap.size w (w.alloc (.cells (bytesRow s (grownCap w s.size 0 5)) 5 ((bytesRow s (grownCap w s.size 0 5)).size, (bytesRow s (grownCap w s.size 0 5)).size + 1))).drew) := ((Below.refl _ _).alloc (Nat.le_refl _) _).drew
  generalize grownCap w s.size 0 5 = cp at *
  clear kb
  refine (HEn.out _ cp _ Hr.out).mono ?_
  rintro e w1 ⟨v1, rfl, ho, hb⟩
  obtain ⟨A0, c0, rfl, hr0, _⟩ := ho.rd
  have Hr0 := hide hr0
  have HB0 := hide (HB.out.of hb)
  clear ho hb hr0 Hr HB HEn
  go_wp2_with fail
  refine (pput_any 128 7 tn _).mono ?_
  rintro e w2 (⟨h, _⟩ | ⟨_, A1, c1, rfl, ho1, hb1⟩)
  case inl => exact absurd HE.out h
  have Hr1 := hide (Hr0.out.below hb1)
  have HB1 := hide (HB0.out.of hb1)
  have Ho1 := hide (ho1.baseB HB0.out.size)
  have hs1 := HB1.out.size
  clear hb1 ho1 Hr0 HB0
  go_wp2_with (at_builtin; refine wp_app rfl _ _ _ rfl i0 0 1 Tryd.underlying22 hi hz0 hz1 hz2 w.heap.size _ (pfN 7 tn) _ rfl Ho1.out _ tn c0 _ rfl Hr1.out (by simp only [maxLen]; omega) (by omega) hs1 ?_; intro v3 w3 hown3 hg3)
  go_ret
  exact ⟨_, rfl, HR.out _ _ hown3, HB1.out.grown hg3 hs1 (fun j e => (World.ownsRow.lt Ho1.out j e).1)⟩
set_option maxHeartbeats 1600000 in
theorem rsput_short (s : ByteArray) (w : World) (hs : s.size ≤ 1000) : Calls Tryd.prog 70 #[.string s, .bool true] w (Cloned w (slN s true) (slF s true)) := by
  obtain ⟨i0, hi, hz0, hz1, hz2⟩ := info_parts u8_info
  have kb := fun (w : World) => run_bytes_of_string (P := Tryd.prog) w 9 22 5 s Tryd.underlying9 Tryd.underlying22 Tryd.underlying5
  have HE : Hid (pfE 128 7 (((enT (bt s) s.size + 7) / 8 : Nat) : Int) = 0) := pfE19 true (by have := txN_le s true; simp only [txN] at this; simp at this; omega)
  have hle : (enT (bt s) s.size + 7) / 8 ≤ 4000 := by have := txN_le s true; simp only [txN] at this; simp at this; omega
  have HR : Hid (∀ v w', Own .u8 5 w.heap.size w' v (pfN 7 (((enT (bt s) s.size + 7) / 8 : Nat) : Int) + (enT (bt s) s.size + 7) / 8) (catF (pfN 7 (((enT (bt s) s.size + 7) / 8 : Nat) : Int)) (pfF 128 7 (((enT (bt s) s.size + 7) / 8 : Nat) : Int)) (byF (enG (bt s) s.size) (enT (bt s) s.size))) → Own .u8 5 w.heap.size w' v (slN s true) (slF s true)) := fun _ _ h => h
  have HEn := hide (fun (A : Option Addr) (c : Nat) (W : World) (h : Rd .u8 W A s.size c (bt s)) => rencode_any A s.size c (bt s) W h (bt_byt s) (by omega))
  generalize byF (enG (bt s) s.size) (enT (bt s) s.size) = tf at *
  generalize (enT (bt s) s.size + 7) / 8 = tn at *
  have hbd := pfN_bd 7 (tn : Int)
  go_enter Tryd.func70, Tryd.ntmps70
  go_wp2_with fail
  have Hr := hide (bytes_rd w s 5 (by simp only [maxLen]; omega))
  have HB : Hid (Below w.heap.size w (w.alloc (.cells (bytesRow s (grownCap w s.size 0 5)) 5 ((bytesRow s (grownCap w s.size 0 5)).size, (bytesRow s (grownCap w s.size 0 5)).size + 1))).drew) := ((Below.refl _ _).alloc (Nat.le_refl _) _).drew
  generalize grownCap w s.size 0 5 = cp at *
  clear kb
  refine (HEn.out _ cp _ Hr.out).mono ?_
  rintro e w1 ⟨v1, rfl, ho, hb⟩
  obtain ⟨A0, c0, rfl, hr0, _⟩ := ho.rd
  have Hr0 := hide hr0
  have HB0 := hide (HB.out.of hb)
  clear ho hb hr0 Hr HB HEn
  go_wp2_with fail
  refine (rpput_any 128 7 tn _).mono ?_
  rintro e w2 (⟨h, _⟩ | ⟨_, A1, c1, rfl, ho1, hb1⟩)
  case inl => exact absurd HE.out h
  have Hr1 := hide (Hr0.out.below hb1)
  have HB1 := hide (HB0.out.of hb1)
  have Ho1 := hide (ho1.baseB HB0.out.size)
  have hs1 := HB1.out.size
  clear hb1 ho1 Hr0 HB0
  go_wp2_with (at_builtin; refine wp_app rfl _ _ _ rfl i0 0 1 Tryd.underlying22 hi hz0 hz1 hz2 w.heap.size _ (pfN 7 tn) _ rfl Ho1.out _ tn c0 _ rfl Hr1.out (by simp only [maxLen]; omega) (by omega) hs1 ?_; intro v3 w3 hown3 hg3)
  go_ret
  exact ⟨_, rfl, HR.out _ _ hown3, HB1.out.grown hg3 hs1 (fun j e => (World.ownsRow.lt Ho1.out j e).1)⟩
theorem sput_any (s : ByteArray) (sh : Bool) (w : World) (hs : s.size ≤ 1000) : Calls Tryd.prog 85 #[.string s, .bool sh] w (Cloned w (slN s sh) (slF s sh)) := by
  cases sh
  · exact sput_plain s w hs
  · exact sput_short s w hs
theorem rsput_any (s : ByteArray) (sh : Bool) (w : World) (hs : s.size ≤ 1000) : Calls Tryd.prog 70 #[.string s, .bool sh] w (Cloned w (slN s sh) (slF s sh)) := by
  cases sh
  · exact rsput_plain s w hs
  · exact rsput_short s w hs
def lit19 (x y z : Int) : Nat → Int := fun i => if i = 0 then x else if i = 1 then y else z
theorem rd_lit19 (w : World) (x y z : Int) : Rd .u8 (w.alloc (.cells #[.int .u8 x, .int .u8 y, .int .u8 z] 5)) (some ⟨w.heap.size, 0, none⟩) 3 3 (lit19 x y z) := by
  obtain ⟨A, c, e1, h, _⟩ := (Own.lit .u8 5 0 w (lit19 x y z) #[.int .u8 x, .int .u8 y, .int .u8 z] 3 (Nat.zero_le _) (by simp [maxLen]) rfl).rd
  injection e1 with e1 _ e2
  subst e1
  subst e2
  exact h
theorem ex19 (sh : Bool) : slN ⟨#[97, 98]⟩ sh = 3 ∧ ∀ i, i < 3 → slF ⟨#[97, 98]⟩ sh i = (if sh then lit19 130 28 127 else lit19 2 97 98) i := by
  cases sh
  · refine ⟨by decide +kernel, fun i hi => ?_⟩
    have : i = 0 ∨ i = 1 ∨ i = 2 := by omega
    rcases this with rfl | rfl | rfl <;> decide +kernel
  · refine ⟨by decide +kernel, fun i hi => ?_⟩
    have : i = 0 ∨ i = 1 ∨ i = 2 := by omega
    rcases this with rfl | rfl | rfl <;> decide +kernel
end Go.Proofs.YtnkcbljhgcgpaaaDoor
