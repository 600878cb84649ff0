/- Layer 8: the examples; the walk of the law on streams. -/
import Derived.Test.YtfkjgjdbjmcioaaDoorKi2
namespace Go.Proofs.YtfkjgjdbjmcioaaDoor
open Go.RowKit Go.PlainAid

def StF (nm : Nat → ByteArray) (w : World) (n : Nat) (x : Int) (v i : Value) (wr : World) : Prop := i = .int .i64 x ∧ OwnV 1 9 w.heap.size wr v n (stV1 nm) ∧ Below w.heap.size w wr
set_option maxHeartbeats 1600000 in
theorem streams_1 (w : World) : Calls Tryd.prog 28 #[.int .i64 1] w fun e w' => e = .returned (.int .i64 1) ∧ w = w' := by
  go_enter Tryd.func28, Tryd.ntmps28
  go_wp2
  go_ret
  exact ⟨by rfl, rfl⟩
set_option maxHeartbeats 1600000 in
theorem fname_c2 (w : World) : Calls Tryd.prog 74 #[.int .i64 1, .int .i64 1] w fun e w' => e = .returned (.string ENDS) ∧ w = w' := by
  go_enter Tryd.func74, Tryd.ntmps74
  go_wp2_with (go_at_call 28; refine (streams_1 _).mono ?_; rintro e w' ⟨rfl, rfl⟩)
  go_ret
  exact ⟨by rfl, rfl⟩
set_option maxHeartbeats 1600000 in
theorem fname_c3 (w : World) : Calls Tryd.prog 74 #[.int .i64 1, .int .i64 4] w fun e w' => e = .returned (.string ENDH) ∧ w = w' := by
  go_enter Tryd.func74, Tryd.ntmps74
  go_wp2
  go_ret
  exact ⟨by rfl, rfl⟩
def nmF1 : Nat → ByteArray := fun i => if i = 0 then ENDS else ENDH
set_option maxRecDepth 20000 in
set_option maxHeartbeats 3200000 in
theorem flags_F1 (w : World) : Calls Tryd.prog 26 #[.int .i64 1, .int .i64 5] w fun e w' => ∃ A c, e = .returned (.slice A 2 c) ∧ RdV 1 w' A 2 c (stV1 nmF1) ∧ Below w.heap.size w w' := by
  obtain ⟨i0, hi, hz0, hz1, hz2⟩ := info_parts str_info
  have hh := fun (x : Int) (W : World) (hx : x = 1 ∨ x = 2 ∨ x = 4 ∨ x = 8 ∨ x = 16 ∨ x = 32) => has_c 1 5 x W (by decide) hx
  go_enter Tryd.func26, Tryd.ntmps26
  go_wp2_with fail
  go_loopw [5, 6] (fun v i wr => StF nmF1 w 0 1 v i wr ∨ StF nmF1 w 1 2 v i wr ∨ StF nmF1 w 1 4 v i wr ∨ StF nmF1 w 2 8 v i wr ∨ StF nmF1 w 2 16 v i wr ∨ StF nmF1 w 2 32 v i wr ∨ StF nmF1 w 2 64 v i wr) (fun _ i _ => 64 - (intOf i).toNat)
  case atStart => exact .inl ⟨rfl, OwnV.nil _ _ _ _ _, Below.refl _ _⟩
  case round =>
    rcases hrel with ⟨rfl, hO, hB⟩ | ⟨rfl, hO, hB⟩ | ⟨rfl, hO, hB⟩ | ⟨rfl, hO, hB⟩ | ⟨rfl, hO, hB⟩ | ⟨rfl, hO, hB⟩ | ⟨rfl, hO, hB⟩
    · have HO := hide hO
      have HB := hide hB
      have hsz := hB.size
      clear hO hB
      go_wp2_with fail
      refine (hh 1 _ (by decide)).mono ?_
      rintro e w1 ⟨rfl, hd1⟩
      rw [show hasC 1 1 = true by decide]
      have HB1 := hide (HB.out.trans (drawn_below hd1 _))
      have HO1 := hide (HO.out.below (drawn_below hd1 _))
      have hs1 := HB1.out.size
      clear hd1
      go_wp2_with fail
      refine (fname_c2 _).mono ?_
      rintro e w2 ⟨rfl, rfl⟩
      have HO2 := hide (HO1.out.alloc (.cells #[.string ENDS] 9))
      have HB2 := hide (HB1.out.alloc hs1 (.cells #[.string ENDS] 9))
      have Hx := hide (rdV_str w1 ENDS 9)
      go_wp2_with (at_builtin; refine wp_appV rfl _ _ _ rfl 1 i0 _ 16 Tryd.underlying32 hi hz0 hz1 hz2 rfl (by omega) w.heap.size _ 0 _ rfl HO2.out _ 1 1 _ rfl Hx.out (fun _ _ => rfl) (by simp [maxLen]) (by omega) HB2.out.size ?_; intro v3 w3 hown3 hg3 _)
      have HB3 := hide (HB2.out.grown hg3 HB2.out.size (fun j e => (World.ownsRow.lt HO2.out j e).1))
      have HO3 : Hid (OwnV 1 9 w.heap.size w3 v3 1 (stV1 nmF1)) := hown3.congr (fun i hi => by
        have : i = 0 := by omega
        obtain rfl := this; rfl)
      clear hown3 hg3
      go_roundw
      case rel => exact .inr (.inl ⟨rfl, HO3.out, HB3.out⟩)
      case measure => simp [intOf]
    · have HO := hide hO
      have HB := hide hB
      have hsz := hB.size
      clear hO hB
      go_wp2_with fail
      refine (hh 2 _ (by decide)).mono ?_
      rintro e w1 ⟨rfl, hd1⟩
      rw [show hasC 1 2 = false by decide]
      have HB1 := hide (HB.out.trans (drawn_below hd1 _))
      have HO1 := hide (HO.out.below (drawn_below hd1 _))
      have hs1 := HB1.out.size
      clear hd1
      go_wp2_with fail
      exact ⟨.inr (.inr (.inl ⟨rfl, HO1.out, HB1.out⟩)), by simp [intOf]⟩
    · have HO := hide hO
      have HB := hide hB
      have hsz := hB.size
      clear hO hB
      go_wp2_with fail
      refine (hh 4 _ (by decide)).mono ?_
      rintro e w1 ⟨rfl, hd1⟩
      rw [show hasC 1 4 = true by decide]
      have HB1 := hide (HB.out.trans (drawn_below hd1 _))
      have HO1 := hide (HO.out.below (drawn_below hd1 _))
      have hs1 := HB1.out.size
      clear hd1
      go_wp2_with fail
      refine (fname_c3 _).mono ?_
      rintro e w2 ⟨rfl, rfl⟩
      have HO2 := hide (HO1.out.alloc (.cells #[.string ENDH] 9))
      have HB2 := hide (HB1.out.alloc hs1 (.cells #[.string ENDH] 9))
      have Hx := hide (rdV_str w1 ENDH 9)
      go_wp2_with (at_builtin; refine wp_appV rfl _ _ _ rfl 1 i0 _ 16 Tryd.underlying32 hi hz0 hz1 hz2 rfl (by omega) w.heap.size _ 1 _ rfl HO2.out _ 1 1 _ rfl Hx.out (fun _ _ => rfl) (by simp [maxLen]) (by omega) HB2.out.size ?_; intro v3 w3 hown3 hg3 _)
      have HB3 := hide (HB2.out.grown hg3 HB2.out.size (fun j e => (World.ownsRow.lt HO2.out j e).1))
      have HO3 : Hid (OwnV 1 9 w.heap.size w3 v3 2 (stV1 nmF1)) := hown3.congr (fun i hi => by
        have : i = 0 ∨ i = 1 := by omega
        rcases this with rfl | rfl <;> rfl)
      clear hown3 hg3
      go_roundw
      case rel => exact .inr (.inr (.inr (.inl ⟨rfl, HO3.out, HB3.out⟩)))
      case measure => simp [intOf]
    · have HO := hide hO
      have HB := hide hB
      have hsz := hB.size
      clear hO hB
      go_wp2_with fail
      refine (hh 8 _ (by decide)).mono ?_
      rintro e w1 ⟨rfl, hd1⟩
      rw [show hasC 1 8 = false by decide]
      have HB1 := hide (HB.out.trans (drawn_below hd1 _))
      have HO1 := hide (HO.out.below (drawn_below hd1 _))
      have hs1 := HB1.out.size
      clear hd1
      go_wp2_with fail
      exact ⟨.inr (.inr (.inr (.inr (.inl ⟨rfl, HO1.out, HB1.out⟩)))), by simp [intOf]⟩
    · have HO := hide hO
      have HB := hide hB
      have hsz := hB.size
      clear hO hB
      go_wp2_with fail
      refine (hh 16 _ (by decide)).mono ?_
      rintro e w1 ⟨rfl, hd1⟩
      rw [show hasC 1 16 = false by decide]
      have HB1 := hide (HB.out.trans (drawn_below hd1 _))
      have HO1 := hide (HO.out.below (drawn_below hd1 _))
      have hs1 := HB1.out.size
      clear hd1
      go_wp2_with fail
      exact ⟨.inr (.inr (.inr (.inr (.inr (.inl ⟨rfl, HO1.out, HB1.out⟩))))), by simp [intOf]⟩
    · have HO := hide hO
      have HB := hide hB
      have hsz := hB.size
      clear hO hB
      go_wp2_with fail
      refine (hh 32 _ (by decide)).mono ?_
      rintro e w1 ⟨rfl, hd1⟩
      rw [show hasC 1 32 = false by decide]
      have HB1 := hide (HB.out.trans (drawn_below hd1 _))
      have HO1 := hide (HO.out.below (drawn_below hd1 _))
      have hs1 := HB1.out.size
      clear hd1
      go_wp2_with fail
      exact ⟨.inr (.inr (.inr (.inr (.inr (.inr (⟨rfl, HO1.out, HB1.out⟩)))))), by simp [intOf]⟩
    · obtain ⟨A, c, rfl, hr, _⟩ := hO.rd
      have HR := hide hr
      have HB := hide hB
      clear hO hB hr
      go_wp2_with fail
      go_ret
      exact ⟨A, c, rfl, HR.out, HB.out⟩
def nmF4 : Nat → ByteArray := fun i => ACK
set_option maxRecDepth 20000 in
set_option maxHeartbeats 3200000 in
theorem flags_F4 (w : World) : Calls Tryd.prog 26 #[.int .i64 4, .int .i64 255] w fun e w' => ∃ A c, e = .returned (.slice A 1 c) ∧ RdV 1 w' A 1 c (stV1 nmF4) ∧ Below w.heap.size w w' := by
  obtain ⟨i0, hi, hz0, hz1, hz2⟩ := info_parts str_info
  have hh := fun (x : Int) (W : World) (hx : x = 1 ∨ x = 2 ∨ x = 4 ∨ x = 8 ∨ x = 16 ∨ x = 32) => has_c 4 255 x W (by decide) hx
  go_enter Tryd.func26, Tryd.ntmps26
  go_wp2_with fail
  go_loopw [5, 6] (fun v i wr => StF nmF4 w 0 1 v i wr ∨ StF nmF4 w 1 2 v i wr ∨ StF nmF4 w 1 4 v i wr ∨ StF nmF4 w 1 8 v i wr ∨ StF nmF4 w 1 16 v i wr ∨ StF nmF4 w 1 32 v i wr ∨ StF nmF4 w 1 64 v i wr) (fun _ i _ => 64 - (intOf i).toNat)
  case atStart => exact .inl ⟨rfl, OwnV.nil _ _ _ _ _, Below.refl _ _⟩
  case round =>
    rcases hrel with ⟨rfl, hO, hB⟩ | ⟨rfl, hO, hB⟩ | ⟨rfl, hO, hB⟩ | ⟨rfl, hO, hB⟩ | ⟨rfl, hO, hB⟩ | ⟨rfl, hO, hB⟩ | ⟨rfl, hO, hB⟩
    · have HO := hide hO
      have HB := hide hB
      have hsz := hB.size
      clear hO hB
      go_wp2_with fail
      refine (hh 1 _ (by decide)).mono ?_
      rintro e w1 ⟨rfl, hd1⟩
      rw [show hasC 4 1 = true by decide]
      have HB1 := hide (HB.out.trans (drawn_below hd1 _))
      have HO1 := hide (HO.out.below (drawn_below hd1 _))
      have hs1 := HB1.out.size
      clear hd1
      go_wp2_with fail
      refine (fname_c1 _).mono ?_
      rintro e w2 ⟨rfl, rfl⟩
      have HO2 := hide (HO1.out.alloc (.cells #[.string ACK] 9))
      have HB2 := hide (HB1.out.alloc hs1 (.cells #[.string ACK] 9))
      have Hx := hide (rdV_str w1 ACK 9)
      go_wp2_with (at_builtin; refine wp_appV rfl _ _ _ rfl 1 i0 _ 16 Tryd.underlying32 hi hz0 hz1 hz2 rfl (by omega) w.heap.size _ 0 _ rfl HO2.out _ 1 1 _ rfl Hx.out (fun _ _ => rfl) (by simp [maxLen]) (by omega) HB2.out.size ?_; intro v3 w3 hown3 hg3 _)
      have HB3 := hide (HB2.out.grown hg3 HB2.out.size (fun j e => (World.ownsRow.lt HO2.out j e).1))
      have HO3 : Hid (OwnV 1 9 w.heap.size w3 v3 1 (stV1 nmF4)) := hown3.congr (fun i hi => by
        have : i = 0 := by omega
        obtain rfl := this; rfl)
      clear hown3 hg3
      go_roundw
      case rel => exact .inr (.inl ⟨rfl, HO3.out, HB3.out⟩)
      case measure => simp [intOf]
    · have HO := hide hO
      have HB := hide hB
      have hsz := hB.size
      clear hO hB
      go_wp2_with fail
      refine (hh 2 _ (by decide)).mono ?_
      rintro e w1 ⟨rfl, hd1⟩
      rw [show hasC 4 2 = false by decide]
      have HB1 := hide (HB.out.trans (drawn_below hd1 _))
      have HO1 := hide (HO.out.below (drawn_below hd1 _))
      have hs1 := HB1.out.size
      clear hd1
      go_wp2_with fail
      exact ⟨.inr (.inr (.inl ⟨rfl, HO1.out, HB1.out⟩)), by simp [intOf]⟩
    · have HO := hide hO
      have HB := hide hB
      have hsz := hB.size
      clear hO hB
      go_wp2_with fail
      refine (hh 4 _ (by decide)).mono ?_
      rintro e w1 ⟨rfl, hd1⟩
      rw [show hasC 4 4 = false by decide]
      have HB1 := hide (HB.out.trans (drawn_below hd1 _))
      have HO1 := hide (HO.out.below (drawn_below hd1 _))
      have hs1 := HB1.out.size
      clear hd1
      go_wp2_with fail
      exact ⟨.inr (.inr (.inr (.inl ⟨rfl, HO1.out, HB1.out⟩))), by simp [intOf]⟩
    · have HO := hide hO
      have HB := hide hB
      have hsz := hB.size
      clear hO hB
      go_wp2_with fail
      refine (hh 8 _ (by decide)).mono ?_
      rintro e w1 ⟨rfl, hd1⟩
      rw [show hasC 4 8 = false by decide]
      have HB1 := hide (HB.out.trans (drawn_below hd1 _))
      have HO1 := hide (HO.out.below (drawn_below hd1 _))
      have hs1 := HB1.out.size
      clear hd1
      go_wp2_with fail
      exact ⟨.inr (.inr (.inr (.inr (.inl ⟨rfl, HO1.out, HB1.out⟩)))), by simp [intOf]⟩
    · have HO := hide hO
      have HB := hide hB
      have hsz := hB.size
      clear hO hB
      go_wp2_with fail
      refine (hh 16 _ (by decide)).mono ?_
      rintro e w1 ⟨rfl, hd1⟩
      rw [show hasC 4 16 = false by decide]
      have HB1 := hide (HB.out.trans (drawn_below hd1 _))
      have HO1 := hide (HO.out.below (drawn_below hd1 _))
      have hs1 := HB1.out.size
      clear hd1
      go_wp2_with fail
      exact ⟨.inr (.inr (.inr (.inr (.inr (.inl ⟨rfl, HO1.out, HB1.out⟩))))), by simp [intOf]⟩
    · have HO := hide hO
      have HB := hide hB
      have hsz := hB.size
      clear hO hB
      go_wp2_with fail
      refine (hh 32 _ (by decide)).mono ?_
      rintro e w1 ⟨rfl, hd1⟩
      rw [show hasC 4 32 = false by decide]
      have HB1 := hide (HB.out.trans (drawn_below hd1 _))
      have HO1 := hide (HO.out.below (drawn_below hd1 _))
      have hs1 := HB1.out.size
      clear hd1
      go_wp2_with fail
      exact ⟨.inr (.inr (.inr (.inr (.inr (.inr (⟨rfl, HO1.out, HB1.out⟩)))))), by simp [intOf]⟩
    · obtain ⟨A, c, rfl, hr, _⟩ := hO.rd
      have HR := hide hr
      have HB := hide hB
      clear hO hB hr
      go_wp2_with fail
      go_ret
      exact ⟨A, c, rfl, HR.out, HB.out⟩
end Go.Proofs.YtfkjgjdbjmcioaaDoor
