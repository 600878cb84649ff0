/- Ki1, Ki2, Ki3, Ki4 in one text. -/
import Derived.Test.YtbkdegjkjjdcdaaDoorMT
namespace Go.Proofs.YtbkdegjkjjdcdaaDoor
set_option linter.unusedVariables false
set_option linter.unusedSimpArgs false
section
open Go.RowKit Go.PlainAid

set_option maxRecDepth 20000 in
set_option maxHeartbeats 1600000 in
theorem ones_c (x : Int) (w : World) (h : x = 1 ∨ x = 2 ∨ x = 4 ∨ x = 8 ∨ x = 16 ∨ x = 32) : Calls Tryd.prog 40 #[.int .u64 x] w fun e w' => e = .returned (.int .i64 1) ∧ w = w' := by
  have hin : ∀ w, Calls Tryd.prog 60 #[.int .u64 x] w fun e w' => e = .returned (.int .i64 1) ∧ w = w' := by
    intro w
    rcases h with rfl | rfl | rfl | rfl | rfl | rfl <;>
    · go_enter Tryd.func60, Tryd.ntmps60
      go_wp2
      go_ret
      exact ⟨by kernel_rfl, rfl⟩
  have hw : IntKind.u64.wrap x = x := by
    rcases h with rfl | rfl | rfl | rfl | rfl | rfl <;> rfl
  go_enter Tryd.func40, Tryd.ntmps40
  go_wp2_with (go_at_call 60; refine (hin _).mono ?_; rintro e w' ⟨rfl, rfl⟩)
  go_ret
  exact ⟨rfl, rfl⟩
set_option maxHeartbeats 1600000 in
theorem used_c (t : Int) (w : World) (h : t = 1 ∨ t = 4) : Calls Tryd.prog 8 #[.int .i64 t] w fun e w' => e = .returned (.int .i64 (if t = 1 then 45 else 1)) ∧ w = w' := by
  rcases h with rfl | rfl <;>
  · go_enter Tryd.func8, Tryd.ntmps8
    go_wp2
    go_ret
    exact ⟨by rfl, rfl⟩
set_option maxHeartbeats 1600000 in
theorem streams_c (w : World) : Calls Tryd.prog 61 #[.int .i64 4] w fun e w' => e = .returned (.int .i64 0) ∧ w = w' := by
  go_enter Tryd.func61, Tryd.ntmps61
  go_wp2
  go_ret
  exact ⟨by rfl, rfl⟩
def ENDS : ByteArray := ⟨#[69, 78, 68, 95, 83, 84, 82, 69, 65, 77]⟩
def ENDH : ByteArray := ⟨#[69, 78, 68, 95, 72, 69, 65, 68, 69, 82, 83]⟩
def ACK : ByteArray := ⟨#[65, 67, 75]⟩
set_option maxHeartbeats 1600000 in
theorem fname_c1 (w : World) : Calls Tryd.prog 41 #[.int .i64 4, .int .i64 1] w fun e w' => e = .returned (.string ACK) ∧ w = w' := by
  go_enter Tryd.func41, Tryd.ntmps41
  go_wp2_with (go_at_call 61; refine (streams_c _).mono ?_; rintro e w' ⟨rfl, rfl⟩)
  go_ret
  exact ⟨by rfl, rfl⟩
set_option maxRecDepth 100000 in
set_option maxHeartbeats 1600000 in
theorem small_c (w : World) : Calls Tryd.prog 130 #[.int .i64 11] w fun e w' => e = .returned (.string ⟨#[49, 49]⟩) ∧ w = w' := by
  go_enter Tryd.func130, Tryd.ntmps130
  go_wp2
  go_ret
  exact ⟨by kernel_rfl, rfl⟩
set_option maxRecDepth 20000 in
set_option maxHeartbeats 1600000 in
theorem format_c (w : World) : Calls Tryd.prog 124 #[.int .i64 11, .int .i64 10] w fun e w' => e = .returned (.string ⟨#[49, 49]⟩) ∧ Below w.heap.size w w' := by
  go_enter Tryd.func124, Tryd.ntmps124
  go_wp2_with fail
  refine (small_c _).mono ?_
  rintro e w' ⟨rfl, rfl⟩
  go_wp2_with fail
  go_ret
  exact ⟨by rfl, by repeat (first | exact Below.refl _ _ | refine Below.alloc ?_ (by simp) _)⟩
set_option maxHeartbeats 1600000 in
theorem text_c (w : World) : Calls Tryd.prog 64 #[.int .i64 11] w fun e w' => e = .returned (.string ⟨#[49, 49]⟩) ∧ Below w.heap.size w w' := by
  have h3 : ∀ w, Calls Tryd.prog 108 #[.int .i64 11] w fun e w' => e = .returned (.string ⟨#[49, 49]⟩) ∧ Below w.heap.size w w' := by
    intro w
    go_enter Tryd.func108, Tryd.ntmps108
    go_wp2_with fail
    refine (format_c _).mono ?_
    rintro e w' ⟨rfl, hb⟩
    have HB := hide hb
    clear hb
    go_wp2_with fail
    go_ret
    exact ⟨rfl, HB.out⟩
  have h4 : ∀ w, Calls Tryd.prog 83 #[.int .i64 11] w fun e w' => e = .returned (.string ⟨#[49, 49]⟩) ∧ Below w.heap.size w w' := by
    intro w
    go_enter Tryd.func83, Tryd.ntmps83
    go_wp2_with fail
    refine (h3 _).mono ?_
    rintro e w' ⟨rfl, hb⟩
    have HB := hide hb
    clear hb
    go_wp2_with fail
    go_ret
    exact ⟨rfl, HB.out⟩
  go_enter Tryd.func64, Tryd.ntmps64
  go_wp2_with fail
  refine (h4 _).mono ?_
  rintro e w' ⟨rfl, hb⟩
  have HB := hide hb
  clear hb
  go_wp2_with fail
  go_ret
  exact ⟨rfl, HB.out⟩
def TYPE11 : ByteArray := ⟨#[84, 89, 80, 69, 95, 49, 49]⟩
set_option maxHeartbeats 1600000 in
theorem name_c (w : World) : Calls Tryd.prog 42 #[.int .i64 11] w fun e w' => e = .returned (.string TYPE11) ∧ Below w.heap.size w w' := by
  have k1 : ∀ w, Calls Tryd.prog 62 #[.int .i64 11] w fun e w' => e = .returned (.bool false) ∧ w = w' := by
    intro w
    go_enter Tryd.func62, Tryd.ntmps62
    go_wp2
    go_ret
    exact ⟨by rfl, rfl⟩
  have k2 : ∀ w, Calls Tryd.prog 63 #[.int .i64 11] w fun e w' => e = .returned (.bool true) ∧ w = w' := by
    intro w
    go_enter Tryd.func63, Tryd.ntmps63
    go_wp2
    go_ret
    exact ⟨by rfl, rfl⟩
  go_enter Tryd.func42, Tryd.ntmps42
  go_wp2_with (first
    | (go_at_call 62; refine (k1 _).mono ?_; rintro e w' ⟨rfl, rfl⟩)
    | (go_at_call 63; refine (k2 _).mono ?_; rintro e w' ⟨rfl, rfl⟩)
    | (go_at_call 64; refine (text_c _).mono ?_; rintro e w' ⟨rfl, hb⟩))
  have HB := hide hb
  clear hb
  go_ret
  exact ⟨by rfl, HB.out⟩
end

section
open Go.RowKit Go.PlainAid

def stV1 (S : Nat → ByteArray) : Nat → Value := fun i => .string (S i)
theorem rdV_str (w : World) (s : ByteArray) (T : TypeId) : RdV 1 (w.alloc (.cells #[.string s] T)) (some ⟨w.heap.size, 0, none⟩) 1 1 (fun _ => .string s) :=
  (OwnV.lit 1 T 0 w (fun _ => .string s) #[.string s] 1 (Nat.zero_le _) (by simp [maxLen]) rfl).rdS2
theorem str_info : (Tryd.prog.info? 9).map (fun i => (i.zero, i.size, i.bytes)) = some (some (.string ⟨#[]⟩), 1, 16) := by kernel_rfl
theorem rdV_below {s : Nat} {w w' : World} {A : Option Addr} {n c : Nat} {F : Nat → Value} (h : RdV s w A n c F) (hb : Below w.heap.size w w') : RdV s w' A n c F :=
  ⟨h.1, h.2.1, h.2.2.1, fun hn => by
    obtain ⟨b, off, hA, hc⟩ := h.2.2.2 hn
    exact ⟨b, off, hA, fun i hi => (hb.cell (World.block_lt_of_cell? w _ (hc i hi))).trans (hc i hi)⟩⟩
set_option maxHeartbeats 400000 in
theorem strs_same (A C : Option Addr) (n c d : Nat) (S : Nat → ByteArray) (w : World) (ha : RdV 1 w A n c (stV1 S)) (hb : RdV 1 w C n d (stV1 S)) :
    Calls Tryd.prog 11 #[.slice A n c, .slice C n d] w fun e w' => e = .returned (.bool true) ∧ Drawn w w' := by
  have hn : n ≤ 9223372036854775807 := by have h1 := ha.1; have h2 := ha.2.1; simp only [maxLen] at h2; omega
  have Ha := hide ha
  have Hb := hide hb
  clear ha hb
  go_enter Tryd.func11, Tryd.ntmps11
  go_wp2
  go_loopw [5] (fun i wr => ∃ k : Nat, k ≤ n ∧ i = .int .i64 k ∧ Drawn w wr) (fun i _ => n - (intOf i).toNat)
  case atStart => exact ⟨0, Nat.zero_le _, rfl, Drawn.refl _⟩
  case round =>
    obtain ⟨k, hk, rfl, q, rfl⟩ := hrel
    by_cases hlt : k < n
    · obtain ⟨b, off, rfl, hca⟩ := Ha.out.2.2.2 (by omega)
      obtain ⟨b', off', rfl, hcb⟩ := Hb.out.2.2.2 (by omega)
      have ca := hca k (by omega)
      have cb := hcb k (by omega)
      clear hca hcb
      simp only [stV1] at ca cb
      generalize S k = s at ca cb
      go_wp2
      go_quiet (fail)
      go_wp2
      go_roundw
      case rel => exact ⟨k + 1, by omega, by go_num, _, rfl⟩
      case measure => simp [intOf]; omega
    · obtain rfl : k = n := by omega
      go_wp2
      go_ret
      exact ⟨rfl, q, rfl⟩
def hasC (t x : Int) : Bool := decide ((t = 1 ∧ (x = 1 ∨ x = 4)) ∨ (t = 4 ∧ x = 1))
set_option maxHeartbeats 3200000 in
theorem has_c (t fl x : Int) (w : World) (h : (t = 1 ∧ fl = 5) ∨ (t = 4 ∧ fl = 255)) (hx : x = 1 ∨ x = 2 ∨ x = 4 ∨ x = 8 ∨ x = 16 ∨ x = 32) : Calls Tryd.prog 9 #[.int .i64 t, .int .i64 fl, .int .i64 x] w fun e w' => e = .returned (.bool (hasC t x)) ∧ Drawn w w' := by
  have h1 := fun W => ones_c x W hx
  have h2 := fun W => used_c t W (h.imp (·.1) (·.1))
  have hw : IntKind.u64.wrap x = x := by
    rcases hx with rfl | rfl | rfl | rfl | rfl | rfl <;> rfl
  rcases h with ⟨rfl, rfl⟩ | ⟨rfl, rfl⟩ <;> rcases hx with rfl | rfl | rfl | rfl | rfl | rfl <;>
  · go_enter Tryd.func9, Tryd.ntmps9
    go_wp2_with (first
      | (go_at_call 40; refine (h1 _).mono ?_; rintro e w' ⟨rfl, rfl⟩)
      | (go_at_call 8; refine (h2 _).mono ?_; rintro e w' ⟨rfl, rfl⟩))
    go_ret
    exact ⟨by kernel_rfl, Drawn.refl _⟩
end

section
open Go.RowKit Go.PlainAid

def StF (nm : Nat → ByteArray) (w : World) (n : Nat) (x : Int) (v i : Value) (wr : World) : Prop := i = .int .i64 x ∧ OwnV 1 9 w.heap.size wr v n (stV1 nm) ∧ Below w.heap.size w wr
set_option maxHeartbeats 1600000 in
theorem streams_1 (w : World) : Calls Tryd.prog 61 #[.int .i64 1] w fun e w' => e = .returned (.int .i64 1) ∧ w = w' := by
  go_enter Tryd.func61, Tryd.ntmps61
  go_wp2
  go_ret
  exact ⟨by rfl, rfl⟩
set_option maxHeartbeats 1600000 in
theorem fname_c2 (w : World) : Calls Tryd.prog 41 #[.int .i64 1, .int .i64 1] w fun e w' => e = .returned (.string ENDS) ∧ w = w' := by
  go_enter Tryd.func41, Tryd.ntmps41
  go_wp2_with (go_at_call 61; refine (streams_1 _).mono ?_; rintro e w' ⟨rfl, rfl⟩)
  go_ret
  exact ⟨by rfl, rfl⟩
set_option maxHeartbeats 1600000 in
theorem fname_c3 (w : World) : Calls Tryd.prog 41 #[.int .i64 1, .int .i64 4] w fun e w' => e = .returned (.string ENDH) ∧ w = w' := by
  go_enter Tryd.func41, Tryd.ntmps41
  go_wp2
  go_ret
  exact ⟨by rfl, rfl⟩
def nmF1 : Nat → ByteArray := fun i => if i = 0 then ENDS else ENDH
set_option maxRecDepth 20000 in
set_option maxHeartbeats 3200000 in
theorem flags_F1 (w : World) : Calls Tryd.prog 12 #[.int .i64 1, .int .i64 5] w fun e w' => ∃ A c, e = .returned (.slice A 2 c) ∧ RdV 1 w' A 2 c (stV1 nmF1) ∧ Below w.heap.size w w' := by
  obtain ⟨i0, hi, hz0, hz1, hz2⟩ := info_parts str_info
  have hh := fun (x : Int) (W : World) (hx : x = 1 ∨ x = 2 ∨ x = 4 ∨ x = 8 ∨ x = 16 ∨ x = 32) => has_c 1 5 x W (by decide) hx
  go_enter Tryd.func12, Tryd.ntmps12
  go_wp2_with fail
  go_loopw [5, 6] (fun v i wr => StF nmF1 w 0 1 v i wr ∨ StF nmF1 w 1 2 v i wr ∨ StF nmF1 w 1 4 v i wr ∨ StF nmF1 w 2 8 v i wr ∨ StF nmF1 w 2 16 v i wr ∨ StF nmF1 w 2 32 v i wr ∨ StF nmF1 w 2 64 v i wr) (fun _ i _ => 64 - (intOf i).toNat)
  case atStart => exact .inl ⟨rfl, OwnV.nil _ _ _ _ _, Below.refl _ _⟩
  case round =>
    rcases hrel with ⟨rfl, hO, hB⟩ | ⟨rfl, hO, hB⟩ | ⟨rfl, hO, hB⟩ | ⟨rfl, hO, hB⟩ | ⟨rfl, hO, hB⟩ | ⟨rfl, hO, hB⟩ | ⟨rfl, hO, hB⟩
    · have HO := hide hO
      have HB := hide hB
      have hsz := hB.size
      clear hO hB
      go_wp2_with fail
      refine (hh 1 _ (by decide)).mono ?_
      rintro e w1 ⟨rfl, hd1⟩
      rw [show hasC 1 1 = true by decide]
      have HB1 := hide (HB.out.trans (drawn_below hd1 _))
      have HO1 := hide (HO.out.below (drawn_below hd1 _))
      have hs1 := HB1.out.size
      clear hd1
      go_wp2_with fail
      refine (fname_c2 _).mono ?_
      rintro e w2 ⟨rfl, rfl⟩
      have HO2 := hide (HO1.out.alloc (.cells #[.string ENDS] 9))
      have HB2 := hide (HB1.out.alloc hs1 (.cells #[.string ENDS] 9))
      have Hx := hide (rdV_str w1 ENDS 9)
      go_wp2_with (at_builtin; refine wp_appV rfl _ _ _ rfl 1 i0 _ 16 Tryd.underlying26 hi hz0 hz1 hz2 rfl (by omega) w.heap.size _ 0 _ rfl HO2.out _ 1 1 _ rfl Hx.out (fun _ _ => rfl) (by simp [maxLen]) (by omega) HB2.out.size ?_; intro v3 w3 hown3 hg3 _)
      have HB3 := hide (HB2.out.grown hg3 HB2.out.size (fun j e => (World.ownsRow.lt HO2.out j e).1))
      have HO3 : Hid (OwnV 1 9 w.heap.size w3 v3 1 (stV1 nmF1)) := hown3.congr (fun i hi => by
        have : i = 0 := by omega
        obtain rfl := this; rfl)
      clear hown3 hg3
      go_roundw
      case rel => exact .inr (.inl ⟨rfl, HO3.out, HB3.out⟩)
      case measure => simp [intOf]
    · have HO := hide hO
      have HB := hide hB
      have hsz := hB.size
      clear hO hB
      go_wp2_with fail
      refine (hh 2 _ (by decide)).mono ?_
      rintro e w1 ⟨rfl, hd1⟩
      rw [show hasC 1 2 = false by decide]
      have HB1 := hide (HB.out.trans (drawn_below hd1 _))
      have HO1 := hide (HO.out.below (drawn_below hd1 _))
      have hs1 := HB1.out.size
      clear hd1
      go_wp2_with fail
      exact ⟨.inr (.inr (.inl ⟨rfl, HO1.out, HB1.out⟩)), by simp [intOf]⟩
    · have HO := hide hO
      have HB := hide hB
      have hsz := hB.size
      clear hO hB
      go_wp2_with fail
      refine (hh 4 _ (by decide)).mono ?_
      rintro e w1 ⟨rfl, hd1⟩
      rw [show hasC 1 4 = true by decide]
      have HB1 := hide (HB.out.trans (drawn_below hd1 _))
      have HO1 := hide (HO.out.below (drawn_below hd1 _))
      have hs1 := HB1.out.size
      clear hd1
      go_wp2_with fail
      refine (fname_c3 _).mono ?_
      rintro e w2 ⟨rfl, rfl⟩
      have HO2 := hide (HO1.out.alloc (.cells #[.string ENDH] 9))
      have HB2 := hide (HB1.out.alloc hs1 (.cells #[.string ENDH] 9))
      have Hx := hide (rdV_str w1 ENDH 9)
      go_wp2_with (at_builtin; refine wp_appV rfl _ _ _ rfl 1 i0 _ 16 Tryd.underlying26 hi hz0 hz1 hz2 rfl (by omega) w.heap.size _ 1 _ rfl HO2.out _ 1 1 _ rfl Hx.out (fun _ _ => rfl) (by simp [maxLen]) (by omega) HB2.out.size ?_; intro v3 w3 hown3 hg3 _)
      have HB3 := hide (HB2.out.grown hg3 HB2.out.size (fun j e => (World.ownsRow.lt HO2.out j e).1))
      have HO3 : Hid (OwnV 1 9 w.heap.size w3 v3 2 (stV1 nmF1)) := hown3.congr (fun i hi => by
        have : i = 0 ∨ i = 1 := by omega
        rcases this with rfl | rfl <;> rfl)
      clear hown3 hg3
      go_roundw
      case rel => exact .inr (.inr (.inr (.inl ⟨rfl, HO3.out, HB3.out⟩)))
      case measure => simp [intOf]
    · have HO := hide hO
      have HB := hide hB
      have hsz := hB.size
      clear hO hB
      go_wp2_with fail
      refine (hh 8 _ (by decide)).mono ?_
      rintro e w1 ⟨rfl, hd1⟩
      rw [show hasC 1 8 = false by decide]
      have HB1 := hide (HB.out.trans (drawn_below hd1 _))
      have HO1 := hide (HO.out.below (drawn_below hd1 _))
      have hs1 := HB1.out.size
      clear hd1
      go_wp2_with fail
      exact ⟨.inr (.inr (.inr (.inr (.inl ⟨rfl, HO1.out, HB1.out⟩)))), by simp [intOf]⟩
    · have HO := hide hO
      have HB := hide hB
      have hsz := hB.size
      clear hO hB
      go_wp2_with fail
      refine (hh 16 _ (by decide)).mono ?_
      rintro e w1 ⟨rfl, hd1⟩
      rw [show hasC 1 16 = false by decide]
      have HB1 := hide (HB.out.trans (drawn_below hd1 _))
      have HO1 := hide (HO.out.below (drawn_below hd1 _))
      have hs1 := HB1.out.size
      clear hd1
      go_wp2_with fail
      exact ⟨.inr (.inr (.inr (.inr (.inr (.inl ⟨rfl, HO1.out, HB1.out⟩))))), by simp [intOf]⟩
    · have HO := hide hO
      have HB := hide hB
      have hsz := hB.size
      clear hO hB
      go_wp2_with fail
      refine (hh 32 _ (by decide)).mono ?_
      rintro e w1 ⟨rfl, hd1⟩
      rw [show hasC 1 32 = false by decide]
      have HB1 := hide (HB.out.trans (drawn_below hd1 _))
      have HO1 := hide (HO.out.below (drawn_below hd1 _))
      have hs1 := HB1.out.size
      clear hd1
      go_wp2_with fail
      exact ⟨.inr (.inr (.inr (.inr (.inr (.inr (⟨rfl, HO1.out, HB1.out⟩)))))), by simp [intOf]⟩
    · obtain ⟨A, c, rfl, hr, _⟩ := hO.rd
      have HR := hide hr
      have HB := hide hB
      clear hO hB hr
      go_wp2_with fail
      go_ret
      exact ⟨A, c, rfl, HR.out, HB.out⟩
def nmF4 : Nat → ByteArray := fun i => ACK
set_option maxRecDepth 20000 in
set_option maxHeartbeats 3200000 in
theorem flags_F4 (w : World) : Calls Tryd.prog 12 #[.int .i64 4, .int .i64 255] w fun e w' => ∃ A c, e = .returned (.slice A 1 c) ∧ RdV 1 w' A 1 c (stV1 nmF4) ∧ Below w.heap.size w w' := by
  obtain ⟨i0, hi, hz0, hz1, hz2⟩ := info_parts str_info
  have hh := fun (x : Int) (W : World) (hx : x = 1 ∨ x = 2 ∨ x = 4 ∨ x = 8 ∨ x = 16 ∨ x = 32) => has_c 4 255 x W (by decide) hx
  go_enter Tryd.func12, Tryd.ntmps12
  go_wp2_with fail
  go_loopw [5, 6] (fun v i wr => StF nmF4 w 0 1 v i wr ∨ StF nmF4 w 1 2 v i wr ∨ StF nmF4 w 1 4 v i wr ∨ StF nmF4 w 1 8 v i wr ∨ StF nmF4 w 1 16 v i wr ∨ StF nmF4 w 1 32 v i wr ∨ StF nmF4 w 1 64 v i wr) (fun _ i _ => 64 - (intOf i).toNat)
  case atStart => exact .inl ⟨rfl, OwnV.nil _ _ _ _ _, Below.refl _ _⟩
  case round =>
    rcases hrel with ⟨rfl, hO, hB⟩ | ⟨rfl, hO, hB⟩ | ⟨rfl, hO, hB⟩ | ⟨rfl, hO, hB⟩ | ⟨rfl, hO, hB⟩ | ⟨rfl, hO, hB⟩ | ⟨rfl, hO, hB⟩
    · have HO := hide hO
      have HB := hide hB
      have hsz := hB.size
      clear hO hB
      go_wp2_with fail
      refine (hh 1 _ (by decide)).mono ?_
      rintro e w1 ⟨rfl, hd1⟩
      rw [show hasC 4 1 = true by decide]
      have HB1 := hide (HB.out.trans (drawn_below hd1 _))
      have HO1 := hide (HO.out.below (drawn_below hd1 _))
      have hs1 := HB1.out.size
      clear hd1
      go_wp2_with fail
      refine (fname_c1 _).mono ?_
      rintro e w2 ⟨rfl, rfl⟩
      have HO2 := hide (HO1.out.alloc (.cells #[.string ACK] 9))
      have HB2 := hide (HB1.out.alloc hs1 (.cells #[.string ACK] 9))
      have Hx := hide (rdV_str w1 ACK 9)
      go_wp2_with (at_builtin; refine wp_appV rfl _ _ _ rfl 1 i0 _ 16 Tryd.underlying26 hi hz0 hz1 hz2 rfl (by omega) w.heap.size _ 0 _ rfl HO2.out _ 1 1 _ rfl Hx.out (fun _ _ => rfl) (by simp [maxLen]) (by omega) HB2.out.size ?_; intro v3 w3 hown3 hg3 _)
      have HB3 := hide (HB2.out.grown hg3 HB2.out.size (fun j e => (World.ownsRow.lt HO2.out j e).1))
      have HO3 : Hid (OwnV 1 9 w.heap.size w3 v3 1 (stV1 nmF4)) := hown3.congr (fun i hi => by
        have : i = 0 := by omega
        obtain rfl := this; rfl)
      clear hown3 hg3
      go_roundw
      case rel => exact .inr (.inl ⟨rfl, HO3.out, HB3.out⟩)
      case measure => simp [intOf]
    · have HO := hide hO
      have HB := hide hB
      have hsz := hB.size
      clear hO hB
      go_wp2_with fail
      refine (hh 2 _ (by decide)).mono ?_
      rintro e w1 ⟨rfl, hd1⟩
      rw [show hasC 4 2 = false by decide]
      have HB1 := hide (HB.out.trans (drawn_below hd1 _))
      have HO1 := hide (HO.out.below (drawn_below hd1 _))
      have hs1 := HB1.out.size
      clear hd1
      go_wp2_with fail
      exact ⟨.inr (.inr (.inl ⟨rfl, HO1.out, HB1.out⟩)), by simp [intOf]⟩
    · have HO := hide hO
      have HB := hide hB
      have hsz := hB.size
      clear hO hB
      go_wp2_with fail
      refine (hh 4 _ (by decide)).mono ?_
      rintro e w1 ⟨rfl, hd1⟩
      rw [show hasC 4 4 = false by decide]
      have HB1 := hide (HB.out.trans (drawn_below hd1 _))
      have HO1 := hide (HO.out.below (drawn_below hd1 _))
      have hs1 := HB1.out.size
      clear hd1
      go_wp2_with fail
      exact ⟨.inr (.inr (.inr (.inl ⟨rfl, HO1.out, HB1.out⟩))), by simp [intOf]⟩
    · have HO := hide hO
      have HB := hide hB
      have hsz := hB.size
      clear hO hB
      go_wp2_with fail
      refine (hh 8 _ (by decide)).mono ?_
      rintro e w1 ⟨rfl, hd1⟩
      rw [show hasC 4 8 = false by decide]
      have HB1 := hide (HB.out.trans (drawn_below hd1 _))
      have HO1 := hide (HO.out.below (drawn_below hd1 _))
      have hs1 := HB1.out.size
      clear hd1
      go_wp2_with fail
      exact ⟨.inr (.inr (.inr (.inr (.inl ⟨rfl, HO1.out, HB1.out⟩)))), by simp [intOf]⟩
    · have HO := hide hO
      have HB := hide hB
      have hsz := hB.size
      clear hO hB
      go_wp2_with fail
      refine (hh 16 _ (by decide)).mono ?_
      rintro e w1 ⟨rfl, hd1⟩
      rw [show hasC 4 16 = false by decide]
      have HB1 := hide (HB.out.trans (drawn_below hd1 _))
      have HO1 := hide (HO.out.below (drawn_below hd1 _))
      have hs1 := HB1.out.size
      clear hd1
      go_wp2_with fail
      exact ⟨.inr (.inr (.inr (.inr (.inr (.inl ⟨rfl, HO1.out, HB1.out⟩))))), by simp [intOf]⟩
    · have HO := hide hO
      have HB := hide hB
      have hsz := hB.size
      clear hO hB
      go_wp2_with fail
      refine (hh 32 _ (by decide)).mono ?_
      rintro e w1 ⟨rfl, hd1⟩
      rw [show hasC 4 32 = false by decide]
      have HB1 := hide (HB.out.trans (drawn_below hd1 _))
      have HO1 := hide (HO.out.below (drawn_below hd1 _))
      have hs1 := HB1.out.size
      clear hd1
      go_wp2_with fail
      exact ⟨.inr (.inr (.inr (.inr (.inr (.inr (⟨rfl, HO1.out, HB1.out⟩)))))), by simp [intOf]⟩
    · obtain ⟨A, c, rfl, hr, _⟩ := hO.rd
      have HR := hide hr
      have HB := hide hB
      clear hO hB hr
      go_wp2_with fail
      go_ret
      exact ⟨A, c, rfl, HR.out, HB.out⟩
end

section
open Go.RowKit Go.PlainAid

def Yes8 (w : World) (e : Ending) (w' : World) : Prop := e = .returned (.bool true) ∧ Below w.heap.size w w'
set_option maxRecDepth 20000 in
set_option maxHeartbeats 1600000 in
theorem alive8 (w : World) : Calls Tryd.prog 14 #[] w (Yes8 w) := by
  go_enter Tryd.func14, Tryd.ntmps14
  go_wp2_with fail
  refine (flags_F1 _).mono ?_
  rintro e w1 ⟨A1, c1, rfl, hr1, hb1⟩
  have Hr1 := hide hr1
  have HB1 := hide hb1
  have hs1 := hb1.size
  clear hr1 hb1
  have Hl := hide ((OwnV.lit 1 9 0 w1 (stV1 nmF1) #[.string ENDS, .string ENDH] 2 (Nat.zero_le _) (by simp [maxLen]) rfl).rdS2)
  have HC1 := hide (HB1.out.alloc hs1 (.cells #[.string ENDS, .string ENDH] 9))
  go_wp2_with fail
  refine (strs_same _ _ 2 _ _ nmF1 _ (rdV_below Hr1.out ((Below.refl _ _).alloc (Nat.le_refl _) _)) Hl.out).mono ?_
  rintro e w2 ⟨rfl, hd2⟩
  have HB2 := hide (HC1.out.trans (drawn_below hd2 _))
  clear hd2 Hr1 HB1 hs1 Hl HC1
  go_wp2_with fail
  refine (flags_F4 _).mono ?_
  rintro e w3 ⟨A3, c3, rfl, hr3, hb3⟩
  have Hr3 := hide hr3
  have HB3 := hide (HB2.out.trans (hb3.mono HB2.out.size))
  have hs3 := HB3.out.size
  clear hr3 hb3 HB2
  have Hl := hide ((OwnV.lit 1 9 0 w3 (stV1 nmF4) #[.string ACK] 1 (Nat.zero_le _) (by simp [maxLen]) rfl).rdS2)
  have HC3 := hide (HB3.out.alloc hs3 (.cells #[.string ACK] 9))
  go_wp2_with fail
  refine (strs_same _ _ 1 _ _ nmF4 _ (rdV_below Hr3.out ((Below.refl _ _).alloc (Nat.le_refl _) _)) Hl.out).mono ?_
  rintro e w4 ⟨rfl, hd4⟩
  have HB4 := hide (HC3.out.trans (drawn_below hd4 _))
  clear hd4 Hr3 HB3 hs3 Hl HC3
  go_wp2_with fail
  refine (name_c _).mono ?_
  rintro e w5 ⟨rfl, hb5⟩
  have HB5 := hide (HB4.out.trans (hb5.mono HB4.out.size))
  clear hb5
  go_wp2_with fail
  go_ret
  exact ⟨by kernel_rfl, HB5.out⟩
def strI (t : Int) : Int := if t = 4 ∨ t = 6 ∨ t = 7 then 0 else if 0 ≤ t ∧ t < 10 ∧ t ≠ 8 then 1 else 2
theorem strI_out {t : Int} (h : ¬ (0 ≤ t ∧ t < 10)) : strI t = 2 := by
  unfold strI
  rw [if_neg (by omega), if_neg (by omega)]
set_option maxHeartbeats 3200000 in
theorem streams_any (t : Int) (w : World) : Calls Tryd.prog 61 #[.int .i64 t] w fun e w' => e = .returned (.int .i64 (strI t)) ∧ w = w' := by
  by_cases h : 0 ≤ t ∧ t < 10
  · have : t = 0 ∨ t = 1 ∨ t = 2 ∨ t = 3 ∨ t = 4 ∨ t = 5 ∨ t = 6 ∨ t = 7 ∨ t = 8 ∨ t = 9 := by omega
    clear h
    rcases this with rfl | rfl | rfl | rfl | rfl | rfl | rfl | rfl | rfl | rfl <;>
    · go_enter Tryd.func61, Tryd.ntmps61
      go_wp2
      go_ret
      exact ⟨by kernel_rfl, rfl⟩
  · have H := hide (strI_out h)
    have n0 : (t == 0) = false := by simp; omega
    have n1 : (t == 1) = false := by simp; omega
    have n2 : (t == 2) = false := by simp; omega
    have n3 : (t == 3) = false := by simp; omega
    have n4 : (t == 4) = false := by simp; omega
    have n5 : (t == 5) = false := by simp; omega
    have n6 : (t == 6) = false := by simp; omega
    have n7 : (t == 7) = false := by simp; omega
    have n8 : (t == 8) = false := by simp; omega
    have n9 : (t == 9) = false := by simp; omega
    clear h
    go_enter Tryd.func61, Tryd.ntmps61
    go_wp2
    go_ret
    exact ⟨by rw [H.out]; rfl, rfl⟩
end
end Go.Proofs.YtbkdegjkjjdcdaaDoor
