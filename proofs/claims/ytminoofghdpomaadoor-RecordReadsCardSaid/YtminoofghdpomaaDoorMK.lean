/- Ki1, Ki2, Ki3, Ki4 in one text. -/
import Derived.Test.YtminoofghdpomaaDoorMT
namespace Go.Proofs.YtminoofghdpomaaDoor
set_option linter.unusedVariables false
set_option linter.unusedSimpArgs false
section
open Go.RowKit Go.PlainAid

def ENDS : ByteArray := ⟨#[69, 78, 68, 95, 83, 84, 82, 69, 65, 77]⟩
def ENDH : ByteArray := ⟨#[69, 78, 68, 95, 72, 69, 65, 68, 69, 82, 83]⟩
def ACK : ByteArray := ⟨#[65, 67, 75]⟩
set_option maxRecDepth 100000 in
set_option maxHeartbeats 1600000 in
theorem small_c (w : World) : Calls Tryd.prog 69 #[.int .i64 11] w fun e w' => e = .returned (.string ⟨#[49, 49]⟩) ∧ w = w' := by
  go_enter Tryd.func69, Tryd.ntmps69
  go_wp2
  go_ret
  exact ⟨by kernel_rfl, rfl⟩
set_option maxRecDepth 20000 in
set_option maxHeartbeats 1600000 in
theorem format_c (w : World) : Calls Tryd.prog 58 #[.int .i64 11, .int .i64 10] w fun e w' => e = .returned (.string ⟨#[49, 49]⟩) ∧ Below w.heap.size w w' := by
  go_enter Tryd.func58, Tryd.ntmps58
  go_wp2_with fail
  refine (small_c _).mono ?_
  rintro e w' ⟨rfl, rfl⟩
  go_wp2_with fail
  go_ret
  exact ⟨by rfl, by repeat (first | exact Below.refl _ _ | refine Below.alloc ?_ (by simp) _)⟩
set_option maxHeartbeats 1600000 in
theorem text_c (w : World) : Calls Tryd.prog 19 #[.int .i64 11] w fun e w' => e = .returned (.string ⟨#[49, 49]⟩) ∧ Below w.heap.size w w' := by
  have h3 : ∀ w, Calls Tryd.prog 52 #[.int .i64 11] w fun e w' => e = .returned (.string ⟨#[49, 49]⟩) ∧ Below w.heap.size w w' := by
    intro w
    go_enter Tryd.func52, Tryd.ntmps52
    go_wp2_with fail
    refine (format_c _).mono ?_
    rintro e w' ⟨rfl, hb⟩
    have HB := hide hb
    clear hb
    go_wp2_with fail
    go_ret
    exact ⟨rfl, HB.out⟩
  have h4 : ∀ w, Calls Tryd.prog 38 #[.int .i64 11] w fun e w' => e = .returned (.string ⟨#[49, 49]⟩) ∧ Below w.heap.size w w' := by
    intro w
    go_enter Tryd.func38, Tryd.ntmps38
    go_wp2_with fail
    refine (h3 _).mono ?_
    rintro e w' ⟨rfl, hb⟩
    have HB := hide hb
    clear hb
    go_wp2_with fail
    go_ret
    exact ⟨rfl, HB.out⟩
  go_enter Tryd.func19, Tryd.ntmps19
  go_wp2_with fail
  refine (h4 _).mono ?_
  rintro e w' ⟨rfl, hb⟩
  have HB := hide hb
  clear hb
  go_wp2_with fail
  go_ret
  exact ⟨rfl, HB.out⟩
def TYPE11 : ByteArray := ⟨#[84, 89, 80, 69, 95, 49, 49]⟩
set_option maxHeartbeats 1600000 in
theorem name_c (w : World) : Calls Tryd.prog 18 #[.int .i64 11] w fun e w' => e = .returned (.string TYPE11) ∧ Below w.heap.size w w' := by
  have k1 : ∀ w, Calls Tryd.prog 36 #[.int .i64 11] w fun e w' => e = .returned (.bool false) ∧ w = w' := by
    intro w
    go_enter Tryd.func36, Tryd.ntmps36
    go_wp2
    go_ret
    exact ⟨by rfl, rfl⟩
  have k2 : ∀ w, Calls Tryd.prog 37 #[.int .i64 11] w fun e w' => e = .returned (.bool true) ∧ w = w' := by
    intro w
    go_enter Tryd.func37, Tryd.ntmps37
    go_wp2
    go_ret
    exact ⟨by rfl, rfl⟩
  go_enter Tryd.func18, Tryd.ntmps18
  go_wp2_with (first
    | (go_at_call 36; refine (k1 _).mono ?_; rintro e w' ⟨rfl, rfl⟩)
    | (go_at_call 37; refine (k2 _).mono ?_; rintro e w' ⟨rfl, rfl⟩)
    | (go_at_call 19; refine (text_c _).mono ?_; rintro e w' ⟨rfl, hb⟩))
  have HB := hide hb
  clear hb
  go_ret
  exact ⟨by rfl, HB.out⟩
end

section
open Go.RowKit Go.PlainAid

def stV1 (S : Nat → ByteArray) : Nat → Value := fun i => .string (S i)
theorem rdV_str (w : World) (s : ByteArray) (T : TypeId) : RdV 1 (w.alloc (.cells #[.string s] T)) (some ⟨w.heap.size, 0, none⟩) 1 1 (fun _ => .string s) :=
  (OwnV.lit 1 T 0 w (fun _ => .string s) #[.string s] 1 (Nat.zero_le _) (by simp [maxLen]) rfl).rdS2
theorem str_info : (Tryd.prog.info? 9).map (fun i => (i.zero, i.size, i.bytes)) = some (some (.string ⟨#[]⟩), 1, 16) := by kernel_rfl
theorem rdV_below {s : Nat} {w w' : World} {A : Option Addr} {n c : Nat} {F : Nat → Value} (h : RdV s w A n c F) (hb : Below w.heap.size w w') : RdV s w' A n c F :=
  ⟨h.1, h.2.1, h.2.2.1, fun hn => by
    obtain ⟨b, off, hA, hc⟩ := h.2.2.2 hn
    exact ⟨b, off, hA, fun i hi => (hb.cell (World.block_lt_of_cell? w _ (hc i hi))).trans (hc i hi)⟩⟩
def hasC (t x : Int) : Bool := decide ((t = 1 ∧ (x = 1 ∨ x = 4)) ∨ (t = 4 ∧ x = 1))
end

section
open Go.RowKit Go.PlainAid

def StF (nm : Nat → ByteArray) (w : World) (n : Nat) (x : Int) (v i : Value) (wr : World) : Prop := i = .int .i64 x ∧ OwnV 1 9 w.heap.size wr v n (stV1 nm) ∧ Below w.heap.size w wr
def nmF1 : Nat → ByteArray := fun i => if i = 0 then ENDS else ENDH
def nmF4 : Nat → ByteArray := fun i => ACK
end

section
open Go.RowKit Go.PlainAid

def Yes8 (w : World) (e : Ending) (w' : World) : Prop := e = .returned (.bool true) ∧ Below w.heap.size w w'
def strI (t : Int) : Int := if t = 4 ∨ t = 6 ∨ t = 7 then 0 else if 0 ≤ t ∧ t < 10 ∧ t ≠ 8 then 1 else 2
theorem strI_out {t : Int} (h : ¬ (0 ≤ t ∧ t < 10)) : strI t = 2 := by
  unfold strI
  rw [if_neg (by omega), if_neg (by omega)]
end
end Go.Proofs.YtminoofghdpomaaDoor
