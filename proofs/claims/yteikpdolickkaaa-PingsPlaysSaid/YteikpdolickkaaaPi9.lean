/- Layer 36: the other ways of Send, Waits, Answer: bytes that are not eight, no room, nobody. -/
import Derived.Test.YteikpdolickkaaaPi5
namespace Go.Proofs.Yteikpdolickkaaa
open Go.RowKit Go.Maps Go.Deep

theorem belowN36 {B : Nat} {w w' : World} (h : Below B w w') {m : Nat} : Below B w (w'.drewN m) := ⟨h.os, h.tape, h.output, h.size, h.block⟩
theorem sendNil36 (v : Value) (w : World) : Calls Try.prog 91 #[.pointer none, v] w fun e w' => e = .returned (.int .i64 2) ∧ w = w' := by
  go_enter Try.func91, Try.ntmps91
  go_wp2
  go_ret
  exact ⟨rfl, rfl⟩
theorem lenNil36 (w : World) : Calls Try.prog 92 #[.pointer none] w fun e w' => e = .returned (.int .i64 0) ∧ w = w' := by
  go_enter Try.func92, Try.ntmps92
  go_wp2
  go_ret
  exact ⟨rfl, rfl⟩
set_option maxRecDepth 20000 in
theorem sendArg36 {w : World} {p : Nat} {A : Option Addr} {n c : Nat} {F : Nat → Int} (ha : Rd .u8 w A n c F) (h8 : n ≠ 8) : Calls Try.prog 91 #[.pointer (some ⟨p, 0, none⟩), .slice A n c] w fun e w' => e = .returned (.int .i64 1) ∧ Below w.heap.size w w' := by
  go_enter Try.func91, Try.ntmps91
  go_wp2_with fail
  refine (key36 ha).mono ?_
  rintro e w1 ⟨h1 | h1, hb1⟩
  · exact absurd h1.1 h8
  · obtain ⟨_, rfl⟩ := h1
    unfold ky
    go_wp2_with fail
    go_ret
    exact ⟨rfl, hb1.alloc hb1.size _⟩
set_option maxRecDepth 20000 in
theorem sendFull36 {B : Nat} {w : World} {p bm n : Nat} {most cnt : Int} {f : List Int → Int} (h : PgOk B w p bm n most cnt f) {A : Option Addr} {c : Nat} {F : Nat → Int} (ha : Rd .u8 w A 8 c F) (hc : most ≤ cnt) :
    Calls Try.prog 91 #[.pointer (some ⟨p, 0, none⟩), .slice A 8 c] w fun e w' => e = .returned (.int .i64 6) ∧ Below w.heap.size w w' := by
  have H := hide h
  have hd : decide (most ≤ cnt) = true := decide_eq_true hc
  go_enter Try.func91, Try.ntmps91
  go_wp2_with fail
  refine (key36 ha).mono ?_
  rintro e w1 ⟨h1 | h1, hb1⟩
  · obtain ⟨_, rfl⟩ := h1
    unfold ky
    have b2 := hb1.alloc hb1.size (.cells #[.int .u8 (F 0), .int .u8 (F 1), .int .u8 (F 2), .int .u8 (F 3), .int .u8 (F 4), .int .u8 (F 5), .int .u8 (F 6), .int .u8 (F 7)] 216)
    obtain ⟨c0, c1, c2⟩ := row3P (keepRow H.out.row b2)
    go_wp2_with fail
    go_quiet (fail)
    go_wp2_with fail
    go_ret
    exact ⟨rfl, ⟨b2.os, b2.tape, b2.output, b2.size, b2.block⟩⟩
  · exact absurd rfl h1.1
set_option maxRecDepth 20000 in
theorem waitsNo36 {w : World} {q : Option Addr} {A : Option Addr} {n c : Nat} {F : Nat → Int} (ha : Rd .u8 w A n c F) (h8 : n ≠ 8 ∨ q = none) : Calls Try.prog 88 #[.pointer q, .slice A n c] w fun e w' => e = .returned (.bool false) ∧ Below w.heap.size w w' := by
  go_enter Try.func88, Try.ntmps88
  go_wp2_with fail
  refine (key36 ha).mono ?_
  rintro e w1 ⟨h1 | h1, hb1⟩
  · obtain ⟨h2, rfl⟩ := h1
    obtain rfl : q = none := by
      rcases h8 with h | h
      · exact absurd h2 h
      · exact h
    unfold ky
    go_wp2_with fail
    go_quiet (fail)
    go_wp2_with fail
    go_ret
    exact ⟨rfl, belowN36 (hb1.alloc hb1.size _)⟩
  · obtain ⟨_, rfl⟩ := h1
    unfold ky
    go_wp2_with fail
    go_quiet (fail)
    go_wp2_with fail
    go_ret
    exact ⟨rfl, belowN36 (hb1.alloc hb1.size _)⟩
set_option maxRecDepth 20000 in
theorem answerOut36 {w : World} {q : Option Addr} {A : Option Addr} {n c : Nat} {F : Nat → Int} (ha : Rd .u8 w A n c F) (h8 : n ≠ 8 ∨ q = none) : Calls Try.prog 89 #[.pointer q, .slice A n c] w fun e w' => e = .returned (.bool false) ∧ Below w.heap.size w w' := by
  go_enter Try.func89, Try.ntmps89
  go_wp2_with fail
  refine (waitsNo36 ha h8).mono ?_
  rintro e w0 ⟨rfl, hb0⟩
  go_wp2_with fail
  go_ret
  exact ⟨rfl, hb0⟩
end Go.Proofs.Yteikpdolickkaaa
