/- Layer 14: the examples. -/
import Derived.Test.YtpnjamomkpkkeaaFrc
import Derived.Test.YtpnjamomkpkkeaaFr6
import Derived.Test.YtpnjamomkpkkeaaFre
import Derived.Test.YtpnjamomkpkkeaaFrf
import Derived.Deep.Cut
namespace Go.Proofs.Ytpnjamomkpkkeaa
set_option linter.unusedVariables false
set_option linter.unusedSimpArgs false
open Go.RowKit

def x14 (y : Int) : Nat → Int := fun i => if i = 0 then y else if i = 1 then 7 else 0
theorem x14_byt {y : Int} (h0 : 0 ≤ y) (h1 : y ≤ 255) (n : Nat) : Byt n (x14 y) := fun i _ => by
  unfold x14
  (repeat' split) <;> omega
theorem ex14a (A : Option Addr) (c : Nat) (w : World) (ha : Rd .u8 w A 4 c (x14 2)) : Calls Try.prog 19 #[.agg #[.int .i64 0, .int .i64 0, .int .i64 8, .int .i64 1, .bool false, .slice A 4 c]] w fun e w' => ∃ A2 c2 A3 c3, e = .returned (.tuple #[.agg #[.int .i64 0, .int .i64 8, .int .i64 1, .int .i64 2, .slice A2 1 c2, .slice A3 0 c3, .int .i64 0, .int .i64 0, .bool false, .int .i64 0, .int .i64 0, .int .i64 0, .int .i64 0], .agg #[.int .i64 0, .int .i64 0], .int .i64 0]) ∧ Rd .u8 w' A2 1 c2 (oneF 7) ∧ Rd2 w' A3 0 c3 (oneF 0) (oneF 0) ∧ Below w.heap.size w w' :=
  (parse_ok 0 0 8 1 false A 4 c (x14 2) { pad := nbV (x14 2) 4 0 1, off := nbT 4 0 1, ms := (false || nbM 4 0 1) } w (by unfold HdR; omega) (by decide) (by decide) ha (x14_byt (by decide) (by decide) 4) (by decide)
    (fun q p c' A' B W hB hBp hA h => frame_d1 0 8 1 false (.slice A 4 c) q p c' 4 A' (x14 2) (x14_byt (by decide) (by decide) 4) (by decide) (by decide) (by decide) B hB hBp W hA h) (by decide) (by decide)).mono fun _ _ ⟨A2, c2, A3, c3, h1, h2, h3, h4⟩ => by
    have e1 : nbV (x14 2) 4 0 1 = 2 := by decide
    have e2 : nbT 4 0 1 = 1 := by decide
    have e3 : upN 4 1 (m0 2) = 1 := by decide
    simp only [e1, e2, e3] at h1 h2 h3
    exact ⟨A2, c2, A3, c3, h1, h2.congr (fun i hi => by obtain rfl : i = 0 := by omega
                                                        decide), Rd2.congr h3 (fun i hi => by omega) (fun i hi => by omega), h4⟩
theorem ex14b (A : Option Addr) (c : Nat) (w : World) (ha : Rd .u8 w A 4 c (x14 4)) : Calls Try.prog 19 #[.agg #[.int .i64 0, .int .i64 0, .int .i64 8, .int .i64 1, .bool false, .slice A 4 c]] w fun e w' => e = .returned (.tuple #[.agg #[.int .i64 0, .int .i64 0, .int .i64 0, .int .i64 0, .slice none 0 0, .slice none 0 0, .int .i64 0, .int .i64 0, .bool false, .int .i64 0, .int .i64 0, .int .i64 0, .int .i64 0], .agg #[.int .i64 2, .int .i64 1], .int .i64 0]) ∧ Below w.heap.size w w' :=
  parse_ov 0 0 8 1 false A 4 c (x14 4) { pad := nbV (x14 4) 4 0 1, off := nbT 4 0 1, ms := (false || nbM 4 0 1) } w (by unfold HdR; omega) (by decide) (by decide) ha (x14_byt (by decide) (by decide) 4) (by decide)
    (fun q p c' A' B W hB hBp hA h => frame_d1 0 8 1 false (.slice A 4 c) q p c' 4 A' (x14 4) (x14_byt (by decide) (by decide) 4) (by decide) (by decide) (by decide) B hB hBp W hA h) (by decide) (by decide)
end Go.Proofs.Ytpnjamomkpkkeaa
