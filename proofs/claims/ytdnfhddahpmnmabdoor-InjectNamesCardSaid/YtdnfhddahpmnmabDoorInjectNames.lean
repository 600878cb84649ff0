/- Each kind has its name, and just these names are kinds (P46.1). -/
import Derived.Test.YtdnfhddahpmnmabDoorIn3
import Derived.Test.YtdnfhddahpmnmabDoorVal
import Derived.Test.YtdnfhddahpmnmabDoorRows
import Derived.Test.YtdnfhddahpmnmabDoorCards
import Derived.Test.YtdnfhddahpmnmabDoorTie
import Derived.Test.YtdnfhddahpmnmabDoorLaid
import Derived.SevenTiedAt
import Derived.LaidMore
import Derived.Stop.Joined
import Derived.WalkKit
import Derived.ProofKit
import Derived.OpenShut
import Derived.ShutString
import Derived.ChangeArms
import Derived.ChangeOld
import Derived.Below
namespace Go.Proofs.YtdnfhddahpmnmabDoor.injectNames
open Go.ChangeShapes Go.WideShapes Go.ChangeAt Go.RowKit
open Go.ChangeMaps (open_string shut_string)
open Go
set_option linter.unusedVariables false

theorem own : ownKnob Tryd.prog.godebug = none := by kernel_rfl
theorem laidOut : laidOutB Tryd.prog = true := by kernel_rfl

def laidL : List (String × DataW Unit) := [("stickler/repr.forms", Rows.laid_stickler_repr_forms), ("stickler/inject.entries", Rows.laid_stickler_inject_entries)]
theorem door_met (os : Os) (args : Array Value) : laidMetH Tryd.prog laidL ((World.doorLaid Tryd.prog 80 os).forCall (fun _ _ => 0) ⟨#[], args, []⟩).memory :=
  laidMetH_of_parts3 (fuel := 8) (laidMet_of_run' 8 (by kernel_rfl) (by kernel_rfl)) (by kernel_rfl) (by kernel_rfl)
set_option maxRecDepth 100000 in
theorem lifted (os : Os) (started : os.Started) (H : Type) (enc : TypeId × Value → H) :
    ReturnsInHanded {} Tryd.checked os 7 .any (fun w args => (Rows.injectNamesSpec.pre enc Tryd.prog Tryd.f7 [] false w args ∧ laidMetH Tryd.prog laidL w) ∧ sizedMet enc Tryd.prog Tryd.f7 (OpenSpec.ofChange Rows.injectNamesSpec) false w args) (Rows.injectNamesSpec.post enc Tryd.prog Tryd.f7 false true false false) := by
  refine returnsInHanded_of_change_and (C := Tryd.checked) (X := fun w _ => laidMetH Tryd.prog laidL w) (fun _ _ _ hh h => h.of_heap hh) own started (by kernel_rfl) Tryd.func7
    (ChangeSpec.witness_shaped (enc := enc) (C := Tryd.checked) (os := os) (X := fun w _ => laidMetH Tryd.prog laidL w) false (World.doorLaid Tryd.prog 80 os) #[.int .i64 0, .string ⟨#[]⟩] 8 rfl (World.shaped_of_RefB (by kernel_rfl) (by kernel_rfl)) (by kernel_rfl) (by kernel_rfl) (by kernel_rfl) (door_met os _)) ?_
  intro W base args ds gs before hval0 hW _ _ hL _
  rw [MakeChecks.laidMetH_plain _ _ _ (by kernel_rfl)] at hL
  have hval : ∀ (j : Nat) t v, Tryd.f7.params[j]? = some t → args[j]? = some v → Value.okWide Tryd.prog W .any base t v := hval0
  have hW' := hW
  obtain ⟨p, q, hA0, hV, rfl, hfz, hnd⟩ := hW
  have hA : DataW.TrodAll enc Tryd.prog W 0 (fun _ => true) true Tryd.f7.params.toList args.toList ds p := hA0
  rw [Tryd.params7] at hA hval
  obtain ⟨v0, vs0, d0, ds0, p0, q0, hargs, rfl, rfl, h0, t0⟩ := trodAll_cons hA
  obtain ⟨v1, vs1, d1, ds1, p1, q1, rfl, rfl, rfl, h1, t1⟩ := trodAll_cons t0
  obtain ⟨rfl, rfl, rfl⟩ := trodAll_nil t1
  obtain rfl : args = #[v0, v1] := by cases args; simp_all
  obtain ⟨rfl, rfl⟩ := trodVars_none hV
  obtain ⟨a0, rfl, rfl, rfl, w0⟩ := open_int Tryd.underlying3 (hval 0 3 v0 rfl rfl) h0
  obtain ⟨a1, rfl, rfl, rfl, w1⟩ := open_string Tryd.underlying9 (hval 1 9 v1 rfl rfl) h1
  have x1 := w1
  simp only [maxLen] at x1
  obtain ⟨T, fr, hg0⟩ := prs_laid (g := 1) (T := 87) (S := 86) (n := 27) [(.lit (.string []), .lit (.int .i64 0)), (.lit (.string [112, 97, 100]), .lit (.int .i64 5)), (.lit (.string [112, 105, 110, 103, 55]), .lit (.int .i64 5)), (.lit (.string [112, 105, 110, 103, 111, 110]), .lit (.int .i64 5)), (.lit (.string [115, 101, 116, 115, 111, 110]), .lit (.int .i64 5)), (.lit (.string [97, 99, 107, 98, 111, 100, 121]), .lit (.int .i64 5)), (.lit (.string [115, 101, 116, 115, 53]), .lit (.int .i64 5)), (.lit (.string [115, 116, 101, 112, 48]), .lit (.int .i64 17)), (.lit (.string [111, 118, 101, 114]), .lit (.int .i64 18)), (.lit (.string [100, 97, 116, 97, 105, 100, 108, 101]), .lit (.int .i64 10)), (.lit (.string [114, 115, 116, 105, 100, 108, 101]), .lit (.int .i64 10)), (.lit (.string [97, 108, 111, 110, 101]), .lit (.int .i64 4)), (.lit (.string [112, 114, 105, 111, 52]), .lit (.int .i64 5)), (.lit (.string [97, 119, 97, 121, 55]), .lit (.int .i64 5)), (.lit (.string [112, 117, 115, 104]), .lit (.int .i64 22)), (.lit (.string [108, 111, 110, 103]), .lit (.int .i64 3)), (.lit (.string [116, 97, 98, 108, 101]), .lit (.int .i64 25)), (.lit (.string [117, 112, 100, 97, 116, 101]), .lit (.int .i64 26)), (.lit (.string [117, 112, 112, 101, 114]), .lit (.int .i64 28)), (.lit (.string [98, 97, 114, 114, 101, 100]), .lit (.int .i64 29)), (.lit (.string [110, 111, 112, 97, 116, 104]), .lit (.int .i64 30)), (.lit (.string [119, 105, 116, 104, 105, 110]), .lit (.int .i64 4)), (.lit (.string [112, 117, 115, 104, 50]), .lit (.int .i64 6)), (.lit (.string [102, 114, 97, 109, 101, 48]), .lit (.int .i64 6)), (.lit (.string [119, 105, 110, 100, 111, 119]), .lit (.int .i64 6)), (.lit (.string [114, 115, 116, 48]), .lit (.int .i64 5)), (.lit (.string [97, 99, 107]), .lit (.int .i64 7))] hL (List.mem_cons_of_mem _ (List.mem_cons.2 (.inl rfl))) (by kernel_rfl) (by kernel_rfl) Tryd.underlying87 Tryd.underlying86 (by kernel_rfl) (by kernel_rfl) rfl rfl (by kernel_rfl) (by kernel_rfl) (one_string Tryd.underlying9) (one_int Tryd.underlying3)
  have hg : W.heap[1]? = some (.cells entV T fr) := hg0
  clear hA0 hval0
  refine (names_walk46 a0 a1 W T fr hg).mono fun e W' ⟨he, bel⟩ => ?_
  subst he
  exact ⟨_, rfl, _, _, _, [], _, [], hW', trodAll_mk1 (shut_bool Tryd.underlying4 _), (trodAll_cons_mk (shut_int Tryd.underlying3 w0) (trodAll_cons_mk (shut_string Tryd.underlying9 w1) trodAll_mk0)), rfl, bel.frame _, fun h => by cases h⟩

theorem over : Rows.injectNamesRow.holds Tryd.pinned (OpenSpec.ofChange Rows.injectNamesSpec) :=
  OpenClaim.holds_of_wide 7 Tryd.f7 rfl rfl rfl rfl rfl rfl rfl ⟨rfl, rfl, rfl, rfl, rfl⟩ rfl rfl rfl rfl rfl (by kernel_rfl) Tryd.func7 (by kernel_rfl)
    (of_decide_eq_true (by kernel_rfl)) (by unfold Func.isWrapper; first | (rw [if_pos (by decide +kernel)]; kernel_rfl) | (rw [if_neg (by decide +kernel)]; exact ⟨rfl, rfl⟩))
    (fun os started H enc _ => lifted os started H enc)

theorem proved : Rows.InjectNamesCardSaid :=
  Claim7.holds_tied_plain_at .later [] [.data, .data] true (true, "c667e8a8eb911a09c839ee718aafa96ef311c8be8440cc141ec926725a63c9d5") false
    over (fun _ h => by cases h) (by kernel_rfl) (fun _ h => by cases h) injectNames_row_tie rfl ⟨rfl, rfl⟩ (by kernel_rfl) rfl
    (fun f fn hf hfn => by
      obtain rfl : f = 7 := Option.some.inj ((show Tryd.prog.funcNamed "stickler/sticklerlaw46.InjectNames" = some 7 by kernel_rfl).symm.trans hf) |>.symm
      obtain rfl : fn = Tryd.f7 := (Option.some.inj (Tryd.func7.symm.trans hfn)).symm
      exact ⟨by kernel_rfl, fun j t ht => by
        rw [Tryd.params7] at ht
        have hm : t ∈ [3, 9] := by simpa using Array.mem_of_getElem? ht
        have hall : ([3, 9].all fun u => !Tryd.prog.wantsStandIn u) = true := by kernel_rfl
        exact (show Tryd.prog.wantsStandIn t = false by simpa using List.all_eq_true.1 hall t hm)⟩)
    (by kernel_rfl)
end Go.Proofs.YtdnfhddahpmnmabDoor.injectNames
