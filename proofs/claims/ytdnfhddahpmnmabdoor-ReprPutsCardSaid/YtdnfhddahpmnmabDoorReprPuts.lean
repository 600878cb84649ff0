/- Which ways a field stands there may be, and their bytes, are the document's (P22.1). -/
import Derived.Test.YtdnfhddahpmnmabDoorRpg
import Derived.Test.YtdnfhddahpmnmabDoorVal
import Derived.Test.YtdnfhddahpmnmabDoorRows
import Derived.Test.YtdnfhddahpmnmabDoorCards
import Derived.Test.YtdnfhddahpmnmabDoorTie
import Derived.Test.YtdnfhddahpmnmabDoorLaid
import Derived.SevenTiedAt
import Derived.LaidMore
import Derived.Stop.Joined
import Derived.WalkKit
import Derived.ProofKit
import Derived.OpenShut
import Derived.ShutString
import Derived.ChangeArms
import Derived.ChangeOld
import Derived.Below
namespace Go.Proofs.YtdnfhddahpmnmabDoor.reprPuts
open Go.ChangeShapes Go.WideShapes Go.ChangeAt Go.RowKit
open Go.ChangeMaps (open_string shut_string)
open Go
set_option linter.unusedVariables false

theorem own : ownKnob Tryd.prog.godebug = none := by kernel_rfl
theorem laidOut : laidOutB Tryd.prog = true := by kernel_rfl

def laidL : List (String × DataW Unit) := [("stickler/repr.forms", Rows.laid_stickler_repr_forms)]
theorem door_met (os : Os) (args : Array Value) : laidMetH Tryd.prog laidL ((World.doorLaid Tryd.prog 80 os).forCall (fun _ _ => 0) ⟨#[], args, []⟩).memory :=
  laidMetH_of_parts3 (fuel := 8) (laidMet_of_run' 8 (by kernel_rfl) (by kernel_rfl)) (by kernel_rfl) (by kernel_rfl)
set_option maxRecDepth 100000 in
theorem lifted (os : Os) (started : os.Started) (H : Type) (enc : TypeId × Value → H) :
    ReturnsInHanded {} Tryd.checked os 4 .any (fun w args => (Rows.reprPutsSpec.pre enc Tryd.prog Tryd.f4 [] false w args ∧ laidMetH Tryd.prog laidL w) ∧ sizedMet enc Tryd.prog Tryd.f4 (OpenSpec.ofChange Rows.reprPutsSpec) false w args) (Rows.reprPutsSpec.post enc Tryd.prog Tryd.f4 false true false false) := by
  refine returnsInHanded_of_change_and (C := Tryd.checked) (X := fun w _ => laidMetH Tryd.prog laidL w) (fun _ _ _ hh h => h.of_heap hh) own started (by kernel_rfl) Tryd.func4
    (ChangeSpec.witness_shaped (enc := enc) (C := Tryd.checked) (os := os) (X := fun w _ => laidMetH Tryd.prog laidL w) false (World.doorLaid Tryd.prog 80 os) #[.agg #[.int .i64 0, .int .i64 0, .string ⟨#[]⟩, .bool false, .string ⟨#[]⟩, .bool false, .int .i64 0]] 8 rfl (World.shaped_of_RefB (by kernel_rfl) (by kernel_rfl)) (by kernel_rfl) (by kernel_rfl) (by kernel_rfl) (door_met os _)) ?_
  intro W base args ds gs before hval0 hW _ _ hL _
  rw [MakeChecks.laidMetH_plain _ _ _ (by kernel_rfl)] at hL
  have hval : ∀ (j : Nat) t v, Tryd.f4.params[j]? = some t → args[j]? = some v → Value.okWide Tryd.prog W .any base t v := hval0
  have hW' := hW
  obtain ⟨p, q, hA0, hV, rfl, hfz, hnd⟩ := hW
  have hA : DataW.TrodAll enc Tryd.prog W 0 (fun _ => true) true Tryd.f4.params.toList args.toList ds p := hA0
  rw [Tryd.params4] at hA hval
  obtain ⟨v0, vs0, d0, ds0, p0, q0, hargs, rfl, rfl, h0, t0⟩ := trodAll_cons hA
  obtain ⟨rfl, rfl, rfl⟩ := trodAll_nil t0
  obtain rfl : args = #[v0] := by cases args; simp_all
  obtain ⟨rfl, rfl⟩ := trodVars_none hV
  have k0 := h0
  have lt0 : ∀ x ∈ p0, x.block < W.heap.size := by obtain ⟨m, hm⟩ := k0; exact DataW.trod_lt m _ _ _ hm
  obtain ⟨l0, n0, rfl, hl0, hf0⟩ := open_aggs Tryd.underlying27 (by kernel_rfl) (by kernel_rfl) (hval 0 27 v0 rfl rfl) h0
  have hl0' : l0.length = 7 := hl0
  obtain ⟨c0_0, c0_1, c0_2, c0_3, c0_4, c0_5, c0_6, rfl⟩ := list7 hl0'
  obtain ⟨y0_0, t0_0⟩ : ∃ y, DataW.trod enc Tryd.prog W 0 (fun _ => true) true n0 3 [c0_0] = some y := hf0 0 _ _ rfl rfl
  obtain ⟨a0_0, e0_0, _, w0_0⟩ := DataW.trod_int Tryd.underlying3 t0_0
  obtain rfl : c0_0 = .int .i64 a0_0 := by simpa using e0_0
  obtain ⟨y0_1, t0_1⟩ : ∃ y, DataW.trod enc Tryd.prog W 0 (fun _ => true) true n0 3 [c0_1] = some y := hf0 1 _ _ rfl rfl
  obtain ⟨a0_1, e0_1, _, w0_1⟩ := DataW.trod_int Tryd.underlying3 t0_1
  obtain rfl : c0_1 = .int .i64 a0_1 := by simpa using e0_1
  obtain ⟨y0_2, t0_2⟩ : ∃ y, DataW.trod enc Tryd.prog W 0 (fun _ => true) true n0 9 [c0_2] = some y := hf0 2 _ _ rfl rfl
  obtain ⟨a0_2, e0_2, _, w0_2⟩ := DataW.trod_string Tryd.underlying9 t0_2
  obtain rfl : c0_2 = .string a0_2 := by simpa using e0_2
  simp only [maxLen] at w0_2
  obtain ⟨y0_3, t0_3⟩ : ∃ y, DataW.trod enc Tryd.prog W 0 (fun _ => true) true n0 4 [c0_3] = some y := hf0 3 _ _ rfl rfl
  obtain ⟨a0_3, e0_3, _⟩ := DataW.trod_bool Tryd.underlying4 t0_3
  obtain rfl : c0_3 = .bool a0_3 := by simpa using e0_3
  obtain ⟨y0_4, t0_4⟩ : ∃ y, DataW.trod enc Tryd.prog W 0 (fun _ => true) true n0 9 [c0_4] = some y := hf0 4 _ _ rfl rfl
  obtain ⟨a0_4, e0_4, _, w0_4⟩ := DataW.trod_string Tryd.underlying9 t0_4
  obtain rfl : c0_4 = .string a0_4 := by simpa using e0_4
  simp only [maxLen] at w0_4
  obtain ⟨y0_5, t0_5⟩ : ∃ y, DataW.trod enc Tryd.prog W 0 (fun _ => true) true n0 4 [c0_5] = some y := hf0 5 _ _ rfl rfl
  obtain ⟨a0_5, e0_5, _⟩ := DataW.trod_bool Tryd.underlying4 t0_5
  obtain rfl : c0_5 = .bool a0_5 := by simpa using e0_5
  obtain ⟨y0_6, t0_6⟩ : ∃ y, DataW.trod enc Tryd.prog W 0 (fun _ => true) true n0 3 [c0_6] = some y := hf0 6 _ _ rfl rfl
  obtain ⟨a0_6, e0_6, _, w0_6⟩ := DataW.trod_int Tryd.underlying3 t0_6
  obtain rfl : c0_6 = .int .i64 a0_6 := by simpa using e0_6
  obtain ⟨T, fr, hg0⟩ := prs_laid (g := 0) (T := 68) (S := 67) (n := 6) [(.lit (.int .i64 0), .lit (.int .i64 0)), (.lit (.int .i64 128), .lit (.int .i64 7)), (.lit (.int .i64 64), .lit (.int .i64 6)), (.lit (.int .i64 0), .lit (.int .i64 4)), (.lit (.int .i64 16), .lit (.int .i64 4)), (.lit (.int .i64 32), .lit (.int .i64 5))] hL (List.mem_cons.2 (.inl rfl)) (by kernel_rfl) (by kernel_rfl) Tryd.underlying68 Tryd.underlying67 (by kernel_rfl) (by kernel_rfl) rfl rfl (by kernel_rfl) (by kernel_rfl) (one_int Tryd.underlying3) (one_int Tryd.underlying3)
  have hg : W.heap[0]? = some (.cells formsV T fr) := hg0
  clear hA0 hval0
  refine (puts_walk22 a0_0 a0_1 a0_2 a0_3 a0_4 a0_5 a0_6 W T fr hg).mono fun e W' ⟨he, bel⟩ => ?_
  subst he
  exact ⟨_, rfl, _, _, _, [], _, [], hW', trodAll_mk1 (shut_bool Tryd.underlying4 _), (trodAll_cons_mk (Below.trod laidOut (by kernel_rfl) (of_decide_eq_true (by kernel_rfl)) k0 bel lt0) trodAll_mk0), rfl, bel.frame _, fun h => by cases h⟩

theorem over : Rows.reprPutsRow.holds Tryd.pinned (OpenSpec.ofChange Rows.reprPutsSpec) :=
  OpenClaim.holds_of_wide 4 Tryd.f4 rfl rfl rfl rfl rfl rfl rfl ⟨rfl, rfl, rfl, rfl, rfl⟩ rfl rfl rfl rfl rfl (by kernel_rfl) Tryd.func4 (by kernel_rfl)
    (of_decide_eq_true (by kernel_rfl)) (by unfold Func.isWrapper; first | (rw [if_pos (by decide +kernel)]; kernel_rfl) | (rw [if_neg (by decide +kernel)]; exact ⟨rfl, rfl⟩))
    (fun os started H enc _ => lifted os started H enc)

theorem proved : Rows.ReprPutsCardSaid :=
  Claim7.holds_tied_plain_at .later [] [.data] true (true, "c667e8a8eb911a09c839ee718aafa96ef311c8be8440cc141ec926725a63c9d5") false
    over (fun _ h => by cases h) (by kernel_rfl) (fun _ h => by cases h) reprPuts_row_tie rfl ⟨rfl, rfl⟩ (by kernel_rfl) rfl
    (fun f fn hf hfn => by
      obtain rfl : f = 4 := Option.some.inj ((show Tryd.prog.funcNamed "stickler/sticklerlaw22.ReprPuts" = some 4 by kernel_rfl).symm.trans hf) |>.symm
      obtain rfl : fn = Tryd.f4 := (Option.some.inj (Tryd.func4.symm.trans hfn)).symm
      exact ⟨by kernel_rfl, fun j t ht => by
        rw [Tryd.params4] at ht
        have hm : t ∈ [27] := by simpa using Array.mem_of_getElem? ht
        have hall : ([27].all fun u => !Tryd.prog.wantsStandIn u) = true := by kernel_rfl
        exact (show Tryd.prog.wantsStandIn t = false by simpa using List.all_eq_true.1 hall t hm)⟩)
    (by kernel_rfl)
end Go.Proofs.YtdnfhddahpmnmabDoor.reprPuts
