/- A field more, that is no pseudo-field and tells no length, changes nothing of what fields say, or breaks its own rule; the table of barred names is tied to the program text. -/
import Derived.Test.YtpfhiimlloeciaaDoorMg7
import Derived.Test.YtpfhiimlloeciaaDoorVal
import Derived.Test.YtpfhiimlloeciaaDoorRows
import Derived.Test.YtpfhiimlloeciaaDoorCards
import Derived.Test.YtpfhiimlloeciaaDoorTie
import Derived.Test.YtpfhiimlloeciaaDoorLaid
import Derived.SevenTiedAt
import Derived.LaidMore
import Derived.Stop.Joined
import Derived.WalkKit
import Derived.ProofKit
import Derived.OpenShut
import Derived.ShutString
import Derived.ChangeArms
import Derived.ChangeOld
import Derived.Below
namespace Go.Proofs.YtpfhiimlloeciaaDoor.messageMore
open Go.ChangeShapes Go.WideShapes Go.ChangeAt Go.RowKit
open Go.ChangeMaps (open_string shut_string)
open Go
set_option linter.unusedVariables false

theorem own : ownKnob Tryd.prog.godebug = none := by kernel_rfl
theorem laidOut : laidOutB Tryd.prog = true := by kernel_rfl

def laidL : List (String × DataW Unit) := [("stickler/token.barred", Rows.laid_stickler_token_barred)]
theorem door_met (os : Os) (args : Array Value) : laidMetH Tryd.prog laidL ((World.doorLaid Tryd.prog 44 os).forCall (fun _ _ => 0) ⟨#[], args, []⟩).memory :=
  laidMetH_of_parts3 (fuel := 8) (laidMet_of_run' 8 (by kernel_rfl) (by kernel_rfl)) (by kernel_rfl) (by kernel_rfl)
set_option maxRecDepth 100000 in
theorem lifted (os : Os) (started : os.Started) (H : Type) (enc : TypeId × Value → H) :
    ReturnsInHanded {} Tryd.checked os 8 .any (fun w args => (Rows.messageMoreSpec.pre enc Tryd.prog Tryd.f8 [] false w args ∧ laidMetH Tryd.prog laidL w) ∧ sizedMet enc Tryd.prog Tryd.f8 (OpenSpec.ofChange Rows.messageMoreSpec) false w args) (Rows.messageMoreSpec.post enc Tryd.prog Tryd.f8 false true false false) := by
  refine returnsInHanded_of_change_and (C := Tryd.checked) (X := fun w _ => laidMetH Tryd.prog laidL w) (fun _ _ _ hh h => h.of_heap hh) own started (by kernel_rfl) Tryd.func8
    (ChangeSpec.witness_shaped (enc := enc) (C := Tryd.checked) (os := os) (X := fun w _ => laidMetH Tryd.prog laidL w) false (World.doorLaid Tryd.prog 44 os) #[.int .i64 0, .slice none 0 0, .agg #[.string ⟨#[]⟩, .string ⟨#[]⟩, .bool false]] 8 rfl (World.shaped_of_RefB (by kernel_rfl) (by kernel_rfl)) (by kernel_rfl) (by kernel_rfl) (by kernel_rfl) (door_met os _)) ?_
  intro W base args ds gs before hval0 hW _ _ hL _
  rw [MakeChecks.laidMetH_plain _ _ _ (by kernel_rfl)] at hL
  have hval : ∀ (j : Nat) t v, Tryd.f8.params[j]? = some t → args[j]? = some v → Value.okWide Tryd.prog W .any base t v := hval0
  have hW' := hW
  obtain ⟨p, q, hA0, hV, rfl, hfz, hnd⟩ := hW
  have hA : DataW.TrodAll enc Tryd.prog W 0 (fun _ => true) true Tryd.f8.params.toList args.toList ds p := hA0
  rw [Tryd.params8] at hA hval
  obtain ⟨v0, vs0, d0, ds0, p0, q0, hargs, rfl, rfl, h0, t0⟩ := trodAll_cons hA
  obtain ⟨v1, vs1, d1, ds1, p1, q1, rfl, rfl, rfl, h1, t1⟩ := trodAll_cons t0
  obtain ⟨v2, vs2, d2, ds2, p2, q2, rfl, rfl, rfl, h2, t2⟩ := trodAll_cons t1
  obtain ⟨rfl, rfl, rfl⟩ := trodAll_nil t2
  obtain rfl : args = #[v0, v1, v2] := by cases args; simp_all
  obtain ⟨rfl, rfl⟩ := trodVars_none hV
  obtain ⟨a0, rfl, rfl, rfl, w0⟩ := open_int Tryd.underlying3 (hval 0 3 v0 rfl rfl) h0
  obtain ⟨a1, len1, cap1, rfl⟩ := okWide_slice Tryd.underlying50 (hval 1 50 v1 rfl rfl)
  have k1 := h1
  have lt1 : ∀ x ∈ p1, x.block < W.heap.size := by obtain ⟨m, hm⟩ := k1; exact DataW.trod_lt m _ _ _ hm
  obtain ⟨F1, r1⟩ : ∃ F, RdFd W a1 len1 cap1 F := by
    obtain ⟨fuel, hf⟩ := h1
    exact rdfd_of Tryd.underlying50 Tryd.underlying64 (by kernel_rfl) rfl rfl rfl (by kernel_rfl) (by kernel_rfl) (by kernel_rfl) Tryd.underlying9 Tryd.underlying9 Tryd.underlying4 hf
  have k2 := h2
  have lt2 : ∀ x ∈ p2, x.block < W.heap.size := by obtain ⟨m, hm⟩ := k2; exact DataW.trod_lt m _ _ _ hm
  obtain ⟨l2, n2, rfl, hl2, hf2⟩ := open_aggs Tryd.underlying64 (by kernel_rfl) (by kernel_rfl) (hval 2 64 v2 rfl rfl) h2
  have hl2' : l2.length = 3 := hl2
  obtain ⟨c2_0, c2_1, c2_2, rfl⟩ := list3 hl2'
  obtain ⟨y2_0, t2_0⟩ : ∃ y, DataW.trod enc Tryd.prog W 0 (fun _ => true) true n2 9 [c2_0] = some y := hf2 0 _ _ rfl rfl
  obtain ⟨a2_0, e2_0, _, w2_0⟩ := DataW.trod_string Tryd.underlying9 t2_0
  obtain rfl : c2_0 = .string a2_0 := by simpa using e2_0
  simp only [maxLen] at w2_0
  obtain ⟨y2_1, t2_1⟩ : ∃ y, DataW.trod enc Tryd.prog W 0 (fun _ => true) true n2 9 [c2_1] = some y := hf2 1 _ _ rfl rfl
  obtain ⟨a2_1, e2_1, _, w2_1⟩ := DataW.trod_string Tryd.underlying9 t2_1
  obtain rfl : c2_1 = .string a2_1 := by simpa using e2_1
  simp only [maxLen] at w2_1
  obtain ⟨y2_2, t2_2⟩ : ∃ y, DataW.trod enc Tryd.prog W 0 (fun _ => true) true n2 4 [c2_2] = some y := hf2 2 _ _ rfl rfl
  obtain ⟨a2_2, e2_2, _⟩ := DataW.trod_bool Tryd.underlying4 t2_2
  obtain rfl : c2_2 = .bool a2_2 := by simpa using e2_2
  obtain ⟨T, fr, hg⟩ := strs_laid (g := 2) (T := 154) (S := 9) (n := 5) [[99, 111, 110, 110, 101, 99, 116, 105, 111, 110], [107, 101, 101, 112, 45, 97, 108, 105, 118, 101], [112, 114, 111, 120, 121, 45, 99, 111, 110, 110, 101, 99, 116, 105, 111, 110], [116, 114, 97, 110, 115, 102, 101, 114, 45, 101, 110, 99, 111, 100, 105, 110, 103], [117, 112, 103, 114, 97, 100, 101]] hL (List.mem_cons.2 (.inl rfl)) (by kernel_rfl) (by kernel_rfl) Tryd.underlying154 Tryd.underlying9 (by kernel_rfl) (by kernel_rfl)
  clear hA0 hval0
  refine (more_walk28 a0 a1 len1 cap1 F1 a2_0 a2_1 a2_2 W r1 w2_0 w2_1 T fr hg).mono fun e W' ⟨he, bel⟩ => ?_
  subst he
  exact ⟨_, rfl, _, _, _, [], _, [], hW', trodAll_mk1 (shut_bool Tryd.underlying4 _), (trodAll_cons_mk (shut_int Tryd.underlying3 w0) (trodAll_cons_mk (Below.trod laidOut (by kernel_rfl) (of_decide_eq_true (by kernel_rfl)) k1 bel lt1) (trodAll_cons_mk (Below.trod laidOut (by kernel_rfl) (of_decide_eq_true (by kernel_rfl)) k2 bel lt2) trodAll_mk0))), rfl, bel.frame _, fun h => by cases h⟩

theorem over : Rows.messageMoreRow.holds Tryd.pinned (OpenSpec.ofChange Rows.messageMoreSpec) :=
  OpenClaim.holds_of_wide 8 Tryd.f8 rfl rfl rfl rfl rfl rfl rfl ⟨rfl, rfl, rfl, rfl, rfl⟩ rfl rfl rfl rfl rfl (by kernel_rfl) Tryd.func8 (by kernel_rfl)
    (of_decide_eq_true (by kernel_rfl)) (by unfold Func.isWrapper; first | (rw [if_pos (by decide +kernel)]; kernel_rfl) | (rw [if_neg (by decide +kernel)]; exact ⟨rfl, rfl⟩))
    (fun os started H enc _ => lifted os started H enc)

theorem proved : Rows.MessageMoreCardSaid :=
  Claim7.holds_tied_plain_at .later [] [.data] true (true, "334cce0752fb21650deeafe8bb4f14aa3718698ace54a9cbf22647eb6a4bf5c3") false
    over (fun _ h => by cases h) (by kernel_rfl) (fun _ h => by cases h) messageMore_row_tie rfl ⟨rfl, rfl⟩ (by kernel_rfl) rfl
    (fun f fn hf hfn => by
      obtain rfl : f = 8 := Option.some.inj ((show Tryd.prog.funcNamed "stickler/sticklerlaw28.MessageMore" = some 8 by kernel_rfl).symm.trans hf) |>.symm
      obtain rfl : fn = Tryd.f8 := (Option.some.inj (Tryd.func8.symm.trans hfn)).symm
      exact ⟨by kernel_rfl, fun j t ht => by
        rw [Tryd.params8] at ht
        have hm : t ∈ [3, 50, 64] := by simpa using Array.mem_of_getElem? ht
        have hall : ([3, 50, 64].all fun u => !Tryd.prog.wantsStandIn u) = true := by kernel_rfl
        exact (show Tryd.prog.wantsStandIn t = false by simpa using List.all_eq_true.1 hall t hm)⟩)
    (by kernel_rfl)
end Go.Proofs.YtpfhiimlloeciaaDoor.messageMore
