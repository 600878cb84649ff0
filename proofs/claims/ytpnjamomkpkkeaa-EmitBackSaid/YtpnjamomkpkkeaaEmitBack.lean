/- Whatever frame and whatever raw frame: a frame that is right, put as bytes and parsed again, says the same; and what any raw frame says is right, and its bytes are as many as were given (P15.1, P15.2). -/
import Derived.Test.YtpnjamomkpkkeaaEme
import Derived.Test.YtpnjamomkpkkeaaVal
import Derived.Test.YtpnjamomkpkkeaaRows
import Derived.WalkKit
import Derived.ProofKit
import Derived.OpenShut
import Derived.ShutString
import Derived.ChangeArms
import Derived.ChangeOld
import Derived.Below
namespace Go.Proofs.Ytpnjamomkpkkeaa.emitBack
open Go.ChangeShapes Go.WideShapes Go.ChangeAt Go.RowKit
open Go.ChangeMaps (open_string shut_string)
set_option linter.unusedVariables false

theorem own : ownKnob Try.prog.godebug = none := by kernel_rfl
theorem laidOut : laidOutB Try.prog = true := by kernel_rfl

set_option maxRecDepth 100000 in
theorem lifted (os : Os) (started : os.Started) (H : Type) (enc : TypeId × Value → H) :
    ReturnsInHanded {} Try.checked os 4 .any (Rows.emitBackSpec.pre6 enc Try.prog Try.f4 Rows.emitBackRow.domain false) (Rows.emitBackSpec.post enc Try.prog Try.f4 false true false false) := by
  refine returnsInHanded_of_change (C := Try.checked) own started (by kernel_rfl) Try.func4
    (ChangeSpec.witness6 (enc := enc) (C := Try.checked) false ⟨#[], #[.agg #[.int .i64 0, .int .i64 0, .int .i64 0, .int .i64 0, .slice none 0 0, .slice none 0 0, .int .i64 0, .int .i64 0, .bool false, .int .i64 0, .int .i64 0, .int .i64 0, .int .i64 0], .agg #[.int .i64 0, .int .i64 0, .int .i64 0, .int .i64 0, .bool false, .slice none 0 0]], []⟩ 8 (by kernel_rfl) (by kernel_rfl) (by kernel_rfl) (by kernel_rfl)) ?_
  intro W base args ds gs before hval0 hW hcnd _
  have hval : ∀ (j : Nat) t v, Try.f4.params[j]? = some t → args[j]? = some v → Value.okWide Try.prog W .any base t v := hval0
  have hW' := hW
  obtain ⟨p, q, hA0, hV, rfl, hfz, hnd⟩ := hW
  have hA : DataW.TrodAll enc Try.prog W 0 (fun _ => true) true Try.f4.params.toList args.toList ds p := hA0
  rw [Try.params4] at hA hval
  obtain ⟨v0, vs0, d0, ds0, p0, q0, hargs, rfl, rfl, h0, t0⟩ := trodAll_cons hA
  obtain ⟨v1, vs1, d1, ds1, p1, q1, rfl, rfl, rfl, h1, t1⟩ := trodAll_cons t0
  obtain ⟨rfl, rfl, rfl⟩ := trodAll_nil t1
  obtain rfl : args = #[v0, v1] := by cases args; simp_all
  obtain ⟨rfl, rfl⟩ := trodVars_none hV
  have k0 := h0
  have lt0 : ∀ x ∈ p0, x.block < W.heap.size := by obtain ⟨m, hm⟩ := k0; exact DataW.trod_lt m _ _ _ hm
  obtain ⟨l0, n0, rfl, hl0, hf0⟩ := open_aggs Try.underlying25 (by kernel_rfl) (by kernel_rfl) (hval 0 25 v0 rfl rfl) h0
  have hl0' : l0.length = 13 := hl0
  obtain ⟨c0_0, c0_1, c0_2, c0_3, c0_4, c0_5, c0_6, c0_7, c0_8, c0_9, c0_10, c0_11, c0_12, rfl⟩ := list13 hl0'
  obtain ⟨y0_0, t0_0⟩ : ∃ y, DataW.trod enc Try.prog W 0 (fun _ => true) true n0 3 [c0_0] = some y := hf0 0 _ _ rfl rfl
  obtain ⟨a0_0, e0_0, _, w0_0⟩ := DataW.trod_int Try.underlying3 t0_0
  obtain rfl : c0_0 = .int .i64 a0_0 := by simpa using e0_0
  obtain ⟨y0_1, t0_1⟩ : ∃ y, DataW.trod enc Try.prog W 0 (fun _ => true) true n0 3 [c0_1] = some y := hf0 1 _ _ rfl rfl
  obtain ⟨a0_1, e0_1, _, w0_1⟩ := DataW.trod_int Try.underlying3 t0_1
  obtain rfl : c0_1 = .int .i64 a0_1 := by simpa using e0_1
  obtain ⟨y0_2, t0_2⟩ : ∃ y, DataW.trod enc Try.prog W 0 (fun _ => true) true n0 3 [c0_2] = some y := hf0 2 _ _ rfl rfl
  obtain ⟨a0_2, e0_2, _, w0_2⟩ := DataW.trod_int Try.underlying3 t0_2
  obtain rfl : c0_2 = .int .i64 a0_2 := by simpa using e0_2
  obtain ⟨y0_3, t0_3⟩ : ∃ y, DataW.trod enc Try.prog W 0 (fun _ => true) true n0 3 [c0_3] = some y := hf0 3 _ _ rfl rfl
  obtain ⟨a0_3, e0_3, _, w0_3⟩ := DataW.trod_int Try.underlying3 t0_3
  obtain rfl : c0_3 = .int .i64 a0_3 := by simpa using e0_3
  obtain ⟨y0_4, t0_4⟩ : ∃ y, DataW.trod enc Try.prog W 0 (fun _ => true) true n0 22 [c0_4] = some y := hf0 4 _ _ rfl rfl
  obtain ⟨a0_4, len0_4, cap0_4, z0_4, rfl, w0_4⟩ := bytes_of Try.underlying22 Try.underlying5 (by kernel_rfl) t0_4
  have r0_4 := rd_of_row w0_4
  have b0_4 := byt_of_row w0_4
  obtain ⟨y0_5, t0_5⟩ : ∃ y, DataW.trod enc Try.prog W 0 (fun _ => true) true n0 23 [c0_5] = some y := hf0 5 _ _ rfl rfl
  obtain ⟨a0_5, len0_5, cap0_5, rfl⟩ := slice_of Try.underlying23 t0_5
  obtain ⟨f0_5, g0_5, r0_5, x0_5, y0_5⟩ := rd2_of Try.underlying23 Try.underlying201 (by kernel_rfl) rfl rfl (by kernel_rfl) (by kernel_rfl) Try.underlying3 Try.underlying3 t0_5
  obtain ⟨y0_6, t0_6⟩ : ∃ y, DataW.trod enc Try.prog W 0 (fun _ => true) true n0 3 [c0_6] = some y := hf0 6 _ _ rfl rfl
  obtain ⟨a0_6, e0_6, _, w0_6⟩ := DataW.trod_int Try.underlying3 t0_6
  obtain rfl : c0_6 = .int .i64 a0_6 := by simpa using e0_6
  obtain ⟨y0_7, t0_7⟩ : ∃ y, DataW.trod enc Try.prog W 0 (fun _ => true) true n0 3 [c0_7] = some y := hf0 7 _ _ rfl rfl
  obtain ⟨a0_7, e0_7, _, w0_7⟩ := DataW.trod_int Try.underlying3 t0_7
  obtain rfl : c0_7 = .int .i64 a0_7 := by simpa using e0_7
  obtain ⟨y0_8, t0_8⟩ : ∃ y, DataW.trod enc Try.prog W 0 (fun _ => true) true n0 4 [c0_8] = some y := hf0 8 _ _ rfl rfl
  obtain ⟨a0_8, e0_8, _⟩ := DataW.trod_bool Try.underlying4 t0_8
  obtain rfl : c0_8 = .bool a0_8 := by simpa using e0_8
  obtain ⟨y0_9, t0_9⟩ : ∃ y, DataW.trod enc Try.prog W 0 (fun _ => true) true n0 3 [c0_9] = some y := hf0 9 _ _ rfl rfl
  obtain ⟨a0_9, e0_9, _, w0_9⟩ := DataW.trod_int Try.underlying3 t0_9
  obtain rfl : c0_9 = .int .i64 a0_9 := by simpa using e0_9
  obtain ⟨y0_10, t0_10⟩ : ∃ y, DataW.trod enc Try.prog W 0 (fun _ => true) true n0 3 [c0_10] = some y := hf0 10 _ _ rfl rfl
  obtain ⟨a0_10, e0_10, _, w0_10⟩ := DataW.trod_int Try.underlying3 t0_10
  obtain rfl : c0_10 = .int .i64 a0_10 := by simpa using e0_10
  obtain ⟨y0_11, t0_11⟩ : ∃ y, DataW.trod enc Try.prog W 0 (fun _ => true) true n0 3 [c0_11] = some y := hf0 11 _ _ rfl rfl
  obtain ⟨a0_11, e0_11, _, w0_11⟩ := DataW.trod_int Try.underlying3 t0_11
  obtain rfl : c0_11 = .int .i64 a0_11 := by simpa using e0_11
  obtain ⟨y0_12, t0_12⟩ : ∃ y, DataW.trod enc Try.prog W 0 (fun _ => true) true n0 3 [c0_12] = some y := hf0 12 _ _ rfl rfl
  obtain ⟨a0_12, e0_12, _, w0_12⟩ := DataW.trod_int Try.underlying3 t0_12
  obtain rfl : c0_12 = .int .i64 a0_12 := by simpa using e0_12
  have k1 := h1
  have lt1 : ∀ x ∈ p1, x.block < W.heap.size := by obtain ⟨m, hm⟩ := k1; exact DataW.trod_lt m _ _ _ hm
  obtain ⟨l1, n1, rfl, hl1, hf1⟩ := open_aggs Try.underlying29 (by kernel_rfl) (by kernel_rfl) (hval 1 29 v1 rfl rfl) h1
  have hl1' : l1.length = 6 := hl1
  obtain ⟨c1_0, c1_1, c1_2, c1_3, c1_4, c1_5, rfl⟩ := list6 hl1'
  obtain ⟨y1_0, t1_0⟩ : ∃ y, DataW.trod enc Try.prog W 0 (fun _ => true) true n1 3 [c1_0] = some y := hf1 0 _ _ rfl rfl
  obtain ⟨a1_0, e1_0, _, w1_0⟩ := DataW.trod_int Try.underlying3 t1_0
  obtain rfl : c1_0 = .int .i64 a1_0 := by simpa using e1_0
  obtain ⟨y1_1, t1_1⟩ : ∃ y, DataW.trod enc Try.prog W 0 (fun _ => true) true n1 3 [c1_1] = some y := hf1 1 _ _ rfl rfl
  obtain ⟨a1_1, e1_1, _, w1_1⟩ := DataW.trod_int Try.underlying3 t1_1
  obtain rfl : c1_1 = .int .i64 a1_1 := by simpa using e1_1
  obtain ⟨y1_2, t1_2⟩ : ∃ y, DataW.trod enc Try.prog W 0 (fun _ => true) true n1 3 [c1_2] = some y := hf1 2 _ _ rfl rfl
  obtain ⟨a1_2, e1_2, _, w1_2⟩ := DataW.trod_int Try.underlying3 t1_2
  obtain rfl : c1_2 = .int .i64 a1_2 := by simpa using e1_2
  obtain ⟨y1_3, t1_3⟩ : ∃ y, DataW.trod enc Try.prog W 0 (fun _ => true) true n1 3 [c1_3] = some y := hf1 3 _ _ rfl rfl
  obtain ⟨a1_3, e1_3, _, w1_3⟩ := DataW.trod_int Try.underlying3 t1_3
  obtain rfl : c1_3 = .int .i64 a1_3 := by simpa using e1_3
  obtain ⟨y1_4, t1_4⟩ : ∃ y, DataW.trod enc Try.prog W 0 (fun _ => true) true n1 4 [c1_4] = some y := hf1 4 _ _ rfl rfl
  obtain ⟨a1_4, e1_4, _⟩ := DataW.trod_bool Try.underlying4 t1_4
  obtain rfl : c1_4 = .bool a1_4 := by simpa using e1_4
  obtain ⟨y1_5, t1_5⟩ : ∃ y, DataW.trod enc Try.prog W 0 (fun _ => true) true n1 22 [c1_5] = some y := hf1 5 _ _ rfl rfl
  obtain ⟨a1_5, len1_5, cap1_5, z1_5, rfl, w1_5⟩ := bytes_of Try.underlying22 Try.underlying5 (by kernel_rfl) t1_5
  have r1_5 := rd_of_row w1_5
  have b1_5 := byt_of_row w1_5
  clear hA0 hval0
  refine (back_walk15 a0_0 a0_1 a0_2 a0_3 a0_4 len0_4 cap0_4 _ a0_5 len0_5 cap0_5 f0_5 g0_5 a0_6 a0_7 a0_8 a0_9 a0_10 a0_11 a0_12 (by have := bounds_i64 w0_1; omega) a1_0 a1_1 a1_2 a1_3 a1_4 a1_5 len1_5 cap1_5 _ W r0_4 b0_4 r0_5 r1_5 b1_5).mono fun e W' ⟨he, bel⟩ => ?_
  subst he
  exact ⟨_, rfl, _, _, _, [], _, [], hW', trodAll_mk1 (shut_bool Try.underlying4 _), (trodAll_cons_mk (Below.trod laidOut (by kernel_rfl) (of_decide_eq_true (by kernel_rfl)) k0 bel lt0) (trodAll_cons_mk (Below.trod laidOut (by kernel_rfl) (of_decide_eq_true (by kernel_rfl)) k1 bel lt1) trodAll_mk0)), rfl, bel.frame _, fun h => by cases h⟩

theorem over : Rows.emitBackRow.holds Try.pinned (OpenSpec.ofChange Rows.emitBackSpec) :=
  OpenClaim.holds_of_wide 4 Try.f4 rfl rfl rfl rfl rfl rfl rfl ⟨rfl, rfl, rfl, rfl, rfl⟩ rfl rfl rfl rfl rfl (by kernel_rfl) Try.func4 (by kernel_rfl)
    (of_decide_eq_true (by kernel_rfl)) (by unfold Func.isWrapper; first | (rw [if_pos (by decide +kernel)]; kernel_rfl) | (rw [if_neg (by decide +kernel)]; exact ⟨rfl, rfl⟩))
    (fun os started H enc _ => lifted os started H enc)

theorem proved : Rows.EmitBackSaid := over
end Go.Proofs.Ytpnjamomkpkkeaa.emitBack
