/- Layer 33: what a frame means, both sides whole. -/
import Derived.Test.YtopgcimjdlhclaaLf4
namespace Go.Proofs.Ytopgcimjdlhclaa
open Go.RowKit

def askP (k o : Int) (x y : Bool) (b s t : Int) (kept : Bool) : Int × Int :=
  if riB k o x y b = false ∨ sdB s = false then (0, 0)
  else if t = 2 then (2, 0)
  else if t = 5 then unP (!(prB k o y b s kept)) 22
  else if t = 0 ∨ t = 1 ∨ t = 3 ∨ t = 8 then kdP k o x y b s t kept
  else (0, 0)
theorem sdB_or {s : Int} (h : sdB s = true) : s = 0 ∨ s = 1 := by
  unfold sdB at h
  simpa using h
set_option maxRecDepth 100000 in
set_option maxHeartbeats 1600000 in
theorem ask_any (k o : Int) (x y : Bool) (b s t : Int) (kept : Bool) (w : World) : Calls Try.prog 15 #[.agg (StL k o x y b), .int .i64 s, .int .i64 t, .bool kept] w fun e w' => e = .returned (.tuple #[.int .i64 (askP k o x y b s t kept).1, .int .i64 (askP k o x y b s t kept).2]) ∧ Below w.heap.size w w' := by
  have h1 := fun W => lside_any s W
  have h2 := fun W => unless_any (!(prB k o y b s kept)) 22 W
  have h3 := fun W => right33_any k o x y b W
  have h4 := fun W => bears_any k o x y b s kept W
  have h5 := fun (hs : s = 0 ∨ s = 1) W => byKind_any k o x y b s t kept W hs
  have h6 := @sdB_or s
  obtain ⟨R, hR⟩ : ∃ R, R = askP k o x y b s t kept := ⟨_, rfl⟩
  rw [← hR]
  unfold askP unP at hR
  generalize riB k o x y b = ri at *
  generalize sdB s = si at *
  generalize kdP k o x y b s t kept = kd at *
  generalize prB k o y b s kept = pr at *
  unfold StL at *
  have HR := hide hR
  clear hR
  obtain ⟨R1, R2⟩ := R
  have E0 : Hid (Below w.heap.size w (w.alloc (.cells #[.int .i64 k, .int .i64 o, .bool x, .bool y, .int .i64 b] 27))) := (Below.refl w.heap.size w).alloc (Nat.le_refl _) _
  have R0 := hide (heap_alloc_new w (.cells #[.int .i64 k, .int .i64 o, .bool x, .bool y, .int .i64 b] 27))
  simp only
  cases ri with
  | false =>
    go_enter Try.func15, Try.ntmps15
    go_wp2_with (go_at_call 18; refine (h3 _).mono ?_; rintro e w1 ⟨rfl, hb⟩)
    go_ret2
    have hR := HR.out
    simp at hR
    exact ⟨by simp [hR], E0.out.of hb⟩
  | true =>
    cases si with
    | false =>
      go_enter Try.func15, Try.ntmps15
      go_wp2_with fail
      refine (h3 _).mono ?_
      rintro e w1 ⟨rfl, hb⟩
      go_wp2_with fail
      refine (h1 _).mono ?_
      rintro e w2 ⟨rfl, rfl⟩
      go_wp2_with fail
      go_ret2
      have hR := HR.out
      simp at hR
      exact ⟨by simp [hR], E0.out.of hb⟩
    | true =>
      have h7 := h5 (h6 rfl)
      clear h5 h6
      go_enter Try.func15, Try.ntmps15
      go_wp2_with fail
      refine (h3 _).mono ?_
      rintro e w1 ⟨rfl, hb⟩
      have HB := hide (E0.out.of hb)
      have R1 := hide (keepRow R0.out hb)
      obtain ⟨c0, c1, c2, c3, c4⟩ := row5 R1.out
      clear hb
      go_wp2_with fail
      refine (h1 _).mono ?_
      rintro e w2 ⟨rfl, rfl⟩
      go_wp2_with (first
        | (go_at_call 64; refine (h7 _).mono ?_; rintro e w3 ⟨rfl, hb3⟩)
        | (go_at_call 63; refine (h4 _).mono ?_; rintro e w3 ⟨rfl, hb3⟩)
        | (go_at_call 62; refine (h2 _).mono ?_; rintro e w4 ⟨rfl, rfl⟩))
      all_goals go_ret2
      all_goals have e1 := congrArg Prod.fst HR.out
      all_goals have e2 := congrArg Prod.snd HR.out
      all_goals clear HR
      all_goals simp only at e1 e2
      all_goals subst e1
      all_goals subst e2
      all_goals (first | (refine ⟨?_, HB.out.of hb3⟩; simp_all; done) | (refine ⟨?_, HB.out⟩; simp_all; done))
end Go.Proofs.Ytopgcimjdlhclaa
