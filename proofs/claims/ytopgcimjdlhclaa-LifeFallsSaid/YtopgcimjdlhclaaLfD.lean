/- Layer 33: the walk of LifeGoes. -/
import Derived.Test.YtopgcimjdlhclaaLfC
namespace Go.Proofs.Ytopgcimjdlhclaa
open Go.RowKit

set_option maxRecDepth 100000 in
set_option maxHeartbeats 3200000 in
theorem lifeGoes_walk (k o : Int) (x y : Bool) (b s : Int) (w : World) : Calls Try.prog 4 #[.agg (StL k o x y b), .int .i64 s] w (Yes w) := by
  have o1 := fun W => own33_any k o x y b W
  have a1 := fun W => ends_any k o x y b s W
  have a2 := fun W => rends_any k o x y b s W
  have a3 := fun W => resets_any k o x y b s W
  have a4 := fun W => rresets_any k o x y b s W
  have a5 := alive33
  generalize enL ⟨k, o, x, y, b⟩ s = E at *
  generalize reL ⟨k, o, x, y, b⟩ s = F at *
  obtain ⟨ek, eo, ex, ey, eb⟩ := E
  obtain ⟨fk, fo, fx, fy, fb⟩ := F
  have o2 := fun W => own33_any ek eo ex ey eb W
  have o3 := fun W => own33_any fk fo fx fy fb W
  have q1 := eqArrS ex ey
  have q2 := eqArrS fx fy
  unfold LSt.v StL at *
  simp only at a1 a2 a3 a4
  have HB0 : Hid (Below w.heap.size w (w.alloc (.cells #[.int .i64 k, .int .i64 o, .bool x, .bool y, .int .i64 b] 24))) := (Below.refl w.heap.size w).alloc (Nat.le_refl _) _
  go_enter Try.func4, Try.ntmps4
  go_wp2_with fail
  go_region_held3 (fun w' : World => w'.cell? ⟨w.heap.size, 0, none⟩ = some (.int .i64 k) ∧ w'.cell? ⟨w.heap.size, 1, none⟩ = some (.int .i64 o) ∧ w'.cell? ⟨w.heap.size, 2, none⟩ = some (.bool x) ∧ w'.cell? ⟨w.heap.size, 3, none⟩ = some (.bool y) ∧ w'.cell? ⟨w.heap.size, 4, none⟩ = some (.int .i64 b))
    ((first | exact S5keep hv9 (by assumption) | exact S5keep hv8 (by assumption) | exact S5keep hv7 (by assumption) | exact S5keep hv6 (by assumption) | exact S5keep hv5 (by assumption) | exact S5keep hv4 (by assumption) | exact S5keep hv3 (by assumption) | exact S5keep hv2 (by assumption) | exact S5keep hv1 (by assumption) | (go_keep; done)))
    ((first
      | (go_at_call 16; (with_reducible refine (o1 _).mono ?_); rintro e v1 ⟨rfl, hv1⟩; have HV1 := hide (HB0.out.drew.of hv1))
      | (go_at_call 21; (with_reducible refine (a1 _).mono ?_); rintro e v2 ⟨rfl, hv2⟩; have HV2 := hide (HV1.out.of hv2))
      | (go_at_call 22; (with_reducible refine (a2 _).mono ?_); rintro e v3 ⟨rfl, hv3⟩; have HV3 := hide (HV2.out.of hv3))
      | (go_at_call 16; (with_reducible refine (o2 _).mono ?_); rintro e v4 ⟨rfl, hv4⟩; have HV4 := hide (HV3.out.of hv4))
      | (go_at_call 16; (with_reducible refine (o1 _).mono ?_); rintro e v5 ⟨rfl, hv5⟩; have HV5 := hide (HV4.out.of hv5))
      | (go_at_call 23; (with_reducible refine (a3 _).mono ?_); rintro e v6 ⟨rfl, hv6⟩; have HV6 := hide (HV5.out.of hv6))
      | (go_at_call 24; (with_reducible refine (a4 _).mono ?_); rintro e v7 ⟨rfl, hv7⟩; have HV7 := hide (HV6.out.of hv7))
      | (go_at_call 16; (with_reducible refine (o3 _).mono ?_); rintro e v8 ⟨rfl, hv8⟩; have HV8 := hide (HV7.out.of hv8))
      | (go_at_call 20; (with_reducible refine (a5 _).mono ?_); rintro e v9 ⟨rfl, hv9⟩; have HV9 := hide (HV8.out.of hv9))))
  all_goals
    go_wp2_with fail
    go_ret
    exact ⟨rfl, HV9.out⟩
end Go.Proofs.Ytopgcimjdlhclaa
