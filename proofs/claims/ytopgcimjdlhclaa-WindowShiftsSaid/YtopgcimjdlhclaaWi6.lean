/- Layer 31: the example. -/
import Derived.Test.YtopgcimjdlhclaaWi5
namespace Go.Proofs.Ytopgcimjdlhclaa
open Go.RowKit

theorem cellKeepW {w w' : World} {a : Addr} {u : Value} (hb : Below w.heap.size w w') (h : w.cell? a = some u) : w'.cell? a = some u := by
  rw [hb.cell (World.block_lt_of_cell? w _ h)]
  exact h
set_option maxHeartbeats 1600000 in
theorem alive31 (w : World) : Calls Try.prog 31 #[] w (Yes w) := by
  have t1 := fun W => take_ok 0 10 30 pv0 (show TkOk 0 0 0 10 30 from ⟨by decide, by omega, fun _ => by decide, by decide⟩) W
  simp only [show nA 0 0 (-10) = -10 from rfl, show nB 0 0 (-10) = 0 from rfl] at t1
  have E0 := hide ((Below.refl w.heap.size w).alloc (Nat.le_refl _) (.cells #[.complex .f64 0 0] 52))
  have hst := fun (W : World) (b x y : Nat) => run_store Try.prog W ⟨b, 0, none⟩ (.complex .f64 x y) .plain rfl
  go_enter Try.func31, Try.ntmps31
  go_wp2_with fail
  refine (t1 _).mono ?_
  rintro e w1 ⟨v', hv', rfl, hb1⟩
  have ham : AmP (-10) := by unfold AmP; omega
  have r1 := fun W => wRoom_any 0 30 hv' ham am0 W
  have r2 := fun W => wRoom_any 0 5 hv' ham am0 W
  have r3 := fun W => wRoom_any 1 5 hv' ham am0 W
  rw [show roomF (-10) 0 0 30 = 20 by decide] at r1
  rw [show roomF (-10) 0 0 5 = -5 by decide] at r2
  rw [show roomF (-10) 0 1 5 = 5 by decide] at r3
  obtain ⟨x', y', rfl, hx', hy'⟩ := hv'
  clear hx' hy' ham t1
  have HB1 := hide (E0.out.of hb1)
  have hs1 := HB1.out.size
  have HB2 := hide (HB1.out.alloc hs1 (.cells #[.complex .f64 x' y'] 52))
  have R2 := hide (heap_alloc_new w1 (.cells #[.complex .f64 x' y'] 52))
  have c0 := row1W R2.out
  clear hb1
  go_wp2_with fail
  refine (r1 _).mono ?_
  rintro e v3 ⟨rfl, hv3⟩
  have HV3 := hide (HB2.out.of hv3)
  have RV3 := hide (keepRow R2.out hv3)
  clear hv3 c0
  have c0 := row1W RV3.out
  go_wp2_with fail
  refine (r2 _).mono ?_
  rintro e v4 ⟨rfl, hv4⟩
  have HV4 := hide (HV3.out.of hv4)
  have RV4 := hide (keepRow RV3.out hv4)
  clear hv4 c0
  have c0 := row1W RV4.out
  go_wp2_with fail
  refine (r3 _).mono ?_
  rintro e v5 ⟨rfl, hv5⟩
  have HV5 := hide (HV4.out.of hv5)
  have RV5 := hide (keepRow RV4.out hv5)
  clear hv5 c0
  have c0 := row1W RV5.out
  go_wp2_with fail
  go_ret
  exact ⟨rfl, HV5.out⟩
end Go.Proofs.Ytopgcimjdlhclaa
