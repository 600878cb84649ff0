/- Layer 16: the table of the codes' lengths, as the program gives it. -/
import Derived.Test.YteijpklepgenbaaCurA
import Derived.Great.Walk
import Derived.Deep.MidRow
namespace Go.Proofs.Yteijpklepgenbaa
open Go.RowKit

/-- The lengths of the symbols' codes, from 0 on. -/
def lenL : List Nat := [13, 23, 28, 28, 28, 28, 28, 28, 28, 24, 30, 28, 28, 30, 28, 28,
  28, 28, 28, 28, 28, 28, 30, 28, 28, 28, 28, 28, 28, 28, 28, 28,
  6, 10, 10, 12, 13, 6, 8, 11, 10, 10, 8, 11, 8, 6, 6, 6,
  5, 5, 5, 6, 6, 6, 6, 6, 6, 6, 7, 8, 15, 6, 12, 10,
  13, 6, 7, 7, 7, 7, 7, 7, 7, 7, 7, 7, 7, 7, 7, 7,
  7, 7, 7, 7, 7, 7, 7, 7, 8, 7, 8, 13, 19, 13, 14, 6,
  15, 5, 6, 5, 6, 5, 6, 6, 6, 5, 7, 7, 6, 6, 6, 5,
  6, 7, 6, 5, 5, 6, 7, 7, 7, 7, 7, 15, 11, 14, 13, 28,
  20, 22, 20, 20, 22, 22, 22, 23, 22, 23, 23, 23, 23, 23, 24, 23,
  24, 24, 22, 23, 24, 23, 23, 23, 23, 21, 22, 23, 22, 23, 23, 24,
  22, 21, 20, 22, 22, 23, 23, 21, 23, 22, 22, 24, 21, 22, 23, 23,
  21, 21, 22, 21, 23, 22, 23, 23, 20, 22, 22, 22, 23, 22, 22, 23,
  26, 26, 20, 19, 22, 23, 22, 25, 26, 26, 26, 27, 27, 26, 24, 25,
  19, 21, 26, 27, 27, 26, 27, 24, 21, 21, 26, 26, 28, 27, 27, 27,
  20, 24, 20, 21, 22, 21, 21, 23, 22, 22, 25, 25, 24, 24, 26, 23,
  26, 27, 26, 26, 27, 27, 27, 27, 27, 28, 27, 27, 27, 27, 27, 26,
  30]
/-- A symbol's. -/
def len (s : Nat) : Nat := lenL.getD s 0
def intL (l : List Nat) : List Value := l.map (fun (n : Nat) => Value.int .i64 (n : Int))
theorem below_cells {B g : Nat} {a : World} (hg : B ≤ g) : ∀ (vs : List Value) (o : Nat) (w : World), Below B a w → Below B a (w.setCells g o vs) := by
  intro vs
  induction vs with
  | nil => exact fun _ _ h => h
  | cons v r ih => exact fun o w h => ih (o + 1) _ (h.setCell (p := ⟨g, o, none⟩) hg v)
theorem info41 : (Try.prog.info? 67).map (·.size) = some (intL lenL).length := by kernel_rfl
theorem one_intL : ((intL lenL).toArray.all (·.oneCell')) = true := by kernel_rfl

theorem results_cellC {fn : Func} {p : Tmp} {ty : TypeId} (h : fn.results = #[.cell p ty]) (tmps : Array Value) (P : Program) (w : World) :
    (results fn tmps).run P w = ((asAddr (tmps.getD p undef)).run P w).andThen fun a w' => (loadVar ty a).run P w' := by
  simp [results, h]
theorem ret_cell {P : Program} {fn : Func} {p : Tmp} {ty : TypeId} {R : Ending → World → Prop} {a : Act} {w : World} {x : Addr} {v : Value} (h : fn.results = #[.cell p ty]) (hp : a.tmps.getD p undef = .pointer (some x)) (hd : a.defers = [])
    (hl : (loadVar ty x).run P w = .ok v w) (hR : R (.returned v) w) : Code.ret.wp P (bodyPost P fn R) a w := by
  refine wp_ret ?_
  refine bodyPost_ret (v := v) ?_ hd hR
  rw [results_cellC h, hp]
  exact hl
theorem there_new (w : World) (cs : Array Value) (e : TypeId) : (w.alloc (.cells cs e)).there w.heap.size 0 cs.size := fun j hj => by
  have h := heap_alloc_new w (.cells cs e)
  refine ⟨?_, frozen_of_row _ _ _ _ _ h⟩
  rw [cell_of_row _ _ _ _ _ _ h]
  simp [hj]

set_option maxRecDepth 100000 in
set_option maxHeartbeats 4000000 in
theorem lengths_any (w : World) : Calls Try.prog 39 #[] w fun e w' => e = .returned (.agg (intL lenL).toArray) ∧ Below w.heap.size w w' := by
  obtain ⟨cs, hcs⟩ : ∃ cs, cs = intL lenL := ⟨_, rfl⟩
  have hi : (Try.prog.info? 67).map (·.size) = some cs.length := by rw [hcs]; exact info41
  have h1 : cs.toArray.all (·.oneCell') = true := by rw [hcs]; exact one_intL
  have hl : cs.length = 257 := by rw [hcs]; rfl
  rw [← hcs]
  have Ht : (w.alloc (.cells (Array.replicate 257 (.int .i64 0)) 67)).there w.heap.size 0 cs.length := by
    rw [hl]
    exact there_new w (Array.replicate 257 (.int .i64 0)) _
  go_enter Try.func39, Try.ntmps39
  refine wp_seq_k fun K1 k1 => ?_
  refine wp_region_list ?_
  refine Go.Great.wpList_runTo rfl _ rfl (.pointer (some ⟨w.heap.size, 0, none⟩)) (w.alloc (.cells (Array.replicate 257 (.int .i64 0)) 67)) (by kernel_rfl) ?_
  refine wpList_nil ?_
  refine k1 _ _ ?_
  refine wp_seq_k fun K2 k2 => ?_
  refine wp_region_list ?_
  refine Go.Great.wpList_readTo rfl _ rfl (.agg cs.toArray) (by rw [hcs]; kernel_rfl) ?_
  refine wpList_store_mid rfl _ _ _ rfl w.heap.size 0 cs.toArray rfl rfl Ht hi h1 ?_
  refine wpList_nil ?_
  have hr := run_loadVar_mid (P := Try.prog) ((w.alloc (.cells (Array.replicate 257 (.int .i64 0)) 67)).setCells w.heap.size 0 cs) w.heap.size 0 67 cs _ (World.rangeAt_setCells_same _ _ _ _ Ht) Try.underlying67 rfl hi
  have hb : Below w.heap.size w ((w.alloc (.cells (Array.replicate 257 (.int .i64 0)) 67)).setCells w.heap.size 0 cs) := below_cells (Nat.le_refl _) _ _ _ ((Below.refl _ _).alloc (Nat.le_refl _) _)
  exact k2 _ _ (ret_cell rfl (by kernel_rfl) (by kernel_rfl) hr ⟨rfl, hb⟩)
end Go.Proofs.Yteijpklepgenbaa
