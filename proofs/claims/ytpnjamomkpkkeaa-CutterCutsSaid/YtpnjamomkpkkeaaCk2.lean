/- Layer 10: Cut on the example. -/
import Derived.Test.YtpnjamomkpkkeaaCk1
import Derived.RegionTactic
import Derived.ChangeAlike
import Derived.Deep.RegionHeld3
namespace Go.Proofs.Ytpnjamomkpkkeaa
set_option linter.unusedVariables false
set_option linter.unusedSimpArgs false
open Go.RowKit

theorem PcS.congr {B : Nat} {w : World} {v : Value} {n : Nat} {X X' : Nat → Int} {V : Nat → Value} {N N' : Nat → Nat} {G G' : Nat → Nat → Int} (h : PcS B w v n X V N G) (hX : ∀ j, j < n → X j = X' j) (hN : ∀ j, j < n → N j = N' j) (hG : ∀ j, j < n → G j = G' j) : PcS B w v n X' V N' G' :=
  ⟨h.row.congr fun i hi => by
    unfold pcF
    split
    · rw [hX _ (by omega)]
    · rfl, fun j hj => by rw [← hN j hj, ← hG j hj]; exact h.bytes j hj⟩
def exX : Nat → Int := fun i => if i = 2 then 1 else 0
def exN : Nat → Nat := fun i => if i = 0 then 2 else 1
def exG (f1 f2 : Nat → Int) : Nat → Nat → Int := fun i => if i = 0 then f1 else if i = 1 then (fun j => f1 (2 + j)) else f2
theorem chunk_info : (Try.prog.info? 52).map (fun i => (i.zero, i.size, i.bytes)) = some (some (.agg #[.int .i64 0, .slice none 0 0]), 2, 32) := by kernel_rfl
theorem PcS.drew {B : Nat} {w : World} {v : Value} {n : Nat} {X : Nat → Int} {V : Nat → Value} {N : Nat → Nat} {G : Nat → Nat → Int} (h : PcS B w v n X V N G) : PcS B w.drew v n X V N G := ⟨h.row, h.bytes⟩
theorem RdV.litK (w : World) (x : Int) (y : Value) : RdV 2 (w.alloc (.cells #[.int .i64 x, y] 52)) (some ⟨w.heap.size, 0, none⟩) 1 1 (litC2 x y) :=
  (OwnV.lit 2 52 0 w (litC2 x y) #[.int .i64 x, y] 1 (Nat.zero_le _) (by simp [maxLen]) rfl).rdS2
section
variable {P : Program} {e : TypeId} {w : World} {ops : Array Oper} {o : Oper} {a : Act} {K : Act → World → Prop} {Q : Exit → Act → World → Prop} {E : Prop}
theorem step_appV (hgd : o.guard = none) (s x : Operand) (t : TypeId) (ho : o.op = .call { callee := .builtin .append, args := #[s, x], argTypes := #[t, t] })
    (sz : Nat) (i : TypeInfo) (z : Value) (bytes : Nat) (ht : P.underlying t = some (.slice e)) (hi : P.info? e = some i) (hz : i.zero = some z) (hsize : i.size = sz) (hby : i.bytes = bytes) (hzs : z.cells.size = sz) (hs0 : 0 < sz)
    (B : Nat) (v : Value) (n : Nat) (F : Nat → Value) (hs : a.eval s = v) (hown : OwnV sz e B w v n F) (A : Option Addr) (m c : Nat) (G : Nat → Value) (hx : a.eval x = .slice A m c) (hr : RdV sz w A m c G) (hG : ∀ i, i < m * sz → (G i).oneCell' = true)
    (h63 : n + m ≤ maxLen) (hbytes : (n + m) * bytes ≤ 140737488355328) (hbase : B ≤ w.heap.size)
    (h : ∀ v' w', OwnV sz e B w' v' (n + m) (catV (n * sz) F G) → w.grownBy w' v.ownBlock → (v'.ownBlock = v.ownBlock ∨ v'.ownBlock = some w.heap.size) → K (a.put o.dst v') w') :
    if Region.wanted o (yielded ops a.tmps) = true then Oper.wp P o a w K Q else E := by
  rw [if_pos (by simp [Region.wanted, hgd])]
  obtain ⟨v', w', hrun, h2, h3, h4⟩ := run_appV (P := P) sz t o.type i z bytes ht hi hz hsize hby hzs hs0 B v n F hown A m c G hr hG h63 hbytes hbase
  unfold Oper.wp execOp
  simp only [ho, resolve, invoke, builtin, Sem.run_bind, Sem.run_pure, Result.andThen_ok, List.map_toArray, List.map_cons, List.map_nil, hs, hx, hrun]
  exact h v' w' h2 h3 h4
end
theorem cellKeepC {w w' : World} {a : Addr} {u : Value} (hb : Below w.heap.size w w') (h : w.cell? a = some u) : w'.cell? a = some u := by
  rw [hb.cell (World.block_lt_of_cell? w _ h)]
  exact h
theorem keepRowC {w w' : World} {b : Nat} {cs : Array Value} {T : TypeId} (h : w.heap[b]? = some (.cells cs T (0, 0))) (hb : Below w.drew.heap.size w.drew w') : w'.heap[b]? = some (.cells cs T (0, 0)) := keepRow (w := w.drew) h hb
theorem ownV_ne {s : Nat} {e : TypeId} {B b : Nat} {w : World} {v : Value} {n : Nat} {F : Nat → Value} (h : OwnV s e B w v n F) (hb : b < B) : v.ownBlock ≠ some b := fun he => by
  have := (World.ownsRow.lt h b he).1
  omega
theorem absW2 {p : World → Prop} (W0 : World) (R : World → Prop) (h0 : R W0) (h : ∀ W, R W → p W) : p W0 := h W0 h0
theorem upd_same {α : Type} {f : Nat → α} {n : Nat} {x : α} (g : Nat → α) (hfg : f = g) (j : Nat) (hx : g n = x) : upd f n x j = g j := by
  subst hfg
  unfold upd
  split
  · rename_i h; rw [h, hx]
  · rfl
/-- The state of the walk: the closure's cells, the pieces. -/
def CutI (w : World) (S : Option Addr) (d : Nat) (f1 f2 : Nat → Int) (m : Nat) (z : Int) (v : Value) (W : World) : Prop :=
  W.heap[w.heap.size]? = some (.cells #[.slice S 2 d] 68 (0, 0)) ∧ W.heap[w.heap.size + 1]? = some (.cells #[.int .i64 z] 3 (0, 0)) ∧ (∃ V, PcS (w.heap.size + 2) W v m exX V exN (exG f1 f2)) ∧ Below w.heap.size w W
def leftN (v : Value) : Nat := match v with | .slice _ n _ => n | _ => 0
end Go.Proofs.Ytpnjamomkpkkeaa
