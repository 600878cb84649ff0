/- Layer 14: what a right frame says, by the reference: its numbers; its world. -/
import Derived.Test.YtpnjamomkpkkeaaFs3
import Derived.Test.YtpnjamomkpkkeaaMI
import Derived.Test.YtpnjamomkpkkeaaFr6
import Derived.Deep.RegionLaw
namespace Go.Proofs.Ytpnjamomkpkkeaa
set_option linter.unusedVariables false
set_option linter.unusedSimpArgs false
open Go.RowKit

set_option maxHeartbeats 800000 in
theorem rnumber14 (A : Option Addr) (n c a : Nat) (f : Nat → Int) (x : Int) (hx : x = (a : Int)) (hn : n ≤ 100000) (h : a + 4 ≤ n) (w : World) (ha : Rd .u8 w A n c f) (hf : Byt n f) : Calls Try.prog 108 #[.slice A n c, .int .i64 x] w fun e w' => e = .returned (.tuple #[.int .i64 (lowN (num (fun i => f (a + i)) 4)), .bool (lowB (num (fun i => f (a + i)) 4))]) ∧ Drawn w w' := by
  subst hx
  have hcut := bytes_cut A n c a (by omega)
  have HA := hide (ha.cutR (lo := a) (hi := n) (by omega) (Nat.le_refl _))
  have HB : Hid (Byt (n - a) (fun i => f (a + i))) := fun i hi => hf (a + i) (by omega)
  obtain ⟨X, hX⟩ : ∃ X, num (fun i => f (a + i)) 4 = X := ⟨_, rfl⟩
  rw [hX]
  have HX := hide hX
  clear ha hf hX
  go_enter Try.func108, Try.ntmps108
  go_wp2_with fail
  refine (rget_ok (cutA A c a) (n - a) (c - a) 4 (fun i => f (a + i)) _ HA.out HB.out (by omega) (by omega) (by omega)).mono ?_
  rw [HX.out]
  rintro e w1 ⟨rfl, hd⟩
  have HD := hide hd
  clear hd
  go_wp2_with fail
  refine (rlow_any X _).mono ?_
  rintro e w2 ⟨rfl, rfl⟩
  go_wp2_with fail
  go_ret2
  exact ⟨rfl, HD.out⟩
set_option maxHeartbeats 800000 in
theorem rcode14 (A : Option Addr) (n c a : Nat) (f : Nat → Int) (x : Int) (hx : x = (a : Int)) (hn : n ≤ 100000) (h : a + 4 ≤ n) (w : World) (ha : Rd .u8 w A n c f) (hf : Byt n f) : Calls Try.prog 109 #[.slice A n c, .int .i64 x] w fun e w' => e = .returned (.int .i64 (num (fun i => f (a + i)) 4)) ∧ Drawn w w' := by
  subst hx
  have hcut := bytes_cut A n c a (by omega)
  have HA := hide (ha.cutR (lo := a) (hi := n) (by omega) (Nat.le_refl _))
  have HB : Hid (Byt (n - a) (fun i => f (a + i))) := fun i hi => hf (a + i) (by omega)
  obtain ⟨X, hX⟩ : ∃ X, num (fun i => f (a + i)) 4 = X := ⟨_, rfl⟩
  rw [hX]
  have HX := hide hX
  clear ha hf hX
  go_enter Try.func109, Try.ntmps109
  go_wp2_with fail
  refine (rget_ok (cutA A c a) (n - a) (c - a) 4 (fun i => f (a + i)) _ HA.out HB.out (by omega) (by omega) (by omega)).mono ?_
  rw [HX.out]
  rintro e w1 ⟨rfl, hd⟩
  have HD := hide hd
  clear hd
  go_wp2_with fail
  go_ret
  exact ⟨rfl, HD.out⟩
abbrev z13 : Array Value := #[.int .i64 0, .int .i64 0, .int .i64 0, .int .i64 0, .slice none 0 0, .slice none 0 0, .int .i64 0, .int .i64 0, .bool false, .int .i64 0, .int .i64 0, .int .i64 0, .int .i64 0]
/-- The world of the reference's reading: the frame that came, both results' cells, the frame that is made; the body. -/
structure PI (w0 W : World) (p : Nat) (raw row : Array Value) (A : Option Addr) (n c : Nat) (f : Nat → Int) : Prop where
  rs : W.heap[w0.heap.size]? = some (.cells raw 29 (0, 0))
  rq : W.heap[w0.heap.size + 1]? = some (.cells z13 25 (0, 0))
  ru : W.heap[w0.heap.size + 1 + 1]? = some (.cells #[.int .i64 0, .int .i64 0] 38 (0, 0))
  rf : W.heap[p]? = some (.cells row 25 (0, 0))
  rd : Rd .u8 W A n c f
  be : Below w0.heap.size w0 W
  lt : w0.heap.size + 1 + 1 < p
  ab : ∀ b off, 0 < n → A = some ⟨b, off, none⟩ → b < w0.heap.size
theorem PI.below {w0 W W' : World} {p : Nat} {raw row : Array Value} {A : Option Addr} {n c : Nat} {f : Nat → Int} (h : PI w0 W p raw row A n c f) (hb : Below W.heap.size W W') : PI w0 W' p raw row A n c f :=
  ⟨keepRow h.rs hb, keepRow h.rq hb, keepRow h.ru hb, keepRow h.rf hb, h.rd.below hb, h.be.of hb, h.lt, h.ab⟩
theorem PI.drawn {w0 W W' : World} {p : Nat} {raw row : Array Value} {A : Option Addr} {n c : Nat} {f : Nat → Int} (h : PI w0 W p raw row A n c f) (hd : Drawn W W') : PI w0 W' p raw row A n c f := h.below (drawn_below hd _)
theorem PI.set {w0 W : World} {p : Nat} {raw row : Array Value} {A : Option Addr} {n c : Nat} {f : Nat → Int} (h : PI w0 W p raw row A n c f) (j : Nat) (u : Value) : PI w0 (W.setCell ⟨p, j, none⟩ u) p raw (row.setIfInBounds j u) A n c f := by
  have hl := h.lt
  have g := grown_set W p j u
  exact ⟨keepOne h.rs g (by omega), keepOne h.rq g (by omega), keepOne h.ru g (by omega), setRow W p j u h.rf, h.rd.other0 g (fun b off hn e => by have := h.ab _ _ hn e; omega), h.be.setCell (p := ⟨p, j, none⟩) (by show w0.heap.size ≤ p; omega) u, hl, h.ab⟩
theorem Rd.cellAt {w : World} {b off n c : Nat} {f : Nat → Int} (h : Rd .u8 w (some ⟨b, off, none⟩) n c f) {k : Nat} (hk : k < n) : w.cell? ⟨b, off + k, none⟩ = some (.int .u8 (f k)) := by
  obtain ⟨b', off', hA, hc⟩ := h.at_ hk
  cases hA
  exact hc
section
variable {P : Program} {k : IntKind} {e : TypeId} {w : World} {ops : Array Oper} {o : Oper} {a : Act} {K : Act → World → Prop} {Q : Exit → Act → World → Prop} {E : Prop}
theorem step_app1 (hgd : o.guard = none) (s x : Operand) (t : TypeId) (ho : o.op = .call { callee := .builtin .append, args := #[s, x], argTypes := #[t, t] })
    (i : TypeInfo) (z : Int) (bytes : Nat) (ht : P.underlying t = some (.slice e)) (hi : P.info? e = some i) (hz : i.zero = some (.int k z)) (hsize : i.size = 1) (hby : i.bytes = bytes)
    (B : Nat) (v : Value) (n : Nat) (f : Nat → Int) (hs : a.eval s = v) (hown : Own k e B w v n f) (A : Option Addr) (m c : Nat) (g : Nat → Int) (hx : a.eval x = .slice A m c) (hr : Rd k w A m c g)
    (h63 : n + m ≤ maxLen) (hbytes : (n + m) * bytes ≤ 140737488355328) (hbase : B ≤ w.heap.size)
    (h : ∀ v' w', Own k e B w' v' (n + m) (catF n f g) → w.grownBy w' v.ownBlock → K (a.put o.dst v') w') :
    if Region.wanted o (yielded ops a.tmps) = true then Oper.wp P o a w K Q else E := by
  rw [if_pos (by simp [Region.wanted, hgd])]
  obtain ⟨v', w', hrun, h2, h3⟩ := run_app (P := P) t o.type i z bytes ht hi hz hsize hby B v n f hown A m c g hr h63 hbytes hbase
  unfold Oper.wp execOp
  simp only [ho, resolve, invoke, builtin, Sem.run_bind, Sem.run_pure, Result.andThen_ok, List.map_toArray, List.map_cons, List.map_nil, hs, hx, hrun]
  exact h v' w' h2 h3
end
theorem catF_nil (f g : Nat → Int) (i : Nat) : catF 0 f g i = g i := by unfold catF; rw [if_neg (by omega)]; simp
theorem results_cc14 {fn : Func} {p q : Tmp} {t1 t2 : TypeId} (h : fn.results = #[.cell p t1, .cell q t2]) (tmps : Array Value) (P : Program) (w : World) :
    (results fn tmps).run P w = ((asAddr (tmps.getD p undef)).run P w).andThen fun a w₁ => ((loadVar t1 a).run P w₁).andThen fun x w₂ => ((asAddr (tmps.getD q undef)).run P w₂).andThen fun b w₃ => ((loadVar t2 b).run P w₃).andThen fun y w₄ => .ok (.tuple #[x, y]) w₄ := by
  simp only [results, h]
  simp [Sem.run_bind, Result.andThen]
/-- What the reference says of a frame that is right. -/
def RPost (T fl st : Int) (D : FD) (N : Nat) (f : Nat → Int) (w : World) (e : Ending) (w' : World) : Prop :=
  ∃ A2 c2 A3 c3, e = .returned (.tuple #[.agg #[.int .i64 T, .int .i64 fl, .int .i64 st, .int .i64 D.pad, .slice A2 N c2, .slice A3 D.sn c3, .int .i64 D.wt, .int .i64 D.pa, .bool D.al, .int .i64 D.pm, .int .i64 D.la, .int .i64 D.co, .int .i64 D.sp], .agg #[.int .i64 0, .int .i64 0]]) ∧ Rd .u8 w' A2 N c2 (fun i => f (D.off + i)) ∧ Rd2 w' A3 D.sn c3 (sF f) (sG f) ∧ Below w.heap.size w w'
end Go.Proofs.Ytpnjamomkpkkeaa
