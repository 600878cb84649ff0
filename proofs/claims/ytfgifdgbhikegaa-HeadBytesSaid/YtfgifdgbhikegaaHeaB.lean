/- Layer 7: the walk of HeadBytes. -/
import Derived.Test.YtfgifdgbhikegaaHeaG
namespace Go.Proofs.Ytfgifdgbhikegaa
open Go.RowKit

theorem cellKeep {w w' : World} (hb : Below w.heap.size w w') {a : Addr} {v : Value} (h : w.cell? a = some v) : w'.cell? a = some v := (hb.cell (World.block_lt_of_cell? w _ h)).trans h
section
variable {P : Program} {k : IntKind} {e : TypeId} {w : World} {ops : Array Oper} {o : Oper} {a : Act} {K : Act → World → Prop} {Q : Exit → Act → World → Prop} {E : Prop}
theorem step_app (hgd : o.guard = none) (s x : Operand) (t : TypeId) (ho : o.op = .call { callee := .builtin .append, args := #[s, x], argTypes := #[t, t] })
    (i : TypeInfo) (z : Int) (bytes : Nat) (ht : P.underlying t = some (.slice e)) (hi : P.info? e = some i) (hz : i.zero = some (.int k z)) (hsize : i.size = 1) (hby : i.bytes = bytes)
    (B : Nat) (v : Value) (n : Nat) (f : Nat → Int) (hs : a.eval s = v) (hown : Own k e B w v n f) (A : Option Addr) (m c : Nat) (g : Nat → Int) (hx : a.eval x = .slice A m c) (hr : Rd k w A m c g)
    (h63 : n + m ≤ maxLen) (hbytes : (n + m) * bytes ≤ 140737488355328) (hbase : B ≤ w.heap.size)
    (h : ∀ v' w', Own k e B w' v' (n + m) (catF n f g) → w.grownBy w' v.ownBlock → K (a.put o.dst v') w') :
    if Region.wanted o (yielded ops a.tmps) = true then Oper.wp P o a w K Q else E := by
  have hw : Region.wanted o (yielded ops a.tmps) = true := by simp [Region.wanted, hgd]
  rw [if_pos hw]
  obtain ⟨v', w', hrun, h2, h3⟩ := run_app (P := P) t o.type i z bytes ht hi hz hsize hby B v n f hown A m c g hr h63 hbytes hbase
  unfold Oper.wp execOp
  simp only [ho, resolve, invoke, builtin, Sem.run_bind, Sem.run_pure, Result.andThen_ok, List.map_toArray, List.map_cons, List.map_nil, hs, hx, hrun]
  exact h v' w' h2 h3
end

abbrev rawB (fr t f s : Int) (r : Bool) (A : Option Addr) (n c : Nat) : Obj := .cells #[.int .i64 fr, .int .i64 t, .int .i64 f, .int .i64 s, .bool r, .slice A n c] 63
theorem hof (fr t f s : Int) (r : Bool) (A : Option Addr) (n c : Nat) (w : World) : Calls Try.prog 35 #[.agg #[.int .i64 fr, .int .i64 t, .int .i64 f, .int .i64 s, .bool r, .slice A n c]] w fun e w' =>
    e = .returned (.agg #[.int .i64 n, .int .i64 t, .int .i64 f, .int .i64 s, .bool r]) ∧ (w.alloc (.cells #[.int .i64 fr, .int .i64 t, .int .i64 f, .int .i64 s, .bool r, .slice A n c] 63)).alloc (.cells #[.int .i64 n, .int .i64 t, .int .i64 f, .int .i64 s, .bool r] 48) = w' := by
  go_enter Try.func35, Try.ntmps35
  go_wp2_with fail
  refine bodyPost_ret (v := .agg #[.int .i64 n, .int .i64 t, .int .i64 f, .int .i64 s, .bool r]) ?_ rfl ⟨rfl, rfl⟩
  rw [results_cell1 rfl]
  go_simp

/-- What 'head.Bytes' gives where a frame has bytes. -/
def BytesAre (w : World) (n : Nat) (f : Nat → Int) (e : Ending) (w' : World) : Prop := Gave w n f e w'
set_option maxHeartbeats 800000 in
theorem hbytes_pre (fr f s : Int) (r : Bool) (A : Option Addr) (n c : Nat) (g : Nat → Int) (w : World) (ha : Rd .u8 w A n c g) (hn : n ≤ 100000) : Calls Try.prog 33 #[.agg #[.int .i64 fr, .int .i64 (-1), .int .i64 f, .int .i64 s, .bool r, .slice A n c]] w (Gave w n g) := by
  have Ha := hide ha
  clear ha
  go_enter Try.func33, Try.ntmps33
  go_wp2_with fail
  refine (clone_any A n c g _ (Ha.out.alloc _) (by omega)).mono ?_
  rintro e w1 ⟨v, rfl, hown, hb1⟩
  obtain ⟨A1, c1, rfl, hr1, _⟩ := hown.rd
  have Hr1 := hide hr1
  have hB1 := hide (((Below.refl w.heap.size w).alloc (Nat.le_refl _) _).of hb1)
  clear hown hr1 hb1
  go_wp2_with fail
  go_ret2
  exact ⟨A1, c1, rfl, Hr1.out, hB1.out⟩
set_option maxHeartbeats 800000 in
theorem hbytes_bad (fr t f s : Int) (r : Bool) (A : Option Addr) (n c : Nat) (w : World) (ht : t ≠ -1) (h : ¬ HdR n t f s) : Calls Try.prog 33 #[.agg #[.int .i64 fr, .int .i64 t, .int .i64 f, .int .i64 s, .bool r, .slice A n c]] w fun e w' => e = .returned (.tuple #[.slice none 0 0, .int .i64 5]) ∧ Below w.heap.size w w' := by
  have hd : (t == -1) = false := by simpa using ht
  have H := hide h
  clear h ht
  go_enter Try.func33, Try.ntmps33
  go_wp2_with fail
  refine (hof fr t f s r A n c _).mono ?_
  rintro e w1 ⟨rfl, rfl⟩
  go_wp2_with fail
  refine (hput_no n t f s r _ H.out).mono ?_
  rintro e w1 ⟨rfl, hb1⟩
  have hB1 := hide (((((Below.refl w.heap.size w).alloc (Nat.le_refl _) _).alloc (by simp) _).alloc (by simp; omega) _).of hb1)
  clear hb1
  go_wp2_with fail
  go_ret2
  exact ⟨rfl, hB1.out⟩
set_option maxHeartbeats 1600000 in
theorem hbytes_ok (fr t f s : Int) (r : Bool) (A : Option Addr) (n c : Nat) (g : Nat → Int) (w : World) (ha : Rd .u8 w A n c g) (hn : n ≤ 100000) (h : HdR n t f s) : Calls Try.prog 33 #[.agg #[.int .i64 fr, .int .i64 t, .int .i64 f, .int .i64 s, .bool r, .slice A n c]] w (Gave w (9 + n) (catF 9 (hdF n t f (hdX s r)) g)) := by
  obtain ⟨i0, hi, hz0, hz1, hz2⟩ := info_parts u8_info
  have hd : (t == -1) = false := by have := h.2.1.1; simp; omega
  have H := hide h
  have Ha := hide ha
  clear h ha
  have R0 := hide (keepRow (keepRow (heap_alloc_new w (.cells #[.int .i64 fr, .int .i64 t, .int .i64 f, .int .i64 s, .bool r, .slice A n c] 63)) ((Below.refl _ _).alloc (Nat.le_refl _) (.cells #[.int .i64 fr, .int .i64 t, .int .i64 f, .int .i64 s, .bool r, .slice A n c] 63))) ((Below.refl _ _).alloc (Nat.le_refl _) (.cells #[.int .i64 n, .int .i64 t, .int .i64 f, .int .i64 s, .bool r] 48)))
  go_enter Try.func33, Try.ntmps33
  go_wp2_with fail
  refine (hof fr t f s r A n c _).mono ?_
  rintro e w1 ⟨rfl, rfl⟩
  go_wp2_with fail
  refine (hput_yes n t f s r _ H.out).mono ?_
  rintro e w1 ⟨A1, k1, rfl, ho1, hb1⟩
  have R1 := hide (keepRow R0.out hb1)
  have hB1 := hide (((((Below.refl w.heap.size w).alloc (Nat.le_refl _) _).alloc (by simp) _).alloc (by simp; omega) _).of hb1)
  have Ho1 := hide ho1
  have hs := hB1.out.size
  have hlt := rowLt R1.out
  have hba := ho1.baseB (B' := w.heap.size) (by simp; omega)
  have Hba := hide hba
  have Ha1 := hide (Ha.out.below hB1.out)
  obtain ⟨q0, q1, q2, q3, q4, q5⟩ := row6 R1.out
  clear hb1 ho1 R0 hba
  go_wp2_with (at_builtin; refine wp_app rfl (.tmp 21) (.tmp 23) _ rfl i0 0 1 Try.underlying49 hi hz0 hz1 hz2 w.heap.size (.slice A1 9 k1) 9 _ rfl Hba.out A n c g rfl Ha1.out (by simp only [maxLen]; omega) (by omega) (by omega) ?_; intro v2 w2 hown2 hg2)
  have hB2 := hide (hB1.out.grown hg2 hs (fun j e => (World.ownsRow.lt Hba.out j e).1))
  obtain ⟨A2, k2, rfl, hr2, _⟩ := hown2.rd
  have Hr2 := hide hr2
  clear hown2 hg2 hr2
  go_wp2_with fail
  go_ret2
  exact ⟨A2, k2, rfl, Hr2.out, hB2.out⟩

/-! ### the reference -/
theorem rhbytes_pre (fr f s : Int) (r : Bool) (A : Option Addr) (n c : Nat) (w : World) : Calls Try.prog 34 #[.agg #[.int .i64 fr, .int .i64 (-1), .int .i64 f, .int .i64 s, .bool r, .slice A n c]] w fun e w' => e = .returned (.tuple #[.slice A n c, .bool true]) ∧ Below w.heap.size w w' := by
  go_enter Try.func34, Try.ntmps34
  go_wp2_with fail
  go_ret2
  exact ⟨rfl, (Below.refl _ _).alloc (Nat.le_refl _) _⟩
set_option maxHeartbeats 800000 in
theorem rhbytes_bad (fr t f s : Int) (r : Bool) (A : Option Addr) (n c : Nat) (w : World) (ht : t ≠ -1) (h : ¬ HdR n t f s) : Calls Try.prog 34 #[.agg #[.int .i64 fr, .int .i64 t, .int .i64 f, .int .i64 s, .bool r, .slice A n c]] w fun e w' => e = .returned (.tuple #[.slice none 0 0, .bool false]) ∧ Below w.heap.size w w' := by
  have hd : (t == -1) = false := by simpa using ht
  have H := hide h
  clear h ht
  go_enter Try.func34, Try.ntmps34
  go_wp2_with fail
  refine (rright_noX n t f s r _ H.out).mono ?_
  rintro e w1 ⟨rfl, rfl⟩
  go_wp2_with fail
  go_ret2
  exact ⟨rfl, (((Below.refl w.heap.size w).alloc (Nat.le_refl _) _).alloc (by simp) _).alloc (by simp; omega) _⟩
end Go.Proofs.Ytfgifdgbhikegaa
