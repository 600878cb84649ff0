/- Wd3, Wd4 in one text. -/
import Derived.Test.YtminoofghdpomaaDoorN1
import Derived.Test.YtminoofghdpomaaDoorSlB
import Derived.Test.YtminoofghdpomaaDoorMJ
import Derived.Test.YtminoofghdpomaaDoorTs3
namespace Go.Proofs.YtminoofghdpomaaDoor
set_option linter.unusedVariables false
set_option linter.unusedSimpArgs false
section
open Go Go.RowKit Go.PlainAid

section
variable {P : Program} {e : TypeId} {k : IntKind} {w : World} {ops : Array Oper} {o : Oper} {a : Act} {K : Act → World → Prop} {Q : Exit → Act → World → Prop} {E : Prop}
theorem step_appW (hgd : o.guard = none) (s x : Operand) (t : TypeId) (ho : o.op = .call { callee := .builtin .append, args := #[s, x], argTypes := #[t, t] })
    (i : TypeInfo) (z : Int) (bytes : Nat) (ht : P.underlying t = some (.slice e)) (hi : P.info? e = some i) (hz : i.zero = some (.int k z)) (hsize : i.size = 1) (hby : i.bytes = bytes)
    (B : Nat) (v : Value) (n : Nat) (f : Nat → Int) (hs : a.eval s = v) (hown : Own k e B w v n f) (A : Option Addr) (m c : Nat) (g : Nat → Int) (hx : a.eval x = .slice A m c) (hr : Rd k w A m c g)
    (h63 : n + m ≤ maxLen) (hbytes : (n + m) * bytes ≤ 140737488355328) (hbase : B ≤ w.heap.size)
    (h : ∀ v' w', Own k e B w' v' (n + m) (catF n f g) → w.grownBy w' v.ownBlock → K (a.put o.dst v') w') :
    if Region.wanted o (yielded ops a.tmps) = true then Oper.wp P o a w K Q else E := by
  rw [if_pos (by simp [Region.wanted, hgd])]
  obtain ⟨v', w', hrun, h2, h3⟩ := run_app (P := P) t o.type i z bytes ht hi hz hsize hby B v n f hown A m c g hr h63 hbytes hbase
  unfold Oper.wp execOp
  simp only [ho, resolve, invoke, builtin, Sem.run_bind, Sem.run_pure, Result.andThen_ok, List.map_toArray, List.map_cons, List.map_nil, hs, hx, hrun]
  exact h v' w' h2 h3
end
theorem u8_info4 : (Tryd.prog.info? 5).map (fun i => (i.zero, i.size, i.bytes)) = some (some (.int .u8 0), 1, 1) := by kernel_rfl
/-- a list of bytes, as the walk reads it -/
def btL (l : List UInt8) (i : Nat) : Int := bt ⟨l.toArray⟩ i
theorem btL_at {l : List UInt8} {i : Nat} (h : i < l.length) : btL l i = (l[i].toNat : Int) := by
  unfold btL
  rw [bt_dec, List.getElem?_eq_getElem h]
theorem btL_cat (a b : List UInt8) {m : Nat} (hm : m = a.length) (i : Nat) (hi : i < m + b.length) : catF m (btL a) (btL b) i = btL (a ++ b) i := by
  subst hm
  show (if i < a.length then btL a i else btL b (i - a.length)) = _
  by_cases h : i < a.length
  · rw [if_pos h, btL_at h, btL_at (by simp; omega), List.getElem_append_left h]
  · rw [if_neg h, btL_at (by omega), btL_at (by simp; omega), List.getElem_append_right (by omega)]
theorem lit3 (a b : UInt8) : ([.int .u8 37, .int .u8 (a.toNat : Int), .int .u8 (b.toNat : Int)] : List Value) = row .u8 3 (btL [37, a, b]) := by
  show _ = [Value.int .u8 (btL [37, a, b] 0), Value.int .u8 (btL [37, a, b] 1), Value.int .u8 (btL [37, a, b] 2)]
  rw [btL_at (by simp), btL_at (by simp), btL_at (by simp)]
  rfl
theorem lit2w (a b : UInt8) : ([.int .u8 (a.toNat : Int), .int .u8 (b.toNat : Int)] : List Value) = row .u8 2 (btL [a, b]) := by
  show _ = [Value.int .u8 (btL [a, b] 0), Value.int .u8 (btL [a, b] 1)]
  rw [btL_at (by simp), btL_at (by simp)]
  rfl
theorem rd_lit3 (w : World) (a b : UInt8) : Rd .u8 (w.alloc (.cells #[.int .u8 37, .int .u8 (a.toNat : Int), .int .u8 (b.toNat : Int)] 5)) (some ⟨w.heap.size, 0, none⟩) 3 3 (btL [37, a, b]) :=
  Own.rdS (Own.lit .u8 5 0 w (btL [37, a, b]) #[.int .u8 37, .int .u8 (a.toNat : Int), .int .u8 (b.toNat : Int)] 3 (Nat.zero_le _) (by simp [maxLen]) (lit3 a b))
theorem rd_lit2 (w : World) (a b : UInt8) : Rd .u8 (w.alloc (.cells #[.int .u8 (a.toNat : Int), .int .u8 (b.toNat : Int)] 5)) (some ⟨w.heap.size, 0, none⟩) 2 2 (btL [a, b]) :=
  Own.rdS (Own.lit .u8 5 0 w (btL [a, b]) #[.int .u8 (a.toNat : Int), .int .u8 (b.toNat : Int)] 2 (Nat.zero_le _) (by simp [maxLen]) (lit2w a b))
theorem catF_snoc {Q : List UInt8} {b : UInt8} {m : Nat} {c : Int} (hm : Q.length = m) (hc : (b.toNat : Int) = c) (i : Nat) (hi : i < m + 1) : catF m (btL Q) (oneF c) i = btL (Q ++ [b]) i := by
  rw [← btL_cat Q [b] hm.symm i (by simpa using hi)]
  show (if i < m then btL Q i else c) = if i < m then btL Q i else btL [b] (i - m)
  by_cases h : i < m
  · rw [if_pos h, if_pos h]
  · rw [if_neg h, if_neg h, btL_at (by simp; omega), ← hc]
    have : i - m = 0 := by omega
    simp [this]
theorem Own.catL {e : TypeId} {B : Nat} {w : World} {v : Value} {a b : List UInt8} (h : Own .u8 e B w v (a.length + b.length) (catF a.length (btL a) (btL b))) : Own .u8 e B w v (a ++ b).length (btL (a ++ b)) := by
  rw [List.length_append]
  exact h.congr fun i hi => btL_cat a b rfl i hi
theorem btL_byt (l : List UInt8) (n : Nat) : Byt n (btL l) := fun i _ => ⟨bt_nonneg _ i, bt_le _ i⟩
theorem textB_L (l : List UInt8) : textB l.length (btL l) = ⟨l.toArray⟩ := textB_bt ⟨l.toArray⟩
theorem c_split (b : UInt8) : ((b.toNat : Nat) : Int) = 16 * ((b.toNat / 16 : Nat) : Int) + ((b.toNat % 16 : Nat) : Int) := by omega
theorem shr16 (b : UInt8) : ((b.toNat : Nat) : Int) / 16 = ((b.toNat / 16 : Nat) : Int) := by omega
theorem and16 (b : UInt8) : bits BinOp.and IntKind.u8 (b.toNat : Int) 15 = ((b.toNat % 16 : Nat) : Int) := by
  refine u8_all (p := fun b => bits BinOp.and IntKind.u8 (b.toNat : Int) 15 = ((b.toNat % 16 : Nat) : Int)) ?_ b
  decide +kernel
end

section
open Go Go.RowKit Go.PlainAid

theorem byte_eq {b : UInt8} {x y : Nat} (hx : b.toNat / 16 = x) (hy : b.toNat % 16 = y) : hexL b = [hxC x, hxC y] := by rw [hexL, hx, hy]
theorem app_data (a b : List UInt8) : (⟨a.toArray⟩ : ByteArray) ++ ⟨b.toArray⟩ = ⟨(a ++ b).toArray⟩ := by
  apply ByteArray.ext
  simp [ByteArray.data_append]
theorem sz_arr (a : List UInt8) : (⟨a.toArray⟩ : ByteArray).size = a.length := by
  show a.toArray.size = _
  simp
theorem one_cut {s : ByteArray} {l : List UInt8} (hl : s.data.toList = l) {k : Nat} (h : k < l.length) : s.extract k (k + 1) = ⟨#[l[k]]⟩ := by
  subst hl
  rw [← cut_list]
  have : (s.data.toList.take (k + 1)).drop k = [s.data.toList[k]] := by
    rw [List.take_add_one, List.getElem?_eq_getElem h]
    rw [List.drop_append_of_le_length (by rw [List.length_take]; omega)]
    rw [List.drop_eq_nil_of_le (by rw [List.length_take]; omega)]
    rfl
  rw [this]
end
end Go.Proofs.YtminoofghdpomaaDoor
