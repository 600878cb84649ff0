/- Layer 15: the body of a frame, as the program writes it: whole. -/
import Derived.Test.YtpnjamomkpkkeaaEm6
import Derived.Test.YtpnjamomkpkkeaaEm3
namespace Go.Proofs.Ytpnjamomkpkkeaa
set_option linter.unusedVariables false
set_option linter.unusedSimpArgs false
open Go.RowKit

theorem wp_appZ {P : Program} {e : TypeId} {w : World} {ops : Array Oper} {rest : List Oper} {o : Oper} {a : Act} {Q : Exit → Act → World → Prop} (hgd : o.guard = none) (s x : Operand) (t tn u : TypeId) (ho : o.op = .call { callee := .builtin .append, args := #[s, x], argTypes := #[t, tn] })
    (i : TypeInfo) (ht : P.underlying t = some (.slice e)) (htn : P.underlying tn = some (.int .i64)) (hu : P.underlying u = some .string) (hi : P.info? e = some i) (hz : i.zero = some (.int .u8 0)) (hsize : i.size = 1) (hby : i.bytes = 1)
    (B : Nat) (v : Value) (n : Nat) (f : Nat → Int) (hs : a.eval s = v) (hoz : Own .u8 e B w v n f) (N : Nat) (hx : a.eval x = .int .i64 (N : Int)) (h47 : n + N ≤ 140737488355328) (hbase : B ≤ w.heap.size)
    (h : ∀ v' w', Own .u8 e B w' v' (n + N) (catF n f (fun _ => 0)) → w.grownBy w' v.ownBlock → wpList P ops Q rest (a.put o.dst v') w') : wpList P ops Q (o :: rest) a w := by
  obtain ⟨A, c, hv, _, _⟩ := hoz.rd
  have hz' : i.zero = some (.int .u8 0) := hz
  obtain ⟨v', w', hrun, h2, h3, _⟩ := Go.Lib.run_append_own_string (P := P) w B t u o.type e i ht hu hi hz' hsize hby v n (row .u8 n f) hoz (zS N) (by rw [zS_size]; simp only [maxLen]; omega) (by rw [zS_size]; exact h47) hbase
  have he := run_appZ (P := P) w t tn u o.type e i ht htn hu hi hz' hsize hby A n c N (by omega) h47
  rw [← hv] at he
  have hc : Go.Lib.strCells (zS N) = row .u8 N (fun _ => 0) := by
    unfold Go.Lib.strCells zS row
    apply List.ext_getElem <;> simp
  rw [hc, zS_size] at h2
  refine Go.Lib.wpList_append_run w hgd s x t tn ho v (.int .i64 (N : Int)) hs hx v' w' (he.trans hrun) (h v' w' ?_ h3)
  unfold Own
  rw [← row_cat]
  exact h2
theorem rep_F (n : Nat) : ∀ i, i < n → lF (List.replicate n (0 : Int)) i = 0 := fun i hi => by
  simp [lF, List.getD_eq_getElem?_getD, hi]
/-- What the body's call gives. -/
def Bd5 (X : Fm5) (w : World) (e : Ending) (w' : World) : Prop :=
  Below w.heap.size w w' ∧ ((X.POk ∧ ∃ A c, e = .returned (.tuple #[.slice A X.emL.length c, .bool true]) ∧ Rd .u8 w' A X.emL.length c (lF X.emL)) ∨ (¬ X.POk ∧ e = .returned (.tuple #[.slice none 0 0, .bool false])))
theorem rd_list {w : World} {A : Option Addr} {n c : Nat} {f : Nat → Int} (h : Rd .u8 w A n c f) : Rd .u8 w A n c (lF ((List.range n).map f)) :=
  ⟨h.1, h.2.1, h.2.2.1, fun hn => by
    obtain ⟨b, off, hA, hc⟩ := h.2.2.2 hn
    exact ⟨b, off, hA, fun i hi => by rw [hc i hi, lF_map hi]⟩⟩
theorem sb_list {w : World} {A : Option Addr} {n c : Nat} {s g : Nat → Int} (h : Rd .u8 w A (n * 6) c (sB s g)) : Rd .u8 w A (n * 6) c (lF ((List.range (n * 6)).map (sB s g))) := rd_list h
theorem rd_congr5 {w : World} {A : Option Addr} {n m c : Nat} {f g : Nat → Int} (h : Rd .u8 w A n c f) (e : m = n) (hf : ∀ i, i < n → f i = g i) : Rd .u8 w A m c g := by
  subst e
  exact ⟨h.1, h.2.1, h.2.2.1, fun hn => by
    obtain ⟨b, off, hA, hc⟩ := h.2.2.2 hn
    exact ⟨b, off, hA, fun i hi => by rw [hc i hi, hf i hi]⟩⟩
theorem cat5 (L M Z : List Int) {n N : Nat} (hM : M.length = n) (hZ : Z = List.replicate N 0) : ∀ i, i < L.length + n + N → catF (L.length + n) (catF L.length (lF L) (lF M)) (fun _ => 0) i = lF (L ++ M ++ Z) i := fun i hi => by
  subst hM
  subst hZ
  rw [lF_app (by simp; omega)]
  unfold catF
  rw [List.length_append]
  by_cases h : i < L.length + M.length
  · rw [if_pos h, if_pos h, lF_app h]
    rfl
  · rw [if_neg h, if_neg h, rep_F N _ (by omega)]
set_option maxRecDepth 20000 in
set_option maxHeartbeats 1600000 in
theorem body_d0_n (fl st pad : Int) (A2 : Option Addr) (nd c2 : Nat) (d : Nat → Int) (A3 : Option Addr) (ns c3 : Nat) (s g : Nat → Int) (wt pa : Int) (al : Bool) (pm la co sp : Int) (hfl : fl ≤ 9223372036854775807) (hnd : nd ≤ 100000) (hns : ns ≤ 1000) (e3 : hsB 0 fl 3 = false) (hp : ¬ (⟨0, fl, st, pad, nd, d, ns, s, g, wt, pa, al, pm, la, co, sp⟩ : Fm5).POk) (w : World) (hd : Rd .u8 w A2 nd c2 d) (hs2 : Rd2 w A3 ns c3 s g) :
    Calls Try.prog 101 #[.agg #[.int .i64 0, .int .i64 fl, .int .i64 st, .int .i64 pad, .slice A2 nd c2, .slice A3 ns c3, .int .i64 wt, .int .i64 pa, .bool al, .int .i64 pm, .int .i64 la, .int .i64 co, .int .i64 sp]] w (Bd5 (⟨0, fl, st, pad, nd, d, ns, s, g, wt, pa, al, pm, la, co, sp⟩ : Fm5) w) := by
  obtain ⟨i0, hi, hz0, hz1, hz2⟩ := info_parts u8_info
  have e5 : hsB 0 fl 5 = false := hsB5_no (by decide)
  have hpw1 : pw 1 = 256 := by decide
  have hpw4 : pw 4 = 4294967296 := by decide
  exact absurd (show (⟨0, fl, st, pad, nd, d, ns, s, g, wt, pa, al, pm, la, co, sp⟩ : Fm5).POk from ⟨fun h => absurd h (by show ¬ (hsB 0 fl 3 = true); rw [e3]; decide), fun h => absurd h (by show ¬ (0 = 2 ∨ hsB 0 fl 5 = true); rw [e5]; simp), fun (h : (0 : Int) = 3) => absurd h (by decide), fun (h : (0 : Int) = 4) => absurd h (by decide), fun (h : (0 : Int) = 5) => absurd h (by decide), fun (h : (0 : Int) = 7) => absurd h (by decide), fun (h : (0 : Int) = 8) => absurd h (by decide)⟩) hp
set_option maxRecDepth 20000 in
set_option maxHeartbeats 1600000 in
theorem body_h00_n (fl st pad : Int) (A2 : Option Addr) (nd c2 : Nat) (d : Nat → Int) (A3 : Option Addr) (ns c3 : Nat) (s g : Nat → Int) (wt pa : Int) (al : Bool) (pm la co sp : Int) (hfl : fl ≤ 9223372036854775807) (hnd : nd ≤ 100000) (hns : ns ≤ 1000) (e3 : hsB 1 fl 3 = false) (e5 : hsB 1 fl 5 = false) (hp : ¬ (⟨1, fl, st, pad, nd, d, ns, s, g, wt, pa, al, pm, la, co, sp⟩ : Fm5).POk) (w : World) (hd : Rd .u8 w A2 nd c2 d) (hs2 : Rd2 w A3 ns c3 s g) :
    Calls Try.prog 101 #[.agg #[.int .i64 1, .int .i64 fl, .int .i64 st, .int .i64 pad, .slice A2 nd c2, .slice A3 ns c3, .int .i64 wt, .int .i64 pa, .bool al, .int .i64 pm, .int .i64 la, .int .i64 co, .int .i64 sp]] w (Bd5 (⟨1, fl, st, pad, nd, d, ns, s, g, wt, pa, al, pm, la, co, sp⟩ : Fm5) w) := by
  obtain ⟨i0, hi, hz0, hz1, hz2⟩ := info_parts u8_info
  have hpw1 : pw 1 = 256 := by decide
  have hpw4 : pw 4 = 4294967296 := by decide
  exact absurd (show (⟨1, fl, st, pad, nd, d, ns, s, g, wt, pa, al, pm, la, co, sp⟩ : Fm5).POk from ⟨fun h => absurd h (by show ¬ (hsB 1 fl 3 = true); rw [e3]; decide), fun h => absurd h (by show ¬ (1 = 2 ∨ hsB 1 fl 5 = true); rw [e5]; simp), fun (h : (1 : Int) = 3) => absurd h (by decide), fun (h : (1 : Int) = 4) => absurd h (by decide), fun (h : (1 : Int) = 5) => absurd h (by decide), fun (h : (1 : Int) = 7) => absurd h (by decide), fun (h : (1 : Int) = 8) => absurd h (by decide)⟩) hp
set_option maxRecDepth 20000 in
set_option maxHeartbeats 1600000 in
theorem body_o_n (T fl st pad : Int) (A2 : Option Addr) (nd c2 : Nat) (d : Nat → Int) (A3 : Option Addr) (ns c3 : Nat) (s g : Nat → Int) (wt pa : Int) (al : Bool) (pm la co sp : Int) (hfl : fl ≤ 9223372036854775807) (hnd : nd ≤ 100000) (hns : ns ≤ 1000) (hT : ¬ (T = 0 ∨ T = 1 ∨ T = 2 ∨ T = 3 ∨ T = 4 ∨ T = 5 ∨ T = 7 ∨ T = 8)) (hp : ¬ (⟨T, fl, st, pad, nd, d, ns, s, g, wt, pa, al, pm, la, co, sp⟩ : Fm5).POk) (w : World) (hd : Rd .u8 w A2 nd c2 d) (hs2 : Rd2 w A3 ns c3 s g) :
    Calls Try.prog 101 #[.agg #[.int .i64 T, .int .i64 fl, .int .i64 st, .int .i64 pad, .slice A2 nd c2, .slice A3 ns c3, .int .i64 wt, .int .i64 pa, .bool al, .int .i64 pm, .int .i64 la, .int .i64 co, .int .i64 sp]] w (Bd5 (⟨T, fl, st, pad, nd, d, ns, s, g, wt, pa, al, pm, la, co, sp⟩ : Fm5) w) := by
  obtain ⟨i0, hi, hz0, hz1, hz2⟩ := info_parts u8_info
  obtain ⟨hT0, hT1, hT2, hT3, hT4, hT5, hT7, hT8⟩ : T ≠ 0 ∧ T ≠ 1 ∧ T ≠ 2 ∧ T ≠ 3 ∧ T ≠ 4 ∧ T ≠ 5 ∧ T ≠ 7 ∧ T ≠ 8 := by omega
  have e3 : hsB T fl 3 = false := hsB3_no ⟨hT0, hT1, hT5⟩
  have e5 : hsB T fl 5 = false := hsB5_no hT1
  have hpw1 : pw 1 = 256 := by decide
  have hpw4 : pw 4 = 4294967296 := by decide
  exact absurd (show (⟨T, fl, st, pad, nd, d, ns, s, g, wt, pa, al, pm, la, co, sp⟩ : Fm5).POk from ⟨fun h => absurd h (by show ¬ (hsB T fl 3 = true); rw [e3]; decide), fun h => absurd h (by show ¬ (T = 2 ∨ hsB T fl 5 = true); rw [e5]; simp [hT2]), fun (h : (T : Int) = 3) => absurd h (by exact hT3), fun (h : (T : Int) = 4) => absurd h (by exact hT4), fun (h : (T : Int) = 5) => absurd h (by exact hT5), fun (h : (T : Int) = 7) => absurd h (by exact hT7), fun (h : (T : Int) = 8) => absurd h (by exact hT8)⟩) hp
end Go.Proofs.Ytpnjamomkpkkeaa
