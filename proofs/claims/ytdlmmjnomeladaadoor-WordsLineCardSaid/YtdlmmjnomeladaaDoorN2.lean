/- Wd3, Wd4 in one text. -/
import Derived.Test.YtdlmmjnomeladaaDoorN1
import Derived.Test.YtdlmmjnomeladaaDoorSlB
import Derived.Test.YtdlmmjnomeladaaDoorMJ
import Derived.Test.YtdlmmjnomeladaaDoorTs3
namespace Go.Proofs.YtdlmmjnomeladaaDoor
set_option linter.unusedVariables false
set_option linter.unusedSimpArgs false
section
open Go Go.RowKit Go.PlainAid

section
variable {P : Program} {e : TypeId} {k : IntKind} {w : World} {ops : Array Oper} {o : Oper} {a : Act} {K : Act → World → Prop} {Q : Exit → Act → World → Prop} {E : Prop}
theorem step_appW (hgd : o.guard = none) (s x : Operand) (t : TypeId) (ho : o.op = .call { callee := .builtin .append, args := #[s, x], argTypes := #[t, t] })
    (i : TypeInfo) (z : Int) (bytes : Nat) (ht : P.underlying t = some (.slice e)) (hi : P.info? e = some i) (hz : i.zero = some (.int k z)) (hsize : i.size = 1) (hby : i.bytes = bytes)
    (B : Nat) (v : Value) (n : Nat) (f : Nat → Int) (hs : a.eval s = v) (hown : Own k e B w v n f) (A : Option Addr) (m c : Nat) (g : Nat → Int) (hx : a.eval x = .slice A m c) (hr : Rd k w A m c g)
    (h63 : n + m ≤ maxLen) (hbytes : (n + m) * bytes ≤ 140737488355328) (hbase : B ≤ w.heap.size)
    (h : ∀ v' w', Own k e B w' v' (n + m) (catF n f g) → w.grownBy w' v.ownBlock → K (a.put o.dst v') w') :
    if Region.wanted o (yielded ops a.tmps) = true then Oper.wp P o a w K Q else E := by
  rw [if_pos (by simp [Region.wanted, hgd])]
  obtain ⟨v', w', hrun, h2, h3⟩ := run_app (P := P) t o.type i z bytes ht hi hz hsize hby B v n f hown A m c g hr h63 hbytes hbase
  unfold Oper.wp execOp
  simp only [ho, resolve, invoke, builtin, Sem.run_bind, Sem.run_pure, Result.andThen_ok, List.map_toArray, List.map_cons, List.map_nil, hs, hx, hrun]
  exact h v' w' h2 h3
end
theorem u8_info4 : (Tryd.prog.info? 5).map (fun i => (i.zero, i.size, i.bytes)) = some (some (.int .u8 0), 1, 1) := by kernel_rfl
/-- a list of bytes, as the walk reads it -/
def btL (l : List UInt8) (i : Nat) : Int := bt ⟨l.toArray⟩ i
theorem btL_at {l : List UInt8} {i : Nat} (h : i < l.length) : btL l i = (l[i].toNat : Int) := by
  unfold btL
  rw [bt_dec, List.getElem?_eq_getElem h]
theorem btL_cat (a b : List UInt8) {m : Nat} (hm : m = a.length) (i : Nat) (hi : i < m + b.length) : catF m (btL a) (btL b) i = btL (a ++ b) i := by
  subst hm
  show (if i < a.length then btL a i else btL b (i - a.length)) = _
  by_cases h : i < a.length
  · rw [if_pos h, btL_at h, btL_at (by simp; omega), List.getElem_append_left h]
  · rw [if_neg h, btL_at (by omega), btL_at (by simp; omega), List.getElem_append_right (by omega)]
theorem lit3 (a b : UInt8) : ([.int .u8 37, .int .u8 (a.toNat : Int), .int .u8 (b.toNat : Int)] : List Value) = row .u8 3 (btL [37, a, b]) := by
  show _ = [Value.int .u8 (btL [37, a, b] 0), Value.int .u8 (btL [37, a, b] 1), Value.int .u8 (btL [37, a, b] 2)]
  rw [btL_at (by simp), btL_at (by simp), btL_at (by simp)]
  rfl
theorem lit2w (a b : UInt8) : ([.int .u8 (a.toNat : Int), .int .u8 (b.toNat : Int)] : List Value) = row .u8 2 (btL [a, b]) := by
  show _ = [Value.int .u8 (btL [a, b] 0), Value.int .u8 (btL [a, b] 1)]
  rw [btL_at (by simp), btL_at (by simp)]
  rfl
theorem rd_lit3 (w : World) (a b : UInt8) : Rd .u8 (w.alloc (.cells #[.int .u8 37, .int .u8 (a.toNat : Int), .int .u8 (b.toNat : Int)] 5)) (some ⟨w.heap.size, 0, none⟩) 3 3 (btL [37, a, b]) :=
  Own.rdS (Own.lit .u8 5 0 w (btL [37, a, b]) #[.int .u8 37, .int .u8 (a.toNat : Int), .int .u8 (b.toNat : Int)] 3 (Nat.zero_le _) (by simp [maxLen]) (lit3 a b))
theorem rd_lit2 (w : World) (a b : UInt8) : Rd .u8 (w.alloc (.cells #[.int .u8 (a.toNat : Int), .int .u8 (b.toNat : Int)] 5)) (some ⟨w.heap.size, 0, none⟩) 2 2 (btL [a, b]) :=
  Own.rdS (Own.lit .u8 5 0 w (btL [a, b]) #[.int .u8 (a.toNat : Int), .int .u8 (b.toNat : Int)] 2 (Nat.zero_le _) (by simp [maxLen]) (lit2w a b))
theorem catF_snoc {Q : List UInt8} {b : UInt8} {m : Nat} {c : Int} (hm : Q.length = m) (hc : (b.toNat : Int) = c) (i : Nat) (hi : i < m + 1) : catF m (btL Q) (oneF c) i = btL (Q ++ [b]) i := by
  rw [← btL_cat Q [b] hm.symm i (by simpa using hi)]
  show (if i < m then btL Q i else c) = if i < m then btL Q i else btL [b] (i - m)
  by_cases h : i < m
  · rw [if_pos h, if_pos h]
  · rw [if_neg h, if_neg h, btL_at (by simp; omega), ← hc]
    have : i - m = 0 := by omega
    simp [this]
theorem Own.catL {e : TypeId} {B : Nat} {w : World} {v : Value} {a b : List UInt8} (h : Own .u8 e B w v (a.length + b.length) (catF a.length (btL a) (btL b))) : Own .u8 e B w v (a ++ b).length (btL (a ++ b)) := by
  rw [List.length_append]
  exact h.congr fun i hi => btL_cat a b rfl i hi
theorem btL_byt (l : List UInt8) (n : Nat) : Byt n (btL l) := fun i _ => ⟨bt_nonneg _ i, bt_le _ i⟩
theorem textB_L (l : List UInt8) : textB l.length (btL l) = ⟨l.toArray⟩ := textB_bt ⟨l.toArray⟩
theorem c_split (b : UInt8) : ((b.toNat : Nat) : Int) = 16 * ((b.toNat / 16 : Nat) : Int) + ((b.toNat % 16 : Nat) : Int) := by omega
theorem shr16 (b : UInt8) : ((b.toNat : Nat) : Int) / 16 = ((b.toNat / 16 : Nat) : Int) := by omega
theorem and16 (b : UInt8) : bits BinOp.and IntKind.u8 (b.toNat : Int) 15 = ((b.toNat % 16 : Nat) : Int) := by
  refine u8_all (p := fun b => bits BinOp.and IntKind.u8 (b.toNat : Int) 15 = ((b.toNat % 16 : Nat) : Int)) ?_ b
  decide +kernel
set_option maxRecDepth 20000 in
set_option maxHeartbeats 3200000 in
theorem quote04 (s : ByteArray) (w : World) (hs : s.size ≤ 1000000) : Calls Tryd.prog 23 #[.string s] w fun e w' => e = .returned (.string (qS s)) ∧ Below w.heap.size w w' := by
  obtain ⟨i0, hi, hz0, hz1, hz2⟩ := info_parts u8_info4
  by_cases hz : s.size = 0
  · have t1 := isEmpty_yes hz
    have hq : Hid ((⟨#[37]⟩ : ByteArray) = qS s) := by
      have : s = ⟨#[]⟩ := ByteArray.ext (Array.eq_empty_of_size_eq_zero hz)
      subst this
      rfl
    clear hz
    go_enter Tryd.func23, Tryd.ntmps23
    go_wp2
    go_ret
    exact ⟨by rw [← hq.out]; rfl, Below.refl _ _⟩
  have t1 := isEmpty_no hz
  obtain ⟨l, hl⟩ : ∃ l, s.data.toList = l := ⟨_, rfl⟩
  have HL := hide hl
  have hn : Hid (s.size = l.length) := by unfold Hid; rw [← hl, Lib.size_eq]
  have hne : Hid (l ≠ []) := fun e => by have h := hn.out; rw [e] at h; exact hz h
  clear hz
  go_enter Tryd.func23, Tryd.ntmps23
  go_wp2_with (at_make; refine wpList_make_own _ rfl _ _ _ rfl w.heap.size 5 i0 (.int .u8 0) 1 Tryd.underlying22 hi hz0 hz1 _ _ _ s.size rfl rfl rfl (by rw [hz2]; omega) (by simp only [maxLen]; omega) (Nat.le_refl _) ?_; intro w2 hown2 hg2)
  have HO2 : Hid (Own .u8 5 w.heap.size w2 (.slice (some ⟨w.heap.size, 0, none⟩) 0 s.size) (qL (l.take 0)).length (btL (qL (l.take 0)))) := hown2
  have HB2 := hide ((Below.refl w.heap.size w).grown hg2 (Nat.le_refl _) (fun k e => by cases e))
  clear hown2 hg2
  go_wp2_with fail
  go_loopw [3, 4, 5, 13] (fun v _ _ i wr => ∃ k : Nat, k ≤ s.size ∧ i = .int .i64 k ∧ Own .u8 5 w.heap.size wr v (qL (l.take k)).length (btL (qL (l.take k))) ∧ Below w.heap.size w wr) (fun _ _ _ i _ => s.size - (intOf i).toNat)
  case atStart => exact ⟨0, Nat.zero_le _, rfl, HO2.out, HB2.out⟩
  case round =>
    obtain ⟨k, hk, rfl, hO, hB⟩ := hrel
    have HO := hide hO
    have HB := hide hB
    have hsz := hB.size
    have hlen := (qL_len (l.take k)).1
    rw [List.length_take] at hlen
    obtain ⟨m, hm⟩ : ∃ m, (qL (l.take k)).length = m := ⟨_, rfl⟩
    have HM := hide hm
    rw [hm] at hlen HO
    clear hO hB hm HO2 HB2
    by_cases hlt : k < s.size
    · obtain ⟨b, hb⟩ : ∃ b, l[k]'(by have := hn.out; omega) = b := ⟨_, rfl⟩
      have HT : Hid (l.take (k + 1) = l.take k ++ [b]) := by
        unfold Hid
        rw [List.take_add_one, List.getElem?_eq_getElem (by have := hn.out; omega), hb]
        rfl
      have hbt : ((s[k]'hlt).toNat : Int) = (b.toNat : Int) := by
        rw [get_bt s k hlt, bt_data s (by rw [HL.out]; have := hn.out; omega)]
        subst hl
        rw [hb]
      have hcase : (plC b = true ∧ plI (b.toNat : Int) = true) ∨ (plC b = false ∧ plI (b.toNat : Int) = false) := by
        rw [plI_of]
        cases plC b
        · exact .inr ⟨rfl, rfl⟩
        · exact .inl ⟨rfl, rfl⟩
      have e1 := and16 b
      have e2 := shr16 b
      obtain ⟨x, hx0⟩ : ∃ x, b.toNat / 16 = x := ⟨_, rfl⟩
      obtain ⟨y, hy0⟩ : ∃ y, b.toNat % 16 = y := ⟨_, rfl⟩
      have hx : x < 16 := by have := b.toNat_lt; omega
      have hy : y < 16 := by omega
      have hx' : (x : Int) < 16 := by omega
      have hy' : (y : Int) < 16 := by omega
      have x1 := six_at x hx
      have y1 := six_at y hy
      have HX := hide hx0
      have HY := hide hy0
      rw [hx0] at e2
      rw [hy0] at e1
      obtain ⟨c, hc⟩ : ∃ c : Int, (b.toNat : Int) = c := ⟨_, rfl⟩
      have HC := hide hc
      rw [hc] at hbt hcase e1 e2
      clear hc hb hl hx0 hy0
      rcases hcase with ⟨p1, p2⟩ | ⟨p1, p2⟩
      · have P1 := hide p1
        clear p1 e1 e2 x1 y1
        go_wp2_with fail
        refine (isplain04 c _).mono ?_
        rintro e w3 ⟨rfl, rfl⟩
        rw [p2]
        go_wp2_with (at_builtin; refine wp_app rfl (.tmp 21) (.tmp 23) _ rfl i0 0 1 Tryd.underlying22 hi hz0 hz1 hz2 w.heap.size _ m (btL (qL (l.take k))) rfl (HO.out.alloc _) _ 1 1 _ rfl (Rd.one .u8 5 _ _) (by simp only [maxLen]; omega) (by omega) (by simp; omega) ?_; intro v3 w3 hown3 hg3)
        have HQ : Hid (qL (l.take (k + 1)) = qL (l.take k) ++ [b]) := by unfold Hid; rw [HT.out, qL_snoc, qB_yes P1.out]
        have HO3 : Hid (Own .u8 5 w.heap.size w3 v3 (qL (l.take (k + 1))).length (btL (qL (l.take (k + 1))))) := by
          unfold Hid
          rw [HQ.out, List.length_append, HM.out]
          exact hown3.congr (fun i hi => catF_snoc HM.out HC.out i hi)
        have HB3 := hide ((HB.out.alloc hsz (.cells #[.int .u8 c] 5)).grown hg3 (by simp; omega) (fun j e => (World.ownsRow.lt HO.out j e).1))
        clear hown3 hg3
        go_wp2_with fail
        exact ⟨⟨k + 1, by omega, rfl, HO3.out, HB3.out⟩, by simp [intOf]; omega⟩
      · have P1 := hide p1
        clear p1
        go_wp2_with fail
        refine (isplain04 c _).mono ?_
        rintro e w3 ⟨rfl, rfl⟩
        rw [p2]
        go_wp2_with fail
        go_region_law (refine step_appW rfl (.tmp 25) (.tmp 32) _ rfl i0 0 1 Tryd.underlying22 hi hz0 hz1 hz2 w.heap.size _ m (btL (qL (l.take k))) rfl (HO.out.alloc _) _ 3 3 _ rfl (rd_lit3 _ (hxC x) (hxC y)) (by simp only [maxLen]; omega) (by omega) (by simp; omega) ?_; intro v3 w3 hown3 hg3)
        all_goals
          have HQ : Hid (qL (l.take (k + 1)) = qL (l.take k) ++ [37, hxC x, hxC y]) := by unfold Hid; rw [HT.out, qL_snoc, qB_no P1.out, hexL, HX.out, HY.out]
          have HO3 : Hid (Own .u8 5 w.heap.size w3 v3 (qL (l.take (k + 1))).length (btL (qL (l.take (k + 1))))) := by
            unfold Hid
            rw [HQ.out]
            have h := hown3
            rw [← HM.out] at h
            exact Own.catL h
          have HB3 := hide (((HB.out.alloc hsz (.cells #[.int .u8 37, .int .u8 ((hxC x).toNat : Int), .int .u8 ((hxC y).toNat : Int)] 5)).drew).grown hg3 (by simp; omega) (fun j e => (World.ownsRow.lt HO.out j e).1))
          clear hown3 hg3
          go_wp2_with fail
          exact ⟨⟨k + 1, by omega, rfl, HO3.out, HB3.out⟩, by simp [intOf]; omega⟩
    · obtain rfl : k = s.size := by omega
      obtain ⟨A, cc, rfl, hrd, _⟩ := Own.rd HO.out
      have hcv := text_back hrd (btL_byt _ _) 22 9 5 Tryd.underlying22 Tryd.underlying5 Tryd.underlying9
      rw [← HM.out, textB_L] at hcv
      have hq : Hid ((⟨(qL (l.take s.size)).toArray⟩ : ByteArray) = qS s) := by
        unfold Hid qS qW
        rw [HL.out, if_neg hne.out, List.take_of_length_le (by have := hn.out; omega)]
      rw [hq.out, HM.out] at hcv
      have HB2 := hide HB.out
      clear hrd
      go_wp2_with fail
      go_ret
      exact ⟨rfl, HB2.out⟩
end

section
open Go Go.RowKit Go.PlainAid

theorem byte_eq {b : UInt8} {x y : Nat} (hx : b.toNat / 16 = x) (hy : b.toNat % 16 = y) : hexL b = [hxC x, hxC y] := by rw [hexL, hx, hy]
theorem app_data (a b : List UInt8) : (⟨a.toArray⟩ : ByteArray) ++ ⟨b.toArray⟩ = ⟨(a ++ b).toArray⟩ := by
  apply ByteArray.ext
  simp [ByteArray.data_append]
theorem sz_arr (a : List UInt8) : (⟨a.toArray⟩ : ByteArray).size = a.length := by
  show a.toArray.size = _
  simp
theorem one_cut {s : ByteArray} {l : List UInt8} (hl : s.data.toList = l) {k : Nat} (h : k < l.length) : s.extract k (k + 1) = ⟨#[l[k]]⟩ := by
  subst hl
  rw [← cut_list]
  have : (s.data.toList.take (k + 1)).drop k = [s.data.toList[k]] := by
    rw [List.take_add_one, List.getElem?_eq_getElem h]
    rw [List.drop_append_of_le_length (by rw [List.length_take]; omega)]
    rw [List.drop_eq_nil_of_le (by rw [List.length_take]; omega)]
    rfl
  rw [this]
set_option maxRecDepth 20000 in
set_option maxHeartbeats 3200000 in
theorem rquote04 (s : ByteArray) (w : World) (hs : s.size ≤ 1000000) : Calls Tryd.prog 26 #[.string s] w fun e w' => e = .returned (.string (qS s)) ∧ Below w.heap.size w w' := by
  by_cases hz : s.size = 0
  · have t1 := isEmpty_yes hz
    have hq : Hid ((⟨#[37]⟩ : ByteArray) = qS s) := by
      have : s = ⟨#[]⟩ := ByteArray.ext (Array.eq_empty_of_size_eq_zero hz)
      subst this
      rfl
    clear hz
    go_enter Tryd.func26, Tryd.ntmps26
    go_wp2
    go_ret
    exact ⟨by rw [← hq.out]; rfl, Below.refl _ _⟩
  have t1 := isEmpty_no hz
  obtain ⟨l, hl⟩ : ∃ l, s.data.toList = l := ⟨_, rfl⟩
  have HL := hide hl
  have hn : Hid (s.size = l.length) := by unfold Hid; rw [← hl, Lib.size_eq]
  have hne : Hid (l ≠ []) := fun e => by have h := hn.out; rw [e] at h; exact hz h
  clear hz
  go_enter Tryd.func26, Tryd.ntmps26
  go_wp2_with fail
  go_loopw [3, 4] (fun v i wr => ∃ (k : Nat) (y : ByteArray), k ≤ s.size ∧ i = .int .i64 k ∧ v = .string y ∧ (⟨(qL (l.take k)).toArray⟩ : ByteArray) = y ∧ Below w.heap.size w wr) (fun _ i _ => s.size - (intOf i).toNat)
  case atStart => exact ⟨0, ⟨#[]⟩, Nat.zero_le _, rfl, rfl, rfl, Below.refl _ _⟩
  case round =>
    obtain ⟨k, y, hk, rfl, rfl, hy, hB⟩ := hrel
    have HB := hide hB
    have HY := hide hy
    have hlen : y.size ≤ 3 * k := by
      rw [← hy, sz_arr]
      have := (qL_len (l.take k)).1
      rw [List.length_take] at this
      omega
    clear hB hy
    by_cases hlt : k < s.size
    · obtain ⟨b, hb⟩ : ∃ b, l[k]'(by have := hn.out; omega) = b := ⟨_, rfl⟩
      have HT : Hid (l.take (k + 1) = l.take k ++ [b]) := by
        unfold Hid
        rw [List.take_add_one, List.getElem?_eq_getElem (by have := hn.out; omega), hb]
        rfl
      have hbt : ((s[k]'hlt).toNat : Int) = (b.toNat : Int) := by
        rw [get_bt s k hlt, bt_data s (by rw [HL.out]; have := hn.out; omega)]
        subst hl
        rw [hb]
      have hcut : s.extract k (k + 1) = ⟨#[b]⟩ := by rw [one_cut HL.out (by have := hn.out; omega), hb]
      have HX : Hid (hexL b = [hxC (b.toNat / 16), hxC (b.toNat % 16)]) := rfl
      have hpr := hide (fun W => pair04_xy (b.toNat : Int) (b.toNat / 16) (b.toNat % 16) W (by have := b.toNat_lt; omega) (by omega) (by omega))
      have hcase : (plC b = false ∧ decide ((b.toNat : Int) < 33) = true) ∨ (plC b = false ∧ decide ((b.toNat : Int) < 33) = false ∧ decide (126 < (b.toNat : Int)) = true) ∨ (plC b = false ∧ decide ((b.toNat : Int) < 33) = false ∧ decide (126 < (b.toNat : Int)) = false ∧ ((b.toNat : Int) == 37) = true) ∨ (plC b = true ∧ decide ((b.toNat : Int) < 33) = false ∧ decide (126 < (b.toNat : Int)) = false ∧ ((b.toNat : Int) == 37) = false) := by
        rw [← plI_of]
        unfold plI
        simp only [decide_eq_true_eq, decide_eq_false_iff_not, beq_iff_eq, beq_eq_false_iff_ne]
        omega
      obtain ⟨c, hc⟩ : ∃ c : Int, (b.toNat : Int) = c := ⟨_, rfl⟩
      have HC := hide hc
      rw [hc] at hbt hcase hpr
      clear hc hb hl
      have b1 : (0 : Int) ≤ (k : Int) + 1 := by omega
      have b2 : (k : Int) + 1 ≤ (s.size : Int) := by omega
      have b3 : (k : Int) ≤ (k : Int) + 1 := by omega
      have dash : plC b = false → ∃ y1 y2, y ++ ⟨#[37]⟩ = y1 ∧ y1 ++ ⟨#[hxC (b.toNat / 16), hxC (b.toNat % 16)]⟩ = y2 ∧ (⟨(qL (l.take (k + 1))).toArray⟩ : ByteArray) = y2 := fun hp => by
        refine ⟨_, _, rfl, rfl, ?_⟩
        rw [HT.out, qL_snoc, qB_no hp, HX.out, ← HY.out]
        show _ = ((⟨(qL (l.take k)).toArray⟩ : ByteArray) ++ ⟨[37].toArray⟩) ++ ⟨[hxC (b.toNat / 16), hxC (b.toNat % 16)].toArray⟩
        rw [app_data, app_data]
        simp
      have HD := hide dash
      clear dash
      rcases hcase with ⟨p1, d1⟩ | ⟨p1, d1, d2⟩ | ⟨p1, d1, d2, d3⟩ | ⟨p1, d1, d2, d3⟩
      · obtain ⟨y1, y2, hy1, hy2, hq⟩ := HD.out p1
        have HQ := hide hq
        have z1 : y1.size = y.size + 1 := by rw [← hy1]; simp; rfl
        have u1 := catR4 hy1 (by have h1 : (⟨#[37]⟩ : ByteArray).size = 1 := rfl; omega)
        have u2 := catR4 hy2 (by have h1 : (⟨#[hxC (b.toNat / 16), hxC (b.toNat % 16)]⟩ : ByteArray).size = 2 := rfl; omega)
        have u3 : ¬ (y.size + 1 > 9223372036854775807) := by omega
        have u4 : ¬ (y1.size + 2 > 9223372036854775807) := by omega
        clear hq hy1 hy2 z1 p1 HD
        go_wp2_with fail
        refine (hpr.out _).mono ?_
        rintro e w3 ⟨rfl, hd3⟩
        have HB3 := hide (HB.out.trans (drawn_below hd3 _))
        clear hd3
        go_wp2_with fail
        exact ⟨⟨k + 1, y2, by omega, rfl, rfl, HQ.out, HB3.out⟩, by simp [intOf]; omega⟩
      · obtain ⟨y1, y2, hy1, hy2, hq⟩ := HD.out p1
        have HQ := hide hq
        have z1 : y1.size = y.size + 1 := by rw [← hy1]; simp; rfl
        have u1 := catR4 hy1 (by have h1 : (⟨#[37]⟩ : ByteArray).size = 1 := rfl; omega)
        have u2 := catR4 hy2 (by have h1 : (⟨#[hxC (b.toNat / 16), hxC (b.toNat % 16)]⟩ : ByteArray).size = 2 := rfl; omega)
        have u3 : ¬ (y.size + 1 > 9223372036854775807) := by omega
        have u4 : ¬ (y1.size + 2 > 9223372036854775807) := by omega
        clear hq hy1 hy2 z1 p1 HD
        go_wp2_with fail
        refine (hpr.out _).mono ?_
        rintro e w3 ⟨rfl, hd3⟩
        have HB3 := hide (HB.out.trans (drawn_below hd3 _))
        clear hd3
        go_wp2_with fail
        exact ⟨⟨k + 1, y2, by omega, rfl, rfl, HQ.out, HB3.out⟩, by simp [intOf]; omega⟩
      · obtain ⟨y1, y2, hy1, hy2, hq⟩ := HD.out p1
        have HQ := hide hq
        have z1 : y1.size = y.size + 1 := by rw [← hy1]; simp; rfl
        have u1 := catR4 hy1 (by have h1 : (⟨#[37]⟩ : ByteArray).size = 1 := rfl; omega)
        have u2 := catR4 hy2 (by have h1 : (⟨#[hxC (b.toNat / 16), hxC (b.toNat % 16)]⟩ : ByteArray).size = 2 := rfl; omega)
        have u3 : ¬ (y.size + 1 > 9223372036854775807) := by omega
        have u4 : ¬ (y1.size + 2 > 9223372036854775807) := by omega
        clear hq hy1 hy2 z1 p1 HD
        go_wp2_with fail
        refine (hpr.out _).mono ?_
        rintro e w3 ⟨rfl, hd3⟩
        have HB3 := hide (HB.out.trans (drawn_below hd3 _))
        clear hd3
        go_wp2_with fail
        exact ⟨⟨k + 1, y2, by omega, rfl, rfl, HQ.out, HB3.out⟩, by simp [intOf]; omega⟩
      · have HQ : Hid ((⟨(qL (l.take (k + 1))).toArray⟩ : ByteArray) = y ++ ⟨#[b]⟩) := by
          unfold Hid
          rw [HT.out, qL_snoc, qB_yes p1, ← HY.out, show (⟨#[b]⟩ : ByteArray) = ⟨[b].toArray⟩ from rfl, app_data]
        obtain ⟨y2, hy2⟩ : ∃ y2, y ++ ⟨#[b]⟩ = y2 := ⟨_, rfl⟩
        rw [hy2] at HQ
        have u1 := catR4 hy2 (by have h1 : (⟨#[b]⟩ : ByteArray).size = 1 := rfl; omega)
        have u2 : ¬ (y.size + 1 > 9223372036854775807) := by omega
        clear hy2 p1 HD hpr
        go_wp2_with fail
        exact ⟨⟨k + 1, y2, by omega, rfl, rfl, HQ.out, HB.out⟩, by simp [intOf]; omega⟩
    · obtain rfl : k = s.size := by omega
      have hq : Hid (y = qS s) := by
        unfold Hid qS qW
        rw [HL.out, if_neg hne.out, ← HY.out, List.take_of_length_le (by have := hn.out; omega)]
      go_wp2_with fail
      go_ret
      exact ⟨by rw [← hq.out]; rfl, HB.out⟩
set_option maxRecDepth 20000 in
set_option maxHeartbeats 3200000 in
theorem hex04 (A : Option Addr) (n cp : Nat) (f : Nat → Int) (l : List UInt8) (w : World) (h : Rd .u8 w A n cp f) (hl : n = l.length) (hf : ∀ i (h : i < l.length), f i = (l[i].toNat : Int)) (hn : n ≤ 1000000) :
    Calls Tryd.prog 18 #[.slice A n cp] w fun e w' => e = .returned (.string ⟨(hxL l).toArray⟩) ∧ Below w.heap.size w w' := by
  obtain ⟨i0, hi, hz0, hz1, hz2⟩ := info_parts u8_info4
  have HR := hide h
  have HL := hide hl
  have HF := hide hf
  clear h hl hf
  go_enter Tryd.func18, Tryd.ntmps18
  go_wp2_with (at_make; refine wpList_make_own _ rfl _ _ _ rfl w.heap.size 5 i0 (.int .u8 0) 1 Tryd.underlying22 hi hz0 hz1 _ _ _ (2 * n) rfl rfl (by omega) (by rw [hz2]; omega) (by simp only [maxLen]; omega) (Nat.le_refl _) ?_; intro w2 hown2 hg2)
  have HO2 : Hid (Own .u8 5 w.heap.size w2 (.slice (some ⟨w.heap.size, 0, none⟩) 0 (2 * n)) (hxL (l.take 0)).length (btL (hxL (l.take 0)))) := hown2
  have HB2 := hide ((Below.refl w.heap.size w).grown hg2 (Nat.le_refl _) (fun k e => by cases e))
  clear hown2 hg2
  go_wp2_with fail
  go_loopw [3, 4, 11] (fun v _ i wr => ∃ k : Nat, k ≤ n ∧ i = .int .i64 k ∧ Own .u8 5 w.heap.size wr v (hxL (l.take k)).length (btL (hxL (l.take k))) ∧ Below w.heap.size w wr) (fun _ _ i _ => n - (intOf i).toNat)
  case atStart => exact ⟨0, Nat.zero_le _, rfl, HO2.out, HB2.out⟩
  case round =>
    obtain ⟨k, hk, rfl, hO, hB⟩ := hrel
    have HO := hide hO
    have HB := hide hB
    have hsz := hB.size
    have hlen := hxL_len (l.take k)
    rw [List.length_take] at hlen
    obtain ⟨m, hm⟩ : ∃ m, (hxL (l.take k)).length = m := ⟨_, rfl⟩
    have HM := hide hm
    rw [hm] at hlen HO
    have hmm : m ≤ 2 * k := by omega
    clear hO hB hm HO2 HB2 hlen
    by_cases hlt : k < n
    · obtain ⟨b, hb⟩ : ∃ b, l[k]'(by have := HL.out; omega) = b := ⟨_, rfl⟩
      have HT : Hid (l.take (k + 1) = l.take k ++ [b]) := by
        unfold Hid
        rw [List.take_add_one, List.getElem?_eq_getElem (by have := HL.out; omega), hb]
        rfl
      obtain ⟨bk, off, rfl, hcw⟩ := HR.out.at_ hlt
      have hbk := World.block_lt_of_cell? _ _ hcw
      have hc0 := (HB.out.cell (p := ⟨bk, off + k, none⟩) hbk).trans hcw
      rw [HF.out k (by have := HL.out; omega), hb] at hc0
      clear hcw
      have e1 := and16 b
      have e2 := shr16 b
      obtain ⟨x, hx0⟩ : ∃ x, b.toNat / 16 = x := ⟨_, rfl⟩
      obtain ⟨y, hy0⟩ : ∃ y, b.toNat % 16 = y := ⟨_, rfl⟩
      have hx : x < 16 := by have := b.toNat_lt; omega
      have hy : y < 16 := by omega
      have hx' : (x : Int) < 16 := by omega
      have hy' : (y : Int) < 16 := by omega
      have x1 := six_at x hx
      have y1 := six_at y hy
      have HX := hide hx0
      have HY := hide hy0
      rw [hx0] at e2
      rw [hy0] at e1
      obtain ⟨c, hc⟩ : ∃ c : Int, (b.toNat : Int) = c := ⟨_, rfl⟩
      rw [hc] at hc0 e1 e2
      clear hc hb hx0 hy0
      go_wp2_with fail
      have hc1 : ∀ o, (wr.alloc o).cell? ⟨bk, off + k, none⟩ = some (.int .u8 c) := fun o => (World.cell?_of_block (Below.heap_alloc wr o bk (World.block_lt_of_cell? _ _ hc0))).trans hc0
      go_region_held3 (fun W => W.cell? ⟨bk, off + k, none⟩ = some (.int .u8 c)) ((first | exact hc0 | exact hc3 | (simp only [World.cell?_drew]; first | exact hc0 | exact hc1 _ | exact hc3))) ((refine step_appW rfl (.tmp 14) (.tmp 27) _ rfl i0 0 1 Tryd.underlying22 hi hz0 hz1 hz2 w.heap.size _ m (btL (hxL (l.take k))) rfl (HO.out.alloc _) _ 2 2 _ rfl (rd_lit2 _ (hxC x) (hxC y)) (by simp only [maxLen]; omega) (by omega) (by simp; omega) ?_; intro v3 w3 hown3 hg3; have hc3 : w3.cell? ⟨bk, off + k, none⟩ = some (.int .u8 c) := (World.cell?_of_block (hg3.block bk (by simp; omega) (fun e => by have := (World.ownsRow.lt HO.out bk e.symm).1; omega))).trans (hc1 _)))
      all_goals
        have HQ : Hid (hxL (l.take (k + 1)) = hxL (l.take k) ++ [hxC x, hxC y]) := by unfold Hid; rw [HT.out, hxL_snoc, hexL, HX.out, HY.out]
        have HO3 : Hid (Own .u8 5 w.heap.size w3 v3 (hxL (l.take (k + 1))).length (btL (hxL (l.take (k + 1))))) := by
          unfold Hid
          rw [HQ.out]
          have h := hown3
          rw [← HM.out] at h
          exact Own.catL h
        have HB3 := hide (((HB.out.alloc hsz (.cells #[.int .u8 ((hxC x).toNat : Int), .int .u8 ((hxC y).toNat : Int)] 5)).drew).grown hg3 (by simp; omega) (fun j e => (World.ownsRow.lt HO.out j e).1))
        clear hown3 hg3 hc0 hc1 hc3
        go_wp2_with fail
        exact ⟨⟨k + 1, by omega, rfl, HO3.out, HB3.out⟩, by simp [intOf]; omega⟩
    · obtain rfl : k = n := by omega
      obtain ⟨A, cc, rfl, hrd, _⟩ := Own.rd HO.out
      have hcv := text_back hrd (btL_byt _ _) 22 9 5 Tryd.underlying22 Tryd.underlying5 Tryd.underlying9
      rw [← HM.out, textB_L] at hcv
      have hq : Hid ((⟨(hxL (l.take k)).toArray⟩ : ByteArray) = ⟨(hxL l).toArray⟩) := by
        unfold Hid
        rw [List.take_of_length_le (by have := HL.out; omega)]
      rw [hq.out, HM.out] at hcv
      clear hrd
      go_wp2_with fail
      go_ret
      exact ⟨rfl, HB.out⟩
end
end Go.Proofs.YtdlmmjnomeladaaDoor
