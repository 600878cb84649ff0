/- The walk of the law that what is written is read as it was. -/
import Derived.Test.YtgjnmjakpiceiabBitX
namespace Go.Proofs.Ytgjnmjakpiceiab
open Go.RowKit

/-! ### numbers and their bits -/
theorem half_pow (v : Int) (j : Nat) : v / 2 ^ (j + 1) = v / 2 ^ j / 2 := by
  rw [Int.pow_succ, Int.ediv_ediv_of_nonneg (Int.le_of_lt (Int.pow_pos (by decide)))]
theorem bnum_bits {v : Int} {n : Nat} (h0 : 0 ≤ v) (h1 : v < 2 ^ n) : ∀ k, k ≤ n → bnum (bitsOf v n) k = v / 2 ^ (n - k)
  | 0, _ => by
    simp only [bnum, Nat.sub_zero]
    exact (Int.ediv_eq_zero_of_lt h0 h1).symm
  | k + 1, hk => by
    have ih := bnum_bits h0 h1 k (by omega)
    simp only [bnum]
    rw [ih, show n - k = (n - (k + 1)) + 1 by omega, half_pow]
    unfold bitsOf
    rw [show n - 1 - k = n - (k + 1) by omega]
    generalize v / 2 ^ (n - (k + 1)) = z
    omega
theorem bnum_bitsOf {v : Int} {n : Nat} (h0 : 0 ≤ v) (h1 : v < 2 ^ n) : bnum (bitsOf v n) n = v := by
  rw [bnum_bits h0 h1 n (Nat.le_refl _)]
  simp
theorem bit_of_bnum {h : Nat → Int} {j : Nat} (hb : ∀ k, k < 8 → 0 ≤ h k ∧ h k ≤ 1) (hj : j < 8) : bnum h 8 / 2 ^ (7 - j) % 2 = h j := by
  rw [bnum8]
  have b0 := hb 0; have b1 := hb 1; have b2 := hb 2; have b3 := hb 3; have b4 := hb 4; have b5 := hb 5; have b6 := hb 6; have b7 := hb 7
  clear hb
  have hj' : j = 0 ∨ j = 1 ∨ j = 2 ∨ j = 3 ∨ j = 4 ∨ j = 5 ∨ j = 6 ∨ j = 7 := by omega
  rcases hj' with rfl | rfl | rfl | rfl | rfl | rfl | rfl | rfl <;> simp at * <;> omega
theorem bitF_byF {g : Nat → Int} {t : Nat} (hg : ∀ i, i < t → 0 ≤ g i ∧ g i ≤ 1) (i : Nat) : bitF (byF g t) i = if i < t then g i else 1 := by
  unfold bitF
  rw [byF_eq, bit_of_bnum (fun k _ => rbit_bd hg _ k) (by omega)]
  unfold rbit
  rw [show 8 * (i / 8) + i % 8 = i by omega]
theorem byF_byt {g : Nat → Int} {t : Nat} (hg : ∀ i, i < t → 0 ≤ g i ∧ g i ≤ 1) (n : Nat) : Byt n (byF g t) := fun i _ => by
  rw [byF_eq]
  exact bnum8_bd (fun k _ => rbit_bd hg _ k)

/-! ### a row of structs of two integers -/
def Own2 (e : TypeId) (B : Nat) (w : World) (v : Value) (n : Nat) (f g : Nat → Int) : Prop :=
  ∃ xs, w.ownsRow B e 2 v n xs ∧ ∀ i, i < n → xs[i * 2]? = some (.int .i64 (f i)) ∧ xs[i * 2 + 1]? = some (.int .i64 (g i))
theorem Own2.nil (e : TypeId) (B : Nat) (w : World) (f g : Nat → Int) : Own2 e B w (.slice none 0 0) 0 f g := ⟨[], World.ownsRow_nil w B e 2, fun i hi => absurd hi (by omega)⟩
theorem Own2.keepT {e : TypeId} {B : Nat} {w w' : World} {v : Value} {n : Nat} {f g : Nat → Int} (h : Own2 e B w v n f g) (hk : KeepT e w w') : Own2 e B w' v n f g := by
  obtain ⟨xs, ho, hx⟩ := h
  refine ⟨xs, ⟨ho.1, ?_⟩, hx⟩
  rcases ho.2 with h2 | ⟨gb, cap, cur, hv, hB, hh, r⟩
  · exact .inl h2
  · exact .inr ⟨gb, cap, cur, hv, hB, hk gb cur hh, r⟩
theorem Own2.rd {e : TypeId} {B : Nat} {w : World} {v : Value} {n : Nat} {f g : Nat → Int} (h : Own2 e B w v n f g) : ∃ A c, v = .slice A n c ∧ Rd2 w A n c f g := by
  obtain ⟨xs, ho, hx⟩ := h
  rcases ho.2 with ⟨rfl, rfl⟩ | ⟨gb, cap, cur, rfl, hB, hh, hnc, hcm, hsz, htake⟩
  · exact ⟨none, 0, rfl, Nat.le_refl _, by simp [maxLen], fun _ => rfl, fun h => absurd h (by omega)⟩
  · refine ⟨_, _, rfl, hnc, hcm, fun e => (by cases e), fun hn => ⟨gb, 0, rfl, fun i hi => ?_⟩⟩
    have h0 := World.ownsRow.cellAt ho (i * 2) (by omega)
    have h1 := World.ownsRow.cellAt ho (i * 2 + 1) (by omega)
    rw [(hx i hi).1] at h0
    rw [(hx i hi).2] at h1
    simp only [Nat.zero_add]
    exact ⟨h0, h1⟩
section
variable {P : Program} {e : TypeId} {w : World} {ops : Array Oper} {rest : List Oper} {o : Oper} {a : Act} {Q : Exit → Act → World → Prop}
theorem wp_app2 (hgd : o.guard = none) (s x : Operand) (t : TypeId) (ho : o.op = .call { callee := .builtin .append, args := #[s, x], argTypes := #[t, t] })
    (i : TypeInfo) (z : Value) (bytes : Nat) (ht : P.underlying t = some (.slice e)) (hi : P.info? e = some i) (hz : i.zero = some z) (hsize : i.size = 2) (hby : i.bytes = bytes) (hzs : z.cells.size = 2)
    (B : Nat) (v : Value) (n : Nat) (f g : Nat → Int) (hs : a.eval s = v) (hown : Own2 e B w v n f g) (b : Nat) (p q : Int) (hx : a.eval x = .slice (some ⟨b, 0, none⟩) 1 1) (c0 : w.cell? ⟨b, 0, none⟩ = some (.int .i64 p)) (c1 : w.cell? ⟨b, 1, none⟩ = some (.int .i64 q))
    (h63 : n + 1 ≤ maxLen) (hbytes : (n + 1) * bytes ≤ 140737488355328) (hbase : B ≤ w.heap.size)
    (h : ∀ v' w', Own2 e B w' v' (n + 1) (setF f n p) (setF g n q) → w.grownBy w' v.ownBlock → wpList P ops Q rest (a.put o.dst v') w') : wpList P ops Q (o :: rest) a w := by
  obtain ⟨xs, ho2, hx2⟩ := hown
  refine wpList_append_own w hgd s x t ho B e i z 2 bytes ht hi hz hsize hby hzs (by omega) v n xs hs ho2 ⟨b, 0, none⟩ 1 1 [.int .i64 p, .int .i64 q] hx rfl (fun j u hj => ?_) (fun u hu => ?_) h63 hbytes hbase fun v' w' h1 h2 _ => ?_
  · rw [Addr.add_lit]
    match j, hj with
    | 0, hj => simp at hj; subst hj; simpa using c0
    | 1, hj => simp at hj; subst hj; simpa using c1
    | j + 2, hj => simp at hj
  · simp at hu
    rcases hu with rfl | rfl <;> rfl
  · refine h v' w' ⟨_, h1, fun j hj => ?_⟩ h2
    have hl : xs.length = n * 2 := ho2.1
    by_cases hjn : j < n
    · have hne : j ≠ n := by omega
      rw [List.getElem?_append_left (by omega), List.getElem?_append_left (by omega)]
      simp only [setF, hne, if_false]
      exact hx2 j hjn
    · obtain rfl : j = n := by omega
      rw [List.getElem?_append_right (by omega), List.getElem?_append_right (by omega), hl]
      simp [setF]
end

theorem Own2.grownT {e T : TypeId} {B : Nat} {w w' : World} {v : Value} {n : Nat} {f g : Nat → Int} (h : Own2 e B w v n f g) (hg : w.grownBy w' v.ownBlock) (hT : T ≠ e) : KeepT T w w' := by
  obtain ⟨xs, ho, _⟩ := h
  rcases ho.2 with ⟨rfl, _⟩ | ⟨gb, cap, cur, rfl, _, hh, _⟩
  · exact fun i cs hi => (hg.block i (Array.getElem?_eq_some_iff.1 hi).1 (by simp [Value.ownBlock])).trans hi
  · exact KeepT.grown hg hh hT
theorem Own2.blockB {e : TypeId} {B : Nat} {w : World} {v : Value} {n : Nat} {f g : Nat → Int} (h : Own2 e B w v n f g) : ∀ j, v.ownBlock = some j → B ≤ j := by
  obtain ⟨xs, ho, _⟩ := h
  exact fun j e => (World.ownsRow.lt ho j e).1
theorem Row.keepT {B : Nat} {w w' : World} {p t : Nat} {g : Nat → Int} (h : Row B w p t g) (k1 : KeepT 39 w w') (k2 : KeepT 5 w w') : Row B w' p t g := by
  obtain ⟨v, hh, ho, h2⟩ := h
  exact ⟨v, k1 _ _ hh, ho.keepT k2, h2⟩
/-- What is read of the bits of the j-th number is the number. -/
theorem read_val {t a s : Nat} {G : Nat → Int} {v : Int} (hG : ∀ i, i < t → 0 ≤ G i ∧ G i ≤ 1) (h0 : 0 ≤ v) (h1 : v < 2 ^ s) (ha : a + s ≤ t) (hg : ∀ i, i < s → G (a + i) = bitsOf v s i) :
    bnum (fun i => bitF (byF G t) (a + i)) s = v := by
  have e : bnum (fun i => bitF (byF G t) (a + i)) s = bnum (bitsOf v s) s := bnum_congr fun i hi => by
    show bitF (byF G t) (a + i) = bitsOf v s i
    rw [bitF_byF hG, if_pos (by omega), hg i hi]
  rw [e, bnum_bitsOf h0 h1]

theorem put_info : (Try.prog.info? 42).map (fun i => (i.zero, i.size, i.bytes)) = some (some (.agg #[.int .i64 0, .int .i64 0]), 2, 16) := by kernel_rfl

/-- What the rounds of the first loop hand on: cnt numbers were written, V j in N j bits, from bit P j on. -/
def BS (w : World) (k t cnt : Nat) (dv : Value) (V N : Nat → Int) (P : Nat → Nat) (G : Nat → Int) (wr : World) : Prop :=
  Own2 42 w.heap.size wr dv cnt V N ∧ (∀ i, i < t → 0 ≤ G i ∧ G i ≤ 1) ∧ Row w.heap.size wr w.heap.size t G ∧ Below w.heap.size w wr ∧ t ≤ 32 * k ∧ cnt ≤ k ∧ P 0 = 0 ∧ P cnt = t ∧
    ∀ j, j < cnt → ∃ s : Nat, N j = s ∧ s ≤ 32 ∧ 0 ≤ V j ∧ V j < 2 ^ s ∧ P (j + 1) = P j + s ∧ P j + s ≤ t ∧ ∀ i, i < s → G (P j + i) = bitsOf (V j) s i
def setP (P : Nat → Nat) (j x : Nat) : Nat → Nat := fun i => if i = j then x else P i
theorem BS.more {w wr w2 : World} {k t cnt : Nat} {dv v2 : Value} {V N : Nat → Int} {P : Nat → Nat} {G : Nat → Int} (h : BS w k t cnt dv V N P G wr) {v : Int} {s : Nat} (hs : s ≤ 32) (h0 : 0 ≤ v) (h1 : v < 2 ^ s)
    (ho : Own2 42 w.heap.size w2 v2 (cnt + 1) (setF V cnt v) (setF N cnt s)) (hr : Row w.heap.size w2 w.heap.size (t + s) (catF t G (bitsOf v s))) (hb : Below w.heap.size w w2) :
    BS w (k + 1) (t + s) (cnt + 1) v2 (setF V cnt v) (setF N cnt s) (setP P (cnt + 1) (t + s)) (catF t G (bitsOf v s)) w2 := by
  obtain ⟨_, hG, _, _, htk, hck, hP0, hPt, hj⟩ := h
  refine ⟨ho, fun i hi => ?_, hr, hb, by omega, by omega, ?_, ?_, fun j hjl => ?_⟩
  · unfold catF bitsOf
    by_cases h : i < t
    · rw [if_pos h]; exact hG i h
    · rw [if_neg h]; omega
  · unfold setP; rw [if_neg (by omega)]; exact hP0
  · unfold setP; rw [if_pos rfl]
  · by_cases hjc : j < cnt
    · obtain ⟨s', a1, a2, a3, a4, a5, a6, a7⟩ := hj j hjc
      refine ⟨s', by unfold setF; rw [if_neg (by omega)]; exact a1, a2, by unfold setF; rw [if_neg (by omega)]; exact a3, by unfold setF; rw [if_neg (by omega)]; exact a4, ?_, ?_, fun i hi => ?_⟩
      · unfold setP; rw [if_neg (by omega), if_neg (by omega)]; exact a5
      · unfold setP; rw [if_neg (by omega)]; omega
      · unfold setP setF catF; rw [if_neg (show ¬ j = cnt + 1 by omega), if_neg (show ¬ j = cnt by omega), if_pos (by omega)]; exact a7 i hi
    · obtain rfl : j = cnt := by omega
      refine ⟨s, by unfold setF; rw [if_pos rfl], hs, by unfold setF; rw [if_pos rfl]; exact h0, by unfold setF; rw [if_pos rfl]; exact h1, ?_, ?_, fun i hi => ?_⟩
      · unfold setP; rw [if_pos rfl, if_neg (by omega), hPt]
      · unfold setP; rw [if_neg (by omega), hPt]; exact Nat.le_refl _
      · unfold setP setF catF; rw [if_neg (show ¬ j = j + 1 by omega), if_pos rfl, hPt, if_neg (by omega), show t + i - t = i by omega]
theorem BS.same {w wr w2 : World} {k t cnt : Nat} {dv : Value} {V N : Nat → Int} {P : Nat → Nat} {G : Nat → Int} (h : BS w k t cnt dv V N P G wr) (hb : Below wr.heap.size wr w2) : BS w (k + 1) t cnt dv V N P G w2 := by
  obtain ⟨a, b, c, d, e, f, g⟩ := h
  exact ⟨a.keepT (KeepT.of_below hb), b, c.below hb, d.trans (hb.mono d.size), by omega, by omega, g⟩

set_option maxRecDepth 100000 in
set_option maxHeartbeats 4000000 in
theorem back_walk (L : Option Addr) (m cl : Nat) (f g : Nat → Int) (w : World) (hl : Rd2 w L m cl f g) :
    Calls Try.prog 5 #[.slice L m cl] w (Yes w) := by
  have Hl := hide hl
  clear hl
  obtain ⟨i0, hi, hz0, hz1, hz2⟩ := info_parts put_info
  by_cases hm : (60 : Int) < (m : Int)
  · go_enter Try.func5, Try.ntmps5
    go_wp2_with (go_at_call 9; refine (alive5 _).mono ?_; rintro e w' ⟨rfl, hb⟩)
    go_ret
    exact ⟨rfl, hb⟩
  go_enter Try.func5, Try.ntmps5
  go_wp2_with fail
  go_loopw [4, 22] (fun sl i wr => ∃ k t cnt : Nat, ∃ C cc V N P G, k ≤ m ∧ i = .int .i64 k ∧ sl = .slice C cnt cc ∧ BS w k t cnt (.slice C cnt cc) V N P G wr) (fun _ i _ => m - (intOf i).toNat)
  case atStart => exact ⟨0, 0, 0, none, 0, oneF 0, oneF 0, fun _ => 0, oneF 0, Nat.zero_le _, rfl, rfl, Own2.nil _ _ _ _ _, fun i hi => absurd hi (by omega), Row.new w _, (Below.refl _ _).alloc (Nat.le_refl _) _, by omega, by omega, rfl, rfl, fun j hj => absurd hj (by omega)⟩
  case round =>
    obtain ⟨k, t, cnt, C, cc, V, N, P, G, hk, rfl, rfl, hbs⟩ := hrel
    have Hbs := hide hbs
    have hwb := hbs.2.2.2.1
    have ht := hbs.2.2.2.2.1
    have hcnt := hbs.2.2.2.2.2.1
    have hsz := hwb.size
    by_cases hlt : k < m
    · clear hbs
      obtain ⟨bl, offl, rfl, hc0, hc1⟩ := (Hl.out.below hwb).at_ hlt
      clear hwb
      have hst : Below wr.heap.size wr (wr.alloc (.cells #[.int .i64 (f k), .int .i64 (g k)] 42)) := (Below.refl _ _).alloc (Nat.le_refl _) _
      have Hst := hide hst
      clear hst
      by_cases he : rowE (f k) (g k) = 0
      · obtain ⟨s, hs, hs32, v0, v1⟩ := rowE_ok he
        rw [hs] at hc1 Hst
        have V1 := hide v1
        have Hblk1 : Hid ((wr.alloc (.cells #[.int .i64 (f k), .int .i64 (s : Int)] 42)).heap[wr.heap.size]? = some (.cells #[.int .i64 (f k), .int .i64 (s : Int)] 42 (0, 0))) := heap_alloc_new wr _
        clear hs he v1
        go_wp2_with fail
        refine (rowPut_ok w.heap.size w.heap.size t s (f k) G _ (Hbs.out.2.2.1.below Hst.out) (Nat.le_refl _) Hbs.out.2.1 hs32 v0 V1.out (by omega)).mono ?_
        rintro e w3 ⟨rfl, hrow3, hb3, hk3⟩
        have hblk3 : w3.heap[wr.heap.size]? = some (.cells #[.int .i64 (f k), .int .i64 (s : Int)] 42 (0, 0)) := hk3 _ (by decide) (by decide) _ _ Hblk1.out
        have hown3 : Own2 42 w.heap.size w3 (.slice C cnt cc) cnt V N := (Hbs.out.1.keepT (KeepT.of_below Hst.out)).keepT (hk3 _ (by decide) (by decide))
        have hB3 : Below w.heap.size w w3 := (Hbs.out.2.2.2.1.trans (Hst.out.mono hsz)).trans hb3
        obtain ⟨y0, y1⟩ := cells2 hblk3
        have hs3 := hB3.size
        have Hrow3 := hide hrow3
        have Hown3 := hide hown3
        clear hrow3 hb3 hk3 hblk3 hown3
        go_wp2_with (at_builtin; refine wp_app2 rfl (.tmp 32) (.tmp 34) _ rfl i0 _ 16 Try.underlying37 hi hz0 hz1 hz2 rfl w.heap.size _ cnt V N rfl (Hown3.out.keepT (KeepT.alloc _ _)) w3.heap.size (f k) (s : Int) rfl (cells2 (heap_alloc_new w3 _)).1 (cells2 (heap_alloc_new w3 _)).2 (by simp only [maxLen]; omega) (by omega) (by simp; omega) ?_; intro v4 w4 hown4 hg4; obtain ⟨C4, cc4, rfl, _⟩ := hown4.rd)
        have hk4 : ∀ T, T ≠ 42 → KeepT T w3 w4 := fun T hT => (KeepT.alloc w3 _).trans (Own2.grownT (Hown3.out.keepT (KeepT.alloc _ _)) hg4 hT)
        have hB4 : Below w.heap.size w w4 := (hB3.alloc hs3 _).grown hg4 (by simp; omega) (fun j e => Own2.blockB Hown3.out j e)
        go_roundw
        case rel => exact ⟨k + 1, t + s, cnt + 1, C4, cc4, _, _, _, _, by omega, by go_num, rfl, Hbs.out.more hs32 v0 V1.out hown4 (Hrow3.out.keepT (hk4 _ (by decide)) (hk4 _ (by decide))) hB4⟩
        case measure => simp [intOf]; omega
      · have He := hide he
        clear he
        go_wp2_with fail
        refine (rowPut_bad _ (f k) (g k) _ He.out).mono ?_
        rintro e w3 ⟨rfl, hw3⟩
        have hne : (rowE (f k) (g k) == 0) = false := by simpa using He.out
        have Hw3 := hide hw3
        clear hw3
        go_wp2_with fail
        go_roundw
        case rel => exact ⟨k + 1, t, cnt, C, cc, V, N, P, G, by omega, by go_num, rfl, by rw [← Hw3.out]; exact Hbs.out.same Hst.out⟩
        case measure => simp [intOf]; omega
    · have hkm : k = m := by omega
      subst hkm
      clear hwb
      obtain ⟨wr0, hwr0⟩ : ∃ x, x = wr := ⟨_, rfl⟩
      subst hwr0
      have hG := hbs.2.1
      obtain ⟨q, hq⟩ : ∃ q, q = 8 * ((t + 7) / 8) - t := ⟨_, rfl⟩
      have Hq := hide hq
      have hq7 : q ≤ 7 := by omega
      have hqt : t + q = 8 * ((t + 7) / 8) := by omega
      have Hqt := hide hqt
      have HG := hide hG
      have Hbs := hide hbs
      have hP0 := hbs.2.2.2.2.2.2.1
      have hPc := hbs.2.2.2.2.2.2.2.1
      have HP0 := hide hP0
      have HPc := hide hPc
      have hqd : decide ((q : Int) < 0) = false := by simp
      have hqd2 : decide ((7 : Int) < (q : Int)) = false := by simp; omega
      clear hbs hq hG hqt hP0 hPc
      generalize hMM : (t + 7) / 8 = M at *
      have HM := hide hMM
      have hM : M ≤ 100000 := by omega
      clear hMM
      go_wp2_with fail
      refine (rowBytes _ _ t G _ Hbs.out.2.2.1).mono ?_
      rintro e w2 ⟨v2, rfl, ho2, hb2⟩
      rw [HM.out] at ho2
      obtain ⟨A2, c2, rfl, hr2, _⟩ := ho2.rd
      have Hr2 := hide hr2
      clear ho2 hr2
      go_wp2_with fail
      refine (of_any A2 M c2 (byF G t) _ Hr2.out (by omega)).mono ?_
      rintro e w3 ⟨p, rfl, hp, hrd, hb3⟩
      have hB3 : Below w.heap.size w w3 := Hbs.out.2.2.2.1.trans ((hb2.of hb3).mono hsz)
      have hs2 := hb2.size
      have hs3 := hB3.size
      have Hrd := hide hrd
      have hplt := hrd.lt
      obtain ⟨C9, cc9, e9, hd9⟩ := Hbs.out.1.rd
      simp only [Value.slice.injEq, true_and] at e9
      obtain ⟨rfl, rfl⟩ := e9
      have Hd9 := hide hd9
      have Hb23 := hide (hb2.of hb3)
      clear hrd hb2 hb3 hd9
      go_wp2_with fail
      go_loopw [43] (fun i wq => ∃ j : Nat, j ≤ cnt ∧ i = .int .i64 j ∧ Rdr wq p M (byF G t) (P j) ∧ w3.grownBy wq (some p)) (fun i _ => cnt - (intOf i).toNat)
      case atStart => exact ⟨0, Nat.zero_le _, rfl, by rw [HP0.out]; exact Hrd.out, World.grownBy.refl _ _⟩
      case round =>
        obtain ⟨j, hj, rfl, hrd, hgr⟩ := hrel
        have Hrj := hide hrd
        have Hgr := hide hgr
        have hgs := hgr.size
        clear hrd hgr
        by_cases hlj : j < cnt
        · obtain ⟨s, a1, a2, a3, a4, a5, a6, a7⟩ := Hbs.out.2.2.2.2.2.2.2.2 j hlj
          obtain ⟨bd, offd, rfl, x0, x1⟩ := Hd9.out.at_ hlj
          have z0 := Hgr.out.cell (((Hb23.out.cell (World.block_lt_of_cell? wr0 _ x0))).trans x0) (by intro e; have h1 := World.block_lt_of_cell? wr0 _ x0; have h2 := Option.some.inj e; simp at h1 h2; omega)
          have z1 := Hgr.out.cell (((Hb23.out.cell (World.block_lt_of_cell? wr0 _ x1))).trans x1) (by intro e; have h1 := World.block_lt_of_cell? wr0 _ x1; have h2 := Option.some.inj e; simp at h1 h2; omega)
          rw [a1] at z1
          have Hval := hide (read_val HG.out a3 a4 a6 a7)
          have A4 := hide a4
          have A5 := hide a5
          have A6 := hide a6
          have hblk : Hid ((wr.alloc (.cells #[.int .i64 (V j), .int .i64 (s : Int)] 42)).heap[wr.heap.size]? = some (.cells #[.int .i64 (V j), .int .i64 (s : Int)] 42 (0, 0))) := heap_alloc_new wr _
          have Hst : Hid (Below wr.heap.size wr (wr.alloc (.cells #[.int .i64 (V j), .int .i64 (s : Int)] 42))) := (Below.refl _ _).alloc (Nat.le_refl _) _
          clear x0 x1 a1 a4 a5 a6 a7
          go_wp2_with fail
          refine (bits_ok p M (P j) s (byF G t) _ (Hrj.out.below Hst.out) (byF_byt HG.out _) a2 (by have := A6.out; have := Hqt.out; omega)).mono ?_
          rintro e w5 ⟨rfl, hr5, hg5⟩
          rw [Hval.out]
          have hblk5 : w5.heap[wr.heap.size]? = some (.cells #[.int .i64 (V j), .int .i64 (s : Int)] 42 (0, 0)) := (hg5.block wr.heap.size (by simp) (fun e => by have := Option.some.inj e; omega)).trans hblk.out
          obtain ⟨y0, y1⟩ := cells2 hblk5
          have Hr5 := hide hr5
          have Hg5 : Hid (w3.grownBy w5 (some p)) := grown_trans Hgr.out (grown_trans ⟨Hst.out.os, Hst.out.tape, Hst.out.output, Hst.out.size, fun i hi _ => Hst.out.block i hi⟩ hg5)
          clear hr5 hg5 hblk5
          go_wp2_with fail
          go_roundw
          case rel => exact ⟨j + 1, by omega, by go_num, by rw [A5.out]; exact Hr5.out, Hg5.out⟩
          case measure => simp [intOf]; omega
        · obtain rfl : j = cnt := by omega
          have Hrt : Hid (Rdr wr p M (byF G t) t) := by
            have e := Hrj.out
            rw [HPc.out] at e
            exact e
          clear hgs
          go_wp2_with fail
          refine (left_any p M t _ _ Hrt.out).mono ?_
          rintro e w5 ⟨rfl, hd5⟩
          rw [← Hq.out]
          have Hr5 := hide (Hrt.out.drawn hd5)
          have Hg5 := hide (grown_trans Hgr.out (drawn_grown hd5 (some p)))
          clear hd5
          go_wp2_with fail
          go_loopw [13] (fun i wz => ∃ y : Nat, y ≤ q ∧ i = .int .i64 y ∧ Rdr wz p M (byF G t) (t + y) ∧ w3.grownBy wz (some p)) (fun i _ => q - (intOf i).toNat)
          case atStart => exact ⟨0, Nat.zero_le _, rfl, Hr5.out, Hg5.out⟩
          case round =>
            obtain ⟨y, hy, rfl, hrd, hgr⟩ := hrel
            have Hry := hide hrd
            have Hgy := hide hgr
            clear hrd hgr
            by_cases hly : y < q
            · have Hone : Hid (bitF (byF G t) (t + y) = 1) := by unfold Hid; rw [bitF_byF HG.out, if_neg (by omega)]
              go_wp2_with fail
              refine (bit_one p M (t + y) (byF G t) _ Hry.out (byF_byt HG.out _) (by have := Hqt.out; omega)).mono ?_
              rintro e w6 ⟨rfl, hr6, hg6⟩
              rw [Hone.out]
              have Hr6 := hide hr6
              have Hg6 := hide (grown_trans Hgy.out hg6)
              clear hr6 hg6
              go_wp2_with fail
              go_roundw
              case rel => exact ⟨y + 1, by omega, by go_num, Hr6.out, Hg6.out⟩
              case measure => simp [intOf]; omega
            · have hyq : y = q := by omega
              subst hyq
              have hB7 : Below w.heap.size w wr := hB3.grown Hgy.out hs3 (fun j e => by cases e; omega)
              go_wp2_with fail
              refine (alive5 _).mono ?_
              rintro e w4 ⟨rfl, hb4⟩
              go_wp2_with fail
              go_ret
              exact ⟨rfl, hB7.of hb4⟩
end Go.Proofs.Ytgjnmjakpiceiab
