/- WdH, WdI, WdJ in one text. -/
import Derived.Test.YtminoofghdpomaaDoorN6
import Derived.Test.YtminoofghdpomaaDoorN2
import Derived.Test.YtminoofghdpomaaDoorDx6
import Derived.Test.YtminoofghdpomaaDoorN4
namespace Go.Proofs.YtminoofghdpomaaDoor
set_option linter.unusedVariables false
set_option linter.unusedSimpArgs false
section
open Go Go.RowKit Go.PlainAid

theorem rdV_take {w : World} {A : Option Addr} {n c m : Nat} {F : Nat → Value} (h : RdV 1 w A n c F) (hm : m ≤ n) : RdV 1 w A m c F :=
  ⟨Nat.le_trans hm h.1, h.2.1, h.2.2.1, fun hn => by
    obtain ⟨b, off, hA, hc⟩ := h.2.2.2 (by omega)
    exact ⟨b, off, hA, fun i hi => hc i (by omega)⟩⟩
theorem rdV_cong {w : World} {A : Option Addr} {n c : Nat} {F G : Nat → Value} (h : RdV 1 w A n c F) (e : ∀ i, i < n → F i = G i) : RdV 1 w A n c G :=
  ⟨h.1, h.2.1, h.2.2.1, fun hn => by
    obtain ⟨b, off, hA, hc⟩ := h.2.2.2 hn
    exact ⟨b, off, hA, fun i hi => by rw [← e i (by omega)]; exact hc i hi⟩⟩
/-- What words are as one line. -/
def LiR (ps : List ByteArray) (t : ByteArray) (ok : Bool) : Prop := (ok = true ∧ (∀ x ∈ ps, wdB x = true) ∧ t = jnS ⟨#[32]⟩ ps) ∨ (ok = false ∧ t = ⟨#[]⟩ ∧ ∃ x ∈ ps, wdB x = false)
def LiE (ps : List ByteArray) (w : World) (e : Ending) (w' : World) : Prop := ∃ (t : ByteArray) (ok : Bool), e = .returned (.tuple #[.string t, .bool ok]) ∧ LiR ps t ok ∧ Below w.heap.size w w'
theorem LiR.same {ps : List ByteArray} {t u : ByteArray} {a b : Bool} (h : LiR ps t a) (k : LiR ps u b) : t = u ∧ a = b := by
  rcases h with ⟨rfl, h1, rfl⟩ | ⟨rfl, rfl, x, hx, h1⟩ <;> rcases k with ⟨rfl, k1, rfl⟩ | ⟨rfl, rfl, y, hy, k1⟩
  · exact ⟨rfl, rfl⟩
  · rw [h1 y hy] at k1; cases k1
  · rw [k1 x hx] at h1; cases h1
  · exact ⟨rfl, rfl⟩
set_option maxRecDepth 20000 in
theorem join_nil04 (A : Option Addr) (c : Nat) (sep : ByteArray) (w : World) : Calls Tryd.prog 35 #[.slice A 0 c, .string sep] w fun e w' => e = .returned (.string ⟨#[]⟩) ∧ w = w' := by
  go_enter Tryd.func35, Tryd.ntmps35
  go_wp2
  go_ret
  exact ⟨rfl, rfl⟩
set_option maxRecDepth 20000 in
set_option maxHeartbeats 1600000 in
theorem line04 (A : Option Addr) (n c : Nat) (ps : List ByteArray) (w : World) (h : RdV 1 w A n c (stL ps)) (hn : n = ps.length) (hb : ∀ x ∈ ps, x.size ≤ 1000) (hnb : n ≤ 1000) : Calls Tryd.prog 17 #[.slice A n c] w (LiE ps w) := by
  have HR := hide h
  have HN := hide hn
  have HB0 := hide hb
  clear h hn hb
  go_enter Tryd.func17, Tryd.ntmps17
  go_wp2_with fail
  go_loopw [5, 8] (fun _ i wr => ∃ k : Nat, k ≤ n ∧ i = .int .i64 k ∧ (∀ x ∈ ps.take k, wdB x = true) ∧ Below w.heap.size w wr) (fun _ i _ => n - (intOf i).toNat)
  case atStart => exact ⟨0, Nat.zero_le _, rfl, fun x hx => absurd hx (by simp), Below.refl _ _⟩
  case round =>
    obtain ⟨k, hk, rfl, hw, hB⟩ := hrel
    have HW := hide hw
    have HB := hide hB
    clear hw hB
    by_cases hlt : k < n
    · obtain ⟨b, off, rfl, hc⟩ := (rdV_below HR.out HB.out).2.2.2 (by omega)
      have hl := hc k (by omega)
      obtain ⟨x, hx⟩ : ∃ x, ps[k]'(by have := HN.out; omega) = x := ⟨_, rfl⟩
      have hsx : stL ps k = .string x := by
        have hkl : k < ps.length := by have := HN.out; omega
        simp [stL, List.getD, List.getElem?_eq_getElem hkl, hx]
      rw [hsx] at hl
      have hxm : x ∈ ps := by rw [← hx]; exact List.getElem_mem _
      have HT : Hid (ps.take (k + 1) = ps.take k ++ [x]) := by
        unfold Hid
        rw [List.take_add_one, List.getElem?_eq_getElem (by have := HN.out; omega), hx]
        rfl
      have hisw := hide (fun W => isword04 x W (by have := HB0.out x hxm; omega))
      have HXM := hide hxm
      obtain ⟨ok, hok⟩ : ∃ ok, wdB x = ok := ⟨_, rfl⟩
      have HOK := hide hok
      rw [hok] at hisw
      clear hc hx hsx hxm hok
      go_wp2_with fail
      refine (hisw.out _).mono ?_
      rintro e w2 ⟨rfl, hb2⟩
      have HB2 := hide (HB.out.of hb2)
      clear hb2
      cases ok with
      | false =>
        go_wp2_with fail
        go_ret2
        exact ⟨_, _, rfl, .inr ⟨rfl, rfl, x, HXM.out, HOK.out⟩, HB2.out⟩
      | true =>
        have HW2 : Hid (∀ y ∈ ps.take (k + 1), wdB y = true) := fun y hy => by
          rw [HT.out] at hy
          rcases List.mem_append.1 hy with h | h
          · exact HW.out y h
          · rw [List.mem_singleton.1 h]; exact HOK.out
        go_wp2_with fail
        exact ⟨⟨k + 1, by omega, rfl, HW2.out, HB2.out⟩, by simp [intOf]; omega⟩
    · obtain rfl : k = n := by omega
      have HW2 : Hid (∀ y ∈ ps, wdB y = true) := fun y hy => HW.out y (by rw [List.take_of_length_le (by have := HN.out; omega)]; exact hy)
      by_cases h0 : k = 0
      · subst h0
        have hps : ps = [] := List.eq_nil_of_length_eq_zero HN.out.symm
        subst hps
        go_wp2_with fail
        refine (join_nil04 A c ⟨#[32]⟩ _).mono ?_
        rintro e w2 ⟨rfl, rfl⟩
        go_wp2_with fail
        go_ret2
        exact ⟨_, _, rfl, .inl ⟨rfl, HW2.out, rfl⟩, HB.out⟩
      · obtain ⟨b, off, rfl, hc⟩ := (rdV_below HR.out HB.out).2.2.2 (by omega)
        have hcap := HR.out.1
        have hj := hide (Tryd.strings_Join b off c ps ⟨#[32]⟩ wr (fun j x hx => by
          have hjl := (List.getElem?_eq_some_iff.1 hx).1
          rw [hc j (by have := HN.out; omega)]
          simp [stL, List.getD, hx]) (World.block_lt_of_cell? _ _ (hc 0 (by omega))) (by have := HN.out; omega) (by have := HN.out; omega) (by
            have := join_len ([32] : List UInt8) 1000 (ps.map (·.data.toList)) (by
              intro l hl
              obtain ⟨y, hy, rfl⟩ := List.mem_map.1 hl
              rw [← Lib.size_eq]
              exact HB0.out y hy)
            rw [List.length_map, ← HN.out] at this
            refine Nat.le_trans this ?_
            show k * 1001 ≤ _
            omega))
        rw [← HN.out] at hj
        have hj2 : Hid (Calls Tryd.prog 35 #[.slice (some ⟨b, off, none⟩) k c, .string ⟨#[32]⟩] wr fun e w' => e = .returned (.string (jnS ⟨#[32]⟩ ps)) ∧ Below wr.heap.size wr w') := hj
        obtain ⟨y, hy⟩ : ∃ y, jnS ⟨#[32]⟩ ps = y := ⟨_, rfl⟩
        have HY := hide hy
        rw [hy] at hj2
        clear hj hc hy
        go_wp2_with fail
        refine hj2.out.mono ?_
        rintro e w2 ⟨rfl, hb2⟩
        have HB2 := hide (HB.out.of hb2)
        clear hb2
        go_wp2_with fail
        go_ret2
        exact ⟨_, _, rfl, .inl ⟨rfl, HW2.out, HY.out.symm⟩, HB2.out⟩
end

section
open Go Go.RowKit Go.PlainAid

theorem jn_take_first {ps : List ByteArray} {x : ByteArray} (h : ps.take 1 = ps.take 0 ++ [x]) : jnS ⟨#[32]⟩ (ps.take 1) = x := by
  rw [h]
  exact jnS_one _ _
theorem jn_take_next {ps : List ByteArray} {x : ByteArray} {k : Nat} (h0 : 0 < k) (hk : k ≤ ps.length) (h : ps.take (k + 1) = ps.take k ++ [x]) : jnS ⟨#[32]⟩ (ps.take (k + 1)) = jnS ⟨#[32]⟩ (ps.take k) ++ ⟨#[32]⟩ ++ x := by
  rw [h, jnS_snoc _ (fun e => by have := congrArg List.length e; rw [List.length_take, List.length_nil] at this; omega)]
theorem jn_bd {ps : List ByteArray} (hb : ∀ x ∈ ps, x.size ≤ 1000) (k : Nat) : (jnS ⟨#[32]⟩ (ps.take k)).size ≤ ps.length * 1001 := by
  have := join_len ([32] : List UInt8) 1000 ((ps.take k).map (·.data.toList)) (by
    intro l hl
    obtain ⟨y, hy, rfl⟩ := List.mem_map.1 hl
    rw [← Lib.size_eq]
    exact hb y (List.mem_of_mem_take hy))
  unfold jnS
  show (Lib.join _ _).toArray.size ≤ _
  rw [List.size_toArray]
  refine Nat.le_trans this ?_
  rw [List.length_map, List.length_take]
  show min k ps.length * 1001 ≤ _
  exact Nat.mul_le_mul_right _ (Nat.min_le_right _ _)
theorem sp_step {x : ByteArray} {j : Nat} (hj : j < x.size) (h : spL (x.data.toList.take j) = false) (h1 : bt x j ≠ 32) (h2 : bt x j ≠ 10) : spL (x.data.toList.take (j + 1)) = false := by
  have hl : j < x.data.toList.length := by rw [← Lib.size_eq]; exact hj
  rw [bt_data x hl] at h1 h2
  unfold spL at h ⊢
  rw [tk_succ hl, List.any_append, h]
  generalize x.data.toList[j] = b at h1 h2
  have : spC b = false := by
    unfold spC
    simp only [Bool.or_eq_false_iff, beq_eq_false_iff_ne, ne_eq]
    exact ⟨fun e => h1 (by rw [e]; rfl), fun e => h2 (by rw [e]; rfl)⟩
  simp [this]
theorem sp_hit {x : ByteArray} {j : Nat} (hj : j < x.size) (h : bt x j = 32 ∨ bt x j = 10) : wdB x = false := by
  have hl : j < x.data.toList.length := by rw [← Lib.size_eq]; exact hj
  rw [bt_data x hl] at h
  have hs : spL x.data.toList = true := by
    refine List.any_eq_true.2 ⟨_, List.getElem_mem hl, ?_⟩
    generalize x.data.toList[j] = b at h
    unfold spC
    rcases h with h | h
    · have : b = 32 := UInt8.toNat_inj.1 (by have : ((32 : UInt8).toNat : Int) = 32 := rfl; omega)
      rw [this]; rfl
    · have : b = 10 := UInt8.toNat_inj.1 (by have : ((10 : UInt8).toNat : Int) = 10 := rfl; omega)
      rw [this]; rfl
  unfold wdB
  rw [hs]
  simp
theorem wd_yes {x : ByteArray} (h0 : x.size ≠ 0) (h : spL x.data.toList = false) : wdB x = true := by
  unfold wdB
  rw [h]
  have : x.data.toList.isEmpty = false := by
    cases hx : x.data.toList with
    | nil => exact absurd (by rw [Lib.size_eq, hx]; rfl) h0
    | cons a b => rfl
  rw [this]
  rfl
theorem wd_nil {x : ByteArray} (h0 : x.size = 0) : wdB x = false := by
  have : x.data.toList = [] := List.eq_nil_of_length_eq_zero (by rw [← Lib.size_eq]; exact h0)
  unfold wdB
  rw [this]
  rfl
set_option maxRecDepth 20000 in
set_option maxHeartbeats 6400000 in
theorem rline04 (A : Option Addr) (n c : Nat) (ps : List ByteArray) (w : World) (h : RdV 1 w A n c (stL ps)) (hn : n = ps.length) (hb : ∀ x ∈ ps, x.size ≤ 1000) (hnb : n ≤ 1000) : Calls Tryd.prog 26 #[.slice A n c] w (LiE ps w) := by
  have HR := hide h
  have HN := hide hn
  have HB0 := hide hb
  clear h hn hb
  go_enter Tryd.func26, Tryd.ntmps26
  go_wp2_with fail
  go_loopw [4, 5, 6] (fun s i _ wr => ∃ (k : Nat) (y : ByteArray), k ≤ n ∧ i = .int .i64 k ∧ s = .string y ∧ (∀ x ∈ ps.take k, wdB x = true) ∧ jnS ⟨#[32]⟩ (ps.take k) = y ∧ wr = w) (fun _ i _ _ => n - (intOf i).toNat)
  case atStart => exact ⟨0, ⟨#[]⟩, Nat.zero_le _, rfl, rfl, fun x hx => absurd hx (by simp), rfl, rfl⟩
  case round =>
    obtain ⟨k, y, hk, rfl, rfl, hw, hy, rfl⟩ := hrel
    have HW := hide hw
    have HY := hide hy
    have hysz : y.size ≤ 2000000 := by
      rw [← hy]
      have h1 := jn_bd HB0.out k
      rw [← HN.out] at h1
      refine Nat.le_trans h1 ?_
      omega
    clear hw hy
    by_cases hlt : k < n
    · obtain ⟨b, off, rfl, hc⟩ := HR.out.2.2.2 (by omega)
      have hl := hc k (by omega)
      have hkl : Hid (k < ps.length) := by unfold Hid; have := HN.out; omega
      obtain ⟨x, hx⟩ : ∃ x, ps[k]'hkl.out = x := ⟨_, rfl⟩
      have hsx : stL ps k = .string x := by
        have := hkl.out
        simp [stL, List.getD, List.getElem?_eq_getElem this, hx]
      rw [hsx] at hl
      have hxm : x ∈ ps := by rw [← hx]; exact List.getElem_mem _
      have hxs : x.size ≤ 1000 := HB0.out x hxm
      have HT : Hid (ps.take (k + 1) = ps.take k ++ [x]) := by
        unfold Hid
        rw [List.take_add_one, List.getElem?_eq_getElem hkl.out, hx]
        rfl
      have HXM := hide hxm
      clear hc hx hsx hxm
      by_cases hz : x.size = 0
      · have z1 : ((x.size : Int) == 0) = true := by rw [hz]; rfl
        have HWN := hide (wd_nil hz)
        clear hz
        go_wp2_with fail
        go_ret2
        exact ⟨_, _, rfl, .inr ⟨rfl, rfl, x, HXM.out, HWN.out⟩, Below.refl _ _⟩
      · have z1 : ((x.size : Int) == 0) = false := by simp; exact fun e => hz (by rw [e]; rfl)
        have z2 : (x.size == 0) = false := by simpa using hz
        have HZ := hide hz
        clear hz
        go_wp2_with fail
        go_loopw [6] (fun j wr2 => ∃ q : Nat, q ≤ x.size ∧ j = .int .i64 q ∧ wr2 = wr ∧ spL (x.data.toList.take q) = false) (fun j _ => x.size - (intOf j).toNat)
        case atStart => exact ⟨0, Nat.zero_le _, rfl, rfl, rfl⟩
        case round =>
          obtain ⟨q, hq, rfl, rfl, hsp⟩ := hrel
          have HSP := hide hsp
          clear hsp
          by_cases hql : q < x.size
          · have hb := get_bt x q hql
            have hst := hide (sp_step (x := x) hql HSP.out)
            have hhit := hide (sp_hit (x := x) hql)
            obtain ⟨d, hd⟩ : ∃ d, bt x q = d := ⟨_, rfl⟩
            rw [hd] at hb hst hhit
            clear hd
            by_cases h1 : d = 32
            · have q1 : (d == 32) = true := by simpa using h1
              have HWN := hide (hhit.out (.inl h1))
              clear hst hhit h1
              go_wp2_with fail
              go_ret2
              exact ⟨_, _, rfl, .inr ⟨rfl, rfl, x, HXM.out, HWN.out⟩, Below.refl _ _⟩
            · have q1 : (d == 32) = false := by simpa using h1
              by_cases h2 : d = 10
              · have q2 : (d == 10) = true := by simpa using h2
                have HWN := hide (hhit.out (.inr h2))
                clear hst hhit h1 h2
                go_wp2_with fail
                go_ret2
                exact ⟨_, _, rfl, .inr ⟨rfl, rfl, x, HXM.out, HWN.out⟩, Below.refl _ _⟩
              · have q2 : (d == 10) = false := by simpa using h2
                have HSP2 := hide (hst.out h1 h2)
                clear hst hhit h1 h2
                go_wp2_with fail
                exact ⟨⟨q + 1, by omega, by simp, trivial, HSP2.out⟩, by simp [intOf]; omega⟩
          · obtain rfl : q = x.size := by omega
            have hwx := wd_yes HZ.out (by
              have := HSP.out
              rw [List.take_of_length_le (by rw [← Lib.size_eq]; exact Nat.le_refl _)] at this
              exact this)
            have HW2 : Hid (∀ y ∈ ps.take (k + 1), wdB y = true) := fun y hy => by
              rw [HT.out] at hy
              rcases List.mem_append.1 hy with h | h
              · exact HW.out y h
              · rw [List.mem_singleton.1 h]; exact hwx
            clear hwx
            by_cases h0 : 0 < k
            · have d1 : decide ((0 : Int) < (k : Int)) = true := decide_eq_true (by omega)
              have d2 : decide (0 < k) = true := decide_eq_true h0
              obtain ⟨y1, hy1⟩ : ∃ y1, y ++ ⟨#[32]⟩ = y1 := ⟨_, rfl⟩
              obtain ⟨y2, hy2⟩ : ∃ y2, y1 ++ x = y2 := ⟨_, rfl⟩
              have HJ : Hid (jnS ⟨#[32]⟩ (ps.take (k + 1)) = y2) := by
                unfold Hid
                rw [jn_take_next h0 (by have := hkl.out; omega) HT.out, HY.out, hy1, hy2]
              have z3 : y1.size = y.size + 1 := by rw [← hy1]; simp; rfl
              have u1 := catR4 hy1 (by have h1 : (⟨#[32]⟩ : ByteArray).size = 1 := rfl; omega)
              have u2 := catR4 hy2 (by omega)
              have u3 : ¬ (y.size + 1 > 9223372036854775807) := by omega
              have u4 : ¬ (y1.size + x.size > 9223372036854775807) := by omega
              clear hy1 hy2 z3 h0
              go_wp2_with fail
              exact ⟨⟨k + 1, y2, by omega, by simp, rfl, HW2.out, HJ.out, trivial⟩, by simp [intOf]; omega⟩
            · obtain rfl : k = 0 := by omega
              obtain ⟨y2, hy2⟩ : ∃ y2, y ++ x = y2 := ⟨_, rfl⟩
              have HJ : Hid (jnS ⟨#[32]⟩ (ps.take (0 + 1)) = y2) := by
                unfold Hid
                rw [jn_take_first HT.out, ← hy2, ← HY.out]
                apply data_eq
                rw [cat_data]
                rfl
              have u2 := catR4 hy2 (by omega)
              have u4 : ¬ (y.size + x.size > 9223372036854775807) := by omega
              rw [Nat.add_zero] at hl
              clear hy2 h0
              go_wp2_with fail
              exact ⟨⟨0 + 1, y2, by omega, by simp, rfl, HW2.out, HJ.out, trivial⟩, by simp [intOf]; omega⟩
    · obtain rfl : k = n := by omega
      have HJ : Hid (y = jnS ⟨#[32]⟩ ps) := by
        unfold Hid
        rw [← HY.out, List.take_of_length_le (by have := HN.out; omega)]
      have HW2 : Hid (∀ x ∈ ps, wdB x = true) := fun x hx => HW.out x (by rw [List.take_of_length_le (by have := HN.out; omega)]; exact hx)
      go_wp2_with fail
      go_ret2
      exact ⟨_, _, rfl, .inl ⟨rfl, HW2.out, HJ.out⟩, Below.refl _ _⟩
end

section
open Go Go.RowKit Go.PlainAid

def Yes4 (w : World) (e : Ending) (w' : World) : Prop := e = .returned (.bool true) ∧ Below w.heap.size w w'
theorem SwR.same {s : ByteArray} {ps qs : List ByteArray} {a b : Bool} (h : SwR s ps a) (k : SwR s qs b) : ps = qs ∧ a = b := by
  rcases h with ⟨rfl, h⟩ | ⟨rfl, rfl, h0, x, hx, h1⟩ <;> rcases k with ⟨rfl, k⟩ | ⟨rfl, rfl, k0, y, hy, k1⟩
  · rcases h with ⟨h1, rfl⟩ | ⟨h1, rfl, _⟩ <;> rcases k with ⟨k1, rfl⟩ | ⟨k1, rfl, _⟩
    · exact ⟨rfl, rfl⟩
    · omega
    · omega
    · exact ⟨rfl, rfl⟩
  · rcases h with ⟨h1, rfl⟩ | ⟨h1, rfl, h2⟩
    · omega
    · rw [h2 y hy] at k1; cases k1
  · rcases k with ⟨k1, rfl⟩ | ⟨k1, rfl, k2⟩
    · omega
    · rw [k2 x hx] at h1; cases h1
  · exact ⟨rfl, rfl⟩
theorem ex_split {ps : List ByteArray} {ok : Bool} (h : SwR ⟨#[97, 32, 32, 98]⟩ ps ok) : ok = false ∧ ps = [] := by
  have hp : pcB 32 ⟨#[97, 32, 32, 98]⟩ = [⟨#[97]⟩, ⟨#[]⟩, ⟨#[98]⟩] := rfl
  rcases h with ⟨_, ⟨h, _⟩ | ⟨_, rfl, h⟩⟩ | ⟨rfl, rfl, _⟩
  · exact absurd h (by decide)
  · have := h ⟨#[]⟩ (by rw [hp]; simp)
    exact absurd this (by decide)
  · exact ⟨rfl, rfl⟩
theorem ex_lines {ps : List ByteArray} {ok : Bool} (h : LnR ⟨#[97, 10, 10]⟩ ps ok) : ok = true ∧ ps = [⟨#[97]⟩, ⟨#[]⟩] := by
  have k : LnR ⟨#[97, 10, 10]⟩ [⟨#[97]⟩, ⟨#[]⟩] true := .inl ⟨rfl, rfl⟩
  obtain ⟨rfl, rfl⟩ := h.same k
  exact ⟨rfl, rfl⟩
theorem ex_quote : qS ⟨#[97, 32, 98, 37]⟩ = ⟨#[97, 37, 50, 48, 98, 37, 50, 53]⟩ := rfl
theorem ex_rdL (w : World) : RdV 1 (w.alloc (.cells #[.string ⟨#[97]⟩, .string ⟨#[]⟩] 9)) (some ⟨w.heap.size, 0, none⟩) 2 2 (stL [⟨#[97]⟩, ⟨#[]⟩]) :=
  (OwnV.lit 1 9 0 w (stL [⟨#[97]⟩, ⟨#[]⟩]) #[.string ⟨#[97]⟩, .string ⟨#[]⟩] 2 (Nat.zero_le _) (by simp [maxLen]) rfl).rdS2
end
end Go.Proofs.YtminoofghdpomaaDoor
