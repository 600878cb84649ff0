/- Layer 25: texts in small letters, the program's and the reference's. -/
import Derived.Test.YtpohgehojmeodaaDoorMT
import Derived.Laws.IdiomStrings
namespace Go.Proofs.YtpohgehojmeodaaDoor
set_option linter.unusedVariables false
set_option linter.unusedSimpArgs false
open Go.RowKit Go.PlainAid

def lowI (c : Int) : Int := if 65 ≤ c ∧ c ≤ 90 then c + 32 else c
def lowU (c : UInt8) : UInt8 := if 65 ≤ c.toNat ∧ c.toNat ≤ 90 then c + 32 else c
theorem lowU_nat (c : UInt8) : ((lowU c).toNat : Int) = lowI (c.toNat : Int) := by
  unfold lowU lowI
  have hc := c.toNat_lt
  by_cases h : 65 ≤ c.toNat ∧ c.toNat ≤ 90
  · rw [if_pos h, if_pos (by omega), UInt8.toNat_add]
    have : (32 : UInt8).toNat = 32 := rfl
    omega
  · rw [if_neg h, if_neg (by omega)]
def smallB (s : ByteArray) : ByteArray := ⟨(s.data.toList.map lowU).toArray⟩
theorem smallB_size (s : ByteArray) : (smallB s).size = s.size := by
  show (s.data.toList.map lowU).toArray.size = _
  simp
theorem bt_low (s : ByteArray) (j : Nat) : bt (smallB s) j = lowI (bt s j) := by
  rw [bt_list, bt_list]
  show (match ((s.data.toList.map lowU).toArray.toList)[j]? with | some c => (c.toNat : Int) | none => 0) = _
  rw [List.toList_toArray, List.getElem?_map]
  cases s.data.toList[j]? with
  | none => rfl
  | some c => exact lowU_nat c
theorem low_same {s : ByteArray} (h : ∀ j, j < s.size → lowI (bt s j) = bt s j) : smallB s = s := by
  obtain ⟨⟨l⟩⟩ := s
  unfold smallB
  congr 2
  show l.map lowU = l
  refine List.ext_getElem (by simp) fun j h1 h2 => ?_
  rw [List.getElem_map]
  have h3 := h j (by show j < l.length; exact h2)
  rw [bt_data _ (by simpa using h2)] at h3
  apply UInt8.toNat_inj.1
  have h4 := lowU_nat (l[j]'h2)
  have h5 : lowI ((l[j]'h2).toNat : Int) = ((l[j]'h2).toNat : Int) := h3
  rw [h5] at h4
  exact_mod_cast h4
theorem lowI_twice (c : Int) : lowI (lowI c) = lowI c := by unfold lowI; split <;> (try split) <;> omega
theorem low_low (s : ByteArray) : smallB (smallB s) = smallB s := low_same fun j _ => by rw [bt_low, lowI_twice]
theorem low_name {s : ByteArray} (h : nameB s = true) : smallB s = s := low_same fun j hj => by
  have h1 := of_decide_eq_true ((of_decide_eq_true h).2 j hj)
  unfold lowI
  rw [if_neg h1.2.2.2]
/-- The cells of the row while its first k bytes are in small letters. -/
def LwS (w : World) (s : ByteArray) (b k : Nat) (wr : World) : Prop :=
  (∀ j, j < s.size → wr.cell? ⟨b, j, none⟩ = some (.int .u8 (if j < k then lowI (bt s j) else bt s j))) ∧ (∀ j, j < s.size → wr.frozen? ⟨b, j, none⟩ = false) ∧ Below w.heap.size w wr ∧ w.heap.size ≤ b ∧ b < wr.heap.size
theorem LwS.start (w : World) (s : ByteArray) (cap : Nat) (T : TypeId) : LwS w s w.heap.size 0 (w.alloc (.cells (bytesRow s cap) T ((bytesRow s cap).size, (bytesRow s cap).size + 1))).drew := by
  refine ⟨fun j hj => ?_, fun j hj => ?_, ((Below.refl _ _).alloc (Nat.le_refl _) _).drew, Nat.le_refl _, by simp⟩
  · have h1 : (w.alloc (.cells (bytesRow s cap) T ((bytesRow s cap).size, (bytesRow s cap).size + 1))).drew.cell? ⟨w.heap.size, j, none⟩ = (bytesRow s cap)[j]? := World.cell?_alloc_mark _ _ _ _ _
    have hj' : j < s.data.size := hj
    rw [h1, bytesRow_at s cap j hj', if_neg (by omega)]
    congr 2
    rw [bt_data s (by simpa using hj)]
    rfl
  · rw [World.frozen?_drew, World.frozen?_alloc_mark]
    have : s.size ≤ (bytesRow s cap).size := by
      unfold bytesRow
      rw [Array.size_append, Array.size_map]
      exact Nat.le_add_right _ _
    have h2 : ¬ (bytesRow s cap).size ≤ j := by omega
    simp [h2]
theorem LwS.step {w wr : World} {s : ByteArray} {b k : Nat} (h : LwS w s b k wr) (hk : k < s.size) : LwS w s b (k + 1) (wr.setCell ⟨b, k, none⟩ (.int .u8 (lowI (bt s k)))) := by
  obtain ⟨h1, h2, h3, h4, h5⟩ := h
  refine ⟨fun j hj => ?_, fun j hj => by rw [World.frozen?_setCell]; exact h2 j hj, h3.setCell h4 _, h4, by rw [World.size_setCell]; exact h5⟩
  by_cases e : j = k
  · subst e
    rw [World.cell?_setCell_same _ _ _ (h1 j hj), if_pos (by omega)]
  · rw [World.cell?_setCell_other _ _ _ _ (fun hh => e (by injection hh with _ h6 _; exact h6.symm)), h1 j hj]
    congr 2
    by_cases h6 : j < k
    · rw [if_pos h6, if_pos (by omega)]
    · rw [if_neg h6, if_neg (by omega)]
theorem LwS.skip {w wr : World} {s : ByteArray} {b k : Nat} (h : LwS w s b k wr) (hk : lowI (bt s k) = bt s k) : LwS w s b (k + 1) wr := by
  obtain ⟨h1, h2, h3, h4, h5⟩ := h
  refine ⟨fun j hj => ?_, h2, h3, h4, h5⟩
  rw [h1 j hj]
  congr 2
  by_cases e : j = k
  · subst e
    rw [if_neg (by omega), if_pos (by omega), hk]
  · by_cases h6 : j < k
    · rw [if_pos h6, if_pos (by omega)]
    · rw [if_neg h6, if_neg (by omega)]
theorem LwS.back {P : Program} {w wr : World} {s : ByteArray} {b cap : Nat} (h : LwS w s b s.size wr) (src dst e : TypeId) (hs : P.underlying src = some (.slice e)) (he : P.underlying e = some (.int .u8)) (hd : P.underlying dst = some .string) :
    (convert src dst (.slice (some ⟨b, 0, none⟩) s.size cap)).run P wr = .ok (.string (smallB s)) wr := by
  have hl : (s.data.toList.map lowU).length = s.size := by simp
  have := run_convert_bytes_back (P := P) wr src dst e ⟨b, 0, none⟩ cap (s.data.toList.map lowU) hs he hd (fun j hj => by
    have hj' : j < s.size := by omega
    have h1 := h.1 j hj'
    rw [Addr.add_lit, Nat.zero_add, h1, if_pos hj']
    congr 2
    rw [List.getElem_map, lowU_nat, bt_data s (by simpa using hj')])
  rw [hl] at this
  exact this
set_option maxRecDepth 20000 in
set_option maxHeartbeats 1600000 in
theorem lower_any (s : ByteArray) (w : World) (hs : s.size ≤ 1000) : Calls Tryd.prog 185 #[.string s] w fun e w' => e = .returned (.string (smallB s)) ∧ Below w.heap.size w w' := by
  have kb := fun (w : World) => run_bytes_of_string (P := Tryd.prog) w 9 22 5 s Tryd.underlying9 Tryd.underlying22 Tryd.underlying5
  go_enter Tryd.func185, Tryd.ntmps185
  go_wp2_with fail
  have HS := hide (LwS.start w s (grownCap w s.size 0 5) 5)
  generalize grownCap w s.size 0 5 = cp at *
  clear kb
  go_loopw [9] (fun i wr => ∃ k : Nat, k ≤ s.size ∧ i = .int .i64 k ∧ LwS w s w.heap.size k wr) (fun i _ => s.size - (intOf i).toNat)
  case atStart => exact ⟨0, Nat.zero_le _, rfl, HS.out⟩
  case round =>
    obtain ⟨k, hk, rfl, hL⟩ := hrel
    have HL := hide hL
    by_cases hlt : k < s.size
    · have hc := hL.1 k hlt
      rw [if_neg (by omega)] at hc
      have hf := hL.2.1 k hlt
      have hb0 := bt_nonneg s k
      have hb1 := bt_le s k
      have HSt := hide (hL.step hlt)
      obtain ⟨c, hcc⟩ : ∃ c, bt s k = c := ⟨_, rfl⟩
      rw [hcc] at hc hb0 hb1 HSt
      clear hL
      by_cases hcap : 65 ≤ c ∧ c ≤ 90
      · have E : Hid (capC c = true) := decide_eq_true hcap
        have e2 : lowI c = c + 32 := by unfold lowI; rw [if_pos hcap]
        rw [e2] at HSt
        have hq : c + 32 ≤ 122 := by omega
        clear hcap e2 hcc
        go_wp2_with fail
        refine (cap_any c _).mono ?_
        rintro e w' ⟨rfl, rfl⟩
        rw [E.out]
        go_wp2_with fail
        exact ⟨⟨k + 1, by omega, by go_num, HSt.out⟩, by simp [intOf]; omega⟩
      · have E : Hid (capC c = false) := decide_eq_false hcap
        have HSk := hide (HL.out.skip (by rw [hcc]; unfold lowI; rw [if_neg hcap]))
        clear hcap hcc
        go_wp2_with fail
        refine (cap_any c _).mono ?_
        rintro e w' ⟨rfl, rfl⟩
        rw [E.out]
        go_wp2_with fail
        exact ⟨⟨k + 1, by omega, by go_num, HSk.out⟩, by simp [intOf]; omega⟩
    · obtain rfl : k = s.size := by omega
      have kc := fun cap => hL.back (P := Tryd.prog) (cap := cap) 22 9 5 Tryd.underlying22 Tryd.underlying5 Tryd.underlying9
      clear hL
      go_wp2_with fail
      go_ret
      exact ⟨rfl, HL.out.2.2.1⟩
end Go.Proofs.YtpohgehojmeodaaDoor
