/- WdB, WdC, WdD in one text. -/
import Derived.Test.YtminoofghdpomaaDoorSq5
import Derived.Test.YtminoofghdpomaaDoorShlf
import Derived.Test.YtminoofghdpomaaDoorVal
import Derived.Test.YtminoofghdpomaaDoorMT
import Derived.Test.YtminoofghdpomaaDoorShlw
import Derived.Lib.IndexAny
import Derived.Laws.RangeAny
import Derived.Test.YtminoofghdpomaaDoorMN
import Derived.Lib.OthersKept
import Derived.Deep.WholeRow
namespace Go.Proofs.YtminoofghdpomaaDoor
set_option linter.unusedVariables false
set_option linter.unusedSimpArgs false
section
open Go Go.RowKit Go.PlainAid

/-- a blank, or an end of a line -/
def spC (b : UInt8) : Bool := b == 32 || b == 10
def spL (l : List UInt8) : Bool := l.any spC
theorem u8_all4 {p : UInt8 → Prop} (h : ∀ n : Fin 256, p (UInt8.ofNat n.val)) (c : UInt8) : p c := by
  have e := h ⟨c.toNat, c.toNat_lt⟩
  simpa using e
theorem get_at4 (s : ByteArray) (k : Nat) (h : k < s.size) : (s.get! k) = s[k]'h := by
  simp [ByteArray.get!, ByteArray.get, h, getElem!_pos]
  rfl
/-- what stands behind a high byte, as far as it is taken -/
theorem decode_tail (s : ByteArray) (pos : Nat) (h : pos < s.size) (ha : 128 ≤ (s[pos]'h).toNat) : pos + (Utf8.decode s pos).2 ≤ s.size ∧ (∀ k (hk : k < s.size), pos ≤ k → k < pos + (Utf8.decode s pos).2 → 128 ≤ (s[k]'hk).toNat) ∧ Utf8.valid ((Utf8.decode s pos).1 : Int) = true := by
  have hn : ¬ (s[pos]'h).toNat < 128 := by omega
  have one : ∀ k (hk : k < s.size), pos ≤ k → k < pos + 1 → 128 ≤ (s[k]'hk).toNat := fun k hk h1 h2 => by
    obtain rfl : k = pos := by omega
    exact ha
  have cont : ∀ q, (decide (pos + q < s.size) && (s.get! (pos + q)).toNat / 64 == 2) = true → ∃ hq : pos + q < s.size, 128 ≤ (s[pos + q]'hq).toNat := fun q hq => by
    simp only [Bool.and_eq_true, decide_eq_true_eq, beq_iff_eq] at hq
    refine ⟨hq.1, ?_⟩
    have := hq.2
    rw [get_at4 s _ hq.1] at this
    omega
  have v0 : Utf8.valid (Utf8.runeError : Int) = true := rfl
  unfold Utf8.decode
  simp only [Nat.add_zero, get_at4 s pos h]
  rw [if_neg hn]
  split
  · rename_i h2
    simp only [Bool.and_eq_true] at h2
    obtain ⟨q1, r1⟩ := cont 1 (by simpa using h2.2)
    split
    · rename_i h3
      refine ⟨by omega, fun k hk a b => ?_, ?_⟩
      · have : k = pos ∨ k = pos + 1 := by omega
        rcases this with rfl | rfl
        · exact ha
        · exact r1
      · have hb := (s.get! (pos + 1)).toNat_lt
        have ha2 := (s[pos]'h).toNat_lt
        unfold Utf8.valid
        simp
        omega
    · exact ⟨by omega, one, v0⟩
  split
  · rename_i h2
    simp only [Bool.and_eq_true] at h2
    obtain ⟨q1, r1⟩ := cont 1 (by simpa using h2.1.2)
    obtain ⟨q2, r2⟩ := cont 2 (by simpa using h2.2)
    split
    · rename_i h3
      simp only [Bool.and_eq_true] at h3
      refine ⟨by omega, fun k hk a b => ?_, h3.2⟩
      have : k = pos ∨ k = pos + 1 ∨ k = pos + 2 := by omega
      rcases this with rfl | rfl | rfl
      · exact ha
      · exact r1
      · exact r2
    · exact ⟨by omega, one, v0⟩
  split
  · rename_i h2
    simp only [Bool.and_eq_true] at h2
    obtain ⟨q1, r1⟩ := cont 1 (by simpa using h2.1.1.2)
    obtain ⟨q2, r2⟩ := cont 2 (by simpa using h2.1.2)
    obtain ⟨q3, r3⟩ := cont 3 (by simpa using h2.2)
    split
    · rename_i h3
      simp only [Bool.and_eq_true] at h3
      refine ⟨by omega, fun k hk a b => ?_, h3.2⟩
      have : k = pos ∨ k = pos + 1 ∨ k = pos + 2 ∨ k = pos + 3 := by omega
      rcases this with rfl | rfl | rfl | rfl
      · exact ha
      · exact r1
      · exact r2
      · exact r3
    · exact ⟨by omega, one, v0⟩
  · exact ⟨by omega, one, v0⟩
end

section
open Go Go.RowKit Go.PlainAid

theorem ix2 (b : UInt8) : decide (0 ≤ Lib.indexByte [32, 10] b) = spC b := by
  refine u8_all4 (p := fun b => decide (0 ≤ Lib.indexByte [32, 10] b) = spC b) ?_ b
  decide +kernel
set_option maxRecDepth 100000 in
set_option maxHeartbeats 3200000 in
theorem irune_err (w : World) : Calls Tryd.prog 63 #[.string ⟨#[32, 10]⟩, .int .i32 65533] w fun e w' => e = .returned (.int .i64 (-1)) ∧ Below w.heap.size w w' := by
  go_enter Tryd.func63, Tryd.ntmps63
  go_wp2_with fail
  go_loopw [5, 6] (fun _ _ wr => ∃ pos : Nat, pos ≤ 2 ∧ wr = w.iter ⟨#[32, 10]⟩ pos) (fun _ _ wr => 2 - wr.iterPos w.heap.size)
  case atStart => exact ⟨0, by omega, rfl⟩
  case round =>
    obtain ⟨pos, hk, rfl⟩ := hrel
    have : pos = 0 ∨ pos = 1 ∨ pos = 2 := by omega
    rcases this with rfl | rfl | rfl
    · have hnx : ∀ ty, (Instr.next (.pointer (some ⟨w.heap.size, 0, none⟩)) true ty).run Tryd.prog (w.iter ⟨#[32, 10]⟩ 0) = _ := fun ty => run_next_ascii w ⟨#[32, 10]⟩ 0 ty (by decide) (by decide)
      go_wp2_with fail
      exact ⟨⟨1, by omega, rfl⟩, by simp⟩
    · have hnx : ∀ ty, (Instr.next (.pointer (some ⟨w.heap.size, 0, none⟩)) true ty).run Tryd.prog (w.iter ⟨#[32, 10]⟩ 1) = _ := fun ty => run_next_ascii w ⟨#[32, 10]⟩ 1 ty (by decide) (by decide)
      go_wp2_with fail
      exact ⟨⟨2, by omega, rfl⟩, by simp⟩
    · have hnx : ∀ ty, (Instr.next (.pointer (some ⟨w.heap.size, 0, none⟩)) true ty).run Tryd.prog (w.iter ⟨#[32, 10]⟩ 2) = _ := fun ty => run_next_end w ⟨#[32, 10]⟩ 2 ty (by decide)
      go_wp2_with fail
      go_ret
      exact ⟨rfl, (Below.refl _ _).alloc (Nat.le_refl _) _⟩
theorem enc_tail (r : Int) (h0 : 128 ≤ r) (hv : Utf8.valid r = true) : ∃ z, Utf8.encode r = z ∧ ((z.size = 2 ∧ ∃ h : 1 < z.size, 128 ≤ (z[1]'h).toNat) ∨ z.size = 3 ∨ z.size = 4) := by
  obtain ⟨h1, h2, h3⟩ := encode_facts r hv h0
  obtain ⟨z, hz⟩ : ∃ z, Utf8.encode r = z := ⟨_, rfl⟩
  rw [hz] at h1 h2
  refine ⟨z, hz, ?_⟩
  have : z.size = 2 ∨ z.size = 3 ∨ z.size = 4 := by omega
  rcases this with h | h | h
  · refine .inl ⟨h, by omega, ?_⟩
    subst hz
    have := h3 (by omega)
    simpa [h] using this
  · exact .inr (.inl h)
  · exact .inr (.inr h)
set_option maxRecDepth 100000 in
set_option maxHeartbeats 3200000 in
theorem irune_3 (r : Int) (z : ByteArray) (w : World) (h0 : 128 ≤ r) (h1 : r ≠ 65533) (hvl : Lib.validRune r = true) (henc : Utf8.encode r = z) (hL : z.size = 3) : Calls Tryd.prog 63 #[.string ⟨#[32, 10]⟩, .int .i32 r] w fun e w' => e = .returned (.int .i64 (-1)) ∧ Drawn w w' := by
  have d1 : decide (0 ≤ r) = true := decide_eq_true (by omega)
  have d2 : decide (r < 128) = false := decide_eq_false (by omega)
  have d3 : (r == 65533) = false := by simpa using h1
  have hvr := hide (fun W => Tryd.utf8_ValidRune r W)
  rw [hvl] at hvr
  clear h1 hvl
  go_enter Tryd.func63, Tryd.ntmps63
  go_wp2_with fail
  refine (hvr.out _).mono ?_
  rintro e w1 ⟨rfl, rfl⟩
  go_wp2_with fail
  refine wp_scope_straight ?_
  go_wp2_with fail
  go_loopw [9, 10] (fun i _ wr => i = .int .i64 2 ∧ wr = w1) (fun _ _ _ => 0)
  case atStart => exact ⟨rfl, rfl⟩
  case round =>
    obtain ⟨rfl, rfl⟩ := hrel
    go_wp2_with fail
    try rw [Exit.noGoto_ret]
    go_ret
    exact ⟨rfl, Drawn.refl _⟩
set_option maxRecDepth 100000 in
set_option maxHeartbeats 3200000 in
theorem irune_4 (r : Int) (z : ByteArray) (w : World) (h0 : 128 ≤ r) (h1 : r ≠ 65533) (hvl : Lib.validRune r = true) (henc : Utf8.encode r = z) (hL : z.size = 4) : Calls Tryd.prog 63 #[.string ⟨#[32, 10]⟩, .int .i32 r] w fun e w' => e = .returned (.int .i64 (-1)) ∧ Drawn w w' := by
  have d1 : decide (0 ≤ r) = true := decide_eq_true (by omega)
  have d2 : decide (r < 128) = false := decide_eq_false (by omega)
  have d3 : (r == 65533) = false := by simpa using h1
  have hvr := hide (fun W => Tryd.utf8_ValidRune r W)
  rw [hvl] at hvr
  clear h1 hvl
  go_enter Tryd.func63, Tryd.ntmps63
  go_wp2_with fail
  refine (hvr.out _).mono ?_
  rintro e w1 ⟨rfl, rfl⟩
  go_wp2_with fail
  refine wp_scope_straight ?_
  go_wp2_with fail
  go_loopw [9, 10] (fun i _ wr => i = .int .i64 3 ∧ wr = w1) (fun _ _ _ => 0)
  case atStart => exact ⟨rfl, rfl⟩
  case round =>
    obtain ⟨rfl, rfl⟩ := hrel
    go_wp2_with fail
    try rw [Exit.noGoto_ret]
    go_ret
    exact ⟨rfl, Drawn.refl _⟩
theorem sl_end (W : World) : (Instr.slice 9 (.string ⟨#[32, 10]⟩) (some (.int .i64 2)) none none).run Tryd.prog W = .ok (.string ⟨#[]⟩) W := by kernel_rfl
theorem ix_nil (c : UInt8) : Lib.indexByte [] c = -1 := rfl
set_option maxRecDepth 100000 in
set_option maxHeartbeats 3200000 in
theorem irune_2 (r : Int) (z : ByteArray) (w : World) (h0 : 128 ≤ r) (h1 : r ≠ 65533) (hvl : Lib.validRune r = true) (henc : Utf8.encode r = z) (hL : z.size = 2) (hz : 1 < z.size) (hb : 128 ≤ (z[1]'hz).toNat) : Calls Tryd.prog 63 #[.string ⟨#[32, 10]⟩, .int .i32 r] w fun e w' => e = .returned (.int .i64 (-1)) ∧ Drawn w w' := by
  have d1 : decide (0 ≤ r) = true := decide_eq_true (by omega)
  have d2 : decide (r < 128) = false := decide_eq_false (by omega)
  have d3 : (r == 65533) = false := by simpa using h1
  have hvr := hide (fun W => Tryd.utf8_ValidRune r W)
  rw [hvl] at hvr
  obtain ⟨q, hq⟩ : ∃ q : UInt8, z[1]'hz = q := ⟨_, rfl⟩
  rw [hq] at hb
  have hix := hide (fun W => Tryd.strings_IndexByte ⟨#[]⟩ (q.toNat : Int) W)
  have d4 : ((10 : Int) != (q.toNat : Int)) = true := by simp; omega
  have d5 : ((10 : Int) == (q.toNat : Int)) = false := by simp; omega
  have s1 : (((⟨#[32, 10]⟩ : ByteArray)[1]'(by decide)).toNat : Int) = 10 := rfl
  have s2 := sl_end
  have s3 : IntKind.i64.wrap 2 = 2 := by decide
  have hix2 : Hid (∀ W, Calls Tryd.prog 75 #[.string ⟨#[]⟩, .int .u8 (q.toNat : Int)] W fun e w' => e = .returned (.int .i64 (-1)) ∧ w' = W) := fun W => hix.out W
  clear h1 hvl hb hix
  go_enter Tryd.func63, Tryd.ntmps63
  go_wp2_with fail
  refine (hvr.out _).mono ?_
  rintro e w1 ⟨rfl, rfl⟩
  go_wp2_with fail
  refine wp_scope_straight ?_
  go_wp2_with fail
  go_loopw [9, 10] (fun i _ wr => i = .int .i64 1 ∧ wr = w1) (fun _ _ _ => 0)
  case atStart => exact ⟨rfl, rfl⟩
  case round =>
    obtain ⟨rfl, rfl⟩ := hrel
    go_wp2_with fail
    refine wp_scope_straight ?_
    go_wp2_with fail
    go_quiet (fail)
    go_wp2_with fail
    go_region_held3 (fun _ => True) ((trivial)) ((go_at_call 75; refine (hix2.out _).mono ?_; rintro e w' ⟨rfl, rfl⟩))
    all_goals
      go_wp2_with fail
      repeat rw [Exit.noGoto_ret]
      simp (config := { zetaDelta := true }) only [Exit.inBlock, Exit.then, Exit.noGoto]
      go_ret
      exact ⟨rfl, _, rfl⟩
end

section
open Go Go.RowKit Go.PlainAid

theorem ixAny (l : List UInt8) : decide (0 ≤ Lib.indexAny l [32, 10]) = spL l := by
  induction l with
  | nil => rfl
  | cons b l ih =>
    have hc : ([32, 10] : List UInt8).contains b = spC b := by
      refine u8_all4 (p := fun b => ([32, 10] : List UInt8).contains b = spC b) ?_ b
      decide +kernel
    unfold Lib.indexAny
    rw [hc]
    show _ = (spC b || spL l)
    cases hb : spC b with
    | true => simp
    | false =>
      rw [← ih]
      have := Lib.indexAny_ge [32, 10] l
      by_cases h : Lib.indexAny l [32, 10] = -1
      · simp [h]
      · simp [h]
        omega
def IrE (r : Int) (w : World) (e : Ending) (w' : World) : Prop := ∃ x : Int, e = .returned (.int .i64 x) ∧ decide (0 ≤ x) = (decide (r = 32) || decide (r = 10)) ∧ Below w.heap.size w w'
theorem irune04 (r : Int) (w : World) (h0 : 0 ≤ r) (hv : Utf8.valid r = true) : Calls Tryd.prog 63 #[.string ⟨#[32, 10]⟩, .int .i32 r] w (IrE r w) := by
  by_cases h1 : r < 128
  · refine (Tryd.strings_IndexRune_ascii ⟨#[32, 10]⟩ r w h0 h1).mono ?_
    rintro e w' ⟨rfl, rfl⟩
    refine ⟨_, rfl, ?_, Below.refl _ _⟩
    have e1 : (⟨#[32, 10]⟩ : ByteArray).data.toList = [32, 10] := rfl
    rw [e1, ix2]
    have e2 : ((r.toNat.toUInt8).toNat : Int) = r := by simp; omega
    unfold spC
    have f : ∀ k : Nat, k < 128 → (r.toNat.toUInt8 == UInt8.ofNat k) = decide (r = (k : Int)) := fun k hk => by
      by_cases h : r = (k : Int)
      · subst h
        simp
      · rw [decide_eq_false h]
        simp only [beq_eq_false_iff_ne, ne_eq]
        intro h2
        rw [h2] at e2
        refine h ?_
        have : (UInt8.ofNat k).toNat = k := by simp; omega
        omega
    have a := f 32 (by omega)
    have b := f 10 (by omega)
    rw [show ((32 : Nat) : Int) = 32 from rfl] at a
    rw [show ((10 : Nat) : Int) = 10 from rfl] at b
    rw [← a, ← b]
    rfl
  · have hno : (decide (r = 32) || decide (r = 10)) = false := by simp; omega
    unfold IrE
    rw [hno]
    by_cases h2 : r = 65533
    · subst h2
      refine (irune_err w).mono ?_
      rintro e w' ⟨rfl, hb⟩
      exact ⟨_, rfl, rfl, hb⟩
    · obtain ⟨z, hz, hs⟩ := enc_tail r (by omega) hv
      have hvl : Lib.validRune r = true := by
        unfold Lib.validRune
        unfold Utf8.valid at hv
        simp at hv ⊢
        omega
      rcases hs with ⟨hs, h3, h4⟩ | hs | hs
      · refine (irune_2 r z w (by omega) h2 hvl hz hs h3 h4).mono ?_
        rintro e w' ⟨rfl, hd⟩
        exact ⟨_, rfl, rfl, drawn_below hd _⟩
      · refine (irune_3 r z w (by omega) h2 hvl hz hs).mono ?_
        rintro e w' ⟨rfl, hd⟩
        exact ⟨_, rfl, rfl, drawn_below hd _⟩
      · refine (irune_4 r z w (by omega) h2 hvl hz hs).mono ?_
        rintro e w' ⟨rfl, hd⟩
        exact ⟨_, rfl, rfl, drawn_below hd _⟩
def IaE (s : ByteArray) (w : World) (e : Ending) (w' : World) : Prop := ∃ x : Int, e = .returned (.int .i64 x) ∧ decide (0 ≤ x) = spL s.data.toList ∧ Below w.heap.size w w'
set_option maxRecDepth 20000 in
set_option maxHeartbeats 1600000 in
theorem iany_short (s : ByteArray) (w : World) (hs : s.size ≤ 8) : Calls Tryd.prog 55 #[.string s, .string ⟨#[32, 10]⟩] w (IaE s w) := by
  have hus := hide (fun W => Tryd.strings_shouldUseASCIISet (s.size : Int) W)
  have d8 : decide (8 < (s.size : Int)) = false := decide_eq_false (by omega)
  rw [d8] at hus
  have hn : Hid (s.size = s.data.toList.length) := Lib.size_eq s
  clear d8
  go_enter Tryd.func55, Tryd.ntmps55
  go_wp2_with fail
  refine (hus.out _).mono ?_
  rintro e w1 ⟨rfl, rfl⟩
  go_wp2_with fail
  go_loopw [9, 10] (fun _ _ wr => ∃ pos : Nat, pos ≤ s.size ∧ wr.heap[w1.heap.size]? = some (.stringIter s pos) ∧ Below w1.heap.size w1 wr ∧ spL (s.data.toList.take pos) = false) (fun _ _ wr => s.size - wr.iterPos w1.heap.size)
  case atStart => exact ⟨0, Nat.zero_le _, World.alloc_heap_new _ _, (Below.refl _ _).alloc (Nat.le_refl _) _, rfl⟩
  case round =>
    obtain ⟨pos, hk, hit, hB, hsp⟩ := hrel
    have HB := hide hB
    have HS := hide hsp
    have hpos : wr.iterPos w1.heap.size = pos := by unfold World.iterPos; rw [hit]
    clear hB hsp
    by_cases hp : pos < s.size
    · have hnx : ∀ ty, (Instr.next (.pointer (some ⟨w1.heap.size, 0, none⟩)) true ty).run Tryd.prog wr = _ := fun ty => Lib.run_next_any_at wr w1.heap.size s pos ty hit hp
      have hfact : Hid (0 ≤ ((Utf8.decode s pos).1 : Int) ∧ Utf8.valid ((Utf8.decode s pos).1 : Int) = true ∧ 1 ≤ (Utf8.decode s pos).2 ∧ pos + (Utf8.decode s pos).2 ≤ s.size ∧ ((decide (((Utf8.decode s pos).1 : Int) = 32) || decide (((Utf8.decode s pos).1 : Int) = 10)) = true → spL s.data.toList = true) ∧ ((decide (((Utf8.decode s pos).1 : Int) = 32) || decide (((Utf8.decode s pos).1 : Int) = 10)) = false → spL (s.data.toList.take (pos + (Utf8.decode s pos).2)) = false)) := by
        have hlp : pos < s.data.toList.length := by rw [← Lib.size_eq]; exact hp
        have hbt : (s[pos]'hp).toNat = (s.data.toList[pos]).toNat := by
          have := get_bt s pos hp
          rw [bt_data s hlp] at this
          omega
        by_cases ha : (s[pos]'hp).toNat < 128
        · rw [decode_ascii s pos hp ha]
          have htk : s.data.toList.take (pos + 1) = s.data.toList.take pos ++ [s.data.toList[pos]] := by
            rw [List.take_add_one, List.getElem?_eq_getElem hlp]
            rfl
          have hv : Utf8.valid ((s[pos]'hp).toNat : Int) = true := by unfold Utf8.valid; simp; omega
          have hspc : (decide (((s[pos]'hp).toNat : Int) = 32) || decide (((s[pos]'hp).toNat : Int) = 10)) = spC (s.data.toList[pos]) := by
            rw [hbt]
            generalize s.data.toList[pos] = b
            refine u8_all4 (p := fun b => (decide ((b.toNat : Int) = 32) || decide ((b.toNat : Int) = 10)) = spC b) ?_ b
            decide +kernel
          refine ⟨by omega, hv, Nat.le_refl _, by show pos + 1 ≤ _; omega, fun h => ?_, fun h => ?_⟩
          · rw [hspc] at h
            exact List.any_eq_true.2 ⟨_, List.getElem_mem hlp, h⟩
          · rw [hspc] at h
            show spL (s.data.toList.take (pos + 1)) = false
            rw [htk]
            have := HS.out
            unfold spL at this ⊢
            rw [List.any_append, this, List.any_cons, h]
            rfl
        · obtain ⟨r0, r1⟩ := decode_high s pos hp (by omega)
          obtain ⟨t1, t2, t3⟩ := decode_tail s pos hp (by omega)
          refine ⟨by omega, t3, r1, t1, fun h => ?_, fun _ => ?_⟩
          · simp at h
            omega
          · have h1 := HS.out
            unfold spL at h1 ⊢
            rw [List.any_eq_false] at h1 ⊢
            intro x hx
            obtain ⟨k, hk1, rfl⟩ := List.getElem_of_mem hx
            rw [List.length_take] at hk1
            rw [List.getElem_take]
            by_cases hkp : k < pos
            · exact h1 _ (List.mem_take_iff_getElem.2 ⟨k, by rw [Lib.size_eq] at hp; omega, rfl⟩)
            · have hks : k < s.size := by rw [Lib.size_eq]; omega
              have h2 := t2 k hks (by omega) (by omega)
              have hbk : (s[k]'hks).toNat = (s.data.toList[k]'(by rw [← Lib.size_eq]; exact hks)).toNat := by
                have := get_bt s k hks
                rw [bt_data s (by rw [← Lib.size_eq]; exact hks)] at this
                omega
              rw [hbk] at h2
              generalize s.data.toList[k]'(by rw [← Lib.size_eq]; exact hks) = b at h2
              intro hc
              unfold spC at hc
              simp at hc
              rcases hc with rfl | rfl
              · exact absurd h2 (by decide)
              · exact absurd h2 (by decide)
      obtain ⟨rr, hrr⟩ : ∃ rr, (Utf8.decode s pos).1 = rr := ⟨_, rfl⟩
      obtain ⟨wd, hwd⟩ : ∃ wd, (Utf8.decode s pos).2 = wd := ⟨_, rfl⟩
      rw [hrr, hwd] at hnx
      rw [hrr, hwd] at hfact
      have hit2 := Lib.iterAt_heap wr w1.heap.size s pos (pos + wd) hit
      have HB2 := hide (Lib.below_iterAt HB.out (Nat.le_refl _) s (pos + wd))
      have hsz2 := (Array.getElem?_eq_some_iff.1 hit2).1
      clear hrr hwd
      go_wp2_with fail
      refine (irune04 (rr : Int) _ hfact.out.1 hfact.out.2.1).mono ?_
      rintro e w3 ⟨x, rfl, hx, hb3⟩
      have hit3 := (hb3.block _ hsz2).trans hit2
      have HB3 := hide (HB2.out.of hb3)
      have hpos3 : w3.iterPos w1.heap.size = pos + wd := by unfold World.iterPos; rw [hit3]
      clear hb3
      cases hc : (decide ((rr : Int) = 32) || decide ((rr : Int) = 10)) with
      | true =>
        rw [hc] at hx
        have HR := hide (hfact.out.2.2.2.2.1 hc)
        clear hfact hc hit hit2
        go_wp2_with fail
        go_ret
        refine ⟨(pos : Int), rfl, ?_, HB3.out⟩
        rw [HR.out]
        exact decide_eq_true (by omega)
      | false =>
        rw [hc] at hx
        have HR := hide (hfact.out.2.2.2.2.2 hc)
        have h1 := hfact.out.2.2.1
        have h2 := hfact.out.2.2.2.1
        clear hfact hc hit hit2
        go_wp2_with fail
        refine ⟨⟨pos + wd, h2, hit3, HB3.out, HR.out⟩, ?_⟩
        rw [hpos3, hpos]
        omega
    · obtain rfl : pos = s.size := by omega
      have hnx : ∀ ty, (Instr.next (.pointer (some ⟨w1.heap.size, 0, none⟩)) true ty).run Tryd.prog wr = _ := fun ty => Lib.run_next_end_at wr w1.heap.size s s.size ty hit hp
      have HF : Hid (spL s.data.toList = false) := by
        have := HS.out
        rw [List.take_of_length_le (by rw [← Lib.size_eq]; exact Nat.le_refl _)] at this
        exact this
      clear hit
      go_wp2_with fail
      go_ret
      exact ⟨-1, rfl, by rw [HF.out]; rfl, HB.out⟩
theorem iany04 (s : ByteArray) (w : World) (hs : s.size ≤ 1000000) : Calls Tryd.prog 55 #[.string s, .string ⟨#[32, 10]⟩] w (IaE s w) := by
  by_cases h : s.size ≤ 8
  · exact iany_short s w h
  · have hz : (Tryd.prog.info? 90).map (fun i => (i.zero, i.size)) = some (some (.agg (Array.replicate 256 (.bool false))), 256) := by kernel_rfl
    refine (Tryd.strings_IndexAny_long (zero_of_info hz).1 s ⟨#[32, 10]⟩ w (by decide) (by omega) (by omega) (by decide) (fun j b hb => ?_)).mono ?_
    · have e1 : (⟨#[32, 10]⟩ : ByteArray).data.toList = [32, 10] := rfl
      rw [e1] at hb
      match j, hb with
      | 0, hb => cases hb; decide
      | 1, hb => cases hb; decide
      | j + 2, hb => simp at hb
    · rintro e w' ⟨rfl, rfl⟩
      refine ⟨_, rfl, ?_, ((Below.refl _ _).alloc (Nat.le_refl _) _).alloc (by simp) _⟩
      have e1 : (⟨#[32, 10]⟩ : ByteArray).data.toList = [32, 10] := rfl
      rw [e1, ixAny]
theorem contains04 (s : ByteArray) (w : World) (hs : s.size ≤ 1000000) : Calls Tryd.prog 48 #[.string s, .string ⟨#[32, 10]⟩] w fun e w' => e = .returned (.bool (spL s.data.toList)) ∧ Below w.heap.size w w' := by
  have h := hide (iany04 s w hs)
  obtain ⟨v, hv⟩ : ∃ v, spL s.data.toList = v := ⟨_, rfl⟩
  have HV := hide hv
  rw [hv]
  clear hv hs
  go_enter Tryd.func48, Tryd.ntmps48
  go_wp2_with fail
  refine h.out.mono ?_
  rintro e w1 ⟨x, rfl, hx, hb⟩
  rw [HV.out] at hx
  have HB := hide hb
  clear hb
  go_wp2_with fail
  go_ret
  exact ⟨rfl, HB.out⟩
/-- Is a text a word? -/
def wdB (s : ByteArray) : Bool := !s.data.toList.isEmpty && !spL s.data.toList
theorem isword04 (s : ByteArray) (w : World) (hs : s.size ≤ 1000000) : Calls Tryd.prog 34 #[.string s] w fun e w' => e = .returned (.bool (wdB s)) ∧ Below w.heap.size w w' := by
  have h := hide (fun W => contains04 s W hs)
  by_cases hz : s.size = 0
  · have t1 := isEmpty_yes hz
    have hv : Hid (wdB s = false) := by
      unfold Hid wdB
      rw [← ByteArray.toList_eq, t1]
      rfl
    obtain ⟨v, hv2⟩ : ∃ v, wdB s = v := ⟨_, rfl⟩
    rw [hv2] at hv ⊢
    clear hz hv2
    go_enter Tryd.func34, Tryd.ntmps34
    go_wp2_with fail
    go_ret
    exact ⟨by rw [hv.out]; rfl, Below.refl _ _⟩
  · have t1 := isEmpty_no hz
    have hv : Hid (wdB s = !spL s.data.toList) := by
      unfold Hid wdB
      rw [← ByteArray.toList_eq, t1]
      rfl
    obtain ⟨v, hv2⟩ : ∃ v, wdB s = v := ⟨_, rfl⟩
    obtain ⟨u, hu⟩ : ∃ u, spL s.data.toList = u := ⟨_, rfl⟩
    rw [hv2, hu] at hv
    rw [hv2]
    rw [hu] at h
    clear hz hv2 hu
    go_enter Tryd.func34, Tryd.ntmps34
    go_wp2_with fail
    refine (h.out _).mono ?_
    rintro e w1 ⟨rfl, hb⟩
    have HB := hide hb
    clear hb
    go_wp2_with fail
    go_ret
    exact ⟨by rw [hv.out]; rfl, HB.out⟩
end
end Go.Proofs.YtminoofghdpomaaDoor
