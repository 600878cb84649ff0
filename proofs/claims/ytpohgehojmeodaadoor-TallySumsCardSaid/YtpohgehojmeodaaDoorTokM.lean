/- Layer 25: small letters, the reference's; barred names; the walk of TokenLowers. -/
import Derived.Test.YtpohgehojmeodaaDoorTokL
import Derived.Laws.Rows
namespace Go.Proofs.YtpohgehojmeodaaDoor
set_option linter.unusedVariables false
set_option linter.unusedSimpArgs false
open Go.RowKit Go.PlainAid

/-! ### barred names -/
theorem str_eq {a b : ByteArray} (h : a = b) : (a.toList == b.toList) = true := by subst h; simp
def barB (s : ByteArray) : Bool := s.toList == [99, 111, 110, 110, 101, 99, 116, 105, 111, 110] || s.toList == [107, 101, 101, 112, 45, 97, 108, 105, 118, 101] || s.toList == [112, 114, 111, 120, 121, 45, 99, 111, 110, 110, 101, 99, 116, 105, 111, 110] || s.toList == [116, 114, 97, 110, 115, 102, 101, 114, 45, 101, 110, 99, 111, 100, 105, 110, 103] || s.toList == [117, 112, 103, 114, 97, 100, 101]
theorem same_lit (x : ByteArray) (l : List UInt8) : (x.toList == l) = decide (x = ⟨l.toArray⟩) := by
  rw [ByteArray.toList_eq]
  by_cases h : x = ⟨l.toArray⟩
  · subst h
    simp
  · have : ¬ x.data.toList = l := fun e => h (by
      obtain ⟨⟨m⟩⟩ := x
      simp only at e
      subst e
      rfl)
    simp [h, this]
theorem same_bytes (x : ByteArray) (l : List UInt8) : (x.toList == l) = true ↔ x = ⟨l.toArray⟩ := by
  rw [same_lit]
  exact decide_eq_true_iff
def barV : Array Value := #[.string ⟨#[99, 111, 110, 110, 101, 99, 116, 105, 111, 110]⟩, .string ⟨#[107, 101, 101, 112, 45, 97, 108, 105, 118, 101]⟩, .string ⟨#[112, 114, 111, 120, 121, 45, 99, 111, 110, 110, 101, 99, 116, 105, 111, 110]⟩, .string ⟨#[116, 114, 97, 110, 115, 102, 101, 114, 45, 101, 110, 99, 111, 100, 105, 110, 103]⟩, .string ⟨#[117, 112, 103, 114, 97, 100, 101]⟩]
theorem bar_at0 (w : World) : (Instr.index 189 (.agg barV) (.int .i64 0)).run Tryd.prog w = .ok (.string ⟨#[99, 111, 110, 110, 101, 99, 116, 105, 111, 110]⟩) w := by kernel_rfl
theorem bar_at1 (w : World) : (Instr.index 189 (.agg barV) (.int .i64 1)).run Tryd.prog w = .ok (.string ⟨#[107, 101, 101, 112, 45, 97, 108, 105, 118, 101]⟩) w := by kernel_rfl
theorem bar_at2 (w : World) : (Instr.index 189 (.agg barV) (.int .i64 2)).run Tryd.prog w = .ok (.string ⟨#[112, 114, 111, 120, 121, 45, 99, 111, 110, 110, 101, 99, 116, 105, 111, 110]⟩) w := by kernel_rfl
theorem bar_at3 (w : World) : (Instr.index 189 (.agg barV) (.int .i64 3)).run Tryd.prog w = .ok (.string ⟨#[116, 114, 97, 110, 115, 102, 101, 114, 45, 101, 110, 99, 111, 100, 105, 110, 103]⟩) w := by kernel_rfl
theorem bar_at4 (w : World) : (Instr.index 189 (.agg barV) (.int .i64 4)).run Tryd.prog w = .ok (.string ⟨#[117, 112, 103, 114, 97, 100, 101]⟩) w := by kernel_rfl
set_option maxRecDepth 20000 in
set_option maxHeartbeats 1600000 in
theorem barred_any (s : ByteArray) (w : World) (T : TypeId) (fr : Nat × Nat) (hg : w.heap[6]? = some (.cells barV T fr)) : Calls Tryd.prog 184 #[.string s] w fun e w' => e = .returned (.bool (barB s)) ∧ w = w' := by
  have Hg := hide hg
  clear hg
  have i0 := bar_at0
  have i1 := bar_at1
  have i2 := bar_at2
  have i3 := bar_at3
  have i4 := bar_at4
  obtain ⟨V, hV⟩ : ∃ V, V = barV := ⟨_, rfl⟩
  rw [← hV] at Hg i0 i1 i2 i3 i4
  have hsz : (Tryd.prog.info? 189).map (·.size) = some V.size := by rw [hV]; kernel_rfl
  clear hV
  by_cases h0 : s = ⟨#[99, 111, 110, 110, 101, 99, 116, 105, 111, 110]⟩
  · have t0 : (s.toList == [99, 111, 110, 110, 101, 99, 116, 105, 111, 110]) = true := (same_bytes _ _).2 h0
    have H : Hid (barB s = true) := by show barB s = true; unfold barB; rw [t0]; rfl
    clear h0
    go_enter Tryd.func184, Tryd.ntmps184
    go_wp2_with (refine wpList_load_row rfl 189 _ rfl 6 rfl T V fr _ Hg.out Tryd.underlying189 rfl hsz ?_)
    go_rounds 1
    go_ret
    exact ⟨by rw [H.out]; rfl, rfl⟩
  have t0 : (s.toList == [99, 111, 110, 110, 101, 99, 116, 105, 111, 110]) = false := by rw [same_lit]; exact decide_eq_false h0
  by_cases h1 : s = ⟨#[107, 101, 101, 112, 45, 97, 108, 105, 118, 101]⟩
  · have t1 : (s.toList == [107, 101, 101, 112, 45, 97, 108, 105, 118, 101]) = true := (same_bytes _ _).2 h1
    have H : Hid (barB s = true) := by show barB s = true; unfold barB; rw [t0, t1]; rfl
    clear h1
    go_enter Tryd.func184, Tryd.ntmps184
    go_wp2_with (refine wpList_load_row rfl 189 _ rfl 6 rfl T V fr _ Hg.out Tryd.underlying189 rfl hsz ?_)
    go_rounds 2
    go_ret
    exact ⟨by rw [H.out]; rfl, rfl⟩
  have t1 : (s.toList == [107, 101, 101, 112, 45, 97, 108, 105, 118, 101]) = false := by rw [same_lit]; exact decide_eq_false h1
  by_cases h2 : s = ⟨#[112, 114, 111, 120, 121, 45, 99, 111, 110, 110, 101, 99, 116, 105, 111, 110]⟩
  · have t2 : (s.toList == [112, 114, 111, 120, 121, 45, 99, 111, 110, 110, 101, 99, 116, 105, 111, 110]) = true := (same_bytes _ _).2 h2
    have H : Hid (barB s = true) := by show barB s = true; unfold barB; rw [t0, t1, t2]; rfl
    clear h2
    go_enter Tryd.func184, Tryd.ntmps184
    go_wp2_with (refine wpList_load_row rfl 189 _ rfl 6 rfl T V fr _ Hg.out Tryd.underlying189 rfl hsz ?_)
    go_rounds 3
    go_ret
    exact ⟨by rw [H.out]; rfl, rfl⟩
  have t2 : (s.toList == [112, 114, 111, 120, 121, 45, 99, 111, 110, 110, 101, 99, 116, 105, 111, 110]) = false := by rw [same_lit]; exact decide_eq_false h2
  by_cases h3 : s = ⟨#[116, 114, 97, 110, 115, 102, 101, 114, 45, 101, 110, 99, 111, 100, 105, 110, 103]⟩
  · have t3 : (s.toList == [116, 114, 97, 110, 115, 102, 101, 114, 45, 101, 110, 99, 111, 100, 105, 110, 103]) = true := (same_bytes _ _).2 h3
    have H : Hid (barB s = true) := by show barB s = true; unfold barB; rw [t0, t1, t2, t3]; rfl
    clear h3
    go_enter Tryd.func184, Tryd.ntmps184
    go_wp2_with (refine wpList_load_row rfl 189 _ rfl 6 rfl T V fr _ Hg.out Tryd.underlying189 rfl hsz ?_)
    go_rounds 4
    go_ret
    exact ⟨by rw [H.out]; rfl, rfl⟩
  have t3 : (s.toList == [116, 114, 97, 110, 115, 102, 101, 114, 45, 101, 110, 99, 111, 100, 105, 110, 103]) = false := by rw [same_lit]; exact decide_eq_false h3
  by_cases h4 : s = ⟨#[117, 112, 103, 114, 97, 100, 101]⟩
  · have t4 : (s.toList == [117, 112, 103, 114, 97, 100, 101]) = true := (same_bytes _ _).2 h4
    have H : Hid (barB s = true) := by show barB s = true; unfold barB; rw [t0, t1, t2, t3, t4]; rfl
    clear h4
    go_enter Tryd.func184, Tryd.ntmps184
    go_wp2_with (refine wpList_load_row rfl 189 _ rfl 6 rfl T V fr _ Hg.out Tryd.underlying189 rfl hsz ?_)
    go_rounds 5
    go_ret
    exact ⟨by rw [H.out]; rfl, rfl⟩
  have t4 : (s.toList == [117, 112, 103, 114, 97, 100, 101]) = false := by rw [same_lit]; exact decide_eq_false h4
  have H : Hid (barB s = false) := by show barB s = false; unfold barB; rw [t0, t1, t2, t3, t4]; rfl
  clear h0 h1 h2 h3 h4
  go_enter Tryd.func184, Tryd.ntmps184
  go_wp2_with (refine wpList_load_row rfl 189 _ rfl 6 rfl T V fr _ Hg.out Tryd.underlying189 rfl hsz ?_)
  go_rounds 6
  go_ret
  exact ⟨by rw [H.out]; rfl, rfl⟩
end Go.Proofs.YtpohgehojmeodaaDoor
