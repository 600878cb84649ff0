/- Layer 25: the chapter's examples; the walks of TokenNames and TokenValues. -/
import Derived.Test.YtkdldcmeiihbcaaTok4
namespace Go.Proofs.Ytkdldcmeiihbcaa
open Go.RowKit Go.PlainAid

theorem name_pse {s : ByteArray} (h : nameB s = true) : pseB s = false := by
  have h1 := of_decide_eq_true h
  have h2 := h1.2 0 h1.1
  have h3 := of_decide_eq_true h2
  simp only [pseB]
  rw [show decide (0 < s.size ∧ bt s 0 = 58) = false from decide_eq_false fun hh => h3.2.2.1 hh.2]
  rfl
theorem ex_host : nameB ⟨#[72, 111, 115, 116]⟩ = false := name_no (k := 0) (by decide) (by decide +kernel)
theorem ex_ab : valB ⟨#[97, 32, 98]⟩ = true := by decide +kernel
theorem ex_a : valB ⟨#[97, 32]⟩ = false := by decide +kernel
theorem alive25 (w : World) : Calls Try.prog 26 #[] w fun e w' => e = .returned (.bool true) ∧ w = w' := by
  go_enter Try.func26, Try.ntmps26
  go_wp2_with fail
  refine (name_any _ _ (by decide)).mono ?_
  rintro e w' ⟨rfl, rfl⟩
  rw [ex_host]
  go_wp2_with fail
  refine (value_any _ _ (by decide)).mono ?_
  rintro e w' ⟨rfl, rfl⟩
  rw [ex_ab]
  go_wp2_with fail
  refine (value_any _ _ (by decide)).mono ?_
  rintro e w' ⟨rfl, rfl⟩
  rw [ex_a]
  go_wp2_with fail
  go_ret
  exact ⟨rfl, rfl⟩
set_option maxHeartbeats 1000000 in
theorem tokenNames_walk (s : ByteArray) (w : World) (hs : s.size ≤ 9223372036854775807) : Calls Try.prog 5 #[.string s] w (Yes w) := by
  by_cases hbig : 500 < s.size
  · have hd : decide ((500 : Int) < (s.size : Int)) = true := decide_eq_true (by omega)
    go_enter Try.func5, Try.ntmps5
    go_wp2_with (go_at_call 26; refine (alive25 _).mono ?_; rintro e w' ⟨rfl, rfl⟩)
    go_ret
    exact ⟨rfl, Below.refl _ _⟩
  · have hd : decide ((500 : Int) < (s.size : Int)) = false := decide_eq_false (by omega)
    obtain ⟨b1, hb1⟩ : ∃ x, nameB s = x := ⟨_, rfl⟩
    obtain ⟨b2, hb2⟩ : ∃ x, pseB s = x := ⟨_, rfl⟩
    have hno : b1 = true → b2 = false := fun h => by rw [← hb2]; exact name_pse (hb1.trans h)
    have H1 := hide hb1
    have H2 := hide hb2
    clear hb1 hb2
    go_enter Try.func5, Try.ntmps5
    cases b1 <;> cases b2
    all_goals first | (cases hno rfl; done) | skip
    all_goals
      clear hno
      go_wp2_with (first
        | (go_at_call 27; refine (name_any _ _ hs).mono ?_; rintro e w' ⟨rfl, rfl⟩; rw [H1.out])
        | (go_at_call 28; refine (rname_any _ _ hs).mono ?_; rintro e w' ⟨rfl, rfl⟩; rw [H1.out])
        | (go_at_call 29; refine (pseudo_any _ _ hs).mono ?_; rintro e w' ⟨rfl, rfl⟩; rw [H2.out])
        | (go_at_call 30; refine (rpseudo_any _ _ hs).mono ?_; rintro e w' ⟨rfl, rfl⟩; rw [H2.out])
        | (go_at_call 26; refine (alive25 _).mono ?_; rintro e w' ⟨rfl, rfl⟩))
      go_ret
      exact ⟨rfl, Below.refl _ _⟩
theorem row3 {w : World} {b : Nat} {T : TypeId} {v0 v1 v2 : Value} (h : w.heap[b]? = some (.cells #[v0, v1, v2] T (0, 0))) : w.cell? ⟨b, 0, none⟩ = some v0 ∧ w.cell? ⟨b, 1, none⟩ = some v1 ∧ w.cell? ⟨b, 2, none⟩ = some v2 := by
  refine ⟨?_, ?_, ?_⟩
  · rw [cell_of_row w b 0 _ _ _ h]; rfl
  · rw [cell_of_row w b 1 _ _ _ h]; rfl
  · rw [cell_of_row w b 2 _ _ _ h]; rfl
set_option maxHeartbeats 1000000 in
theorem tokenValues_walk (n v : ByteArray) (b : Bool) (w : World) (hn : n.size ≤ 9223372036854775807) (hv : v.size ≤ 9223372036854775807) : Calls Try.prog 6 #[.agg #[.string n, .string v, .bool b]] w (Yes w) := by
  have R0 := hide (heap_alloc_new w (.cells #[.string n, .string v, .bool b] 36))
  have HB0 : Hid (Below w.heap.size w (w.alloc (.cells #[.string n, .string v, .bool b] 36))) := (Below.refl _ _).alloc (Nat.le_refl _) _
  by_cases hbig : 500 < n.size ∨ 500 < v.size
  · by_cases h1 : 500 < n.size
    · have hd : decide ((500 : Int) < (n.size : Int)) = true := decide_eq_true (by omega)
      clear hbig
      go_enter Try.func6, Try.ntmps6
      go_wp2_with (go_at_call 26; refine (alive25 _).mono ?_; rintro e w' ⟨rfl, rfl⟩)
      go_ret
      exact ⟨rfl, HB0.out⟩
    · have hd : decide ((500 : Int) < (n.size : Int)) = false := decide_eq_false (by omega)
      have hd2 : decide ((500 : Int) < (v.size : Int)) = true := decide_eq_true (by omega)
      clear hbig
      go_enter Try.func6, Try.ntmps6
      go_wp2_with (go_at_call 26; refine (alive25 _).mono ?_; rintro e w' ⟨rfl, rfl⟩)
      go_ret
      exact ⟨rfl, HB0.out⟩
  · have hd : decide ((500 : Int) < (n.size : Int)) = false := decide_eq_false (by omega)
    have hd2 : decide ((500 : Int) < (v.size : Int)) = false := decide_eq_false (by omega)
    clear hbig
    obtain ⟨W, hW⟩ : ∃ W, W = w.alloc (.cells #[.string n, .string v, .bool b] 36) := ⟨_, rfl⟩
    have HW := hide hW
    rw [← hW] at R0 HB0
    clear hW
    obtain ⟨d0, d1, d2⟩ := row3 R0.out
    have hsz : W.heap.size = w.heap.size + 1 := by rw [HW.out]; simp
    have hlt : w.heap.size < W.heap.size := by omega
    clear hsz
    obtain ⟨b1, hb1⟩ : ∃ x, valB v = x := ⟨_, rfl⟩
    obtain ⟨b2, hb2⟩ : ∃ x, fieldB n v = x := ⟨_, rfl⟩
    have H1 := hide hb1
    have H2 := hide hb2
    clear hb1 hb2
    go_enter Try.func6, Try.ntmps6
    go_wp2_with fail
    cases b1 <;> cases b2
    all_goals
      go_region_held3 (fun w' : World => w'.cell? ⟨w.heap.size, 0, none⟩ = some (.string n) ∧ w'.cell? ⟨w.heap.size, 1, none⟩ = some (.string v) ∧ w'.cell? ⟨w.heap.size, 2, none⟩ = some (.bool b))
        ((first | exact ⟨d0, d1, d2⟩ | (go_keep; done)))
        ((first
          | (go_at_call 31; (with_reducible refine (value_any _ _ hv).mono ?_); rintro e w' ⟨rfl, rfl⟩; rw [H1.out])
          | (go_at_call 32; (with_reducible refine (rvalue_any _ _ hv).mono ?_); rintro e w' ⟨rfl, rfl⟩; rw [H1.out])
          | (go_at_call 33; (with_reducible refine (field_any _ _ _ _ hn hv).mono ?_); rintro e w' ⟨rfl, rfl⟩; rw [H2.out])
          | (go_at_call 34; (with_reducible refine (rfield_any _ _ _ _ hn hv).mono ?_); rintro e w' ⟨rfl, rfl⟩; rw [H2.out])
          | (go_at_call 26; (with_reducible refine (alive25 _).mono ?_); rintro e w' ⟨rfl, rfl⟩)))
    all_goals
      go_wp2_with fail
      go_ret
      exact ⟨rfl, ((((Below.refl _ _).alloc (Nat.le_refl _) _).alloc (by simp) _).alloc (by simp; omega) _).drew⟩
end Go.Proofs.Ytkdldcmeiihbcaa
