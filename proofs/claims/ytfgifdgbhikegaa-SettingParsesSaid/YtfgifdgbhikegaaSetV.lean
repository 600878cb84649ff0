/- Layer 13: the walks of SettingParses and SettingPuts. -/
import Derived.Test.YtfgifdgbhikegaaSetW
namespace Go.Proofs.Ytfgifdgbhikegaa
open Go.RowKit

theorem numS_congrB {f g : Nat → Int} {k : Nat} (h : ∀ i, i < k → f i = g i) : num f k = num g k := by
  induction k with
  | zero => rfl
  | succ k ih => simp only [num]; rw [ih (fun i hi => h i (by omega)), h k (by omega)]
theorem byteAt_num {n : Nat} {f : Nat → Int} (hb : Byt n f) (s : Nat) (h1 : 1 ≤ s) (h2 : s ≤ 4) (h3 : s ≤ n) (i : Nat) (hi : i < s) : byteAt (num f s) s i = f i := by
  have := put_num (s : Int) n f (oneF 0) hb (by omega) (by omega) (by omega) i (by simpa using hi)
  simpa [putF, catF] using this
theorem shiftB {n : Nat} {f : Nat → Int} (hb : Byt n f) (k : Nat) : Byt (n - k) (fun j => f (k + j)) := fun j hj => hb (k + j) (by omega)
theorem sets_ok {n m : Nat} {f : Nat → Int} (hb : Byt n f) (hm : n = m * 6) : ∀ i, i < m → okS (sF f) (sG f) i := by
  intro i hi
  have h1 := num_bd (shiftB hb (i * 6)) 2 (by omega) (by omega)
  have h2 := num_bd (shiftB hb (i * 6 + 2)) 4 (by omega) (by omega)
  have h1' := h1.2
  have h2' := h2.2
  simp at h1' h2'
  exact ⟨⟨h1.1, h1'⟩, h2.1, h2'⟩
theorem sB_back {n m : Nat} {f : Nat → Int} (hb : Byt n f) (hm : n = m * 6) : ∀ j, j < n → sB (sF f) (sG f) j = f j := by
  intro j hj
  unfold sB
  by_cases h : j % 6 < 2
  · rw [if_pos h]
    have := byteAt_num (shiftB hb (j / 6 * 6)) 2 (by omega) (by omega) (by omega) (j % 6) h
    rw [show j / 6 * 6 + j % 6 = j by omega] at this
    exact this
  · rw [if_neg h]
    have := byteAt_num (shiftB hb (j / 6 * 6 + 2)) 4 (by omega) (by omega) (by omega) (j % 6 - 2) (by omega)
    rw [show j / 6 * 6 + 2 + (j % 6 - 2) = j by omega] at this
    exact this
theorem byteAt_rng (v : Int) (s i : Nat) : 0 ≤ byteAt v s i ∧ byteAt v s i ≤ 255 := by unfold byteAt; omega
theorem sB_byt (F G : Nat → Int) (n : Nat) : Byt n (sB F G) := by
  intro j _
  unfold sB
  split
  · exact byteAt_rng _ _ _
  · exact byteAt_rng _ _ _
theorem sF_back {F G : Nat → Int} {i : Nat} (h : okS F G i) : sF (sB F G) i = F i := by
  unfold sF
  rw [numS_congrB (g := putF 0 (oneF 0) 2 (F i)) (fun j hj => by
    unfold sB
    rw [show (i * 6 + j) % 6 = j by omega, show (i * 6 + j) / 6 = i by omega, if_pos hj]
    simp [putF, catF])]
  exact num_putN (F i) 2 _ (by omega) (by omega) h.1.1 (by rw [pw2]; exact h.1.2)
theorem sG_back {F G : Nat → Int} {i : Nat} (h : okS F G i) : sG (sB F G) i = G i := by
  unfold sG
  rw [numS_congrB (g := putF 0 (oneF 0) 4 (G i)) (fun j hj => by
    unfold sB
    rw [show (i * 6 + 2 + j) % 6 = 2 + j by omega, show (i * 6 + 2 + j) / 6 = i by omega, if_neg (by omega), show 2 + j - 2 = j by omega]
    simp [putF, catF])]
  exact num_putN (G i) 4 _ (by omega) (by omega) h.2.1 (by rw [pw4]; exact h.2.2)

set_option maxHeartbeats 3200000 in
theorem parses_walk (A : Option Addr) (n c : Nat) (f : Nat → Int) (w : World) (ha : Rd .u8 w A n c f) (hb : Byt n f) : Calls Try.prog 8 #[.slice A n c] w (Yes w) := by
  have Ha := hide ha
  have Hb := hide hb
  clear ha hb
  by_cases hl : 1000 < n
  · have hd : decide ((1000 : Int) < (n : Int)) = true := by simp; omega
    go_enter Try.func8, Try.ntmps8
    go_wp2_with fail
    refine (alive13 _).mono ?_
    rintro e w4 ⟨rfl, hb4⟩
    go_wp2_with fail
    go_ret
    exact ⟨rfl, hb4⟩
  have hd : decide ((1000 : Int) < (n : Int)) = false := by simp; omega
  by_cases h6 : n % 6 = 0
  · have hm : n = n / 6 * 6 := by omega
    obtain ⟨m, hmm⟩ : ∃ m, m = n / 6 := ⟨_, rfl⟩
    rw [← hmm] at hm
    have Hm := hide hm
    have Hok := hide (sets_ok Hb.out hm)
    have Hbk := hide (sB_back Hb.out hm)
    have hmn : m ≤ n := by omega
    clear h6 hm hmm
    go_enter Try.func8, Try.ntmps8
    go_wp2_with fail
    refine (sparse_ok A n c m f _ Ha.out Hb.out (by omega) Hm.out).mono ?_
    rintro e w1 ⟨A1, c1, rfl, hr1, hb1⟩
    have Hr1 := hide hr1
    have HB1 := hide hb1
    clear hr1 hb1
    go_wp2_with fail
    refine (rsparse A n c f _ (Ha.out.below HB1.out) Hb.out (by omega)).mono ?_
    rintro e w2 (⟨m', hm', A2, c2, rfl, hr2, hb2⟩ | ⟨hno, _⟩)
    case inr => exact absurd (by have := Hm.out; omega) hno
    obtain rfl : m' = m := by have := Hm.out; omega
    have Hr2 := hide hr2
    have HB2 := hide (HB1.out.of hb2)
    have Hr1' := hide (Hr1.out.below hb2)
    clear hm' hr2 hb2 Hr1 HB1
    go_wp2_with fail
    refine (rsame2_yes _ _ _ _ _ _ _ _ _ _ Hr1'.out Hr2.out (fun _ _ => rfl) (fun _ _ => rfl)).mono ?_
    rintro e w3 ⟨rfl, hd3⟩
    have HB3 := hide (HB2.out.trans (drawn_below hd3 _))
    have Hr3 := hide (Hr1'.out.below (drawn_below hd3 _))
    clear hd3 Hr1' Hr2 HB2
    go_wp2_with fail
    refine (sput_any A1 _ c1 _ _ _ Hr3.out (by omega)).mono ?_
    rintro e w4 (⟨_, A4, c4, he, hr4, hb4⟩ | ⟨hno, _⟩)
    case inr => exact absurd Hok.out hno
    rw [← Hm.out] at he hr4
    subst he
    have Hr4 := hide hr4
    have HB4 := hide (HB3.out.of hb4)
    clear hr4 hb4 HB3
    go_wp2_with fail
    refine (rsame_yes _ _ _ _ _ _ _ _ Hr4.out (Ha.out.below HB4.out) Hbk.out).mono ?_
    rintro e w5 ⟨rfl, hd5⟩
    have HB5 := hide (HB4.out.trans (drawn_below hd5 _))
    clear hd5
    go_wp2_with fail
    refine (alive13 _).mono ?_
    rintro e w6 ⟨rfl, hb6⟩
    go_wp2_with fail
    go_ret
    exact ⟨rfl, HB5.out.of hb6⟩
  · have H6 := hide h6
    clear h6
    go_enter Try.func8, Try.ntmps8
    go_wp2_with fail
    refine (sparse_bad A n c _ (by omega) H6.out).mono ?_
    rintro e w1 ⟨rfl, rfl⟩
    go_wp2_with fail
    refine (rsparse A n c f _ Ha.out Hb.out (by omega)).mono ?_
    rintro e w2 (⟨m', hm', _⟩ | ⟨_, rfl, hb2⟩)
    case inl => exact absurd (by omega) H6.out
    have HB2 := hide hb2
    clear hb2
    go_wp2_with fail
    refine (rsame2_yes none none 0 0 0 (oneF 0) (oneF 0) (oneF 0) (oneF 0) _ (Rd2.nil _ _ _) (Rd2.nil _ _ _) (fun _ _ => rfl) (fun _ _ => rfl)).mono ?_
    rintro e w3 ⟨rfl, hd3⟩
    have HB3 := hide (HB2.out.trans (drawn_below hd3 _))
    clear hd3
    go_wp2_with fail
    refine (alive13 _).mono ?_
    rintro e w6 ⟨rfl, hb6⟩
    go_wp2_with fail
    go_ret
    exact ⟨rfl, HB3.out.of hb6⟩

set_option maxHeartbeats 3200000 in
theorem sputs_walk (A : Option Addr) (n c : Nat) (F G : Nat → Int) (w : World) (ha : Rd2 w A n c F G) : Calls Try.prog 9 #[.slice A n c] w (Yes w) := by
  have Ha := hide ha
  clear ha
  by_cases hl : 100 < n
  · have hd : decide ((100 : Int) < (n : Int)) = true := by simp; omega
    go_enter Try.func9, Try.ntmps9
    go_wp2_with fail
    refine (alive13 _).mono ?_
    rintro e w4 ⟨rfl, hb4⟩
    go_wp2_with fail
    go_ret
    exact ⟨rfl, hb4⟩
  have hd : decide ((100 : Int) < (n : Int)) = false := by simp; omega
  by_cases hall : ∀ i, i < n → okS F G i
  · have Hall := hide hall
    clear hall
    go_enter Try.func9, Try.ntmps9
    go_wp2_with fail
    refine (sput_any A n c F G _ Ha.out (by omega)).mono ?_
    rintro e w1 (⟨_, A1, c1, rfl, hr1, hb1⟩ | ⟨hno, _⟩)
    case inr => exact absurd Hall.out hno
    have Hr1 := hide hr1
    have HB1 := hide hb1
    clear hr1 hb1
    go_wp2_with fail
    refine (rsput_any A n c F G _ (Ha.out.below HB1.out) (by omega)).mono ?_
    rintro e w2 (⟨_, A2, c2, rfl, hr2, hb2⟩ | ⟨hno, _⟩)
    case inr => exact absurd Hall.out hno
    have Hr2 := hide hr2
    have HB2 := hide (HB1.out.of hb2)
    have Hr1' := hide (Hr1.out.below hb2)
    clear hr2 hb2 Hr1 HB1
    go_wp2_with fail
    refine (rsame_yes _ _ _ _ _ _ _ _ Hr1'.out Hr2.out (fun _ _ => rfl)).mono ?_
    rintro e w3 ⟨rfl, hd3⟩
    have HB3 := hide (HB2.out.trans (drawn_below hd3 _))
    have Hr3 := hide (Hr1'.out.below (drawn_below hd3 _))
    clear hd3 Hr1' Hr2 HB2
    go_wp2_with fail
    refine (sparse_ok A1 (n * 6) c1 n _ _ Hr3.out (sB_byt F G _) (by omega) rfl).mono ?_
    rintro e w4 ⟨A4, c4, rfl, hr4, hb4⟩
    have Hr4 := hide hr4
    have HB4 := hide (HB3.out.of hb4)
    clear hr4 hb4 HB3
    go_wp2_with fail
    refine (rsame2_yes _ _ _ _ _ _ _ _ _ _ Hr4.out (Ha.out.below HB4.out) (fun i hi => sF_back (Hall.out i hi)) (fun i hi => sG_back (Hall.out i hi))).mono ?_
    rintro e w5 ⟨rfl, hd5⟩
    have HB5 := hide (HB4.out.trans (drawn_below hd5 _))
    clear hd5
    go_wp2_with fail
    refine (alive13 _).mono ?_
    rintro e w6 ⟨rfl, hb6⟩
    go_wp2_with fail
    go_ret
    exact ⟨rfl, HB5.out.of hb6⟩
  · have Hall := hide hall
    clear hall
    go_enter Try.func9, Try.ntmps9
    go_wp2_with fail
    refine (sput_any A n c F G _ Ha.out (by omega)).mono ?_
    rintro e w1 (⟨hyes, _⟩ | ⟨_, rfl, hb1⟩)
    case inl => exact absurd hyes Hall.out
    have HB1 := hide hb1
    clear hb1
    go_wp2_with fail
    refine (rsput_any A n c F G _ (Ha.out.below HB1.out) (by omega)).mono ?_
    rintro e w2 (⟨hyes, _⟩ | ⟨_, rfl, hb2⟩)
    case inl => exact absurd hyes Hall.out
    have HB2 := hide (HB1.out.of hb2)
    clear hb2 HB1
    go_wp2_with fail
    refine (rsame_yes none none 0 0 0 (oneF 0) (oneF 0) _ (Rd.nil _ _ _) (Rd.nil _ _ _) (fun _ _ => rfl)).mono ?_
    rintro e w3 ⟨rfl, hd3⟩
    have HB3 := hide (HB2.out.trans (drawn_below hd3 _))
    clear hd3
    go_wp2_with fail
    refine (alive13 _).mono ?_
    rintro e w6 ⟨rfl, hb6⟩
    go_wp2_with fail
    go_ret
    exact ⟨rfl, HB3.out.of hb6⟩
end Go.Proofs.Ytfgifdgbhikegaa
