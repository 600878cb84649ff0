/- Layer 26: the walk of LengthOthers. -/
import Derived.Test.YtkdldcmeiihbcaaLen4
import Derived.Test.YtkdldcmeiihbcaaFd2
namespace Go.Proofs.Ytkdldcmeiihbcaa
open Go.RowKit Go.PlainAid

/-- G has F's fields, and f. -/
def Ins (F : Nat → Fd) (n : Nat) (G : Nat → Fd) (f : Fd) : Prop :=
  (∀ i, i < n → ∃ j, j < n + 1 ∧ G j = F i) ∧ (∀ j, j < n + 1 → G j = f ∨ ∃ i, i < n ∧ G j = F i) ∧ ∃ j, j < n + 1 ∧ G j = f
def insF (F : Nat → Fd) (a : Nat) (f : Fd) : Nat → Fd := catFd (a + 1) (catFd a F (fun _ => f)) (fun i => F (a + i))
theorem ins_of (F : Nat → Fd) (n a : Nat) (f : Fd) (ha : a ≤ n) : Ins F n (insF F a f) f := by
  have key : ∀ j, insF F a f j = if j < a then F j else if j = a then f else F (j - 1) := fun j => by
    unfold insF catFd
    by_cases h1 : j < a
    · simp [h1, show j < a + 1 by omega]
    · by_cases h2 : j = a
      · subst h2
        simp
      · have h3 : ¬ j < a + 1 := by omega
        simp only [h1, h2, h3, if_false]
        rw [show a + (j - (a + 1)) = j - 1 by omega]
  refine ⟨fun i hi => ?_, fun j hj => ?_, ⟨a, by omega, by rw [key]; simp⟩⟩
  · by_cases h : i < a
    · exact ⟨i, by omega, by rw [key, if_pos h]⟩
    · exact ⟨i + 1, by omega, by rw [key, if_neg (by omega), if_neg (by omega)]; simp⟩
  · rw [key]
    by_cases h1 : j < a
    · exact .inr ⟨j, by omega, by rw [if_pos h1]⟩
    · by_cases h2 : j = a
      · exact .inl (by rw [if_neg h1, if_pos h2])
      · exact .inr ⟨j - 1, by omega, by rw [if_neg h1, if_neg h2]⟩
theorem Ins.other {F G : Nat → Fd} {n : Nat} {f : Fd} {t : Option Int} (h : Ins F n G f) (hf : f.name ≠ CL) : OkL F n t ↔ OkL G (n + 1) t := by
  obtain ⟨h1, h2, _⟩ := h
  constructor
  · rintro ⟨a, b⟩
    refine ⟨fun j hj e => ?_, fun ht => ?_⟩
    · rcases h2 j hj with e2 | ⟨i, hi, e2⟩
      · rw [e2] at e; exact absurd e hf
      · rw [e2] at e ⊢; exact a i hi e
    · obtain ⟨i, hi, e⟩ := b ht
      obtain ⟨j, hj, e2⟩ := h1 i hi
      exact ⟨j, hj, by rw [e2]; exact e⟩
  · rintro ⟨a, b⟩
    refine ⟨fun i hi e => ?_, fun ht => ?_⟩
    · obtain ⟨j, hj, e2⟩ := h1 i hi
      have := a j hj (by rw [e2]; exact e)
      rw [e2] at this
      exact this
    · obtain ⟨j, hj, e⟩ := b ht
      rcases h2 j hj with e2 | ⟨i, hi, e2⟩
      · rw [e2] at e; exact absurd e hf
      · exact ⟨i, hi, by rw [← e2]; exact e⟩
theorem Ins.othersR {F G : Nat → Fd} {n : Nat} {f : Fd} {N M : Int} {T U B D : Bool} (h : Ins F n G f) (hf : f.name ≠ CL) (a : LenR F n N T B) (b : LenR G (n + 1) M U D) : N = M ∧ T = U ∧ B = D := by
  refine LenR.same (F := G) (n := n + 1) ?_ b
  rcases a with ⟨rfl, t, h1, rfl, rfl⟩ | ⟨rfl, rfl, rfl, h1⟩
  · exact .inl ⟨rfl, t, (h.other hf).1 h1, rfl, rfl⟩
  · exact .inr ⟨rfl, rfl, rfl, fun t ht => h1 t ((h.other hf).2 ht)⟩
/-- What holds with a length more. -/
theorem Ins.down {F G : Nat → Fd} {n : Nat} {f : Fd} {t : Option Int} (h : Ins F n G f) (hk : OkL G (n + 1) t) : ∃ u, OkL F n u ∧ (u ≠ none → u = t) := by
  obtain ⟨h1, _, _⟩ := h
  by_cases e : ∃ i, i < n ∧ (F i).name = CL
  · refine ⟨t, ⟨fun i hi e => ?_, fun _ => e⟩, fun _ => rfl⟩
    obtain ⟨j, hj, e2⟩ := h1 i hi
    have := hk.1 j hj (by rw [e2]; exact e)
    rw [e2] at this
    exact this
  · exact ⟨none, ⟨fun i hi e2 => absurd ⟨i, hi, e2⟩ e, fun h => absurd rfl h⟩, fun h => absurd rfl h⟩
theorem Ins.told {F G : Nat → Fd} {n : Nat} {f : Fd} {N M : Int} {T U : Bool} (h : Ins F n G f) (a : LenR F n N T true) (hT : T = true) (b : LenR G (n + 1) M U true) : N = M ∧ T = U := by
  rcases a with ⟨_, t, h1, rfl, rfl⟩ | ⟨h1, _⟩
  · rcases b with ⟨_, u, h2, rfl, rfl⟩ | ⟨h2, _⟩
    · obtain ⟨z, hz, hz2⟩ := h.down h2
      obtain rfl := h1.same hz
      have : t ≠ none := fun e => by rw [e] at hT; cases hT
      rw [hz2 this]
      exact ⟨rfl, rfl⟩
    · cases h2
  · cases h1
theorem Ins.may {F G : Nat → Fd} {n : Nat} {f : Fd} {N M : Int} {T U B D : Bool} (h : Ins F n G f) (a : LenR F n N T B) (b : LenR G (n + 1) M U D) : D = true → B = true := by
  rintro rfl
  rcases b with ⟨_, u, h2, _⟩ | ⟨h2, _⟩
  · obtain ⟨z, hz, _⟩ := h.down h2
    rcases a with ⟨rfl, _⟩ | ⟨_, _, _, h1⟩
    · rfl
    · exact absurd hz (h1 _)
  · cases h2
set_option maxRecDepth 100000 in
set_option maxHeartbeats 6400000 in
theorem lengthOthers_walk (A : Option Addr) (n c : Nat) (F : Nat → Fd) (fn fv : ByteArray) (fb : Bool) (at_ : Int) (w : World) (ha : RdFd w A n c F) (hfn : fn.size ≤ 9223372036854775807) (hfv : fv.size ≤ 9223372036854775807) :
    Calls Try.prog 8 #[.slice A n c, .agg #[.string fn, .string fv, .bool fb], .int .i64 at_] w (Yes w) := by
  obtain ⟨i0, hi, hz0, hz1, hz2⟩ := info_parts fd_info
  obtain ⟨W, hW⟩ : ∃ W, W = w.alloc (.cells #[.string fn, .string fv, .bool fb] 36) := ⟨_, rfl⟩
  have R0 : Hid (W.heap[w.heap.size]? = some (.cells #[.string fn, .string fv, .bool fb] 36 (0, 0))) := by rw [hW]; exact heap_alloc_new w _
  have HB0 : Hid (Below w.heap.size w W) := by rw [hW]; exact (Below.refl _ _).alloc (Nat.le_refl _) _
  have Ha := hide (ha.below HB0.out)
  have hnle := ha.le
  have HW := hide hW
  clear ha hW
  go_enter Try.func8, Try.ntmps8
  go_wp2_with fail
  rw [← HW.out]
  refine (flarge_any A n c 60 200 F W Ha.out).mono ?_
  rintro e w1 ⟨b, rfl, hd, hb⟩
  have HB1 := hide (HB0.out.of (drawn_below hd _))
  have Ha1 := hide (Ha.out.below (drawn_below hd _))
  have R1 := hide (keepRow R0.out (drawn_below hd _))
  obtain ⟨d0, d1, d2⟩ := row3 R1.out
  have hl1 := rowLt R1.out
  by_cases hguard : b = true ∨ 200 < fn.size ∨ 200 < fv.size ∨ at_ < 0 ∨ (n : Int) < at_
  · clear hd hb
    cases b with
    | true =>
      clear hguard
      go_wp2_with fail
      refine (alive26 _).mono ?_
      rintro e w2 ⟨rfl, hb2⟩
      have HB2 := hide (HB1.out.of hb2)
      clear hb2
      go_wp2_with fail
      go_ret
      exact ⟨rfl, HB2.out⟩
    | false =>
      by_cases g1 : 200 < fn.size
      · have q1 : decide ((200 : Int) < (fn.size : Int)) = true := decide_eq_true (by omega)
        clear hguard
        go_wp2_with fail
        refine (alive26 _).mono ?_
        rintro e w2 ⟨rfl, hb2⟩
        have HB2 := hide (HB1.out.of hb2)
        clear hb2
        go_wp2_with fail
        go_ret
        exact ⟨rfl, HB2.out⟩
      have q1 : decide ((200 : Int) < (fn.size : Int)) = false := decide_eq_false (by omega)
      by_cases g2 : 200 < fv.size
      · have q2 : decide ((200 : Int) < (fv.size : Int)) = true := decide_eq_true (by omega)
        clear hguard
        go_wp2_with fail
        refine (alive26 _).mono ?_
        rintro e w2 ⟨rfl, hb2⟩
        have HB2 := hide (HB1.out.of hb2)
        clear hb2
        go_wp2_with fail
        go_ret
        exact ⟨rfl, HB2.out⟩
      have q2 : decide ((200 : Int) < (fv.size : Int)) = false := decide_eq_false (by omega)
      by_cases g3 : at_ < 0
      · have q3 : decide (at_ < 0) = true := decide_eq_true g3
        clear hguard
        go_wp2_with fail
        refine (alive26 _).mono ?_
        rintro e w2 ⟨rfl, hb2⟩
        have HB2 := hide (HB1.out.of hb2)
        clear hb2
        go_wp2_with fail
        go_ret
        exact ⟨rfl, HB2.out⟩
      have q3 : decide (at_ < 0) = false := decide_eq_false g3
      have g4 : (n : Int) < at_ := by rcases hguard with h | h | h | h | h <;> first | (cases h; done) | omega
      have q4 : decide ((n : Int) < at_) = true := decide_eq_true g4
      clear hguard
      go_wp2_with fail
      refine (alive26 _).mono ?_
      rintro e w2 ⟨rfl, hb2⟩
      have HB2 := hide (HB1.out.of hb2)
      clear hb2
      go_wp2_with fail
      go_ret
      exact ⟨rfl, HB2.out⟩
  · have hbf : b = false := by cases b <;> first | rfl | exact absurd (.inl rfl) hguard
    subst hbf
    have hn60 : n ≤ 60 := (hb rfl).1
    clear hd hb
    have q1 : decide ((200 : Int) < (fn.size : Int)) = false := decide_eq_false (by omega)
    have q2 : decide ((200 : Int) < (fv.size : Int)) = false := decide_eq_false (by omega)
    have q3 : decide (at_ < 0) = false := decide_eq_false (by omega)
    have q4 : decide ((n : Int) < at_) = false := decide_eq_false (by omega)
    obtain ⟨a, rfl⟩ : ∃ a : Nat, at_ = (a : Int) := ⟨at_.toNat, by omega⟩
    have han : a ≤ n := by omega
    have q5 : decide (n < a) = false := decide_eq_false (by omega)
    have q6 : ¬ n < a := by omega
    have hnc : n ≤ c := Ha.out.1
    clear hguard
    go_wp2_with fail
    refine (lenof_any A n c F _ Ha1.out).mono ?_
    rintro e w2 ⟨N, T, B, rfl, hR, hb2⟩
    have HR := hide hR
    have HB2 := hide (HB1.out.of hb2)
    have hs2 := HB2.out.size
    obtain ⟨W2, hW2⟩ : ∃ W2, W2 = w2.alloc (.cells #[.int .i64 N, .bool T] 41) := ⟨_, rfl⟩
    have HW2 := hide hW2
    have RX : Hid (W2.heap[w2.heap.size]? = some (.cells #[.int .i64 N, .bool T] 41 (0, 0))) := by rw [hW2]; exact heap_alloc_new w2 _
    have hst : Below w2.heap.size w2 W2 := by rw [hW2]; exact (Below.refl _ _).alloc (Nat.le_refl _) _
    have Ha2 := hide ((Ha1.out.below hb2).below hst)
    have R2 := hide (keepRow (keepRow R1.out hb2) hst)
    have HB3 := hide (HB2.out.of hst)
    clear hb2 hR hst hW2
    have hch := fun W => cutS_h (P := Try.prog) 38 36 3 Try.underlying38 fd_elem fd_size A n c a (by omega) .i64 W
    have hcl := fun W => cutS_l (P := Try.prog) 38 36 3 Try.underlying38 fd_elem fd_size A n c a han .i64 W
    have Hc1 : Hid (RdFd W2 (cutS 3 A c 0) a c F) := by
      have := Ha2.out.cutR (lo := 0) (hi := a) (Nat.zero_le _) han
      rw [show (fun i => F (0 + i)) = F from funext fun i => by rw [Nat.zero_add]] at this
      exact this
    have Hc2 : Hid (RdFd W2 (cutS 3 A c a) (n - a) (c - a) (fun i => F (a + i))) := Ha2.out.cutR (lo := a) (hi := n) han (Nat.le_refl _)
    generalize cutS 3 A c 0 = A1 at *
    generalize cutS 3 A c a = A2 at *
    obtain ⟨p0, p1, p2⟩ := row3 R2.out
    have Hc1' : Hid (RdFd (w2.alloc (.cells #[.int .i64 N, .bool T] 41)) A1 a c F) := by rw [← HW2.out]; exact Hc1.out
    have hsz2 : W2.heap.size ≤ (w2.alloc (.cells #[.int .i64 N, .bool T] 41)).heap.size := by rw [HW2.out]; exact Nat.le_refl _
    go_wp2_with (first
      | (at_builtin; refine wp_appV rfl (.tmp 42) (.tmp 45) _ rfl 3 i0 _ 40 Try.underlying38 hi hz0 hz1 hz2 rfl (by omega) W2.heap.size (.slice none 0 0) 0 (fdV F) rfl (OwnV.nil _ _ _ _ _) A1 a c _ rfl (rdV_of_rdFd Hc1'.out) (fdV_one _ _) (by simp only [maxLen]; omega) (by omega) hsz2 ?_; intro v3 w3 hown3 hg3 _; rw [← HW2.out] at hg3; have HK3 : Hid (Below W2.heap.size W2 w3) := (Below.refl _ _).grown hg3 (Nat.le_refl _) (fun j e => by cases e); have Ho3 := hide (hown3.alloc (.cells #[.string fn, .string fv, .bool fb] 36)); have HL3 := hide (HK3.out.alloc HK3.out.size (.cells #[.string fn, .string fv, .bool fb] 36)); have HR3 := hide (row3 (keepRow R2.out HK3.out)); obtain ⟨e0, e1, e2⟩ := HR3.out)
      | (at_builtin; refine wp_appV rfl (.tmp 47) (.tmp 49) _ rfl 3 i0 _ 40 Try.underlying38 hi hz0 hz1 hz2 rfl (by omega) W2.heap.size v3 (0 + a) _ rfl Ho3.out _ 1 1 _ rfl (rdV_oneFd w3 ⟨fn, fv, fb⟩ 36) (fdV_one _ _) (by simp only [maxLen]; omega) (by omega) HL3.out.size ?_; intro v4 w4 hown4 hg4 _; have HK4 := hide (HL3.out.grown hg4 HL3.out.size (fun j e => (World.ownsRow.lt Ho3.out j e).1)); have Ho4 := hide hown4)
      | (at_builtin; refine wp_appV rfl (.tmp 51) (.tmp 54) _ rfl 3 i0 _ 40 Try.underlying38 hi hz0 hz1 hz2 rfl (by omega) W2.heap.size v4 (0 + a + 1) _ rfl Ho4.out A2 (n - a) (c - a) _ rfl (rdV_of_rdFd (Hc2.out.below HK4.out)) (fdV_one _ _) (by simp only [maxLen]; omega) (by omega) HK4.out.size ?_; intro v5 w5 hown5 hg5 _; rw [show 0 + a + 1 + (n - a) = n + 1 by omega] at hown5; have HK5 := hide (HK4.out.grown hg5 HK4.out.size (fun j e => (World.ownsRow.lt Ho4.out j e).1)); have Ho5 := hide hown5))
    obtain ⟨A5, c5, rfl, hr5, _⟩ := Ho5.out.rd
    have hins := ins_of F n a ⟨fn, fv, fb⟩ han
    have eF : catV ((0 + a + 1) * 3) (catV ((0 + a) * 3) (catV (0 * 3) (fdV F) (fdV F)) (fdV (fun _ => (⟨fn, fv, fb⟩ : Fd)))) (fdV (fun i => F (a + i))) = fdV (insF F a ⟨fn, fv, fb⟩) := by
      have e0 : catFd 0 F F = F := by funext i; simp [catFd]
      rw [fdV_cat, e0, fdV_cat, fdV_cat, Nat.zero_add]
      rfl
    rw [eF] at hr5
    have Hr5 : Hid (RdFd w5 A5 (n + 1) c5 (insF F a ⟨fn, fv, fb⟩)) := rdFd_of_rdV hr5 fun i hi => by
      rcases hins.2.1 i hi with e | ⟨j, hj, e⟩
      · rw [e]
        simp only [maxLen]
        exact ⟨by show fn.size ≤ _; omega, by show fv.size ≤ _; omega⟩
      · rw [e]
        exact Ha2.out.2.2.2.2 j hj
    have Hins := hide hins
    have RX5 := hide (keepRow RX.out HK5.out)
    have RF5 := hide (keepRow R2.out HK5.out)
    have HB5 := hide (HB3.out.of HK5.out)
    clear hr5 eF hins
    go_wp2_with fail
    refine (lenof_any A5 (n + 1) c5 (insF F a ⟨fn, fv, fb⟩) _ Hr5.out).mono ?_
    rintro e w6 ⟨N', T', B', rfl, hR', hb6⟩
    have HR' := hide hR'
    have st : Below w6.heap.size w6 (w6.alloc (.cells #[.int .i64 N', .bool T'] 41)) := (Below.refl _ _).alloc (Nat.le_refl _) _
    have rx6 := keepRow RX5.out hb6
    have rf6 := keepRow RF5.out hb6
    have RX6 := hide (keepRow rx6 st)
    have RF6 := hide (keepRow rf6 st)
    have RY6 := hide (heap_alloc_new w6 (.cells #[.int .i64 N', .bool T'] 41))
    have HB6 := hide ((HB5.out.of hb6).of st)
    obtain ⟨x0, x1⟩ := row2 RX6.out
    obtain ⟨y0, y1⟩ := row2 RY6.out
    obtain ⟨f0, f1, f2⟩ := row3 RF6.out
    obtain ⟨g0, g1, g2⟩ := row3 rf6
    obtain ⟨h0, h1⟩ := row2 rx6
    have hlx := rowLt rx6
    have hlf := rowLt rf6
    clear hb6 st hR'
    by_cases hcl : fn = CL
    · have t1 : (!(fn.toList == [99, 111, 110, 116, 101, 110, 116, 45, 108, 101, 110, 103, 116, 104])) = false := by rw [cl_yes hcl]; rfl
      clear hcl rx6 rf6
      cases B with
      | false =>
        have hB' : B' = false := by
          cases B' with
          | false => rfl
          | true => exact absurd (Hins.out.may HR.out HR'.out rfl) (fun h => by cases h)
        subst hB'
        go_wp2_with fail
        refine (alive26 _).mono ?_
        rintro e w7 ⟨rfl, hb7⟩
        have HB7 := hide (HB6.out.of hb7)
        clear hb7
        go_wp2_with fail
        go_ret
        exact ⟨rfl, HB7.out⟩
      | true =>
        cases B' with
        | false =>
          go_wp2_with fail
          refine (alive26 _).mono ?_
          rintro e w7 ⟨rfl, hb7⟩
          have HB7 := hide (HB6.out.of hb7)
          clear hb7
          go_wp2_with fail
          go_ret
          exact ⟨rfl, HB7.out⟩
        | true =>
          cases T with
          | false =>
            go_wp2_with fail
            refine (alive26 _).mono ?_
            rintro e w7 ⟨rfl, hb7⟩
            have HB7 := hide (HB6.out.of hb7)
            clear hb7
            go_wp2_with fail
            go_ret
            exact ⟨rfl, HB7.out⟩
          | true =>
            obtain ⟨rfl, rfl⟩ := Hins.out.told HR.out rfl HR'.out
            go_wp2_with fail
            refine (alive26 _).mono ?_
            rintro e w7 ⟨rfl, hb7⟩
            have HB7 := hide (HB6.out.of hb7)
            clear hb7
            go_wp2_with fail
            go_ret
            exact ⟨rfl, HB7.out⟩
    · have t1 : (!(fn.toList == [99, 111, 110, 116, 101, 110, 116, 45, 108, 101, 110, 103, 116, 104])) = true := by rw [cl_no hcl]; rfl
      obtain ⟨rfl, rfl, rfl⟩ := Hins.out.othersR hcl HR.out HR'.out
      clear hcl rx6 rf6
      go_wp2_with fail
      refine (alive26 _).mono ?_
      rintro e w7 ⟨rfl, hb7⟩
      have HB7 := hide (HB6.out.of hb7)
      clear hb7
      go_wp2_with fail
      go_ret
      exact ⟨rfl, HB7.out⟩
end Go.Proofs.Ytkdldcmeiihbcaa
