/- Layer 28: the example; the walks of MessageChecks and MessagePromise. -/
import Derived.Test.YtpfhiimlloeciaaDoorMg4
namespace Go.Proofs.YtpfhiimlloeciaaDoor
open Go.RowKit Go.PlainAid

def ex28 : Nat → Fd := fun i => [(⟨⟨#[58, 115, 116, 97, 116, 117, 115]⟩, ⟨#[50, 48, 48]⟩, false⟩ : Fd), ⟨⟨#[99, 111, 110, 110, 101, 99, 116, 105, 111, 110]⟩, ⟨#[99, 108, 111, 115, 101]⟩, false⟩].getD i default
theorem ex28_r : ChkR 1 ex28 2 ⟨#[]⟩ 0 0 false 29 := by
  refine .inr (.inl ⟨decide_eq_false ?_, decide_eq_true ⟨1, by omega, by decide +kernel⟩, rfl, rfl, rfl, rfl, rfl⟩)
  rintro ⟨i, hi, h⟩
  have : i = 0 ∨ i = 1 := by omega
  rcases this with rfl | rfl
  · exact absurd h (by decide +kernel)
  · exact absurd h (by decide +kernel)
set_option maxRecDepth 100000 in
set_option maxHeartbeats 1600000 in
theorem alive28 (w : World) (T : TypeId) (fr : Nat × Nat) (hg : w.heap[2]? = some (.cells barV T fr)) : Calls Tryd.prog 31 #[] w (Yes w) := by
  have a1 := (OwnV.lit 3 64 0 w (fdV ex28) #[.string ⟨#[58, 115, 116, 97, 116, 117, 115]⟩, .string ⟨#[50, 48, 48]⟩, .bool false, .string ⟨#[99, 111, 110, 110, 101, 99, 116, 105, 111, 110]⟩, .string ⟨#[99, 108, 111, 115, 101]⟩, .bool false] 2 (Nat.zero_le _) (by simp [maxLen]) rfl).rdS2
  have hsm : ∀ i, i < 2 → (ex28 i).name.size ≤ 1000 ∧ (ex28 i).val.size ≤ 1000 := fun i hi => by
    have : i = 0 ∨ i = 1 := by omega
    rcases this with rfl | rfl <;> decide +kernel
  have A1 := hide (rdFd_of_rdV a1 (fun i hi => by have := hsm i hi; simp only [maxLen]; omega))
  have Hs := hide hsm
  have al := (Below.refl w.heap.size w).alloc (Nat.le_refl _) (.cells #[.string ⟨#[58, 115, 116, 97, 116, 117, 115]⟩, .string ⟨#[50, 48, 48]⟩, .bool false, .string ⟨#[99, 111, 110, 110, 101, 99, 116, 105, 111, 110]⟩, .string ⟨#[99, 108, 111, 115, 101]⟩, .bool false] 64)
  have G1 := hide ((al.block _ (rowLt hg)).trans hg)
  have B1 := hide al
  clear a1 hsm al hg
  go_enter Tryd.func31, Tryd.ntmps31
  go_wp2_with fail
  refine (check28 1 _ 2 _ ex28 _ A1.out Hs.out T fr G1.out).mono ?_
  rintro e w1 ⟨m, st, N, T', rule, rfl, hr, hb1⟩
  obtain ⟨rfl, rfl, rfl, rfl, rfl⟩ := hr.same ex28_r
  have B2 := hide ((B1.out.of hb1).alloc (Nat.le_trans B1.out.size hb1.size) (.cells #[.string ⟨#[]⟩, .int .i64 0, .int .i64 0, .bool false] 55))
  clear hr hb1
  go_wp2_with fail
  go_ret
  exact ⟨rfl, B2.out⟩
theorem chk_str (m : ByteArray) : (m.toList == m.toList) = true := beq_self_eq_true _
set_option maxRecDepth 100000 in
set_option maxHeartbeats 3200000 in
theorem checks_walk28 (kind : Int) (A : Option Addr) (n c : Nat) (F : Nat → Fd) (w : World) (ha : RdFd w A n c F) (T : TypeId) (fr : Nat × Nat) (hg : w.heap[2]? = some (.cells barV T fr)) : Calls Tryd.prog 7 #[.int .i64 kind, .slice A n c] w (Yes w) := by
  have Ha := hide ha
  have Hg := hide hg
  clear ha hg
  go_enter Tryd.func7, Tryd.ntmps7
  go_wp2_with fail
  refine (flarge_any A n c 60 200 F _ Ha.out).mono ?_
  rintro e w1 ⟨b, rfl, hd, hb⟩
  have B1 := hide (drawn_below hd w.heap.size)
  have A1 := hide (Ha.out.below (drawn_below hd _))
  have G1 := hide ((B1.out.block _ (rowLt Hg.out)).trans Hg.out)
  cases b with
  | true =>
    clear hd hb
    go_wp2_with fail
    refine (alive28 _ T fr G1.out).mono ?_
    rintro e w2 ⟨rfl, hb2⟩
    have B2 := hide (B1.out.of hb2)
    clear hb2
    go_wp2_with fail
    go_ret
    exact ⟨rfl, B2.out⟩
  | false =>
    have hn := (hb rfl).1
    have Hs : Hid (Sm28 F n) := fun i hi => by have := (hb rfl).2 i hi; omega
    clear hd hb
    go_wp2_with fail
    refine (check28 kind A n c F _ A1.out Hs.out T fr G1.out).mono ?_
    rintro e w2 ⟨m, st, N, T', rule, rfl, hr, hb2⟩
    have HR := hide hr
    have al2 := (Below.refl w2.heap.size w2).alloc (Nat.le_refl _) (.cells #[.string m, .int .i64 st, .int .i64 N, .bool T'] 55)
    have B2 := hide ((B1.out.of hb2).of al2)
    have A2 := hide ((A1.out.below hb2).below al2)
    have G2 := hide (((hb2.of al2).block _ (rowLt G1.out)).trans G1.out)
    have R2 := hide (heap_alloc_new w2 (.cells #[.string m, .int .i64 st, .int .i64 N, .bool T'] 55))
    clear hr hb2 al2 A1 G1 B1
    go_wp2_with fail
    refine (rcheck28 kind A n c F _ A2.out Hs.out (by omega)).mono ?_
    rintro e w3 ⟨m', st', N', T'', rule', rfl, hr, hb3⟩
    obtain ⟨rfl, rfl, rfl, rfl, rfl⟩ := HR.out.same hr
    have al3 := (Below.refl w3.heap.size w3).alloc (Nat.le_refl _) (.cells #[.string m, .int .i64 st, .int .i64 N, .bool T'] 59)
    have B3 := hide ((B2.out.of hb3).of al3)
    have G3 := hide (((hb3.of al3).block _ (rowLt G2.out)).trans G2.out)
    have R3 := hide (keepRow (keepRow R2.out hb3) al3)
    have Q3 := hide (heap_alloc_new w3 (.cells #[.string m, .int .i64 st, .int .i64 N, .bool T'] 59))
    clear hr hb3 al3 A2 G2 B2 HR R2
    obtain ⟨c0, c1, c2, c3⟩ := row4m R3.out
    obtain ⟨d0, d1, d2, d3⟩ := row4m Q3.out
    have e0 := chk_str m
    have e3 : (T' == T') = true := by simp
    go_wp2_with fail
    refine (alive28 _ T fr G3.out).mono ?_
    rintro e w4 ⟨rfl, hb4⟩
    have B4 := hide (B3.out.of hb4)
    clear hb4
    go_wp2_with fail
    go_ret
    exact ⟨rfl, B4.out⟩
/-- What is promised is asked safely. -/
theorem promise_r {F : Nat → Fd} {n : Nat} {m m2 : ByteArray} {st N st2 N2 rule rule2 : Int} {T T2 : Bool} (h : ChkR 0 F n m st N T rule) (k : ChkR 3 F n m2 st2 N2 T2 rule2) :
    (rule ≠ 0 ∧ rule2 = rule) ∨ (rule = 0 ∧ safeB m = true ∧ rule2 = 0 ∧ m = m2 ∧ st = st2 ∧ N = N2 ∧ T = T2) ∨ (rule = 0 ∧ safeB m = false ∧ rule2 = 34) := by
  have e1 : hdB 3 F n = hdB 0 F n := rfl
  have e2 : hdM 3 F n = hdM 0 F n := rfl
  have e3 : hdN 3 F n = hdN 0 F n := rfl
  unfold ChkR at k
  rw [e1, e2, e3] at k
  rcases h with ⟨a1, rfl, rfl, rfl, rfl, rfl⟩ | ⟨a1, a2, rfl, rfl, rfl, rfl, rfl⟩ | ⟨a1, a2, a3, rfl, rfl, rfl, rfl, rfl⟩ | ⟨a1, a2, a3, ⟨x, y, a4⟩, rfl, rfl, rfl, rfl, rfl⟩ | ⟨a1, a2, a3, ⟨x, y, a4⟩, ⟨a5, a6⟩, rfl, rfl, rfl, rfl, rfl⟩ | ⟨a1, a2, a3, a4, a5, rfl, rfl, rfl⟩
  all_goals
    rcases k with ⟨b1, rfl, rfl, rfl, rfl, rfl⟩ | ⟨b1, b2, rfl, rfl, rfl, rfl, rfl⟩ | ⟨b1, b2, b3, rfl, rfl, rfl, rfl, rfl⟩ | ⟨b1, b2, b3, ⟨x', y', b4⟩, rfl, rfl, rfl, rfl, rfl⟩ | ⟨b1, b2, b3, ⟨x', y', b4⟩, ⟨b5, b6⟩, rfl, rfl, rfl, rfl, rfl⟩ | ⟨b1, b2, b3, b4, b5, rfl, rfl, rfl⟩
    all_goals first
      | exact absurd a5 (by decide)
      | exact .inl ⟨by decide, rfl⟩
      | exact .inr (.inr ⟨rfl, b6, rfl⟩)
      | exact .inr (.inl ⟨rfl, b5 rfl, rfl, rfl, rfl, (a4.same b4).1, (a4.same b4).2.1⟩)
      | exact absurd (a4.same b4).2.2 (by decide)
      | exact absurd (a1.symm.trans b1) (by decide)
      | exact absurd (a2.symm.trans b2) (by decide)
      | exact absurd (a3.symm.trans b3) (by decide)
set_option maxRecDepth 100000 in
set_option maxHeartbeats 3200000 in
theorem promise_walk28 (A : Option Addr) (n c : Nat) (F : Nat → Fd) (w : World) (ha : RdFd w A n c F) (T : TypeId) (fr : Nat × Nat) (hg : w.heap[2]? = some (.cells barV T fr)) : Calls Tryd.prog 9 #[.slice A n c] w (Yes w) := by
  have Ha := hide ha
  have Hg := hide hg
  clear ha hg
  go_enter Tryd.func9, Tryd.ntmps9
  go_wp2_with fail
  refine (flarge_any A n c 60 200 F _ Ha.out).mono ?_
  rintro e w1 ⟨b, rfl, hd, hb⟩
  have B1 := hide (drawn_below hd w.heap.size)
  have A1 := hide (Ha.out.below (drawn_below hd _))
  have G1 := hide ((B1.out.block _ (rowLt Hg.out)).trans Hg.out)
  cases b with
  | true =>
    clear hd hb
    go_wp2_with fail
    refine (alive28 _ T fr G1.out).mono ?_
    rintro e w2 ⟨rfl, hb2⟩
    have B2 := hide (B1.out.of hb2)
    clear hb2
    go_wp2_with fail
    go_ret
    exact ⟨rfl, B2.out⟩
  | false =>
    have Hs : Hid (Sm28 F n) := fun i hi => by have := (hb rfl).2 i hi; omega
    clear hd hb
    go_wp2_with fail
    refine (check28 0 A n c F _ A1.out Hs.out T fr G1.out).mono ?_
    rintro e w2 ⟨m, st, N, T', rule, rfl, hr, hb2⟩
    have HR := hide hr
    have al2 := (Below.refl w2.heap.size w2).alloc (Nat.le_refl _) (.cells #[.string m, .int .i64 st, .int .i64 N, .bool T'] 55)
    have B2 := hide ((B1.out.of hb2).of al2)
    have A2 := hide ((A1.out.below hb2).below al2)
    have G2 := hide (((hb2.of al2).block _ (rowLt G1.out)).trans G1.out)
    have R2 := hide (heap_alloc_new w2 (.cells #[.string m, .int .i64 st, .int .i64 N, .bool T'] 55))
    clear hr hb2 al2 A1 G1 B1
    go_wp2_with fail
    refine (check28 3 A n c F _ A2.out Hs.out T fr G2.out).mono ?_
    rintro e w3 ⟨m', st', N', T'', rule', rfl, hr, hb3⟩
    have HP := hide (promise_r HR.out hr)
    have al3 := (Below.refl w3.heap.size w3).alloc (Nat.le_refl _) (.cells #[.string m', .int .i64 st', .int .i64 N', .bool T''] 55)
    have B3 := hide ((B2.out.of hb3).of al3)
    have G3 := hide (((hb3.of al3).block _ (rowLt G2.out)).trans G2.out)
    have R3 := hide (keepRow (keepRow R2.out hb3) al3)
    have Q3 := hide (heap_alloc_new w3 (.cells #[.string m', .int .i64 st', .int .i64 N', .bool T''] 55))
    clear hr hb3 al3 A2 G2 B2 HR R2
    obtain ⟨c0, c1, c2, c3⟩ := row4m R3.out
    obtain ⟨d0, d1, d2, d3⟩ := row4m Q3.out
    have e0 := chk_str m
    have e3 : (T' == T') = true := by simp
    have HS : Hid (safeB m = ((m.toList == [71, 69, 84]) || (m.toList == [72, 69, 65, 68]))) := rfl
    obtain ⟨g1, hg1⟩ : ∃ b, b = (m.toList == [71, 69, 84]) := ⟨_, rfl⟩
    obtain ⟨g2, hg2⟩ : ∃ b, b = (m.toList == [72, 69, 65, 68]) := ⟨_, rfl⟩
    have hg1' := hg1.symm
    have hg2' := hg2.symm
    rw [← hg1, ← hg2] at HS
    clear hg1 hg2
    rcases HP.out with ⟨p1, p2⟩ | ⟨p1, p2, p3, p4, p5, p6, p7⟩ | ⟨p1, p2, p3⟩
    · have hr0 : (rule != 0) = true := by simpa using p1
      subst p2
      clear p1 HP HS
      cases g1 <;> cases g2
      all_goals
        go_wp2_with fail
        refine (alive28 _ T fr G3.out).mono ?_
        rintro e w4 ⟨rfl, hb4⟩
        have B4 := hide (B3.out.of hb4)
        clear hb4
        go_wp2_with fail
        go_ret
        exact ⟨rfl, B4.out⟩
    · subst p1 p3 p4 p5 p6 p7
      rw [HS.out] at p2
      clear HP HS
      cases g1 <;> cases g2
      · cases p2
      all_goals
        clear p2
        go_wp2_with fail
        refine (alive28 _ T fr G3.out).mono ?_
        rintro e w4 ⟨rfl, hb4⟩
        have B4 := hide (B3.out.of hb4)
        clear hb4
        go_wp2_with fail
        go_ret
        exact ⟨rfl, B4.out⟩
    · subst p1 p3
      rw [HS.out] at p2
      clear HP HS
      cases g1 <;> cases g2
      rotate_left
      · cases p2
      · cases p2
      · cases p2
      clear p2
      go_wp2_with fail
      refine (alive28 _ T fr G3.out).mono ?_
      rintro e w4 ⟨rfl, hb4⟩
      have B4 := hide (B3.out.of hb4)
      clear hb4
      go_wp2_with fail
      go_ret
      exact ⟨rfl, B4.out⟩
end Go.Proofs.YtpfhiimlloeciaaDoor
