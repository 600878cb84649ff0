/- Layer 18: the contract of 'prefix.Get'. -/
import Derived.Test.YteijpklepgenbaaPfx4
namespace Go.Proofs.Yteijpklepgenbaa
open Go.RowKit

/-- 128 to the power of a byte's place behind the first one. -/
def un (k : Nat) : Int := 128 ^ (k - 1)
theorem un_succ {k : Nat} (h : 1 ≤ k) : un (k + 1) = un k * 128 := by
  obtain ⟨j, rfl⟩ : ∃ j, k = j + 1 := ⟨k - 1, by omega⟩
  exact Int.pow_succ ..
theorem un_bd {k : Nat} (h1 : 1 ≤ k) (h2 : k ≤ 6) : 1 ≤ un k ∧ un k ≤ 34359738368 := by
  have : k = 1 ∨ k = 2 ∨ k = 3 ∨ k = 4 ∨ k = 5 ∨ k = 6 := by omega
  rcases this with rfl | rfl | rfl | rfl | rfl | rfl <;> decide
theorem un_bd5 {k : Nat} (h1 : 1 ≤ k) (h2 : k ≤ 5) : 1 ≤ un k ∧ un k ≤ 268435456 := by
  have : k = 1 ∨ k = 2 ∨ k = 3 ∨ k = 4 ∨ k = 5 := by omega
  rcases this with rfl | rfl | rfl | rfl | rfl <;> decide
/-- The bytes behind the first one: the number, how many bytes, why not. -/
def gt (f : Nat → Int) (n : Nat) : Nat → Nat → Int → Int × Int × Int
  | 0, _, _ => (0, 0, 5)
  | fu + 1, k, acc => if n ≤ k then (0, 0, 3) else if f k < 128 then (if 2147483647 < acc + f k % 128 * un k then (0, 0, 5) else (acc + f k % 128 * un k, (k : Int) + 1, 0)) else gt f n fu (k + 1) (acc + f k % 128 * un k)
def pg (f : Nat → Int) (n : Nat) (b : Int) : Int × Int × Int :=
  if b < 1 ∨ 8 < b then (0, 0, 1) else if n = 0 then (0, 0, 3) else if f 0 % p8 b < p8 b - 1 then (f 0 % p8 b, 1, 0) else gt f n 5 1 (f 0 % p8 b)
def Got (R : Int × Int × Int) (w : World) (e : Ending) (w' : World) : Prop := e = .returned (.tuple #[.int .i64 R.1, .int .i64 R.2.1, .int .i64 R.2.2]) ∧ Drawn w w'
theorem gt_short {f : Nat → Int} {n fu k : Nat} {acc : Int} (h : n ≤ k) : gt f n (fu + 1) k acc = (0, 0, 3) := by simp [gt, h]
theorem gt_range {f : Nat → Int} {n fu k : Nat} {acc : Int} (h : k < n) (h1 : f k < 128) (h2 : 2147483647 < acc + f k % 128 * un k) : gt f n (fu + 1) k acc = (0, 0, 5) := by
  have : ¬ n ≤ k := by omega
  simp only [gt, if_neg this, if_pos h1, if_pos h2]
theorem gt_ok {f : Nat → Int} {n fu k : Nat} {acc : Int} (h : k < n) (h1 : f k < 128) (h2 : ¬ 2147483647 < acc + f k % 128 * un k) : gt f n (fu + 1) k acc = (acc + f k % 128 * un k, (k : Int) + 1, 0) := by
  have : ¬ n ≤ k := by omega
  simp only [gt, if_neg this, if_pos h1, if_neg h2]
theorem gt_more {f : Nat → Int} {n fu k : Nat} {acc : Int} (h : k < n) (h1 : ¬ f k < 128) : gt f n (fu + 1) k acc = gt f n fu (k + 1) (acc + f k % 128 * un k) := by
  have : ¬ n ≤ k := by omega
  simp only [gt, if_neg this, if_neg h1]

def JGet (W0 : World) (A : Option Addr) (n c : Nat) (f : Nat → Int) (R : Int × Int × Int) (a' : Act) (w' : World) : Prop :=
  ∃ (fu k : Nat) (acc z u : Int) (u1 u2 u3 u4 u5 u6 u10 u11 u12 u13 u14 u15 u16 u17 u18 u19 u20 u21 u22 u23 u24 u25 u26 u27 u28 u29 u30 u31 u32 u33 u34 u35 u36 u37 u38 u39 u40 u41 u42 u43 u44 u45 u46 u47 u48 u49 u50 u51 u52 u53 u54 u55 u56 u57 u58 : Value), a' = { tmps := #[.slice A n c, u1, u2, u3, u4, u5, u6, .int .i64 acc, .int .i64 z, .int .i64 u, u10, u11, u12, u13, u14, u15, u16, u17, u18, u19, u20, u21, u22, u23, u24, u25, u26, u27, u28, u29, u30, u31, u32, u33, u34, u35, u36, u37, u38, u39, u40, u41, u42, u43, u44, u45, u46, u47, u48, u49, u50, u51, u52, u53, u54, u55, u56, u57, u58], defers := [] } ∧ z = (k : Int) ∧ u = un k ∧ fu + k = 6 ∧ 1 ≤ k ∧ k ≤ n ∧ 0 ≤ acc ∧ acc ≤ 300 * un k ∧ gt f n fu k acc = R ∧ Drawn W0 w'
theorem jump_mono {l : Nat} {J J' : Act → World → Prop} {Q : Exit → Act → World → Prop} (h : ∀ a w, J a w → J' a w) : ∀ (e : Exit) (a : Act) (w : World), Exit.jump l J Q e a w → Exit.jump l J' Q e a w := by
  intro e a w he
  cases e with
  | goto l' => exact ⟨he.1, h a w he.2⟩
  | _ => exact he
theorem Got.no {w w' : World} {c : Int} {R : Int × Int × Int} (h : R = (0, 0, c)) (hd : Drawn w w') : Got R w (.returned (.tuple #[.int .i64 0, .int .i64 0, .int .i64 c])) w' := by
  subst h
  exact ⟨rfl, hd⟩
theorem Got.yes {w w' : World} {a b c : Int} {R : Int × Int × Int} (h : R = (a, b, c)) (hd : Drawn w w') : Got R w (.returned (.tuple #[.int .i64 a, .int .i64 b, .int .i64 c])) w' := by
  subst h
  exact ⟨rfl, hd⟩

theorem pget_arg (A : Option Addr) (n c : Nat) (b : Int) (w : World) (hb : b < 1 ∨ 8 < b) :
    Calls Try.prog 16 #[.slice A n c, .int .i64 b] w (Got (0, 0, 1) w) := by
  go_enter Try.func16, Try.ntmps16
  go_wp2
  go_step3
  go_wp2_with fail
  refine (wid_no b _ hb).mono ?_
  rintro e w' ⟨rfl, rfl⟩
  go_wp2_with fail
  try rw [Exit.noGoto_ret]
  go_ret3
  exact ⟨rfl, Drawn.refl _⟩
theorem pget_none (A : Option Addr) (c : Nat) (b : Int) (w : World) (h1 : 1 ≤ b) (h2 : b ≤ 8) :
    Calls Try.prog 16 #[.slice A 0 c, .int .i64 b] w (Got (0, 0, 3) w) := by
  go_enter Try.func16, Try.ntmps16
  go_wp2
  go_step3
  go_wp2_with fail
  refine (wid_yes b _ h1 h2).mono ?_
  rintro e w' ⟨rfl, rfl⟩
  go_wp2_with fail
  try rw [Exit.noGoto_ret]
  go_ret3
  exact ⟨rfl, Drawn.refl _⟩

set_option maxRecDepth 100000 in
set_option maxHeartbeats 3200000 in
theorem pget_ok (A : Option Addr) (n c : Nat) (f : Nat → Int) (b : Int) (w : World) (ha : Rd .u8 w A n c f) (hb : Byt n f) (h0 : 0 < n) (hn : n ≤ 100000) (h1 : 1 ≤ b) (h2 : b ≤ 8) :
    Calls Try.prog 16 #[.slice A n c, .int .i64 b] w (Got (pg f n b) w) := by
  have Ha := hide ha
  have Hb := hide hb
  have hb8 := p8_bd h1 h2
  have hb0 := hb 0 h0
  obtain ⟨x0, hx0⟩ : ∃ x, f 0 % p8 b = x := ⟨_, rfl⟩
  have hx1 : 0 ≤ x0 := by rw [← hx0]; exact Int.emod_nonneg _ (by omega)
  have hx2 : x0 < p8 b := by rw [← hx0]; exact Int.emod_lt_of_pos _ (by omega)
  have hand : bits .and .i64 (f 0) (p8 b - 1) = x0 := by rw [and_p8 hb0.1 hb0.2 h1 h2, hx0]
  obtain ⟨R, hR⟩ : ∃ R, pg f n b = R := ⟨_, rfl⟩
  rw [hR]
  have hR' : (if x0 < p8 b - 1 then (x0, 1, 0) else gt f n 5 1 x0) = R := by
    rw [← hR]
    unfold pg
    have e0 : ¬ (b < 1 ∨ 8 < b) := by omega
    have e1 : ¬ n = 0 := by omega
    rw [if_neg e0, if_neg e1, hx0]
  have HR := hide hR'
  have Hx0 := hide hx0
  clear ha hb hR hR' hx0
  obtain ⟨b0, off, rfl, hc0⟩ := Ha.out.at_ (i := 0) h0
  have hn0 : (0 : Int) < (n : Int) := by omega
  have hn0' : 0 < n := h0
  simp only [Nat.add_zero] at hc0
  by_cases hs : x0 < p8 b - 1
  · have d1 : decide (x0 < p8 b - 1) = true := by simpa using hs
    have d2 : ((n : Int) == 0) = false := by simp; omega
    have Hs : Hid (R = (x0, 1, 0)) := by
      have := HR.out
      rw [if_pos hs] at this
      exact this.symm
    go_enter Try.func16, Try.ntmps16
    go_wp2
    go_step3
    go_wp2_with fail
    refine (wid_yes b _ h1 h2).mono ?_
    rintro e w' ⟨rfl, rfl⟩
    go_wp2_with fail
    go_quiet ((go_at_call 25; exact Calls.quiet_of_same ((full_any _ _ h1 h2).mono fun _ _ hh => ⟨hh.1, hh.2.symm⟩)))
    go_wp2_with fail
    refine (full_any b _ h1 h2).mono ?_
    rintro e w' ⟨rfl, rfl⟩
    go_wp2_with fail
    try rw [Exit.noGoto_ret]
    go_ret3
    exact Got.yes Hs.out (Drawn.of _ _)
  · have d1 : decide (x0 < p8 b - 1) = false := by simpa using hs
    have d2 : ((n : Int) == 0) = false := by simp; omega
    have Hs : Hid (gt f n 5 1 x0 = R) := by
      have := HR.out
      rw [if_neg hs] at this
      exact this
    go_enter Try.func16, Try.ntmps16
    go_wp2
    refine (fun (key : ∀ a w', JGet w (some ⟨b0, off, none⟩) n c f R a w' → Code.wp Try.prog _ (Exit.jump 0 (fun a2 w2 => JGet w (some ⟨b0, off, none⟩) n c f R a2 w2 ∧ (6 - intOf (a2.tmps.getD 8 undef)).toNat < (6 - intOf (a.tmps.getD 8 undef)).toNat) _) a w') => wp_scope_jumps 0 (JGet w (some ⟨b0, off, none⟩) n c f R) (fun a' _ => (6 - intOf (a'.tmps.getD 8 undef)).toNat) rfl ?_ (fun a w' h => wp_seq (wp_skip (key a w' h)))) ?_
    · go_wp2_with fail
      refine (wid_yes b _ h1 h2).mono ?_
      rintro e w' ⟨rfl, rfl⟩
      go_wp2_with fail
      go_quiet ((go_at_call 25; exact Calls.quiet_of_same ((full_any _ _ h1 h2).mono fun _ _ hh => ⟨hh.1, hh.2.symm⟩)))
      go_wp2_with fail
      refine (full_any b _ h1 h2).mono ?_
      rintro e w' ⟨rfl, rfl⟩
      go_wp2_with fail
      go_step3
      rename_i K hK
      refine hK _ _ ?_
      refine Code.wp_mono (jump_mono fun _ _ h => h.1) (key _ _ ⟨5, 1, x0, _, _, _, _, _, _, _, _, _, _, _, _, _, _, _, _, _, _, _, _, _, _, _, _, _, _, _, _, _, _, _, _, _, _, _, _, _, _, _, _, _, _, _, _, _, _, _, _, _, _, _, _, _, _, _, _, _, rfl, rfl, rfl, rfl, Nat.le_refl _, h0, hx1, by have : un 1 = 1 := rfl; omega, Hs.out, Drawn.of _ _⟩)
    · clear Hs hc0 hand d1 hs
      rintro a' w' ⟨fu, k, acc, z, u, u1, u2, u3, u4, u5, u6, u10, u11, u12, u13, u14, u15, u16, u17, u18, u19, u20, u21, u22, u23, u24, u25, u26, u27, u28, u29, u30, u31, u32, u33, u34, u35, u36, u37, u38, u39, u40, u41, u42, u43, u44, u45, u46, u47, u48, u49, u50, u51, u52, u53, u54, u55, u56, u57, u58, rfl, rfl, hu, hfu, hk, hkn, ha0, ha1, hgt, hd⟩
      obtain ⟨q, rfl⟩ := hd
      have Hu := hide hu
      have Hgt := hide hgt
      have Hfu := hide hfu
      have hk6 : k ≤ 6 := by omega
      rcases fu with _ | fu
      · have hk5 : decide (5 < (k : Int)) = true := by simp; omega
        have Hr : Hid (R = (0, 0, 5)) := Hgt.out.symm
        clear hu hgt hfu
        go_wp2_with fail
        simp only [Exit.jump]
        go_ret3
        exact Got.no Hr.out (Drawn.of _ _)
      have hk5 : decide (5 < (k : Int)) = false := by simp; omega
      have hk55 : k ≤ 5 := by omega
      by_cases he : k = n
      · have Hr : Hid (R = (0, 0, 3)) := Hgt.out.symm.trans (gt_short (by omega))
        have dk : ((k : Int) == (n : Int)) = true := by simp; omega
        have dk' : (k == n) = true := by simpa using he
        have He := hide he
        clear hu hgt hfu he
        go_wp2_with fail
        simp only [Exit.jump]
        go_ret3
        exact Got.no Hr.out (Drawn.of _ _)
      have dk : ((k : Int) == (n : Int)) = false := by simp; omega
      have dk' : (k == n) = false := by simpa using he
      have hlt : k < n := by omega
      have hlt' : (k : Int) < (n : Int) := by omega
      have hk0 : (0 : Int) ≤ (k : Int) := by omega
      obtain ⟨b1, o1, e1, hc1⟩ := Ha.out.at_ hlt
      obtain ⟨rfl, rfl⟩ : b0 = b1 ∧ off = o1 := by simpa using e1
      have hbk := Hb.out k hlt
      have hbk0 := hbk.1
      have hbk1 := hbk.2
      have hub := un_bd5 hk hk55
      rw [← hu] at hub ha1
      have hu0 : 0 ≤ u := by omega
      have hu1 : u ≤ 268435456 := hub.2
      obtain ⟨X, hX⟩ : ∃ X, f k % 128 * u = X := ⟨_, rfl⟩
      have hX0 : 0 ≤ f k % 128 * u := Int.mul_nonneg (by omega) hu0
      have hX1 : f k % 128 * u ≤ 127 * u := Int.mul_le_mul_of_nonneg_right (by omega) hu0
      have hX2 : f k % 128 * u ≤ 34091302912 := by omega
      have hs0 : 0 ≤ acc + f k % 128 * u := by omega
      have hs1 : acc + f k % 128 * u ≤ 300 * (u * 128) := by omega
      have hs2 : acc + f k % 128 * u ≤ 10307921510400 := by omega
      have hu2 : u * 128 ≤ 34359738368 := by omega
      have Hs1 := hide hs1
      have HX := hide hX
      have hkk : ((k : Int) + 1) - 1 = (k : Int) := by omega
      clear hgt hfu hu he e1 hX hs1 hX1
      by_cases h128 : f k < 128
      · have dg1 : decide (128 ≤ f k) = false := by simp; omega
        by_cases hbig : 2147483647 < acc + f k % 128 * u
        · have dg2 : decide (2147483647 < acc + f k % 128 * u) = true := by simpa using hbig
          have Hr : Hid (R = (0, 0, 5)) := Hgt.out.symm.trans (gt_range hlt h128 (by rw [← Hu.out]; exact hbig))
          go_wp2_with fail
          simp only [Exit.jump]
          go_ret3
          exact Got.no Hr.out (Drawn.of _ _)
        · have dg2 : decide (2147483647 < acc + f k % 128 * u) = false := by simpa using hbig
          have Hr : Hid (R = (acc + f k % 128 * u, (k : Int) + 1, 0)) := Hgt.out.symm.trans (by rw [Hu.out]; exact gt_ok hlt h128 (by rw [← Hu.out]; exact hbig))
          go_wp2_with fail
          simp only [Exit.jump]
          go_ret3
          exact Got.yes Hr.out (Drawn.of _ _)
      · have dg1 : decide (128 ≤ f k) = true := by simp; omega
        have Hr : Hid (gt f n fu (k + 1) (acc + f k % 128 * u) = R) := by
          have h := Hgt.out
          rw [gt_more hlt h128, ← Hu.out] at h
          exact h
        have Hu' : Hid (u * 128 = un (k + 1)) := by
          show _ = _
          rw [un_succ hk, Hu.out]
        go_wp2_with fail
        go_step3
        refine ⟨rfl, ⟨fu, k + 1, _, _, _, _, _, _, _, _, _, _, _, _, _, _, _, _, _, _, _, _, _, _, _, _, _, _, _, _, _, _, _, _, _, _, _, _, _, _, _, _, _, _, _, _, _, _, _, _, _, _, _, _, _, _, _, _, _, _, rfl, by omega, Hu'.out, by have := Hfu.out; omega, by omega, hlt, hs0, by rw [← Hu'.out]; exact Hs1.out, Hr.out, Drawn.of _ _⟩, ?_⟩
        show Int.toNat (6 - ((k : Int) + 1)) < Int.toNat (6 - (k : Int))
        omega
end Go.Proofs.Yteijpklepgenbaa
