/- Layer 26: the chapter's examples; the walk of LengthTold. -/
import Derived.Test.YtkdldcmeiihbcaaLen3
namespace Go.Proofs.Ytkdldcmeiihbcaa
open Go.RowKit Go.PlainAid

/-- Two fields of a literal. -/
def two (a b : ByteArray) : Nat → Fd := fun i => if i = 0 then ⟨CL, a, false⟩ else ⟨CL, b, false⟩
theorem rdfd_two (a b : ByteArray) (ha : a.size ≤ 100) (hb : b.size ≤ 100) (w : World) :
    RdFd (w.alloc (.cells #[.string CL, .string a, .bool false, .string CL, .string b, .bool false] 36)) (some ⟨w.heap.size, 0, none⟩) 2 2 (two a b) := by
  have h := heap_alloc_new w (.cells #[.string CL, .string a, .bool false, .string CL, .string b, .bool false] 36)
  have hc : CL.size ≤ maxLen := by decide
  refine ⟨Nat.le_refl _, by simp [maxLen], fun e => (by cases e), fun _ => ⟨_, _, rfl, fun i hi => ?_⟩, fun i hi => ?_⟩
  · have h2 : i = 0 ∨ i = 1 := by omega
    rcases h2 with rfl | rfl
    · refine ⟨?_, ?_, ?_⟩ <;> (rw [cell_of_row _ _ _ _ _ _ h]; rfl)
    · refine ⟨?_, ?_, ?_⟩ <;> (rw [cell_of_row _ _ _ _ _ _ h]; rfl)
  · unfold two
    have h1 : (100 : Nat) ≤ maxLen := by simp [maxLen]
    split
    · exact ⟨hc, Nat.le_trans ha h1⟩
    · exact ⟨hc, Nat.le_trans hb h1⟩
def e12 : ByteArray := ⟨#[49, 50]⟩
def e012 : ByteArray := ⟨#[48, 49, 50]⟩
def e13 : ByteArray := ⟨#[49, 51]⟩
theorem v12 : natN e12 MX = 12 ∧ natB e12 MX = true := by decide +kernel
theorem v012 : natN e012 MX = 12 ∧ natB e012 MX = true := by decide +kernel
theorem v13 : natN e13 MX = 13 ∧ natB e13 MX = true := by decide +kernel
theorem ex_one : LenR (two e12 e012) 2 12 true true := .inl ⟨rfl, some 12, ⟨fun i hi _ => by
  have h2 : i = 0 ∨ i = 1 := by omega
  rcases h2 with rfl | rfl
  · exact ⟨v12.2, by show _ = some (natN e12 MX); rw [v12.1]⟩
  · exact ⟨v012.2, by show _ = some (natN e012 MX); rw [v012.1]⟩, fun _ => ⟨0, by omega, rfl⟩⟩, rfl, rfl⟩
theorem ex_two : LenR (two e12 e13) 2 0 false false := .inr ⟨rfl, rfl, rfl, fun t h => by
  have a := (h.1 0 (by omega) rfl).2
  have b := (h.1 1 (by omega) rfl).2
  have a' : t = some (natN e12 MX) := a
  have b' : t = some (natN e13 MX) := b
  rw [v12.1] at a'
  rw [v13.1, a'] at b'
  exact absurd (Option.some.inj b') (by decide)⟩
set_option maxHeartbeats 1600000 in
theorem alive26 (w : World) : Calls Try.prog 36 #[] w (Yes w) := by
  go_enter Try.func36, Try.ntmps36
  go_wp2_with fail
  refine (lenof_any _ 2 2 (two e12 e012) _ (rdfd_two e12 e012 (by decide) (by decide) w)).mono ?_
  rintro e w1 ⟨N, T, B, rfl, hR, hb1⟩
  obtain ⟨rfl, rfl, rfl⟩ := hR.same ex_one
  have HB1 : Hid (Below w.heap.size w w1) := ((Below.refl w.heap.size w).alloc (Nat.le_refl _) (.cells #[.string CL, .string e12, .bool false, .string CL, .string e012, .bool false] 36)).of (hb1.mono (by simp))
  clear hb1 hR
  have RX := hide (heap_alloc_new w1 (.cells #[.int .i64 12, .bool true] 41))
  have rf := rdfd_two e12 e13 (by decide) (by decide) (w1.alloc (.cells #[.int .i64 12, .bool true] 41))
  have hs1 : (w1.alloc (.cells #[.int .i64 12, .bool true] 41)).heap.size = w1.heap.size + 1 := by simp
  rw [hs1] at rf
  have RF := hide rf
  clear rf hs1
  go_wp2_with fail
  refine (lenof_any _ 2 2 (two e12 e13) _ RF.out).mono ?_
  rintro e w2 ⟨N, T, B, rfl, hR, hb2⟩
  obtain ⟨rfl, rfl, rfl⟩ := hR.same ex_two
  have hk : Below w1.heap.size w1 w2 := (((Below.refl w1.heap.size w1).alloc (Nat.le_refl _) _).alloc (by simp) _).trans (hb2.mono (by simp; omega))
  have RX2 := hide (keepRow RX.out ((((Below.refl _ _).alloc (Nat.le_refl _) _)).trans (hb2.mono (by simp))))
  have HB2 := hide (HB1.out.of hk)
  obtain ⟨d0, d1⟩ := row2 RX2.out
  have hlt : w1.heap.size < w2.heap.size := rowLt RX2.out
  clear hb2 hR hk
  go_wp2_with fail
  go_ret
  exact ⟨rfl, HB2.out.alloc HB2.out.size _⟩
set_option maxHeartbeats 1600000 in
theorem lengthTold_walk (A : Option Addr) (n c : Nat) (F : Nat → Fd) (w : World) (ha : RdFd w A n c F) : Calls Try.prog 7 #[.slice A n c] w (Yes w) := by
  have Ha := hide ha
  clear ha
  go_enter Try.func7, Try.ntmps7
  go_wp2_with fail
  refine (flarge_any A n c 60 200 F _ Ha.out).mono ?_
  rintro e w1 ⟨b, rfl, hd, hb⟩
  have HB1 := hide (drawn_below hd w.heap.size)
  have Ha1 := hide (Ha.out.below (drawn_below hd _))
  cases b with
  | true =>
    clear hd hb
    go_wp2_with fail
    refine (alive26 _).mono ?_
    rintro e w2 ⟨rfl, hb2⟩
    have HB2 := hide (HB1.out.of hb2)
    clear hb2
    go_wp2_with fail
    go_ret
    exact ⟨rfl, HB2.out⟩
  | false =>
    have hn60 : n ≤ 60 := (hb rfl).1
    clear hd hb
    go_wp2_with fail
    refine (lenof_any A n c F _ Ha1.out).mono ?_
    rintro e w2 ⟨N, T, B, rfl, hR, hb2⟩
    have HR := hide hR
    have HB2 := hide (HB1.out.of hb2)
    have Ha2 := hide ((Ha1.out.below hb2).below ((Below.refl _ _).alloc (Nat.le_refl _) (.cells #[.int .i64 N, .bool T] 41)))
    have RX := hide (heap_alloc_new w2 (.cells #[.int .i64 N, .bool T] 41))
    clear hb2 hR
    go_wp2_with fail
    refine (rlenof_any A n c F _ Ha2.out (by omega)).mono ?_
    rintro e w3 ⟨N', T', B', rfl, hR', hb3⟩
    obtain ⟨rfl, rfl, rfl⟩ := hR'.same HR.out
    have RX3 := hide (keepRow RX.out hb3)
    have hk : Below w2.heap.size w2 w3 := ((Below.refl _ _).alloc (Nat.le_refl _) _).trans (hb3.mono (by simp))
    have HB3 := hide (HB2.out.of hk)
    obtain ⟨d0, d1⟩ := row2 RX3.out
    have hlt : w2.heap.size < w3.heap.size := rowLt RX3.out
    clear hb3 hR' hk
    go_wp2_with fail
    refine (alive26 _).mono ?_
    rintro e w4 ⟨rfl, hb4⟩
    have HB4 := hide (HB3.out.of hb4)
    clear hb4
    go_wp2_with fail
    go_ret
    exact ⟨rfl, HB4.out⟩
end Go.Proofs.Ytkdldcmeiihbcaa
