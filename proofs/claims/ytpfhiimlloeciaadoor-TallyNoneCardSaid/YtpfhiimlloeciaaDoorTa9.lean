/- Layer 29: no data come behind what has none. -/
import Derived.Test.YtpfhiimlloeciaaDoorTa8
import Derived.Deep.Cut
namespace Go.Proofs.YtpfhiimlloeciaaDoor
open Go.RowKit Go.PlainAid

theorem field_info29 : (Tryd.prog.info? 64).map (fun i => (i.zero, i.size, i.bytes)) = some (some (.agg #[.string ⟨#[]⟩, .string ⟨#[]⟩, .bool false]), 3, 40) := by kernel_rfl
theorem dt_pos29 {n : Int} (h : 0 < n) : dtO 0 1 1 0 n true = (.agg #[.int .i64 0, .int .i64 0, .int .i64 0, .int .i64 0], 32) := by
  unfold dtO
  rw [decide_eq_true h]
  rfl
set_option maxRecDepth 100000 in
set_option maxHeartbeats 6400000 in
theorem none_a29 (n : Int) (told : Bool) (w : World) (T : TypeId) (fr : Nat × Nat) (hg : w.heap[2]? = some (.cells barV T fr)) : Calls Tryd.prog 12 #[.int .i64 0, .int .i64 n, .bool told] w (Yes w) := by
  have Hg := hide hg
  clear hg
  skip
  go_enter Tryd.func12, Tryd.ntmps12
  cases told with
  | false =>
    have a1 := (OwnV.lit 3 64 0 w (fdV an200n) #[.string ⟨#[58, 115, 116, 97, 116, 117, 115]⟩, .string ⟨#[50, 48, 48]⟩, .bool false] 1 (Nat.zero_le _) (by simp [maxLen]) rfl).rdS2
    have A1 := hide (rdFd_of_rdV a1 (fun i hi => by have := an200n_r_s i hi; simp only [maxLen]; omega))
    have Hs : Hid (Sm28 an200n 1) := an200n_r_s
    have al := (Below.refl w.heap.size w).alloc (Nat.le_refl _) (.cells #[.string ⟨#[58, 115, 116, 97, 116, 117, 115]⟩, .string ⟨#[50, 48, 48]⟩, .bool false] 64)
    have G1 := hide ((al.block _ (rowLt Hg.out)).trans Hg.out)
    have B1 := hide al
    clear a1 al Hg
    go_upto_region 12 with (fail)
    generalize w.alloc (.cells #[.string ⟨#[58, 115, 116, 97, 116, 117, 115]⟩, .string ⟨#[50, 48, 48]⟩, .bool false] 64) = W1 at *
    go_wp2_with fail
    refine (answers29 ⟨#[72, 69, 65, 68]⟩ _).mono ?_
    rw [show ansF ⟨#[72, 69, 65, 68]⟩ = 2 by decide +kernel]
    rintro e w2a ⟨rfl, hb2a⟩
    have A2a := hide (A1.out.below hb2a)
    have G2a := hide ((hb2a.block _ (rowLt G1.out)).trans G1.out)
    have B2a := hide (B1.out.of hb2a)
    clear hb2a A1 G1 B1
    go_wp2_with fail
    refine (head29 2 0 0 _ 1 _ an200n false _ A2a.out Hs.out T fr G2a.out (mm := ⟨#[]⟩) (st := 200) (N := 0) (T' := false) an200n_r (by decide) (fun h => by first | (cases h; done) | decide +kernel)).mono ?_
    rw [show behM 2 ⟨#[]⟩ 200 false = 1 by decide +kernel, show behL 2 ⟨#[]⟩ 200 0 false = 0 by decide +kernel]
    rintro e w2 ⟨rfl, hb2⟩
    have al1 := (Below.refl w2.heap.size w2).alloc (Nat.le_refl _) (.cells #[.int .i64 0, .int .i64 1, .int .i64 1, .int .i64 0] 70)
    have al2 := (Below.refl (w2.alloc (.cells #[.int .i64 0, .int .i64 1, .int .i64 1, .int .i64 0] 70)).heap.size (w2.alloc (.cells #[.int .i64 0, .int .i64 1, .int .i64 1, .int .i64 0] 70))).alloc (Nat.le_refl _) (.cells #[.string ⟨#[]⟩, .int .i64 200, .int .i64 0, .bool false] 55)
    have A2 := hide (A2a.out.below (hb2.of (al1.of al2)))
    have G2 := hide (((hb2.of (al1.of al2)).block _ (rowLt G2a.out)).trans G2a.out)
    have B2 := hide (B2a.out.of (hb2.of (al1.of al2)))
    have R2 := hide (keepRow (heap_alloc_new w2 (.cells #[.int .i64 0, .int .i64 1, .int .i64 1, .int .i64 0] 70)) al2)
    clear hb2 al1 al2 A2a G2a B2a
    go_wp2_with fail
    refine (answers29 ⟨#[72, 69, 65, 68]⟩ _).mono ?_
    rw [show ansF ⟨#[72, 69, 65, 68]⟩ = 2 by decide +kernel]
    rintro e w3a ⟨rfl, hb3a⟩
    have A3a := hide (A2.out.below hb3a)
    have G3a := hide ((hb3a.block _ (rowLt G2.out)).trans G2.out)
    have B3a := hide (B2.out.of hb3a)
    have R2a := hide (keepRow R2.out hb3a)
    clear hb3a A2 G2 B2
    go_wp2_with fail
    refine (head29 2 0 0 _ 1 _ an200n true _ A3a.out Hs.out T fr G3a.out (mm := ⟨#[]⟩) (st := 200) (N := 0) (T' := false) an200n_r (by decide) (fun h => by first | (cases h; done) | decide +kernel)).mono ?_
    rw [show behM 2 ⟨#[]⟩ 200 false = 1 by decide +kernel, show behL 2 ⟨#[]⟩ 200 0 false = 0 by decide +kernel]
    rintro e w3 ⟨rfl, hb3⟩
    have al1 := (Below.refl w3.heap.size w3).alloc (Nat.le_refl _) (.cells #[.int .i64 0, .int .i64 2, .int .i64 0, .int .i64 0] 70)
    have al2 := (Below.refl (w3.alloc (.cells #[.int .i64 0, .int .i64 2, .int .i64 0, .int .i64 0] 70)).heap.size (w3.alloc (.cells #[.int .i64 0, .int .i64 2, .int .i64 0, .int .i64 0] 70))).alloc (Nat.le_refl _) (.cells #[.string ⟨#[]⟩, .int .i64 200, .int .i64 0, .bool false] 55)
    have A3 := hide (A3a.out.below (hb3.of (al1.of al2)))
    have G3 := hide (((hb3.of (al1.of al2)).block _ (rowLt G3a.out)).trans G3a.out)
    have B3 := hide (B3a.out.of (hb3.of (al1.of al2)))
    have R3 := hide (keepRow (heap_alloc_new w3 (.cells #[.int .i64 0, .int .i64 2, .int .i64 0, .int .i64 0] 70)) al2)
    have R2b := hide (keepRow R2a.out (hb3.of (al1.of al2)))
    clear hb3 al1 al2 A3a G3a B3a
    obtain ⟨c0, c1, c2, c3⟩ := row4m R2b.out
    by_cases hn : 0 < n
    · have q1 : decide (0 < n) = true := decide_eq_true hn
      go_wp2_with fail
      refine (data29 0 1 1 0 n n true _ (by omega) (by decide) (by decide)).mono ?_
      rw [dt_pos29 hn]
      clear hn
      rintro e w4 ⟨rfl, hb4⟩
      have al4 := (Below.refl w4.heap.size w4).alloc (Nat.le_refl _) (.cells #[.int .i64 0, .int .i64 0, .int .i64 0, .int .i64 0] 70)
      have B4 := hide (B3.out.of (hb4.of al4))
      have G4 := hide (((hb4.of al4).block _ (rowLt G3.out)).trans G3.out)
      have R4 := hide (keepRow R3.out (hb4.of al4))
      have Q4 := hide (heap_alloc_new w4 (.cells #[.int .i64 0, .int .i64 0, .int .i64 0, .int .i64 0] 70))
      clear hb4 al4 B3 G3 R3 R2b c0 c1 c2 c3 A3
      obtain ⟨c0, c1, c2, c3⟩ := row4m R4.out
      go_wp2_with fail
      refine (over29 0 2 0 0 _).mono ?_
      rw [show ((2 : Int) == 2) = true by rfl]
      rintro e w5 ⟨rfl, hb5⟩
      have B5 := hide (B4.out.of hb5)
      have G5 := hide ((hb5.block _ (rowLt G4.out)).trans G4.out)
      have Q5 := hide (keepRow Q4.out hb5)
      clear hb5 B4 G4 R4 Q4 c0 c1 c2 c3
      obtain ⟨c0, c1, c2, c3⟩ := row4m Q5.out
      go_wp2_with fail
      refine (over29 0 0 0 0 _).mono ?_
      rw [show ((0 : Int) == 2) = false by rfl]
      rintro e w6 ⟨rfl, hb6⟩
      have B6 := hide (B5.out.of hb6)
      have G6 := hide ((hb6.block _ (rowLt G5.out)).trans G5.out)
      clear hb6 B5 G5 Q5 c0 c1 c2 c3
      go_wp2_with fail
      refine (alive29 _ T fr G6.out).mono ?_
      rintro e w7 ⟨rfl, hb7⟩
      have B7 := hide (B6.out.of hb7)
      clear hb7
      go_wp2_with fail
      go_ret
      exact ⟨rfl, B7.out⟩
    · have q1 : decide (0 < n) = false := decide_eq_false hn
      go_wp2_with fail
      refine (data29 0 1 1 0 n 0 true _ (by omega) (by decide) (by decide)).mono ?_
      rw [show dtO 0 1 1 0 0 true = (.agg #[.int .i64 0, .int .i64 2, .int .i64 0, .int .i64 0], 0) by rfl]
      clear hn
      rintro e w4 ⟨rfl, hb4⟩
      have al4 := (Below.refl w4.heap.size w4).alloc (Nat.le_refl _) (.cells #[.int .i64 0, .int .i64 2, .int .i64 0, .int .i64 0] 70)
      have B4 := hide (B3.out.of (hb4.of al4))
      have G4 := hide (((hb4.of al4).block _ (rowLt G3.out)).trans G3.out)
      have R4 := hide (keepRow R3.out (hb4.of al4))
      have Q4 := hide (heap_alloc_new w4 (.cells #[.int .i64 0, .int .i64 2, .int .i64 0, .int .i64 0] 70))
      clear hb4 al4 B3 G3 R3 R2b c0 c1 c2 c3 A3
      obtain ⟨c0, c1, c2, c3⟩ := row4m R4.out
      go_wp2_with fail
      refine (over29 0 2 0 0 _).mono ?_
      rw [show ((2 : Int) == 2) = true by rfl]
      rintro e w5 ⟨rfl, hb5⟩
      have B5 := hide (B4.out.of hb5)
      have G5 := hide ((hb5.block _ (rowLt G4.out)).trans G4.out)
      have Q5 := hide (keepRow Q4.out hb5)
      clear hb5 B4 G4 R4 Q4 c0 c1 c2 c3
      obtain ⟨c0, c1, c2, c3⟩ := row4m Q5.out
      go_wp2_with fail
      refine (over29 0 2 0 0 _).mono ?_
      rw [show ((2 : Int) == 2) = true by rfl]
      rintro e w6 ⟨rfl, hb6⟩
      have B6 := hide (B5.out.of hb6)
      have G6 := hide ((hb6.block _ (rowLt G5.out)).trans G5.out)
      clear hb6 B5 G5 Q5 c0 c1 c2 c3
      go_wp2_with fail
      refine (alive29 _ T fr G6.out).mono ?_
      rintro e w7 ⟨rfl, hb7⟩
      have B7 := hide (B6.out.of hb7)
      clear hb7
      go_wp2_with fail
      go_ret
      exact ⟨rfl, B7.out⟩
  | true =>
    obtain ⟨i0, hi, hz0, hz1, hz2⟩ := info_parts field_info29
    have al := (Below.refl w.heap.size w).alloc (Nat.le_refl _) (.cells #[.string ⟨#[58, 115, 116, 97, 116, 117, 115]⟩, .string ⟨#[50, 48, 48]⟩, .bool false] 64)
    have X0 : Hid (OwnV 3 64 w.heap.size ((w.alloc (.cells #[.string ⟨#[58, 115, 116, 97, 116, 117, 115]⟩, .string ⟨#[50, 48, 48]⟩, .bool false] 64)).alloc (.cells #[.string ⟨#[99, 111, 110, 116, 101, 110, 116, 45, 108, 101, 110, 103, 116, 104]⟩, .string ⟨#[55]⟩, .bool false] 64)) (.slice (some ⟨w.heap.size, 0, none⟩) 1 1) 1 (fdV (fun _ => (⟨⟨#[58, 115, 116, 97, 116, 117, 115]⟩, ⟨#[50, 48, 48]⟩, false⟩ : Fd)))) := (OwnV.lit 3 64 w.heap.size w (fdV (fun _ => (⟨⟨#[58, 115, 116, 97, 116, 117, 115]⟩, ⟨#[50, 48, 48]⟩, false⟩ : Fd))) #[.string ⟨#[58, 115, 116, 97, 116, 117, 115]⟩, .string ⟨#[50, 48, 48]⟩, .bool false] 1 (Nat.le_refl _) (by simp [maxLen]) rfl).alloc _
    have Y0 : Hid (RdV 3 ((w.alloc (.cells #[.string ⟨#[58, 115, 116, 97, 116, 117, 115]⟩, .string ⟨#[50, 48, 48]⟩, .bool false] 64)).alloc (.cells #[.string ⟨#[99, 111, 110, 116, 101, 110, 116, 45, 108, 101, 110, 103, 116, 104]⟩, .string ⟨#[55]⟩, .bool false] 64)) (some ⟨w.heap.size + 1, 0, none⟩) 1 1 (fdV (fun _ => (⟨⟨#[99, 111, 110, 116, 101, 110, 116, 45, 108, 101, 110, 103, 116, 104]⟩, ⟨#[55]⟩, false⟩ : Fd)))) := by
      have h := rdV_oneFd (w.alloc (.cells #[.string ⟨#[58, 115, 116, 97, 116, 117, 115]⟩, .string ⟨#[50, 48, 48]⟩, .bool false] 64)) ⟨⟨#[99, 111, 110, 116, 101, 110, 116, 45, 108, 101, 110, 103, 116, 104]⟩, ⟨#[55]⟩, false⟩ 64
      have e : (w.alloc (.cells #[.string ⟨#[58, 115, 116, 97, 116, 117, 115]⟩, .string ⟨#[50, 48, 48]⟩, .bool false] 64)).heap.size = w.heap.size + 1 := by simp
      rw [e] at h
      exact h
    have Hs : Hid (Sm28 an200t 2) := an200t_r_s
    have HE : Hid (Below w.heap.size w ((w.alloc (.cells #[.string ⟨#[58, 115, 116, 97, 116, 117, 115]⟩, .string ⟨#[50, 48, 48]⟩, .bool false] 64)).alloc (.cells #[.string ⟨#[99, 111, 110, 116, 101, 110, 116, 45, 108, 101, 110, 103, 116, 104]⟩, .string ⟨#[55]⟩, .bool false] 64))) := al.alloc (by simp) _
    have hsz : w.heap.size ≤ ((w.alloc (.cells #[.string ⟨#[58, 115, 116, 97, 116, 117, 115]⟩, .string ⟨#[50, 48, 48]⟩, .bool false] 64)).alloc (.cells #[.string ⟨#[99, 111, 110, 116, 101, 110, 116, 45, 108, 101, 110, 103, 116, 104]⟩, .string ⟨#[55]⟩, .bool false] 64)).heap.size := HE.out.size
    clear al
    go_upto_region 12 with (at_builtin; refine wp_appV rfl (.tmp 27) (.tmp 29) _ rfl 3 i0 _ 40 Tryd.underlying50 hi hz0 hz1 hz2 rfl (by omega) w.heap.size _ 1 (fdV (fun _ => (⟨⟨#[58, 115, 116, 97, 116, 117, 115]⟩, ⟨#[50, 48, 48]⟩, false⟩ : Fd))) rfl X0.out _ 1 1 (fdV (fun _ => (⟨⟨#[99, 111, 110, 116, 101, 110, 116, 45, 108, 101, 110, 103, 116, 104]⟩, ⟨#[55]⟩, false⟩ : Fd))) rfl Y0.out (fdV_one _ _) (by simp only [maxLen]; omega) (by omega) hsz ?_; intro v1 W1 hown1 hg1 hob1; obtain ⟨Aa, ca, rfl, _, _⟩ := hown1.rd)
    have hb1 : Below w.heap.size w W1 := HE.out.grown hg1 hsz (fun j e => by cases e; exact Nat.le_refl _)
    have A1 : Hid (RdFd W1 Aa 2 ca an200t) := by
      have h := hown1.rdS2
      rw [fdV_cat] at h
      refine rdFd_of_rdV ⟨h.1, h.2.1, h.2.2.1, fun hn => ?_⟩ (fun i hi => by have := an200t_r_s i hi; simp only [maxLen]; omega)
      obtain ⟨b, off, hA, hc⟩ := h.2.2.2 hn
      refine ⟨b, off, hA, fun i hi => ?_⟩
      rw [hc i hi]
      congr 1
      refine fdV_congr (n := 2) (fun i hi => ?_) i hi
      have : i = 0 ∨ i = 1 := by omega
      rcases this with rfl | rfl <;> rfl
    have G1 := hide ((hb1.block _ (rowLt Hg.out)).trans Hg.out)
    have B1 := hide hb1
    clear hown1 hg1 hob1 X0 Y0 HE hsz hb1 Hg hi hz0 hz1 hz2
    go_wp2_with fail
    refine (answers29 ⟨#[72, 69, 65, 68]⟩ _).mono ?_
    rw [show ansF ⟨#[72, 69, 65, 68]⟩ = 2 by decide +kernel]
    rintro e w2a ⟨rfl, hb2a⟩
    have A2a := hide (A1.out.below hb2a)
    have G2a := hide ((hb2a.block _ (rowLt G1.out)).trans G1.out)
    have B2a := hide (B1.out.of hb2a)
    clear hb2a A1 G1 B1
    go_wp2_with fail
    refine (head29 2 0 0 _ 2 _ an200t false _ A2a.out Hs.out T fr G2a.out (mm := ⟨#[]⟩) (st := 200) (N := 7) (T' := true) an200t_r (by decide) (fun h => by first | (cases h; done) | decide +kernel)).mono ?_
    rw [show behM 2 ⟨#[]⟩ 200 true = 1 by decide +kernel, show behL 2 ⟨#[]⟩ 200 7 true = 0 by decide +kernel]
    rintro e w2 ⟨rfl, hb2⟩
    have al1 := (Below.refl w2.heap.size w2).alloc (Nat.le_refl _) (.cells #[.int .i64 0, .int .i64 1, .int .i64 1, .int .i64 0] 70)
    have al2 := (Below.refl (w2.alloc (.cells #[.int .i64 0, .int .i64 1, .int .i64 1, .int .i64 0] 70)).heap.size (w2.alloc (.cells #[.int .i64 0, .int .i64 1, .int .i64 1, .int .i64 0] 70))).alloc (Nat.le_refl _) (.cells #[.string ⟨#[]⟩, .int .i64 200, .int .i64 7, .bool true] 55)
    have A2 := hide (A2a.out.below (hb2.of (al1.of al2)))
    have G2 := hide (((hb2.of (al1.of al2)).block _ (rowLt G2a.out)).trans G2a.out)
    have B2 := hide (B2a.out.of (hb2.of (al1.of al2)))
    have R2 := hide (keepRow (heap_alloc_new w2 (.cells #[.int .i64 0, .int .i64 1, .int .i64 1, .int .i64 0] 70)) al2)
    clear hb2 al1 al2 A2a G2a B2a
    go_wp2_with fail
    refine (answers29 ⟨#[72, 69, 65, 68]⟩ _).mono ?_
    rw [show ansF ⟨#[72, 69, 65, 68]⟩ = 2 by decide +kernel]
    rintro e w3a ⟨rfl, hb3a⟩
    have A3a := hide (A2.out.below hb3a)
    have G3a := hide ((hb3a.block _ (rowLt G2.out)).trans G2.out)
    have B3a := hide (B2.out.of hb3a)
    have R2a := hide (keepRow R2.out hb3a)
    clear hb3a A2 G2 B2
    go_wp2_with fail
    refine (head29 2 0 0 _ 2 _ an200t true _ A3a.out Hs.out T fr G3a.out (mm := ⟨#[]⟩) (st := 200) (N := 7) (T' := true) an200t_r (by decide) (fun h => by first | (cases h; done) | decide +kernel)).mono ?_
    rw [show behM 2 ⟨#[]⟩ 200 true = 1 by decide +kernel, show behL 2 ⟨#[]⟩ 200 7 true = 0 by decide +kernel]
    rintro e w3 ⟨rfl, hb3⟩
    have al1 := (Below.refl w3.heap.size w3).alloc (Nat.le_refl _) (.cells #[.int .i64 0, .int .i64 2, .int .i64 0, .int .i64 0] 70)
    have al2 := (Below.refl (w3.alloc (.cells #[.int .i64 0, .int .i64 2, .int .i64 0, .int .i64 0] 70)).heap.size (w3.alloc (.cells #[.int .i64 0, .int .i64 2, .int .i64 0, .int .i64 0] 70))).alloc (Nat.le_refl _) (.cells #[.string ⟨#[]⟩, .int .i64 200, .int .i64 7, .bool true] 55)
    have A3 := hide (A3a.out.below (hb3.of (al1.of al2)))
    have G3 := hide (((hb3.of (al1.of al2)).block _ (rowLt G3a.out)).trans G3a.out)
    have B3 := hide (B3a.out.of (hb3.of (al1.of al2)))
    have R3 := hide (keepRow (heap_alloc_new w3 (.cells #[.int .i64 0, .int .i64 2, .int .i64 0, .int .i64 0] 70)) al2)
    have R2b := hide (keepRow R2a.out (hb3.of (al1.of al2)))
    clear hb3 al1 al2 A3a G3a B3a
    obtain ⟨c0, c1, c2, c3⟩ := row4m R2b.out
    by_cases hn : 0 < n
    · have q1 : decide (0 < n) = true := decide_eq_true hn
      go_wp2_with fail
      refine (data29 0 1 1 0 n n true _ (by omega) (by decide) (by decide)).mono ?_
      rw [dt_pos29 hn]
      clear hn
      rintro e w4 ⟨rfl, hb4⟩
      have al4 := (Below.refl w4.heap.size w4).alloc (Nat.le_refl _) (.cells #[.int .i64 0, .int .i64 0, .int .i64 0, .int .i64 0] 70)
      have B4 := hide (B3.out.of (hb4.of al4))
      have G4 := hide (((hb4.of al4).block _ (rowLt G3.out)).trans G3.out)
      have R4 := hide (keepRow R3.out (hb4.of al4))
      have Q4 := hide (heap_alloc_new w4 (.cells #[.int .i64 0, .int .i64 0, .int .i64 0, .int .i64 0] 70))
      clear hb4 al4 B3 G3 R3 R2b c0 c1 c2 c3 A3
      obtain ⟨c0, c1, c2, c3⟩ := row4m R4.out
      go_wp2_with fail
      refine (over29 0 2 0 0 _).mono ?_
      rw [show ((2 : Int) == 2) = true by rfl]
      rintro e w5 ⟨rfl, hb5⟩
      have B5 := hide (B4.out.of hb5)
      have G5 := hide ((hb5.block _ (rowLt G4.out)).trans G4.out)
      have Q5 := hide (keepRow Q4.out hb5)
      clear hb5 B4 G4 R4 Q4 c0 c1 c2 c3
      obtain ⟨c0, c1, c2, c3⟩ := row4m Q5.out
      go_wp2_with fail
      refine (over29 0 0 0 0 _).mono ?_
      rw [show ((0 : Int) == 2) = false by rfl]
      rintro e w6 ⟨rfl, hb6⟩
      have B6 := hide (B5.out.of hb6)
      have G6 := hide ((hb6.block _ (rowLt G5.out)).trans G5.out)
      clear hb6 B5 G5 Q5 c0 c1 c2 c3
      go_wp2_with fail
      refine (alive29 _ T fr G6.out).mono ?_
      rintro e w7 ⟨rfl, hb7⟩
      have B7 := hide (B6.out.of hb7)
      clear hb7
      go_wp2_with fail
      go_ret
      exact ⟨rfl, B7.out⟩
    · have q1 : decide (0 < n) = false := decide_eq_false hn
      go_wp2_with fail
      refine (data29 0 1 1 0 n 0 true _ (by omega) (by decide) (by decide)).mono ?_
      rw [show dtO 0 1 1 0 0 true = (.agg #[.int .i64 0, .int .i64 2, .int .i64 0, .int .i64 0], 0) by rfl]
      clear hn
      rintro e w4 ⟨rfl, hb4⟩
      have al4 := (Below.refl w4.heap.size w4).alloc (Nat.le_refl _) (.cells #[.int .i64 0, .int .i64 2, .int .i64 0, .int .i64 0] 70)
      have B4 := hide (B3.out.of (hb4.of al4))
      have G4 := hide (((hb4.of al4).block _ (rowLt G3.out)).trans G3.out)
      have R4 := hide (keepRow R3.out (hb4.of al4))
      have Q4 := hide (heap_alloc_new w4 (.cells #[.int .i64 0, .int .i64 2, .int .i64 0, .int .i64 0] 70))
      clear hb4 al4 B3 G3 R3 R2b c0 c1 c2 c3 A3
      obtain ⟨c0, c1, c2, c3⟩ := row4m R4.out
      go_wp2_with fail
      refine (over29 0 2 0 0 _).mono ?_
      rw [show ((2 : Int) == 2) = true by rfl]
      rintro e w5 ⟨rfl, hb5⟩
      have B5 := hide (B4.out.of hb5)
      have G5 := hide ((hb5.block _ (rowLt G4.out)).trans G4.out)
      have Q5 := hide (keepRow Q4.out hb5)
      clear hb5 B4 G4 R4 Q4 c0 c1 c2 c3
      obtain ⟨c0, c1, c2, c3⟩ := row4m Q5.out
      go_wp2_with fail
      refine (over29 0 2 0 0 _).mono ?_
      rw [show ((2 : Int) == 2) = true by rfl]
      rintro e w6 ⟨rfl, hb6⟩
      have B6 := hide (B5.out.of hb6)
      have G6 := hide ((hb6.block _ (rowLt G5.out)).trans G5.out)
      clear hb6 B5 G5 Q5 c0 c1 c2 c3
      go_wp2_with fail
      refine (alive29 _ T fr G6.out).mono ?_
      rintro e w7 ⟨rfl, hb7⟩
      have B7 := hide (B6.out.of hb7)
      clear hb7
      go_wp2_with fail
      go_ret
      exact ⟨rfl, B7.out⟩
set_option maxRecDepth 100000 in
set_option maxHeartbeats 6400000 in
theorem none_b29 (n : Int) (told : Bool) (w : World) (T : TypeId) (fr : Nat × Nat) (hg : w.heap[2]? = some (.cells barV T fr)) : Calls Tryd.prog 12 #[.int .i64 1, .int .i64 n, .bool told] w (Yes w) := by
  have Hg := hide hg
  clear hg
  skip
  go_enter Tryd.func12, Tryd.ntmps12
  cases told with
  | false =>
    have a1 := (OwnV.lit 3 64 0 w (fdV an204n) #[.string ⟨#[58, 115, 116, 97, 116, 117, 115]⟩, .string ⟨#[50, 48, 52]⟩, .bool false] 1 (Nat.zero_le _) (by simp [maxLen]) rfl).rdS2
    have A1 := hide (rdFd_of_rdV a1 (fun i hi => by have := an204n_r_s i hi; simp only [maxLen]; omega))
    have Hs : Hid (Sm28 an204n 1) := an204n_r_s
    have al := (Below.refl w.heap.size w).alloc (Nat.le_refl _) (.cells #[.string ⟨#[58, 115, 116, 97, 116, 117, 115]⟩, .string ⟨#[50, 48, 52]⟩, .bool false] 64)
    have G1 := hide ((al.block _ (rowLt Hg.out)).trans Hg.out)
    have B1 := hide al
    clear a1 al Hg
    go_upto_region 12 with (fail)
    generalize w.alloc (.cells #[.string ⟨#[58, 115, 116, 97, 116, 117, 115]⟩, .string ⟨#[50, 48, 52]⟩, .bool false] 64) = W1 at *
    go_wp2_with fail
    refine (answers29 ⟨#[71, 69, 84]⟩ _).mono ?_
    rw [show ansF ⟨#[71, 69, 84]⟩ = 1 by decide +kernel]
    rintro e w2a ⟨rfl, hb2a⟩
    have A2a := hide (A1.out.below hb2a)
    have G2a := hide ((hb2a.block _ (rowLt G1.out)).trans G1.out)
    have B2a := hide (B1.out.of hb2a)
    clear hb2a A1 G1 B1
    go_wp2_with fail
    refine (head29 1 0 0 _ 1 _ an204n false _ A2a.out Hs.out T fr G2a.out (mm := ⟨#[]⟩) (st := 204) (N := 0) (T' := false) an204n_r (by decide) (fun h => by first | (cases h; done) | decide +kernel)).mono ?_
    rw [show behM 1 ⟨#[]⟩ 204 false = 1 by decide +kernel, show behL 1 ⟨#[]⟩ 204 0 false = 0 by decide +kernel]
    rintro e w2 ⟨rfl, hb2⟩
    have al1 := (Below.refl w2.heap.size w2).alloc (Nat.le_refl _) (.cells #[.int .i64 0, .int .i64 1, .int .i64 1, .int .i64 0] 70)
    have al2 := (Below.refl (w2.alloc (.cells #[.int .i64 0, .int .i64 1, .int .i64 1, .int .i64 0] 70)).heap.size (w2.alloc (.cells #[.int .i64 0, .int .i64 1, .int .i64 1, .int .i64 0] 70))).alloc (Nat.le_refl _) (.cells #[.string ⟨#[]⟩, .int .i64 204, .int .i64 0, .bool false] 55)
    have A2 := hide (A2a.out.below (hb2.of (al1.of al2)))
    have G2 := hide (((hb2.of (al1.of al2)).block _ (rowLt G2a.out)).trans G2a.out)
    have B2 := hide (B2a.out.of (hb2.of (al1.of al2)))
    have R2 := hide (keepRow (heap_alloc_new w2 (.cells #[.int .i64 0, .int .i64 1, .int .i64 1, .int .i64 0] 70)) al2)
    clear hb2 al1 al2 A2a G2a B2a
    go_wp2_with fail
    refine (answers29 ⟨#[71, 69, 84]⟩ _).mono ?_
    rw [show ansF ⟨#[71, 69, 84]⟩ = 1 by decide +kernel]
    rintro e w3a ⟨rfl, hb3a⟩
    have A3a := hide (A2.out.below hb3a)
    have G3a := hide ((hb3a.block _ (rowLt G2.out)).trans G2.out)
    have B3a := hide (B2.out.of hb3a)
    have R2a := hide (keepRow R2.out hb3a)
    clear hb3a A2 G2 B2
    go_wp2_with fail
    refine (head29 1 0 0 _ 1 _ an204n true _ A3a.out Hs.out T fr G3a.out (mm := ⟨#[]⟩) (st := 204) (N := 0) (T' := false) an204n_r (by decide) (fun h => by first | (cases h; done) | decide +kernel)).mono ?_
    rw [show behM 1 ⟨#[]⟩ 204 false = 1 by decide +kernel, show behL 1 ⟨#[]⟩ 204 0 false = 0 by decide +kernel]
    rintro e w3 ⟨rfl, hb3⟩
    have al1 := (Below.refl w3.heap.size w3).alloc (Nat.le_refl _) (.cells #[.int .i64 0, .int .i64 2, .int .i64 0, .int .i64 0] 70)
    have al2 := (Below.refl (w3.alloc (.cells #[.int .i64 0, .int .i64 2, .int .i64 0, .int .i64 0] 70)).heap.size (w3.alloc (.cells #[.int .i64 0, .int .i64 2, .int .i64 0, .int .i64 0] 70))).alloc (Nat.le_refl _) (.cells #[.string ⟨#[]⟩, .int .i64 204, .int .i64 0, .bool false] 55)
    have A3 := hide (A3a.out.below (hb3.of (al1.of al2)))
    have G3 := hide (((hb3.of (al1.of al2)).block _ (rowLt G3a.out)).trans G3a.out)
    have B3 := hide (B3a.out.of (hb3.of (al1.of al2)))
    have R3 := hide (keepRow (heap_alloc_new w3 (.cells #[.int .i64 0, .int .i64 2, .int .i64 0, .int .i64 0] 70)) al2)
    have R2b := hide (keepRow R2a.out (hb3.of (al1.of al2)))
    clear hb3 al1 al2 A3a G3a B3a
    obtain ⟨c0, c1, c2, c3⟩ := row4m R2b.out
    by_cases hn : 0 < n
    · have q1 : decide (0 < n) = true := decide_eq_true hn
      go_wp2_with fail
      refine (data29 0 1 1 0 n n true _ (by omega) (by decide) (by decide)).mono ?_
      rw [dt_pos29 hn]
      clear hn
      rintro e w4 ⟨rfl, hb4⟩
      have al4 := (Below.refl w4.heap.size w4).alloc (Nat.le_refl _) (.cells #[.int .i64 0, .int .i64 0, .int .i64 0, .int .i64 0] 70)
      have B4 := hide (B3.out.of (hb4.of al4))
      have G4 := hide (((hb4.of al4).block _ (rowLt G3.out)).trans G3.out)
      have R4 := hide (keepRow R3.out (hb4.of al4))
      have Q4 := hide (heap_alloc_new w4 (.cells #[.int .i64 0, .int .i64 0, .int .i64 0, .int .i64 0] 70))
      clear hb4 al4 B3 G3 R3 R2b c0 c1 c2 c3 A3
      obtain ⟨c0, c1, c2, c3⟩ := row4m R4.out
      go_wp2_with fail
      refine (over29 0 2 0 0 _).mono ?_
      rw [show ((2 : Int) == 2) = true by rfl]
      rintro e w5 ⟨rfl, hb5⟩
      have B5 := hide (B4.out.of hb5)
      have G5 := hide ((hb5.block _ (rowLt G4.out)).trans G4.out)
      have Q5 := hide (keepRow Q4.out hb5)
      clear hb5 B4 G4 R4 Q4 c0 c1 c2 c3
      obtain ⟨c0, c1, c2, c3⟩ := row4m Q5.out
      go_wp2_with fail
      refine (over29 0 0 0 0 _).mono ?_
      rw [show ((0 : Int) == 2) = false by rfl]
      rintro e w6 ⟨rfl, hb6⟩
      have B6 := hide (B5.out.of hb6)
      have G6 := hide ((hb6.block _ (rowLt G5.out)).trans G5.out)
      clear hb6 B5 G5 Q5 c0 c1 c2 c3
      go_wp2_with fail
      refine (alive29 _ T fr G6.out).mono ?_
      rintro e w7 ⟨rfl, hb7⟩
      have B7 := hide (B6.out.of hb7)
      clear hb7
      go_wp2_with fail
      go_ret
      exact ⟨rfl, B7.out⟩
    · have q1 : decide (0 < n) = false := decide_eq_false hn
      go_wp2_with fail
      refine (data29 0 1 1 0 n 0 true _ (by omega) (by decide) (by decide)).mono ?_
      rw [show dtO 0 1 1 0 0 true = (.agg #[.int .i64 0, .int .i64 2, .int .i64 0, .int .i64 0], 0) by rfl]
      clear hn
      rintro e w4 ⟨rfl, hb4⟩
      have al4 := (Below.refl w4.heap.size w4).alloc (Nat.le_refl _) (.cells #[.int .i64 0, .int .i64 2, .int .i64 0, .int .i64 0] 70)
      have B4 := hide (B3.out.of (hb4.of al4))
      have G4 := hide (((hb4.of al4).block _ (rowLt G3.out)).trans G3.out)
      have R4 := hide (keepRow R3.out (hb4.of al4))
      have Q4 := hide (heap_alloc_new w4 (.cells #[.int .i64 0, .int .i64 2, .int .i64 0, .int .i64 0] 70))
      clear hb4 al4 B3 G3 R3 R2b c0 c1 c2 c3 A3
      obtain ⟨c0, c1, c2, c3⟩ := row4m R4.out
      go_wp2_with fail
      refine (over29 0 2 0 0 _).mono ?_
      rw [show ((2 : Int) == 2) = true by rfl]
      rintro e w5 ⟨rfl, hb5⟩
      have B5 := hide (B4.out.of hb5)
      have G5 := hide ((hb5.block _ (rowLt G4.out)).trans G4.out)
      have Q5 := hide (keepRow Q4.out hb5)
      clear hb5 B4 G4 R4 Q4 c0 c1 c2 c3
      obtain ⟨c0, c1, c2, c3⟩ := row4m Q5.out
      go_wp2_with fail
      refine (over29 0 2 0 0 _).mono ?_
      rw [show ((2 : Int) == 2) = true by rfl]
      rintro e w6 ⟨rfl, hb6⟩
      have B6 := hide (B5.out.of hb6)
      have G6 := hide ((hb6.block _ (rowLt G5.out)).trans G5.out)
      clear hb6 B5 G5 Q5 c0 c1 c2 c3
      go_wp2_with fail
      refine (alive29 _ T fr G6.out).mono ?_
      rintro e w7 ⟨rfl, hb7⟩
      have B7 := hide (B6.out.of hb7)
      clear hb7
      go_wp2_with fail
      go_ret
      exact ⟨rfl, B7.out⟩
  | true =>
    obtain ⟨i0, hi, hz0, hz1, hz2⟩ := info_parts field_info29
    have al := (Below.refl w.heap.size w).alloc (Nat.le_refl _) (.cells #[.string ⟨#[58, 115, 116, 97, 116, 117, 115]⟩, .string ⟨#[50, 48, 52]⟩, .bool false] 64)
    have X0 : Hid (OwnV 3 64 w.heap.size ((w.alloc (.cells #[.string ⟨#[58, 115, 116, 97, 116, 117, 115]⟩, .string ⟨#[50, 48, 52]⟩, .bool false] 64)).alloc (.cells #[.string ⟨#[99, 111, 110, 116, 101, 110, 116, 45, 108, 101, 110, 103, 116, 104]⟩, .string ⟨#[55]⟩, .bool false] 64)) (.slice (some ⟨w.heap.size, 0, none⟩) 1 1) 1 (fdV (fun _ => (⟨⟨#[58, 115, 116, 97, 116, 117, 115]⟩, ⟨#[50, 48, 52]⟩, false⟩ : Fd)))) := (OwnV.lit 3 64 w.heap.size w (fdV (fun _ => (⟨⟨#[58, 115, 116, 97, 116, 117, 115]⟩, ⟨#[50, 48, 52]⟩, false⟩ : Fd))) #[.string ⟨#[58, 115, 116, 97, 116, 117, 115]⟩, .string ⟨#[50, 48, 52]⟩, .bool false] 1 (Nat.le_refl _) (by simp [maxLen]) rfl).alloc _
    have Y0 : Hid (RdV 3 ((w.alloc (.cells #[.string ⟨#[58, 115, 116, 97, 116, 117, 115]⟩, .string ⟨#[50, 48, 52]⟩, .bool false] 64)).alloc (.cells #[.string ⟨#[99, 111, 110, 116, 101, 110, 116, 45, 108, 101, 110, 103, 116, 104]⟩, .string ⟨#[55]⟩, .bool false] 64)) (some ⟨w.heap.size + 1, 0, none⟩) 1 1 (fdV (fun _ => (⟨⟨#[99, 111, 110, 116, 101, 110, 116, 45, 108, 101, 110, 103, 116, 104]⟩, ⟨#[55]⟩, false⟩ : Fd)))) := by
      have h := rdV_oneFd (w.alloc (.cells #[.string ⟨#[58, 115, 116, 97, 116, 117, 115]⟩, .string ⟨#[50, 48, 52]⟩, .bool false] 64)) ⟨⟨#[99, 111, 110, 116, 101, 110, 116, 45, 108, 101, 110, 103, 116, 104]⟩, ⟨#[55]⟩, false⟩ 64
      have e : (w.alloc (.cells #[.string ⟨#[58, 115, 116, 97, 116, 117, 115]⟩, .string ⟨#[50, 48, 52]⟩, .bool false] 64)).heap.size = w.heap.size + 1 := by simp
      rw [e] at h
      exact h
    have Hs : Hid (Sm28 an204t 2) := an204t_r_s
    have HE : Hid (Below w.heap.size w ((w.alloc (.cells #[.string ⟨#[58, 115, 116, 97, 116, 117, 115]⟩, .string ⟨#[50, 48, 52]⟩, .bool false] 64)).alloc (.cells #[.string ⟨#[99, 111, 110, 116, 101, 110, 116, 45, 108, 101, 110, 103, 116, 104]⟩, .string ⟨#[55]⟩, .bool false] 64))) := al.alloc (by simp) _
    have hsz : w.heap.size ≤ ((w.alloc (.cells #[.string ⟨#[58, 115, 116, 97, 116, 117, 115]⟩, .string ⟨#[50, 48, 52]⟩, .bool false] 64)).alloc (.cells #[.string ⟨#[99, 111, 110, 116, 101, 110, 116, 45, 108, 101, 110, 103, 116, 104]⟩, .string ⟨#[55]⟩, .bool false] 64)).heap.size := HE.out.size
    clear al
    go_upto_region 12 with (at_builtin; refine wp_appV rfl (.tmp 27) (.tmp 29) _ rfl 3 i0 _ 40 Tryd.underlying50 hi hz0 hz1 hz2 rfl (by omega) w.heap.size _ 1 (fdV (fun _ => (⟨⟨#[58, 115, 116, 97, 116, 117, 115]⟩, ⟨#[50, 48, 52]⟩, false⟩ : Fd))) rfl X0.out _ 1 1 (fdV (fun _ => (⟨⟨#[99, 111, 110, 116, 101, 110, 116, 45, 108, 101, 110, 103, 116, 104]⟩, ⟨#[55]⟩, false⟩ : Fd))) rfl Y0.out (fdV_one _ _) (by simp only [maxLen]; omega) (by omega) hsz ?_; intro v1 W1 hown1 hg1 hob1; obtain ⟨Aa, ca, rfl, _, _⟩ := hown1.rd)
    have hb1 : Below w.heap.size w W1 := HE.out.grown hg1 hsz (fun j e => by cases e; exact Nat.le_refl _)
    have A1 : Hid (RdFd W1 Aa 2 ca an204t) := by
      have h := hown1.rdS2
      rw [fdV_cat] at h
      refine rdFd_of_rdV ⟨h.1, h.2.1, h.2.2.1, fun hn => ?_⟩ (fun i hi => by have := an204t_r_s i hi; simp only [maxLen]; omega)
      obtain ⟨b, off, hA, hc⟩ := h.2.2.2 hn
      refine ⟨b, off, hA, fun i hi => ?_⟩
      rw [hc i hi]
      congr 1
      refine fdV_congr (n := 2) (fun i hi => ?_) i hi
      have : i = 0 ∨ i = 1 := by omega
      rcases this with rfl | rfl <;> rfl
    have G1 := hide ((hb1.block _ (rowLt Hg.out)).trans Hg.out)
    have B1 := hide hb1
    clear hown1 hg1 hob1 X0 Y0 HE hsz hb1 Hg hi hz0 hz1 hz2
    go_wp2_with fail
    refine (answers29 ⟨#[71, 69, 84]⟩ _).mono ?_
    rw [show ansF ⟨#[71, 69, 84]⟩ = 1 by decide +kernel]
    rintro e w2a ⟨rfl, hb2a⟩
    have A2a := hide (A1.out.below hb2a)
    have G2a := hide ((hb2a.block _ (rowLt G1.out)).trans G1.out)
    have B2a := hide (B1.out.of hb2a)
    clear hb2a A1 G1 B1
    go_wp2_with fail
    refine (head29 1 0 0 _ 2 _ an204t false _ A2a.out Hs.out T fr G2a.out (mm := ⟨#[]⟩) (st := 204) (N := 7) (T' := true) an204t_r (by decide) (fun h => by first | (cases h; done) | decide +kernel)).mono ?_
    rw [show behM 1 ⟨#[]⟩ 204 true = 1 by decide +kernel, show behL 1 ⟨#[]⟩ 204 7 true = 0 by decide +kernel]
    rintro e w2 ⟨rfl, hb2⟩
    have al1 := (Below.refl w2.heap.size w2).alloc (Nat.le_refl _) (.cells #[.int .i64 0, .int .i64 1, .int .i64 1, .int .i64 0] 70)
    have al2 := (Below.refl (w2.alloc (.cells #[.int .i64 0, .int .i64 1, .int .i64 1, .int .i64 0] 70)).heap.size (w2.alloc (.cells #[.int .i64 0, .int .i64 1, .int .i64 1, .int .i64 0] 70))).alloc (Nat.le_refl _) (.cells #[.string ⟨#[]⟩, .int .i64 204, .int .i64 7, .bool true] 55)
    have A2 := hide (A2a.out.below (hb2.of (al1.of al2)))
    have G2 := hide (((hb2.of (al1.of al2)).block _ (rowLt G2a.out)).trans G2a.out)
    have B2 := hide (B2a.out.of (hb2.of (al1.of al2)))
    have R2 := hide (keepRow (heap_alloc_new w2 (.cells #[.int .i64 0, .int .i64 1, .int .i64 1, .int .i64 0] 70)) al2)
    clear hb2 al1 al2 A2a G2a B2a
    go_wp2_with fail
    refine (answers29 ⟨#[71, 69, 84]⟩ _).mono ?_
    rw [show ansF ⟨#[71, 69, 84]⟩ = 1 by decide +kernel]
    rintro e w3a ⟨rfl, hb3a⟩
    have A3a := hide (A2.out.below hb3a)
    have G3a := hide ((hb3a.block _ (rowLt G2.out)).trans G2.out)
    have B3a := hide (B2.out.of hb3a)
    have R2a := hide (keepRow R2.out hb3a)
    clear hb3a A2 G2 B2
    go_wp2_with fail
    refine (head29 1 0 0 _ 2 _ an204t true _ A3a.out Hs.out T fr G3a.out (mm := ⟨#[]⟩) (st := 204) (N := 7) (T' := true) an204t_r (by decide) (fun h => by first | (cases h; done) | decide +kernel)).mono ?_
    rw [show behM 1 ⟨#[]⟩ 204 true = 1 by decide +kernel, show behL 1 ⟨#[]⟩ 204 7 true = 0 by decide +kernel]
    rintro e w3 ⟨rfl, hb3⟩
    have al1 := (Below.refl w3.heap.size w3).alloc (Nat.le_refl _) (.cells #[.int .i64 0, .int .i64 2, .int .i64 0, .int .i64 0] 70)
    have al2 := (Below.refl (w3.alloc (.cells #[.int .i64 0, .int .i64 2, .int .i64 0, .int .i64 0] 70)).heap.size (w3.alloc (.cells #[.int .i64 0, .int .i64 2, .int .i64 0, .int .i64 0] 70))).alloc (Nat.le_refl _) (.cells #[.string ⟨#[]⟩, .int .i64 204, .int .i64 7, .bool true] 55)
    have A3 := hide (A3a.out.below (hb3.of (al1.of al2)))
    have G3 := hide (((hb3.of (al1.of al2)).block _ (rowLt G3a.out)).trans G3a.out)
    have B3 := hide (B3a.out.of (hb3.of (al1.of al2)))
    have R3 := hide (keepRow (heap_alloc_new w3 (.cells #[.int .i64 0, .int .i64 2, .int .i64 0, .int .i64 0] 70)) al2)
    have R2b := hide (keepRow R2a.out (hb3.of (al1.of al2)))
    clear hb3 al1 al2 A3a G3a B3a
    obtain ⟨c0, c1, c2, c3⟩ := row4m R2b.out
    by_cases hn : 0 < n
    · have q1 : decide (0 < n) = true := decide_eq_true hn
      go_wp2_with fail
      refine (data29 0 1 1 0 n n true _ (by omega) (by decide) (by decide)).mono ?_
      rw [dt_pos29 hn]
      clear hn
      rintro e w4 ⟨rfl, hb4⟩
      have al4 := (Below.refl w4.heap.size w4).alloc (Nat.le_refl _) (.cells #[.int .i64 0, .int .i64 0, .int .i64 0, .int .i64 0] 70)
      have B4 := hide (B3.out.of (hb4.of al4))
      have G4 := hide (((hb4.of al4).block _ (rowLt G3.out)).trans G3.out)
      have R4 := hide (keepRow R3.out (hb4.of al4))
      have Q4 := hide (heap_alloc_new w4 (.cells #[.int .i64 0, .int .i64 0, .int .i64 0, .int .i64 0] 70))
      clear hb4 al4 B3 G3 R3 R2b c0 c1 c2 c3 A3
      obtain ⟨c0, c1, c2, c3⟩ := row4m R4.out
      go_wp2_with fail
      refine (over29 0 2 0 0 _).mono ?_
      rw [show ((2 : Int) == 2) = true by rfl]
      rintro e w5 ⟨rfl, hb5⟩
      have B5 := hide (B4.out.of hb5)
      have G5 := hide ((hb5.block _ (rowLt G4.out)).trans G4.out)
      have Q5 := hide (keepRow Q4.out hb5)
      clear hb5 B4 G4 R4 Q4 c0 c1 c2 c3
      obtain ⟨c0, c1, c2, c3⟩ := row4m Q5.out
      go_wp2_with fail
      refine (over29 0 0 0 0 _).mono ?_
      rw [show ((0 : Int) == 2) = false by rfl]
      rintro e w6 ⟨rfl, hb6⟩
      have B6 := hide (B5.out.of hb6)
      have G6 := hide ((hb6.block _ (rowLt G5.out)).trans G5.out)
      clear hb6 B5 G5 Q5 c0 c1 c2 c3
      go_wp2_with fail
      refine (alive29 _ T fr G6.out).mono ?_
      rintro e w7 ⟨rfl, hb7⟩
      have B7 := hide (B6.out.of hb7)
      clear hb7
      go_wp2_with fail
      go_ret
      exact ⟨rfl, B7.out⟩
    · have q1 : decide (0 < n) = false := decide_eq_false hn
      go_wp2_with fail
      refine (data29 0 1 1 0 n 0 true _ (by omega) (by decide) (by decide)).mono ?_
      rw [show dtO 0 1 1 0 0 true = (.agg #[.int .i64 0, .int .i64 2, .int .i64 0, .int .i64 0], 0) by rfl]
      clear hn
      rintro e w4 ⟨rfl, hb4⟩
      have al4 := (Below.refl w4.heap.size w4).alloc (Nat.le_refl _) (.cells #[.int .i64 0, .int .i64 2, .int .i64 0, .int .i64 0] 70)
      have B4 := hide (B3.out.of (hb4.of al4))
      have G4 := hide (((hb4.of al4).block _ (rowLt G3.out)).trans G3.out)
      have R4 := hide (keepRow R3.out (hb4.of al4))
      have Q4 := hide (heap_alloc_new w4 (.cells #[.int .i64 0, .int .i64 2, .int .i64 0, .int .i64 0] 70))
      clear hb4 al4 B3 G3 R3 R2b c0 c1 c2 c3 A3
      obtain ⟨c0, c1, c2, c3⟩ := row4m R4.out
      go_wp2_with fail
      refine (over29 0 2 0 0 _).mono ?_
      rw [show ((2 : Int) == 2) = true by rfl]
      rintro e w5 ⟨rfl, hb5⟩
      have B5 := hide (B4.out.of hb5)
      have G5 := hide ((hb5.block _ (rowLt G4.out)).trans G4.out)
      have Q5 := hide (keepRow Q4.out hb5)
      clear hb5 B4 G4 R4 Q4 c0 c1 c2 c3
      obtain ⟨c0, c1, c2, c3⟩ := row4m Q5.out
      go_wp2_with fail
      refine (over29 0 2 0 0 _).mono ?_
      rw [show ((2 : Int) == 2) = true by rfl]
      rintro e w6 ⟨rfl, hb6⟩
      have B6 := hide (B5.out.of hb6)
      have G6 := hide ((hb6.block _ (rowLt G5.out)).trans G5.out)
      clear hb6 B5 G5 Q5 c0 c1 c2 c3
      go_wp2_with fail
      refine (alive29 _ T fr G6.out).mono ?_
      rintro e w7 ⟨rfl, hb7⟩
      have B7 := hide (B6.out.of hb7)
      clear hb7
      go_wp2_with fail
      go_ret
      exact ⟨rfl, B7.out⟩
set_option maxRecDepth 100000 in
set_option maxHeartbeats 6400000 in
theorem none_c29 (which n : Int) (told : Bool) (h0 : which ≠ 0) (h1 : which ≠ 1) (w : World) (T : TypeId) (fr : Nat × Nat) (hg : w.heap[2]? = some (.cells barV T fr)) : Calls Tryd.prog 12 #[.int .i64 which, .int .i64 n, .bool told] w (Yes w) := by
  have Hg := hide hg
  clear hg
  have k0 : (which == 0) = false := by simpa using h0
  have k1 : (which == 1) = false := by simpa using h1
  clear h0 h1
  go_enter Tryd.func12, Tryd.ntmps12
  cases told with
  | false =>
    have a1 := (OwnV.lit 3 64 0 w (fdV an304n) #[.string ⟨#[58, 115, 116, 97, 116, 117, 115]⟩, .string ⟨#[51, 48, 52]⟩, .bool false] 1 (Nat.zero_le _) (by simp [maxLen]) rfl).rdS2
    have A1 := hide (rdFd_of_rdV a1 (fun i hi => by have := an304n_r_s i hi; simp only [maxLen]; omega))
    have Hs : Hid (Sm28 an304n 1) := an304n_r_s
    have al := (Below.refl w.heap.size w).alloc (Nat.le_refl _) (.cells #[.string ⟨#[58, 115, 116, 97, 116, 117, 115]⟩, .string ⟨#[51, 48, 52]⟩, .bool false] 64)
    have G1 := hide ((al.block _ (rowLt Hg.out)).trans Hg.out)
    have B1 := hide al
    clear a1 al Hg
    go_upto_region 12 with (fail)
    generalize w.alloc (.cells #[.string ⟨#[58, 115, 116, 97, 116, 117, 115]⟩, .string ⟨#[51, 48, 52]⟩, .bool false] 64) = W1 at *
    go_wp2_with fail
    refine (answers29 ⟨#[71, 69, 84]⟩ _).mono ?_
    rw [show ansF ⟨#[71, 69, 84]⟩ = 1 by decide +kernel]
    rintro e w2a ⟨rfl, hb2a⟩
    have A2a := hide (A1.out.below hb2a)
    have G2a := hide ((hb2a.block _ (rowLt G1.out)).trans G1.out)
    have B2a := hide (B1.out.of hb2a)
    clear hb2a A1 G1 B1
    go_wp2_with fail
    refine (head29 1 0 0 _ 1 _ an304n false _ A2a.out Hs.out T fr G2a.out (mm := ⟨#[]⟩) (st := 304) (N := 0) (T' := false) an304n_r (by decide) (fun h => by first | (cases h; done) | decide +kernel)).mono ?_
    rw [show behM 1 ⟨#[]⟩ 304 false = 1 by decide +kernel, show behL 1 ⟨#[]⟩ 304 0 false = 0 by decide +kernel]
    rintro e w2 ⟨rfl, hb2⟩
    have al1 := (Below.refl w2.heap.size w2).alloc (Nat.le_refl _) (.cells #[.int .i64 0, .int .i64 1, .int .i64 1, .int .i64 0] 70)
    have al2 := (Below.refl (w2.alloc (.cells #[.int .i64 0, .int .i64 1, .int .i64 1, .int .i64 0] 70)).heap.size (w2.alloc (.cells #[.int .i64 0, .int .i64 1, .int .i64 1, .int .i64 0] 70))).alloc (Nat.le_refl _) (.cells #[.string ⟨#[]⟩, .int .i64 304, .int .i64 0, .bool false] 55)
    have A2 := hide (A2a.out.below (hb2.of (al1.of al2)))
    have G2 := hide (((hb2.of (al1.of al2)).block _ (rowLt G2a.out)).trans G2a.out)
    have B2 := hide (B2a.out.of (hb2.of (al1.of al2)))
    have R2 := hide (keepRow (heap_alloc_new w2 (.cells #[.int .i64 0, .int .i64 1, .int .i64 1, .int .i64 0] 70)) al2)
    clear hb2 al1 al2 A2a G2a B2a
    go_wp2_with fail
    refine (answers29 ⟨#[71, 69, 84]⟩ _).mono ?_
    rw [show ansF ⟨#[71, 69, 84]⟩ = 1 by decide +kernel]
    rintro e w3a ⟨rfl, hb3a⟩
    have A3a := hide (A2.out.below hb3a)
    have G3a := hide ((hb3a.block _ (rowLt G2.out)).trans G2.out)
    have B3a := hide (B2.out.of hb3a)
    have R2a := hide (keepRow R2.out hb3a)
    clear hb3a A2 G2 B2
    go_wp2_with fail
    refine (head29 1 0 0 _ 1 _ an304n true _ A3a.out Hs.out T fr G3a.out (mm := ⟨#[]⟩) (st := 304) (N := 0) (T' := false) an304n_r (by decide) (fun h => by first | (cases h; done) | decide +kernel)).mono ?_
    rw [show behM 1 ⟨#[]⟩ 304 false = 1 by decide +kernel, show behL 1 ⟨#[]⟩ 304 0 false = 0 by decide +kernel]
    rintro e w3 ⟨rfl, hb3⟩
    have al1 := (Below.refl w3.heap.size w3).alloc (Nat.le_refl _) (.cells #[.int .i64 0, .int .i64 2, .int .i64 0, .int .i64 0] 70)
    have al2 := (Below.refl (w3.alloc (.cells #[.int .i64 0, .int .i64 2, .int .i64 0, .int .i64 0] 70)).heap.size (w3.alloc (.cells #[.int .i64 0, .int .i64 2, .int .i64 0, .int .i64 0] 70))).alloc (Nat.le_refl _) (.cells #[.string ⟨#[]⟩, .int .i64 304, .int .i64 0, .bool false] 55)
    have A3 := hide (A3a.out.below (hb3.of (al1.of al2)))
    have G3 := hide (((hb3.of (al1.of al2)).block _ (rowLt G3a.out)).trans G3a.out)
    have B3 := hide (B3a.out.of (hb3.of (al1.of al2)))
    have R3 := hide (keepRow (heap_alloc_new w3 (.cells #[.int .i64 0, .int .i64 2, .int .i64 0, .int .i64 0] 70)) al2)
    have R2b := hide (keepRow R2a.out (hb3.of (al1.of al2)))
    clear hb3 al1 al2 A3a G3a B3a
    obtain ⟨c0, c1, c2, c3⟩ := row4m R2b.out
    by_cases hn : 0 < n
    · have q1 : decide (0 < n) = true := decide_eq_true hn
      go_wp2_with fail
      refine (data29 0 1 1 0 n n true _ (by omega) (by decide) (by decide)).mono ?_
      rw [dt_pos29 hn]
      clear hn
      rintro e w4 ⟨rfl, hb4⟩
      have al4 := (Below.refl w4.heap.size w4).alloc (Nat.le_refl _) (.cells #[.int .i64 0, .int .i64 0, .int .i64 0, .int .i64 0] 70)
      have B4 := hide (B3.out.of (hb4.of al4))
      have G4 := hide (((hb4.of al4).block _ (rowLt G3.out)).trans G3.out)
      have R4 := hide (keepRow R3.out (hb4.of al4))
      have Q4 := hide (heap_alloc_new w4 (.cells #[.int .i64 0, .int .i64 0, .int .i64 0, .int .i64 0] 70))
      clear hb4 al4 B3 G3 R3 R2b c0 c1 c2 c3 A3
      obtain ⟨c0, c1, c2, c3⟩ := row4m R4.out
      go_wp2_with fail
      refine (over29 0 2 0 0 _).mono ?_
      rw [show ((2 : Int) == 2) = true by rfl]
      rintro e w5 ⟨rfl, hb5⟩
      have B5 := hide (B4.out.of hb5)
      have G5 := hide ((hb5.block _ (rowLt G4.out)).trans G4.out)
      have Q5 := hide (keepRow Q4.out hb5)
      clear hb5 B4 G4 R4 Q4 c0 c1 c2 c3
      obtain ⟨c0, c1, c2, c3⟩ := row4m Q5.out
      go_wp2_with fail
      refine (over29 0 0 0 0 _).mono ?_
      rw [show ((0 : Int) == 2) = false by rfl]
      rintro e w6 ⟨rfl, hb6⟩
      have B6 := hide (B5.out.of hb6)
      have G6 := hide ((hb6.block _ (rowLt G5.out)).trans G5.out)
      clear hb6 B5 G5 Q5 c0 c1 c2 c3
      go_wp2_with fail
      refine (alive29 _ T fr G6.out).mono ?_
      rintro e w7 ⟨rfl, hb7⟩
      have B7 := hide (B6.out.of hb7)
      clear hb7
      go_wp2_with fail
      go_ret
      exact ⟨rfl, B7.out⟩
    · have q1 : decide (0 < n) = false := decide_eq_false hn
      go_wp2_with fail
      refine (data29 0 1 1 0 n 0 true _ (by omega) (by decide) (by decide)).mono ?_
      rw [show dtO 0 1 1 0 0 true = (.agg #[.int .i64 0, .int .i64 2, .int .i64 0, .int .i64 0], 0) by rfl]
      clear hn
      rintro e w4 ⟨rfl, hb4⟩
      have al4 := (Below.refl w4.heap.size w4).alloc (Nat.le_refl _) (.cells #[.int .i64 0, .int .i64 2, .int .i64 0, .int .i64 0] 70)
      have B4 := hide (B3.out.of (hb4.of al4))
      have G4 := hide (((hb4.of al4).block _ (rowLt G3.out)).trans G3.out)
      have R4 := hide (keepRow R3.out (hb4.of al4))
      have Q4 := hide (heap_alloc_new w4 (.cells #[.int .i64 0, .int .i64 2, .int .i64 0, .int .i64 0] 70))
      clear hb4 al4 B3 G3 R3 R2b c0 c1 c2 c3 A3
      obtain ⟨c0, c1, c2, c3⟩ := row4m R4.out
      go_wp2_with fail
      refine (over29 0 2 0 0 _).mono ?_
      rw [show ((2 : Int) == 2) = true by rfl]
      rintro e w5 ⟨rfl, hb5⟩
      have B5 := hide (B4.out.of hb5)
      have G5 := hide ((hb5.block _ (rowLt G4.out)).trans G4.out)
      have Q5 := hide (keepRow Q4.out hb5)
      clear hb5 B4 G4 R4 Q4 c0 c1 c2 c3
      obtain ⟨c0, c1, c2, c3⟩ := row4m Q5.out
      go_wp2_with fail
      refine (over29 0 2 0 0 _).mono ?_
      rw [show ((2 : Int) == 2) = true by rfl]
      rintro e w6 ⟨rfl, hb6⟩
      have B6 := hide (B5.out.of hb6)
      have G6 := hide ((hb6.block _ (rowLt G5.out)).trans G5.out)
      clear hb6 B5 G5 Q5 c0 c1 c2 c3
      go_wp2_with fail
      refine (alive29 _ T fr G6.out).mono ?_
      rintro e w7 ⟨rfl, hb7⟩
      have B7 := hide (B6.out.of hb7)
      clear hb7
      go_wp2_with fail
      go_ret
      exact ⟨rfl, B7.out⟩
  | true =>
    obtain ⟨i0, hi, hz0, hz1, hz2⟩ := info_parts field_info29
    have al := (Below.refl w.heap.size w).alloc (Nat.le_refl _) (.cells #[.string ⟨#[58, 115, 116, 97, 116, 117, 115]⟩, .string ⟨#[51, 48, 52]⟩, .bool false] 64)
    have X0 : Hid (OwnV 3 64 w.heap.size ((w.alloc (.cells #[.string ⟨#[58, 115, 116, 97, 116, 117, 115]⟩, .string ⟨#[51, 48, 52]⟩, .bool false] 64)).alloc (.cells #[.string ⟨#[99, 111, 110, 116, 101, 110, 116, 45, 108, 101, 110, 103, 116, 104]⟩, .string ⟨#[55]⟩, .bool false] 64)) (.slice (some ⟨w.heap.size, 0, none⟩) 1 1) 1 (fdV (fun _ => (⟨⟨#[58, 115, 116, 97, 116, 117, 115]⟩, ⟨#[51, 48, 52]⟩, false⟩ : Fd)))) := (OwnV.lit 3 64 w.heap.size w (fdV (fun _ => (⟨⟨#[58, 115, 116, 97, 116, 117, 115]⟩, ⟨#[51, 48, 52]⟩, false⟩ : Fd))) #[.string ⟨#[58, 115, 116, 97, 116, 117, 115]⟩, .string ⟨#[51, 48, 52]⟩, .bool false] 1 (Nat.le_refl _) (by simp [maxLen]) rfl).alloc _
    have Y0 : Hid (RdV 3 ((w.alloc (.cells #[.string ⟨#[58, 115, 116, 97, 116, 117, 115]⟩, .string ⟨#[51, 48, 52]⟩, .bool false] 64)).alloc (.cells #[.string ⟨#[99, 111, 110, 116, 101, 110, 116, 45, 108, 101, 110, 103, 116, 104]⟩, .string ⟨#[55]⟩, .bool false] 64)) (some ⟨w.heap.size + 1, 0, none⟩) 1 1 (fdV (fun _ => (⟨⟨#[99, 111, 110, 116, 101, 110, 116, 45, 108, 101, 110, 103, 116, 104]⟩, ⟨#[55]⟩, false⟩ : Fd)))) := by
      have h := rdV_oneFd (w.alloc (.cells #[.string ⟨#[58, 115, 116, 97, 116, 117, 115]⟩, .string ⟨#[51, 48, 52]⟩, .bool false] 64)) ⟨⟨#[99, 111, 110, 116, 101, 110, 116, 45, 108, 101, 110, 103, 116, 104]⟩, ⟨#[55]⟩, false⟩ 64
      have e : (w.alloc (.cells #[.string ⟨#[58, 115, 116, 97, 116, 117, 115]⟩, .string ⟨#[51, 48, 52]⟩, .bool false] 64)).heap.size = w.heap.size + 1 := by simp
      rw [e] at h
      exact h
    have Hs : Hid (Sm28 an304t 2) := an304t_r_s
    have HE : Hid (Below w.heap.size w ((w.alloc (.cells #[.string ⟨#[58, 115, 116, 97, 116, 117, 115]⟩, .string ⟨#[51, 48, 52]⟩, .bool false] 64)).alloc (.cells #[.string ⟨#[99, 111, 110, 116, 101, 110, 116, 45, 108, 101, 110, 103, 116, 104]⟩, .string ⟨#[55]⟩, .bool false] 64))) := al.alloc (by simp) _
    have hsz : w.heap.size ≤ ((w.alloc (.cells #[.string ⟨#[58, 115, 116, 97, 116, 117, 115]⟩, .string ⟨#[51, 48, 52]⟩, .bool false] 64)).alloc (.cells #[.string ⟨#[99, 111, 110, 116, 101, 110, 116, 45, 108, 101, 110, 103, 116, 104]⟩, .string ⟨#[55]⟩, .bool false] 64)).heap.size := HE.out.size
    clear al
    go_upto_region 12 with (at_builtin; refine wp_appV rfl (.tmp 27) (.tmp 29) _ rfl 3 i0 _ 40 Tryd.underlying50 hi hz0 hz1 hz2 rfl (by omega) w.heap.size _ 1 (fdV (fun _ => (⟨⟨#[58, 115, 116, 97, 116, 117, 115]⟩, ⟨#[51, 48, 52]⟩, false⟩ : Fd))) rfl X0.out _ 1 1 (fdV (fun _ => (⟨⟨#[99, 111, 110, 116, 101, 110, 116, 45, 108, 101, 110, 103, 116, 104]⟩, ⟨#[55]⟩, false⟩ : Fd))) rfl Y0.out (fdV_one _ _) (by simp only [maxLen]; omega) (by omega) hsz ?_; intro v1 W1 hown1 hg1 hob1; obtain ⟨Aa, ca, rfl, _, _⟩ := hown1.rd)
    have hb1 : Below w.heap.size w W1 := HE.out.grown hg1 hsz (fun j e => by cases e; exact Nat.le_refl _)
    have A1 : Hid (RdFd W1 Aa 2 ca an304t) := by
      have h := hown1.rdS2
      rw [fdV_cat] at h
      refine rdFd_of_rdV ⟨h.1, h.2.1, h.2.2.1, fun hn => ?_⟩ (fun i hi => by have := an304t_r_s i hi; simp only [maxLen]; omega)
      obtain ⟨b, off, hA, hc⟩ := h.2.2.2 hn
      refine ⟨b, off, hA, fun i hi => ?_⟩
      rw [hc i hi]
      congr 1
      refine fdV_congr (n := 2) (fun i hi => ?_) i hi
      have : i = 0 ∨ i = 1 := by omega
      rcases this with rfl | rfl <;> rfl
    have G1 := hide ((hb1.block _ (rowLt Hg.out)).trans Hg.out)
    have B1 := hide hb1
    clear hown1 hg1 hob1 X0 Y0 HE hsz hb1 Hg hi hz0 hz1 hz2
    go_wp2_with fail
    refine (answers29 ⟨#[71, 69, 84]⟩ _).mono ?_
    rw [show ansF ⟨#[71, 69, 84]⟩ = 1 by decide +kernel]
    rintro e w2a ⟨rfl, hb2a⟩
    have A2a := hide (A1.out.below hb2a)
    have G2a := hide ((hb2a.block _ (rowLt G1.out)).trans G1.out)
    have B2a := hide (B1.out.of hb2a)
    clear hb2a A1 G1 B1
    go_wp2_with fail
    refine (head29 1 0 0 _ 2 _ an304t false _ A2a.out Hs.out T fr G2a.out (mm := ⟨#[]⟩) (st := 304) (N := 7) (T' := true) an304t_r (by decide) (fun h => by first | (cases h; done) | decide +kernel)).mono ?_
    rw [show behM 1 ⟨#[]⟩ 304 true = 1 by decide +kernel, show behL 1 ⟨#[]⟩ 304 7 true = 0 by decide +kernel]
    rintro e w2 ⟨rfl, hb2⟩
    have al1 := (Below.refl w2.heap.size w2).alloc (Nat.le_refl _) (.cells #[.int .i64 0, .int .i64 1, .int .i64 1, .int .i64 0] 70)
    have al2 := (Below.refl (w2.alloc (.cells #[.int .i64 0, .int .i64 1, .int .i64 1, .int .i64 0] 70)).heap.size (w2.alloc (.cells #[.int .i64 0, .int .i64 1, .int .i64 1, .int .i64 0] 70))).alloc (Nat.le_refl _) (.cells #[.string ⟨#[]⟩, .int .i64 304, .int .i64 7, .bool true] 55)
    have A2 := hide (A2a.out.below (hb2.of (al1.of al2)))
    have G2 := hide (((hb2.of (al1.of al2)).block _ (rowLt G2a.out)).trans G2a.out)
    have B2 := hide (B2a.out.of (hb2.of (al1.of al2)))
    have R2 := hide (keepRow (heap_alloc_new w2 (.cells #[.int .i64 0, .int .i64 1, .int .i64 1, .int .i64 0] 70)) al2)
    clear hb2 al1 al2 A2a G2a B2a
    go_wp2_with fail
    refine (answers29 ⟨#[71, 69, 84]⟩ _).mono ?_
    rw [show ansF ⟨#[71, 69, 84]⟩ = 1 by decide +kernel]
    rintro e w3a ⟨rfl, hb3a⟩
    have A3a := hide (A2.out.below hb3a)
    have G3a := hide ((hb3a.block _ (rowLt G2.out)).trans G2.out)
    have B3a := hide (B2.out.of hb3a)
    have R2a := hide (keepRow R2.out hb3a)
    clear hb3a A2 G2 B2
    go_wp2_with fail
    refine (head29 1 0 0 _ 2 _ an304t true _ A3a.out Hs.out T fr G3a.out (mm := ⟨#[]⟩) (st := 304) (N := 7) (T' := true) an304t_r (by decide) (fun h => by first | (cases h; done) | decide +kernel)).mono ?_
    rw [show behM 1 ⟨#[]⟩ 304 true = 1 by decide +kernel, show behL 1 ⟨#[]⟩ 304 7 true = 0 by decide +kernel]
    rintro e w3 ⟨rfl, hb3⟩
    have al1 := (Below.refl w3.heap.size w3).alloc (Nat.le_refl _) (.cells #[.int .i64 0, .int .i64 2, .int .i64 0, .int .i64 0] 70)
    have al2 := (Below.refl (w3.alloc (.cells #[.int .i64 0, .int .i64 2, .int .i64 0, .int .i64 0] 70)).heap.size (w3.alloc (.cells #[.int .i64 0, .int .i64 2, .int .i64 0, .int .i64 0] 70))).alloc (Nat.le_refl _) (.cells #[.string ⟨#[]⟩, .int .i64 304, .int .i64 7, .bool true] 55)
    have A3 := hide (A3a.out.below (hb3.of (al1.of al2)))
    have G3 := hide (((hb3.of (al1.of al2)).block _ (rowLt G3a.out)).trans G3a.out)
    have B3 := hide (B3a.out.of (hb3.of (al1.of al2)))
    have R3 := hide (keepRow (heap_alloc_new w3 (.cells #[.int .i64 0, .int .i64 2, .int .i64 0, .int .i64 0] 70)) al2)
    have R2b := hide (keepRow R2a.out (hb3.of (al1.of al2)))
    clear hb3 al1 al2 A3a G3a B3a
    obtain ⟨c0, c1, c2, c3⟩ := row4m R2b.out
    by_cases hn : 0 < n
    · have q1 : decide (0 < n) = true := decide_eq_true hn
      go_wp2_with fail
      refine (data29 0 1 1 0 n n true _ (by omega) (by decide) (by decide)).mono ?_
      rw [dt_pos29 hn]
      clear hn
      rintro e w4 ⟨rfl, hb4⟩
      have al4 := (Below.refl w4.heap.size w4).alloc (Nat.le_refl _) (.cells #[.int .i64 0, .int .i64 0, .int .i64 0, .int .i64 0] 70)
      have B4 := hide (B3.out.of (hb4.of al4))
      have G4 := hide (((hb4.of al4).block _ (rowLt G3.out)).trans G3.out)
      have R4 := hide (keepRow R3.out (hb4.of al4))
      have Q4 := hide (heap_alloc_new w4 (.cells #[.int .i64 0, .int .i64 0, .int .i64 0, .int .i64 0] 70))
      clear hb4 al4 B3 G3 R3 R2b c0 c1 c2 c3 A3
      obtain ⟨c0, c1, c2, c3⟩ := row4m R4.out
      go_wp2_with fail
      refine (over29 0 2 0 0 _).mono ?_
      rw [show ((2 : Int) == 2) = true by rfl]
      rintro e w5 ⟨rfl, hb5⟩
      have B5 := hide (B4.out.of hb5)
      have G5 := hide ((hb5.block _ (rowLt G4.out)).trans G4.out)
      have Q5 := hide (keepRow Q4.out hb5)
      clear hb5 B4 G4 R4 Q4 c0 c1 c2 c3
      obtain ⟨c0, c1, c2, c3⟩ := row4m Q5.out
      go_wp2_with fail
      refine (over29 0 0 0 0 _).mono ?_
      rw [show ((0 : Int) == 2) = false by rfl]
      rintro e w6 ⟨rfl, hb6⟩
      have B6 := hide (B5.out.of hb6)
      have G6 := hide ((hb6.block _ (rowLt G5.out)).trans G5.out)
      clear hb6 B5 G5 Q5 c0 c1 c2 c3
      go_wp2_with fail
      refine (alive29 _ T fr G6.out).mono ?_
      rintro e w7 ⟨rfl, hb7⟩
      have B7 := hide (B6.out.of hb7)
      clear hb7
      go_wp2_with fail
      go_ret
      exact ⟨rfl, B7.out⟩
    · have q1 : decide (0 < n) = false := decide_eq_false hn
      go_wp2_with fail
      refine (data29 0 1 1 0 n 0 true _ (by omega) (by decide) (by decide)).mono ?_
      rw [show dtO 0 1 1 0 0 true = (.agg #[.int .i64 0, .int .i64 2, .int .i64 0, .int .i64 0], 0) by rfl]
      clear hn
      rintro e w4 ⟨rfl, hb4⟩
      have al4 := (Below.refl w4.heap.size w4).alloc (Nat.le_refl _) (.cells #[.int .i64 0, .int .i64 2, .int .i64 0, .int .i64 0] 70)
      have B4 := hide (B3.out.of (hb4.of al4))
      have G4 := hide (((hb4.of al4).block _ (rowLt G3.out)).trans G3.out)
      have R4 := hide (keepRow R3.out (hb4.of al4))
      have Q4 := hide (heap_alloc_new w4 (.cells #[.int .i64 0, .int .i64 2, .int .i64 0, .int .i64 0] 70))
      clear hb4 al4 B3 G3 R3 R2b c0 c1 c2 c3 A3
      obtain ⟨c0, c1, c2, c3⟩ := row4m R4.out
      go_wp2_with fail
      refine (over29 0 2 0 0 _).mono ?_
      rw [show ((2 : Int) == 2) = true by rfl]
      rintro e w5 ⟨rfl, hb5⟩
      have B5 := hide (B4.out.of hb5)
      have G5 := hide ((hb5.block _ (rowLt G4.out)).trans G4.out)
      have Q5 := hide (keepRow Q4.out hb5)
      clear hb5 B4 G4 R4 Q4 c0 c1 c2 c3
      obtain ⟨c0, c1, c2, c3⟩ := row4m Q5.out
      go_wp2_with fail
      refine (over29 0 2 0 0 _).mono ?_
      rw [show ((2 : Int) == 2) = true by rfl]
      rintro e w6 ⟨rfl, hb6⟩
      have B6 := hide (B5.out.of hb6)
      have G6 := hide ((hb6.block _ (rowLt G5.out)).trans G5.out)
      clear hb6 B5 G5 Q5 c0 c1 c2 c3
      go_wp2_with fail
      refine (alive29 _ T fr G6.out).mono ?_
      rintro e w7 ⟨rfl, hb7⟩
      have B7 := hide (B6.out.of hb7)
      clear hb7
      go_wp2_with fail
      go_ret
      exact ⟨rfl, B7.out⟩
theorem none_walk29 (which n : Int) (told : Bool) (w : World) (T : TypeId) (fr : Nat × Nat) (hg : w.heap[2]? = some (.cells barV T fr)) : Calls Tryd.prog 12 #[.int .i64 which, .int .i64 n, .bool told] w (Yes w) := by
  by_cases h0 : which = 0
  · subst h0
    exact none_a29 n told w T fr hg
  by_cases h1 : which = 1
  · subst h1
    exact none_b29 n told w T fr hg
  exact none_c29 which n told h0 h1 w T fr hg
end Go.Proofs.YtpfhiimlloeciaaDoor
