/- Layer 23: the example. -/
import Derived.Test.YtnkcbljhgcgpaaaDoorDea
import Derived.Test.YtnkcbljhgcgpaaaDoorMV
import Derived.Test.YtnkcbljhgcgpaaaDoorLaip
namespace Go.Proofs.YtnkcbljhgcgpaaaDoor
set_option linter.unusedVariables false
set_option linter.unusedSimpArgs false
open Go.RowKit Go.Deep Go.ChangeShapes Go.WideShapes

def g23 : Nat → Int := fun j => if j = 0 then 64 else if j = 1 then 1 else if j = 2 then 97 else if j = 3 then 1 else 98
def ab23 : Fd := ⟨⟨#[97]⟩, ⟨#[98]⟩, false⟩
theorem g23_s1 : SlR (fun j => g23 (0 + (1 + j))) (5 - 1) (5 : Nat) ⟨#[97]⟩ false 2 0 := ⟨1, 1, 0, by decide, .inr (.inr (.inr (.inl ⟨rfl, by decide, by decide, by decide, by decide +kernel, rfl, rfl, rfl⟩)))⟩
theorem g23_s2 : SlR (fun j => g23 (0 + (1 + (2 : Int).toNat + j))) (5 - (1 + (2 : Int).toNat)) (5 : Nat) ⟨#[98]⟩ false 2 0 := ⟨1, 1, 0, by decide, .inr (.inr (.inr (.inl ⟨rfl, by decide, by decide, by decide, by decide +kernel, rfl, rfl, rfl⟩)))⟩
theorem g23_r : GtR (fun j => g23 (0 + j)) 5 2 0 ⟨#[97]⟩ false ⟨#[98]⟩ false 0 5 0 := .inr ⟨by decide, 0, 1, 0, by decide, .inr (.inr (.inr (.inr (.inr ⟨rfl, by decide, by decide, rfl, _, _, _, _, g23_s1, .inr ⟨rfl, _, _, _, _, g23_s2, .inr ⟨rfl, by decide, rfl, rfl, rfl, rfl, rfl, rfl, rfl, rfl⟩⟩⟩))))⟩
theorem x190_r (x : Int) (i : Int) (h : x = 190 ∧ i = 62 ∨ x = 191 ∧ i = 63) : GtR (fun j => oneF x (0 + j)) 1 1 i ⟨#[]⟩ false ⟨#[]⟩ false 0 1 0 := by
  rcases h with ⟨rfl, rfl⟩ | ⟨rfl, rfl⟩
  · exact .inr ⟨by decide, 62, 1, 0, by decide, .inr (.inr (.inl ⟨rfl, by decide, by decide, rfl, rfl, rfl, rfl, rfl, rfl, rfl, rfl, rfl⟩))⟩
  · exact .inr ⟨by decide, 63, 1, 0, by decide, .inr (.inr (.inl ⟨rfl, by decide, by decide, rfl, rfl, rfl, rfl, rfl, rfl, rfl, rfl, rfl⟩))⟩
theorem g23_d : DcR g23 5 0 ⟨[], [], 100, []⟩ (.inl ⟨[ab23], [], 100, [ab23]⟩) := .go (by decide) g23_r rfl (.done (by decide))
theorem x190_d : DcR (oneF 190) 1 0 ⟨[], [], 100, [ab23]⟩ (.inl ⟨[ab23], [], 100, [ab23]⟩) := .go (by decide) (x190_r 190 62 (.inl ⟨rfl, rfl⟩)) rfl (.done (by decide))
theorem x191_d : DcR (oneF 191) 1 0 ⟨[], [], 100, [ab23]⟩ (.inr 12) := .fault (by decide) (x190_r 191 63 (.inr ⟨rfl, rfl⟩)) rfl
theorem byt23 : Byt 5 g23 := fun j _ => by
  unfold g23
  (repeat' split) <;> omega
theorem byt_oneF {x : Int} (h0 : 0 ≤ x) (h1 : x ≤ 255) (n : Nat) : Byt n (oneF x) := fun _ _ => ⟨h0, h1⟩
theorem sm_ab : ∀ f ∈ [ab23], SmF f := fun f hf => by
  obtain rfl := List.mem_singleton.1 hf
  exact ⟨by decide, by decide⟩
theorem want23 (w : World) : RdV 3 (w.alloc (.cells #[.string ⟨#[97]⟩, .string ⟨#[98]⟩, .bool false] 51)) (some ⟨w.heap.size, 0, none⟩) 1 1 (fdV (fn [ab23])) :=
  (OwnV.lit 3 51 0 w (fdV (fn [ab23])) #[.string ⟨#[97]⟩, .string ⟨#[98]⟩, .bool false] 1 (Nat.zero_le _) (by simp [maxLen]) rfl).rdS2
set_option maxRecDepth 20000 in
set_option maxHeartbeats 3200000 in
theorem alive23 (w : World) (T : TypeId) (fr : Nat × Nat) (hg : w.heap[0]? = some (.cells formsV T fr)) : Calls Tryd.prog 9 #[] w (Yes w) := by
  have G0 := hide hg
  have hgl := rowLt hg
  clear hg
  go_enter Tryd.func9, Tryd.ntmps9
  go_wp2_with fail
  refine (dnew 100 (by decide) w).mono ?_
  rintro e w1 ⟨p, rfl, ht1, hb1⟩
  have T1 := hide ht1
  have E1 := hide hb1
  have G1 := hide ((hb1.block _ hgl).trans G0.out)
  have hp1 := ht1.lt p (.inl rfl)
  have hfp : Hid (0 ≠ p) := by show _ ≠ _; omega
  have HP := hide hp1
  clear ht1 hb1 hgl hp1 G0
  have al := (Below.refl w1.heap.size w1).alloc (Nat.le_refl _) (.cells #[.int .u8 64, .int .u8 1, .int .u8 97, .int .u8 1, .int .u8 98] 5)
  have L := hide (Own.lit .u8 5 0 w1 g23 #[.int .u8 64, .int .u8 1, .int .u8 97, .int .u8 1, .int .u8 98] 5 (Nat.zero_le _) (by simp [maxLen]) rfl).rdS
  have Ta := hide (T1.out.below al)
  have Ea := hide (E1.out.of al)
  have Ga := hide ((al.block _ (rowLt G1.out)).trans G1.out)
  have hpl : Hid (p < w1.heap.size) := (T1.out.lt p (.inl rfl)).2
  clear al T1 E1 G1 
  go_wp2_with fail
  refine (decode23 Ta.out Ea.out.size (fun f hf => absurd hf (by simp)) (T := 1) (by decide) (by decide) _ 5 _ _ L.out byt23 (by decide) T fr Ga.out).mono ?_
  rintro e v1 ⟨r, hr, hm⟩
  obtain rfl := hr.same g23_d
  obtain ⟨B1, c1, B1', c1', g1, rfl, ho1, hs1, ht1, hg1, hf1⟩ := hm
  have hob : p + 1 ≤ (w1.alloc (.cells #[.int .u8 64, .int .u8 1, .int .u8 97, .int .u8 1, .int .u8 98] 5)).heap.size := by have := hpl.out; simp; omega
  have al := (Below.refl v1.heap.size v1).alloc (Nat.le_refl _) (.cells #[.slice B1 1 c1, .slice B1' 0 c1'] 32)
  have Q1 := hide (heap_alloc_new v1 (.cells #[.slice B1 1 c1, .slice B1' 0 c1'] 32))
  have T2 := hide (ht1.below al)
  have E2 := hide ((Ea.out.trans hf1.below).of al)
  have G2 := hide ((al.block _ (rowLt (hf1.row Ga.out hfp.out))).trans (hf1.row Ga.out hfp.out))
  have O1 := hide ((ho1.base hob).alloc (.cells #[.slice B1 1 c1, .slice B1' 0 c1'] 32))
  have HQ1 : Hid (p < v1.heap.size) := (ht1.lt p (.inl rfl)).2
  clear al ht1 hf1 ho1 hs1 hg1 Ta Ea Ga L hpl hr hob 
  go_upto_region 3 with (fail)
  generalize hW : v1.alloc (.cells #[.slice B1 1 c1, .slice B1' 0 c1'] 32) = w2 at *
  generalize hP : v1.heap.size = q1 at *
  clear hW hP
  have al := (Below.refl w2.heap.size w2).alloc (Nat.le_refl _) (.cells #[.int .u8 190] 5)
  have L := hide (Own.lit .u8 5 0 w2 (oneF 190) #[.int .u8 190] 1 (Nat.zero_le _) (by simp [maxLen]) rfl).rdS
  have Ta := hide (T2.out.below al)
  have Ea := hide (E2.out.of al)
  have Ga := hide ((al.block _ (rowLt G2.out)).trans G2.out)
  have Q1a := hide (keepRow Q1.out al)
  have O1a := hide (O1.out.alloc (.cells #[.int .u8 190] 5))
  have hpl : Hid (p < w2.heap.size) := (T2.out.lt p (.inl rfl)).2
  clear al T2 E2 G2 Q1 O1
  go_wp2_with fail
  refine (decode23 Ta.out Ea.out.size sm_ab (T := 1) (by decide) (by decide) _ 1 _ _ L.out (byt_oneF (by decide) (by decide) 1) (by decide) T fr Ga.out).mono ?_
  rintro e v2 ⟨r, hr, hm⟩
  obtain rfl := hr.same x190_d
  obtain ⟨B2, c2, B2', c2', g2, rfl, ho2, hs2, ht2, hg2, hf2⟩ := hm
  have hob : p + 1 ≤ (w2.alloc (.cells #[.int .u8 190] 5)).heap.size := by have := hpl.out; simp; omega
  have al := (Below.refl v2.heap.size v2).alloc (Nat.le_refl _) (.cells #[.slice B2 1 c2, .slice B2' 0 c2'] 32)
  have Q2 := hide (heap_alloc_new v2 (.cells #[.slice B2 1 c2, .slice B2' 0 c2'] 32))
  have T3 := hide (ht2.below al)
  have E3 := hide ((Ea.out.trans hf2.below).of al)
  have G3 := hide ((al.block _ (rowLt (hf2.row Ga.out hfp.out))).trans (hf2.row Ga.out hfp.out))
  have Q1 := hide (keepRow (hf2.row Q1a.out (by have := HQ1.out; omega)) al)
  have O1 := hide ((O1a.out.at_ fun b hb => hf2.keep b (O1a.out.lt b hb).2 (fun e => by have := (O1a.out.lt b hb).1; omega)).alloc (.cells #[.slice B2 1 c2, .slice B2' 0 c2'] 32))
  have O2 := hide ((ho2.base hob).alloc (.cells #[.slice B2 1 c2, .slice B2' 0 c2'] 32))
  have HQ2 : Hid (p < v2.heap.size) := (ht2.lt p (.inl rfl)).2
  clear al ht2 hf2 ho2 hs2 hg2 Ta Ea Ga L hpl hr hob Q1a O1a
  go_upto_region 4 with (fail)
  generalize hW : v2.alloc (.cells #[.slice B2 1 c2, .slice B2' 0 c2'] 32) = w3 at *
  generalize hP : v2.heap.size = q2 at *
  clear hW hP
  have al := (Below.refl w3.heap.size w3).alloc (Nat.le_refl _) (.cells #[.int .u8 191] 5)
  have L := hide (Own.lit .u8 5 0 w3 (oneF 191) #[.int .u8 191] 1 (Nat.zero_le _) (by simp [maxLen]) rfl).rdS
  have Ta := hide (T3.out.below al)
  have Ea := hide (E3.out.of al)
  have Ga := hide ((al.block _ (rowLt G3.out)).trans G3.out)
  have Q1a := hide (keepRow Q1.out al)
  have O1a := hide (O1.out.alloc (.cells #[.int .u8 191] 5))
  have Q2a := hide (keepRow Q2.out al)
  have O2a := hide (O2.out.alloc (.cells #[.int .u8 191] 5))
  have hpl : Hid (p < w3.heap.size) := (T3.out.lt p (.inl rfl)).2
  clear al T3 E3 G3 Q1 O1 Q2 O2
  go_wp2_with fail
  refine (decode23 Ta.out Ea.out.size sm_ab (T := 1) (by decide) (by decide) _ 1 _ _ L.out (byt_oneF (by decide) (by decide) 1) (by decide) T fr Ga.out).mono ?_
  rintro e v3 ⟨r, hr, hm⟩
  obtain rfl := hr.same x191_d
  obtain ⟨rfl, _, hb3⟩ := hm
  have al := (Below.refl v3.heap.size v3).alloc (Nat.le_refl _) (.cells #[.slice none 0 0, .slice none 0 0] 32)
  have al2 := (Below.refl (v3.alloc (.cells #[.slice none 0 0, .slice none 0 0] 32)).heap.size (v3.alloc (.cells #[.slice none 0 0, .slice none 0 0] 32))).alloc (Nat.le_refl _) (.cells #[.string ⟨#[97]⟩, .string ⟨#[98]⟩, .bool false] 51)
  have b3 := (hb3.of al).of al2
  have E4 := hide (Ea.out.of b3)
  have T4 := hide (Ta.out.below b3)
  have Q1 := hide (keepRow Q1a.out b3)
  have Q2 := hide (keepRow Q2a.out b3)
  have O1 := hide (O1a.out.below b3)
  have O2 := hide (O2a.out.below b3)
  have hwant := want23 (v3.alloc (.cells #[.slice none 0 0, .slice none 0 0] 32))
  have hsw : (v3.alloc (.cells #[.slice none 0 0, .slice none 0 0] 32)).heap.size = v3.heap.size + 1 := by simp
  rw [hsw] at hwant
  have W4 := hide hwant
  clear hwant hsw
  clear al al2 b3 hb3 Ta Ea Ga L hpl hr Q1a Q2a O1a O2a
  go_upto_region 6 with (fail)
  generalize hW : (v3.alloc (.cells #[.slice none 0 0, .slice none 0 0] 32)).alloc (.cells #[.string ⟨#[97]⟩, .string ⟨#[98]⟩, .bool false] 51) = w4 at *
  clear hW
  obtain ⟨x0, x1⟩ := row2 Q1.out
  obtain ⟨y0, y1⟩ := row2 Q2.out
  go_wp2_with fail
  have HO1 : Hid (RdV 3 w4 B1 1 c1 (fdV (fn [ab23]))) := O1.out.rdS
  refine (rsame21 HO1.out W4.out (by omega)).mono ?_
  rintro e w5 ⟨rfl, hb5⟩
  have E5 := hide (E4.out.of hb5)
  have T5 := hide (T4.out.below hb5)
  have Q5 := hide (keepRow Q2.out hb5)
  have O5 := hide (O2.out.below hb5)
  have W5 := hide (W4.out.below36O hb5)
  clear hb5 E4 T4 Q1 Q2 O1 O2 W4 x0 x1 y0 y1
  obtain ⟨y0, y1⟩ := row2 Q5.out
  go_wp2_with fail
  have HO5 : Hid (RdV 3 w5 B2 1 c2 (fdV (fn [ab23]))) := O5.out.rdS
  refine (rsame21 HO5.out W5.out (by omega)).mono ?_
  rintro e w6 ⟨rfl, hb6⟩
  have E6 := hide (E5.out.of hb6)
  have T6 := hide (T5.out.below hb6)
  clear hb6 E5 T5 Q5 O5 W5 y0 y1
  have hs34 : sumL [ab23] = 34 := by decide
  have C := dsize T6.out
  rw [hs34] at C
  have HC := hide C
  clear C hs34
  go_wp2_with fail
  refine HC.out.mono ?_
  rintro e w7 ⟨rfl, rfl⟩
  go_wp2_with fail
  go_ret
  exact ⟨rfl, E6.out⟩
end Go.Proofs.YtnkcbljhgcgpaaaDoor
