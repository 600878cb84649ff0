/- Layer 24: the example. -/
import Derived.Test.YtnkcbljhgcgpaaaDoorEnb
import Derived.Test.YtnkcbljhgcgpaaaDoorDeb
namespace Go.Proofs.YtnkcbljhgcgpaaaDoor
set_option linter.unusedVariables false
set_option linter.unusedSimpArgs false
open Go.RowKit Go.Deep Go.ChangeShapes Go.WideShapes

def ge24 : Fd := ⟨⟨#[58, 109, 101, 116, 104, 111, 100]⟩, ⟨#[71, 69, 84]⟩, false⟩
def r24a : Rpv := ⟨1, 2, ⟨#[]⟩, false, ⟨#[]⟩, false, 0⟩
def r24b : Rpv := ⟨2, 0, ⟨#[97]⟩, false, ⟨#[98]⟩, false, 0⟩
def r24c : Rpv := ⟨1, 62, ⟨#[]⟩, false, ⟨#[]⟩, false, 0⟩
theorem noname_a : ∀ j, j < 61 → nmB j ≠ ⟨#[97]⟩ := by decide +kernel
theorem fdr_a : FdR ⟨#[97]⟩ ⟨#[98]⟩ 0 false := .inr ⟨rfl, fun j hj e => noname_a j hj e.1, .inl ⟨rfl, noname_a⟩⟩
theorem fdr_ge : FdR ⟨#[58, 109, 101, 116, 104, 111, 100]⟩ ⟨#[71, 69, 84]⟩ 2 true := .inl ⟨rfl, 1, by decide, by decide, by decide +kernel, by decide +kernel, by decide +kernel⟩
theorem e24a (O : Nat → Op4) : EnR (fun _ => ge24) (optAt O 0) ⟨100, [], []⟩ 1 ⟨100, [], [r24a]⟩ := by
  obtain ⟨m, hm⟩ := nmr_ex [] ⟨#[58, 109, 101, 116, 104, 111, 100]⟩
  exact .succ .zero ⟨2, m, ⟨2, true, fdr_ge, .inl ⟨rfl, rfl⟩⟩, hm, .inl ⟨rfl, by decide, rfl, rfl, rfl, rfl, rfl, rfl, rfl⟩⟩
theorem e24b (O : Nat → Op4) : EnR (fun _ => ab23) (optAt O 0) ⟨100, [], []⟩ 1 ⟨100, [ab23], [r24b]⟩ :=
  .succ .zero ⟨0, 0, ⟨0, false, fdr_a, .inr ⟨rfl, 0, false, .inr ⟨rfl, fun j hj => absurd hj (Nat.not_lt_zero _), .inl ⟨rfl, fun j hj => absurd hj (Nat.not_lt_zero _)⟩⟩, .inr ⟨rfl, rfl⟩⟩⟩,
    .inr ⟨noname_a, .inr ⟨rfl, fun j hj => absurd hj (Nat.not_lt_zero _)⟩⟩, .inr ⟨fun h => absurd h.2 (Int.lt_irrefl 0), rfl, rfl, rfl, rfl, rfl, rfl, rfl⟩⟩
theorem e24c (O : Nat → Op4) : EnR (fun _ => ab23) (optAt O 0) ⟨100, [ab23], []⟩ 1 ⟨100, [ab23], [r24c]⟩ :=
  .succ .zero ⟨62, 62, ⟨0, false, fdr_a, .inr ⟨rfl, 1, true, .inl ⟨rfl, 0, by decide, rfl, rfl, rfl, fun j hj => absurd hj (Nat.not_lt_zero _)⟩, .inl ⟨rfl, rfl⟩⟩⟩,
    .inr ⟨noname_a, .inl ⟨0, by decide, rfl, rfl, fun j hj => absurd hj (Nat.not_lt_zero _)⟩⟩, .inl ⟨rfl, by decide, rfl, rfl, rfl, rfl, rfl, rfl, rfl⟩⟩
theorem n24a : bN [r24a] = 1 := by decide +kernel
theorem n24b : bN [r24b] = 5 := by decide +kernel
theorem n24c : bN [r24c] = 1 := by decide +kernel
theorem f24a : ∀ i, i < 1 → bF [r24a] i = oneF 130 i := by decide +kernel
theorem f24b : ∀ i, i < 5 → bF [r24b] i = g23 i := by decide +kernel
theorem f24c : ∀ i, i < 1 → bF [r24c] i = oneF 190 i := by decide +kernel
theorem sm24 : ∀ f ∈ [ab23], Sm4 f := fun f hf => by
  obtain rfl := List.mem_singleton.1 hf
  exact ⟨by decide, by decide⟩
theorem ok24a : EsOk 1 ⟨100, [], []⟩ := ⟨fun f hf => absurd hf (by simp), fun f hf => absurd hf (by simp), by decide, by decide, fun r hr => absurd hr (by simp)⟩
theorem ok24b : EsOk 1 ⟨100, [ab23], []⟩ := ⟨sm24, fun f hf => by obtain rfl := List.mem_singleton.1 hf; rfl, by decide, by decide, fun r hr => absurd hr (by simp)⟩
theorem lit24 (w : World) (nm vl : ByteArray) : RdV 3 (w.alloc (.cells #[.string nm, .string vl, .bool false] 51)) (some ⟨w.heap.size, 0, none⟩) 1 1 (fdV (fun _ => ⟨nm, vl, false⟩)) :=
  (OwnV.lit 3 51 0 w (fdV (fun _ => ⟨nm, vl, false⟩)) #[.string nm, .string vl, .bool false] 1 (Nat.zero_le _) (by simp [maxLen]) rfl).rdS2
theorem ez0 (z : Nat → Int) (σ : Es) : ezN z 0 σ = σ := rfl
/-- One of the example's blocks. -/
theorem enc1 {B : Nat} {w : World} {p : Nat} {g : Option Nat} {mx : Nat} {tb : List Fd} (hd : TL B w p g mx tb) (hB : B ≤ w.heap.size) (hok : EsOk 1 ⟨mx, tb, []⟩) (A2 : Option Addr) (f : Fd) (h2 : RdV 3 w A2 1 1 (fdV (fun _ => f))) (t2 : ∀ a, A2 = some a → ¬ tfp p g a.block) (hG : Sm4 f)
    (Ty : TypeId) (fr : Nat × Nat) (hg : w.heap[0]? = some (.cells formsV Ty fr)) (hgt : ¬ tfp p g 0) {tb' : List Fd} {r : Rpv} {N : Nat} (he : EnR (fun _ => f) (optAt (fun _ => op0) 0) ⟨mx, tb, []⟩ 1 ⟨mx, tb', [r]⟩) (hN : bN [r] = N) :
    Calls Tryd.prog 24 #[.pointer (some ⟨p, 0, none⟩), .slice none 0 0, .slice A2 1 1, .slice none 0 0] w fun e w' => ∃ A c g1, e = .returned (.tuple #[.slice A N c, .int .i64 0]) ∧ Rd .u8 w' A N c (bF [r]) ∧ (∀ a, A = some a → w.heap.size ≤ a.block ∧ a.block < w'.heap.size ∧ ¬ tfp p g1 a.block) ∧ TL B w' p g1 mx tb' ∧ FrO B (tfp p g) w w' ∧ (g1 = g ∨ ∀ b, g1 = some b → w.heap.size ≤ b) := by
  refine (encode24 hd hB hok (by decide) none 0 0 (fun _ => 0) (nilRdV _ _ _) (by decide) (fun a h => by cases h) A2 1 1 (fun _ => f) h2 (by decide) (fun a h _ => t2 a h) (fun _ _ => hG) none 0 0 (fun _ => op0) (nilRdV _ _ _) (by decide) (fun a h => by cases h) Ty fr hg hgt).mono ?_
  rintro e w' (⟨hno, _⟩ | ⟨_, σ, v, g1, rfl, hen, hs⟩)
  · exact absurd (fun j hj => absurd hj (Nat.not_lt_zero _)) hno
  · obtain rfl := EnR.same (show EnR _ _ ⟨mx, tb, []⟩ 1 σ from hen) he
    have ho := hs.ov
    simp only [hN] at ho
    obtain ⟨A, c, rfl, hr, hz⟩ := ho.rd
    exact ⟨A, c, g1, rfl, V_rd hr, fun a ha => ⟨(hz a ha).1, (hz a ha).2.1, hs.sep a.block (by subst ha; rfl)⟩, hs.tl, hs.fr, hs.hg⟩
set_option maxRecDepth 20000 in
set_option maxHeartbeats 3200000 in
theorem alive24 (w : World) (T : TypeId) (fr : Nat × Nat) (hg : w.heap[0]? = some (.cells formsV T fr)) : Calls Tryd.prog 23 #[] w (Yes w) := by
  have G0 := hide hg
  have hgl := rowLt hg
  clear hg
  go_enter Tryd.func23, Tryd.ntmps23
  go_wp2_with fail
  refine (enew 100 (by decide) w).mono ?_
  rintro e w1 ⟨p, rfl, ht1, hb1⟩
  have E1 := hide hb1
  have hp1 := ht1.lt p (.inl rfl)
  have hfp : Hid (0 < w.heap.size) := hgl
  have HP := hide hp1
  have a1 := (Below.refl w1.heap.size w1).alloc (Nat.le_refl _) (.cells #[.string ⟨#[97]⟩, .string ⟨#[98]⟩, .bool false] 51)
  have a2 := a1.alloc (by simp) (.cells #[.string ⟨#[58, 109, 101, 116, 104, 111, 100]⟩, .string ⟨#[71, 69, 84]⟩, .bool false] 51)
  have T3 := hide (ht1.below a2)
  have G3 := hide ((a2.block _ (rowLt ((hb1.block _ hgl).trans G0.out))).trans ((hb1.block _ hgl).trans G0.out))
  have AB0 := lit24 w1 ⟨#[97]⟩ ⟨#[98]⟩
  have AB3 := hide (AB0.below36O ((Below.refl _ _).alloc (Nat.le_refl _) (.cells #[.string ⟨#[58, 109, 101, 116, 104, 111, 100]⟩, .string ⟨#[71, 69, 84]⟩, .bool false] 51)))
  have GE0 := lit24 (w1.alloc (.cells #[.string ⟨#[97]⟩, .string ⟨#[98]⟩, .bool false] 51)) ⟨#[58, 109, 101, 116, 104, 111, 100]⟩ ⟨#[71, 69, 84]⟩
  have hs1 : (w1.alloc (.cells #[.string ⟨#[97]⟩, .string ⟨#[98]⟩, .bool false] 51)).heap.size = w1.heap.size + 1 := by simp
  rw [hs1] at GE0
  have GE3 := hide GE0
  have E3 := hide (E1.out.of a2)
  have hs3 : Hid (w1.heap.size + 2 ≤ ((w1.alloc (.cells #[.string ⟨#[97]⟩, .string ⟨#[98]⟩, .bool false] 51)).alloc (.cells #[.string ⟨#[58, 109, 101, 116, 104, 111, 100]⟩, .string ⟨#[71, 69, 84]⟩, .bool false] 51)).heap.size) := by show _ ≤ _; simp
  have h1w : Hid (w.heap.size ≤ w1.heap.size) := hb1.size
  clear ht1 hb1 a1 a2 AB0 GE0 hs1 hgl hp1 G0 E1
  go_upto_region 3 with (fail)
  go_wp2_with (first | (go_at_call 24; refine (enc1 T3.out E3.out.size ok24a _ ge24 GE3.out (fun a ha hq => by cases ha; rcases hq with hq | hq; (have := HP.out.2; simp only at hq; omega); cases hq) ⟨by decide, by decide⟩ T fr G3.out (fun hq => by rcases hq with hq | hq; (have := HP.out.1; have := hfp.out; omega); cases hq) (e24a _) n24a).mono ?_))
  rintro e w4 ⟨B1, c1, g1, rfl, hr1, hz1, ht4, hf4, hg4⟩
  have hab : Hid (¬ tfp p g1 w1.heap.size) := fun hq => by
    rcases hq with hq | hq
    · have := HP.out.2; omega
    · rcases hg4 with e | e
      · rw [e] at hq; cases hq
      · have := e _ hq; have := hs3.out; omega
  have hfo : Hid (¬ tfp p g1 0) := fun hq => by
    have := hfp.out
    have := h1w.out
    rcases hq with hq | hq
    · have := HP.out.1; omega
    · rcases hg4 with e | e
      · rw [e] at hq; cases hq
      · have := e _ hq; have := hs3.out; omega
  have G4 := hide ((hf4.keep _ (rowLt G3.out) (fun hq => by rcases hq with hq | hq; (have := HP.out.1; have := hfp.out; omega); cases hq)).trans G3.out)
  have AB4 := hide (AB3.out.frO (by decide) hf4 (fun a ha hq => by cases ha; rcases hq with hq | hq; (have := HP.out.2; simp only at hq; omega); cases hq))
  have E4 := hide (E3.out.trans hf4.below)
  have T4 := hide ht4
  have X4 := hide hr1
  have Z4 := hide hz1
  have hs4 : Hid (w1.heap.size < w4.heap.size) := by have := hs3.out; have := hf4.below.size; show _ < _; omega
  clear hr1 hz1 ht4 hf4 hg4 T3 G3 AB3 GE3 E3
  go_upto_region 4 with (fail)
  go_wp2_with (first | (go_at_call 24; refine (enc1 T4.out E4.out.size ok24a _ ab23 AB4.out (fun a ha => by cases ha; exact hab.out) ⟨by decide, by decide⟩ T fr G4.out hfo.out (e24b _) n24b).mono ?_))
  rintro e w5 ⟨B2, c2, g2, rfl, hr2, hz2, ht5, hf5, hg5⟩
  have hab5 : Hid (¬ tfp p g2 w1.heap.size) := fun hq => by
    rcases hq with hq | hq
    · exact hab.out (.inl hq)
    · rcases hg5 with e | e
      · rw [e] at hq; exact hab.out (.inr hq)
      · have := e _ hq; have := hs4.out; omega
  have hfo5 : Hid (¬ tfp p g2 0) := fun hq => by
    have := hfp.out
    have := h1w.out
    rcases hq with hq | hq
    · exact hfo.out (.inl hq)
    · rcases hg5 with e | e
      · rw [e] at hq; exact hfo.out (.inr hq)
      · have := e _ hq; have := hs4.out; omega
  have G5 := hide ((hf5.keep _ (rowLt G4.out) hfo.out).trans G4.out)
  have AB5 := hide (AB4.out.frO (by decide) hf5 (fun a ha => by cases ha; exact hab.out))
  have E5 := hide (E4.out.trans hf5.below)
  have T5 := hide ht5
  have X5 := hide ((rd_V X4.out).frO (by decide) hf5 (fun a ha => (Z4.out a ha).2.2))
  have hz5 : ∀ a, B1 = some a → ¬ tfp p g2 a.block := fun a ha hq => by
    rcases hq with hq | hq
    · exact (Z4.out a ha).2.2 (.inl hq)
    · rcases hg5 with e | e
      · rw [e] at hq; exact (Z4.out a ha).2.2 (.inr hq)
      · have := e _ hq; have := (Z4.out a ha).2.1; omega
  have Z5 := hide hz5
  have Y5 := hide hr2
  have V5 := hide hz2
  clear hr2 hz2 ht5 hf5 hg5 T4 G4 AB4 E4 X4 Z4 hz5
  go_upto_region 5 with (fail)
  go_wp2_with (first | (go_at_call 24; refine (enc1 T5.out E5.out.size ok24b _ ab23 AB5.out (fun a ha => by cases ha; exact hab5.out) ⟨by decide, by decide⟩ T fr G5.out hfo5.out (e24c _) n24c).mono ?_))
  rintro e w6 ⟨B3, c3, g3, rfl, hr3, hz3, ht6, hf6, hg6⟩
  have E6 := hide (E5.out.trans hf6.below)
  have X6 := hide (X5.out.frO (by decide) hf6 Z5.out)
  have Y6 := hide ((rd_V Y5.out).frO (by decide) hf6 (fun a ha => (V5.out a ha).2.2))
  have Z6 := hide hr3
  clear hr3 hz3 ht6 hf6 hg6 T5 G5 AB5 E5 X5 Y5 Z5 V5
  have L1 := hide (Own.lit .u8 5 0 w6 (oneF 130) #[.int .u8 130] 1 (Nat.zero_le _) (by simp [maxLen]) rfl).rdS
  have X7 := hide (X6.out.below36O ((Below.refl _ _).alloc (Nat.le_refl _) (.cells #[.int .u8 130] 5)))
  go_wp2_with (first
    | (go_at_call 29
       refine (rsame_yes _ _ _ _ _ _ _ _ (V_rd Z9.out) L3.out f24c).mono ?_
       rintro e w9 ⟨rfl, hd9⟩
       have hb9 := ((Below.refl w8.heap.size w8).alloc (Nat.le_refl _) (.cells #[.int .u8 190] 5)).trans (drawn_below hd9 _)
       have E9 := hide (E8.out.of hb9)
       clear hd9 hb9)
    | (go_at_call 29
       refine (rsame_yes _ _ _ _ _ _ _ _ (V_rd Y8.out) L2.out f24b).mono ?_
       rintro e w8 ⟨rfl, hd8⟩
       have hb8 := ((Below.refl w7.heap.size w7).alloc (Nat.le_refl _) (.cells #[.int .u8 64, .int .u8 1, .int .u8 97, .int .u8 1, .int .u8 98] 5)).trans (drawn_below hd8 _)
       have E8 := hide (E7.out.of hb8)
       have Z8 := hide (Z7.out.below36O hb8)
       have L3 := hide (Own.lit .u8 5 0 w8 (oneF 190) #[.int .u8 190] 1 (Nat.zero_le _) (by simp [maxLen]) rfl).rdS
       have Z9 := hide (Z8.out.below36O ((Below.refl _ _).alloc (Nat.le_refl _) (.cells #[.int .u8 190] 5)))
       clear hd8 hb8)
    | (go_at_call 29
       refine (rsame_yes _ _ _ _ _ _ _ _ (V_rd X7.out) L1.out f24a).mono ?_
       rintro e w7 ⟨rfl, hd7⟩
       have hb7 := ((Below.refl w6.heap.size w6).alloc (Nat.le_refl _) (.cells #[.int .u8 130] 5)).trans (drawn_below hd7 _)
       have E7 := hide (E6.out.of hb7)
       have Y7 := hide (Y6.out.below36O hb7)
       have Z7 := hide ((rd_V Z6.out).below36O hb7)
       have L2 := hide (Own.lit .u8 5 0 w7 g23 #[.int .u8 64, .int .u8 1, .int .u8 97, .int .u8 1, .int .u8 98] 5 (Nat.zero_le _) (by simp [maxLen]) rfl).rdS
       have Y8 := hide (Y7.out.below36O ((Below.refl _ _).alloc (Nat.le_refl _) (.cells #[.int .u8 64, .int .u8 1, .int .u8 97, .int .u8 1, .int .u8 98] 5)))
       clear hd7 hb7))
  go_ret
  exact ⟨rfl, E9.out⟩
end Go.Proofs.YtnkcbljhgcgpaaaDoor
