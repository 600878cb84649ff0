/- Layer 19: the text that begins bytes, the program's and the reference's; texts there and back; the walks of the laws on getting and on both. -/
import Derived.Test.YtnkcbljhgcgpaaaDoorSltA
import Derived.Test.YtnkcbljhgcgpaaaDoorME
import Derived.Lib.MinMax
import Derived.Laws.ResultCell
namespace Go.Proofs.YtnkcbljhgcgpaaaDoor
set_option linter.unusedVariables false
set_option linter.unusedSimpArgs false
open Go.RowKit Go.PlainAid

theorem gt_bd {f : Nat → Int} {n : Nat} : ∀ fu k acc, 1 ≤ k → 0 ≤ acc → (gt f n fu k acc).2.2 = 0 → 0 ≤ (gt f n fu k acc).1 ∧ (gt f n fu k acc).1 ≤ 2147483647 ∧ 1 ≤ (gt f n fu k acc).2.1 ∧ (gt f n fu k acc).2.1 ≤ n
  | 0, k, acc => by
    intro _ _ h
    simp [gt] at h
  | fu + 1, k, acc => by
    intro hk ha h
    have hu : 0 ≤ f k % 128 * un k := Int.mul_nonneg (by omega) (Int.le_of_lt (Int.pow_pos (by decide)))
    by_cases h1 : n ≤ k
    · rw [gt_short h1] at h
      simp at h
    · by_cases h2 : f k < 128
      · by_cases h3 : 2147483647 < acc + f k % 128 * un k
        · rw [gt_range (by omega) h2 h3] at h
          simp at h
        · rw [gt_ok (by omega) h2 h3]
          exact ⟨by show 0 ≤ acc + f k % 128 * un k; omega, by show acc + f k % 128 * un k ≤ 2147483647; omega, by show (1 : Int) ≤ (k : Int) + 1; omega, by show (k : Int) + 1 ≤ n; omega⟩
      · rw [gt_more (by omega) h2] at h ⊢
        exact gt_bd fu (k + 1) _ (by omega) (by omega) h
theorem pg_bd7 {f : Nat → Int} {n : Nat} (h : (pg f n 7).2.2 = 0) : 0 < n ∧ 0 ≤ (pg f n 7).1 ∧ (pg f n 7).1 ≤ 2147483647 ∧ 1 ≤ (pg f n 7).2.1 ∧ (pg f n 7).2.1 ≤ n := by
  have e : p8 7 = 128 := by decide
  unfold pg at h ⊢
  rw [if_neg (by decide), e] at h ⊢
  by_cases h0 : n = 0
  · rw [if_pos h0] at h
    simp at h
  · rw [if_neg h0] at h ⊢
    by_cases h1 : f 0 % 128 < 128 - 1
    · rw [if_pos h1]
      exact ⟨by omega, by show 0 ≤ f 0 % 128; omega, by show f 0 % 128 ≤ 2147483647; omega, by show (1 : Int) ≤ 1; omega, by show (1 : Int) ≤ n; omega⟩
    · rw [if_neg h1] at h ⊢
      exact ⟨by omega, gt_bd 5 1 _ (by omega) (by omega) h⟩
/-- What a Get says of bytes. -/
def SlR (f : Nat → Int) (n : Nat) (most : Int) (s : ByteArray) (sh : Bool) (k er : Int) : Prop :=
  ∃ N a d, pg f n 7 = (N, a, d) ∧
  ((d ≠ 0 ∧ s = ⟨#[]⟩ ∧ sh = false ∧ k = 0 ∧ er = d) ∨
   (d = 0 ∧ (most < N ∧ 0 < N) ∧ s = ⟨#[]⟩ ∧ sh = false ∧ k = 0 ∧ er = 9) ∨
   (d = 0 ∧ ¬ (most < N ∧ 0 < N) ∧ (n : Int) - a < N ∧ s = ⟨#[]⟩ ∧ sh = false ∧ k = 0 ∧ er = 3) ∨
   (d = 0 ∧ ¬ (most < N ∧ 0 < N) ∧ ¬ (n : Int) - a < N ∧ f 0 < 128 ∧ s = textB N.toNat (fun i => f (a.toNat + i)) ∧ sh = false ∧ k = a + N ∧ er = 0) ∨
   (d = 0 ∧ ¬ (most < N ∧ 0 < N) ∧ ¬ (n : Int) - a < N ∧ ¬ f 0 < 128 ∧ ∃ m h x, Dcd (bitF fun i => f (a.toNat + i)) (8 * N.toNat) m h x ∧
     ((x ≠ 0 ∧ s = ⟨#[]⟩ ∧ sh = false ∧ k = 0 ∧ er = x) ∨ (x = 0 ∧ s = textB m h ∧ sh = true ∧ k = a + N ∧ er = 0))))
theorem SlR.same {f : Nat → Int} {n : Nat} {most : Int} {s s' : ByteArray} {sh sh' : Bool} {k k' er er' : Int} (h : SlR f n most s sh k er) (h' : SlR f n most s' sh' k' er') : s = s' ∧ sh = sh' ∧ k = k' ∧ er = er' := by
  obtain ⟨N, a, d, hp, h⟩ := h
  obtain ⟨N', a', d', hp', h'⟩ := h'
  rw [hp] at hp'
  injection hp' with e1 e2
  injection e2 with e2 e3
  subst e1
  subst e2
  subst e3
  clear hp
  rcases h with ⟨q1, rfl, rfl, rfl, rfl⟩ | ⟨q1, q2, rfl, rfl, rfl, rfl⟩ | ⟨q1, q2, q3, rfl, rfl, rfl, rfl⟩ | ⟨q1, q2, q3, q4, rfl, rfl, rfl, rfl⟩ | ⟨q1, q2, q3, q4, m, h, x, hd, hh⟩ <;>
  rcases h' with ⟨p1, rfl, rfl, rfl, rfl⟩ | ⟨p1, p2, rfl, rfl, rfl, rfl⟩ | ⟨p1, p2, p3, rfl, rfl, rfl, rfl⟩ | ⟨p1, p2, p3, p4, rfl, rfl, rfl, rfl⟩ | ⟨p1, p2, p3, p4, m', h', x', hd', hh'⟩ <;>
  first
    | exact ⟨rfl, rfl, rfl, rfl⟩
    | exact absurd q1 p1
    | exact absurd p1 q1
    | exact absurd q2 p2
    | exact absurd p2 q2
    | exact absurd q3 p3
    | exact absurd p3 q3
    | exact absurd q4 p4
    | exact absurd p4 q4
    | skip
  obtain ⟨rfl, rfl, hf⟩ := hd.same (bitF_bits _ _) hd'
  rcases hh with ⟨z1, rfl, rfl, rfl, rfl⟩ | ⟨z1, rfl, rfl, rfl, rfl⟩ <;> rcases hh' with ⟨y1, rfl, rfl, rfl, rfl⟩ | ⟨y1, rfl, rfl, rfl, rfl⟩
  · exact ⟨rfl, rfl, rfl, rfl⟩
  · exact absurd y1 z1
  · exact absurd z1 y1
  · exact ⟨textB_congr hf, rfl, rfl, rfl⟩
theorem dcd_byt {g : Nat → Int} {N m : Nat} {h : Nat → Int} {x : Int} (hd : Dcd g N m h x) : Byt m h := by
  obtain ⟨k, p, s, hc, hE⟩ := hd
  rcases hE with ⟨_, rfl, hf, _⟩ | ⟨_, rfl, _⟩ | ⟨_, rfl, _⟩
  · intro i hi
    have := (hc.2 i hi).2.1
    rw [hf i hi]
    omega
  · intro i hi
    omega
  · intro i hi
    omega
theorem results_cell_tmp2 {fn : Func} {p u v : Tmp} {ty : TypeId} (h : fn.results = #[.cell p ty, .tmp u, .tmp v]) (tmps : Array Value) (P : Program) (w : World) :
    (results fn tmps).run P w = ((asAddr (tmps.getD p undef)).run P w).andThen fun a w₁ => ((loadVar ty a).run P w₁).andThen fun x w₂ => .ok (.tuple #[x, tmps.getD u undef, tmps.getD v undef]) w₂ := by
  simp only [results, h]
  simp [Sem.run_bind, Result.andThen]
theorem rd_cellS {k : IntKind} {w : World} {b off n c : Nat} {f : Nat → Int} (h : Rd k w (some ⟨b, off, none⟩) n c f) {i : Nat} (hi : i < n) : w.cell? ⟨b, off + i, none⟩ = some (.int k (f i)) := by
  obtain ⟨b', o', e, hc⟩ := h.at_ hi
  cases e
  exact hc
def SGot (f : Nat → Int) (n : Nat) (most : Int) (w : World) (e : Ending) (w' : World) : Prop :=
  ∃ s sh k er, e = .returned (.tuple #[.agg #[.string s, .bool sh], .int .i64 k, .int .i64 er]) ∧ SlR f n most s sh k er ∧ Below w.heap.size w w'
def RSGot (f : Nat → Int) (n : Nat) (most : Int) (w : World) (e : Ending) (w' : World) : Prop :=
  ∃ s sh k er, e = .returned (.tuple #[.string s, .bool sh, .int .i64 k, .int .i64 er]) ∧ SlR f n most s sh k er ∧ Below w.heap.size w w'
set_option maxRecDepth 20000 in
set_option maxHeartbeats 3200000 in
theorem sget_any (A : Option Addr) (n c : Nat) (f : Nat → Int) (most : Int) (w : World) (ha : Rd .u8 w A n c f) (hb : Byt n f) (hn : n ≤ 100000) : Calls Tryd.prog 75 #[.slice A n c, .int .i64 most] w (SGot f n most w) := by
  obtain ⟨N0, a0, d, hR⟩ : ∃ N a d, pg f n 7 = (N, a, d) := ⟨_, _, _, rfl⟩
  have hbd : d = 0 → 0 < n ∧ 0 ≤ N0 ∧ N0 ≤ 2147483647 ∧ 1 ≤ a0 ∧ a0 ≤ n := fun h => by
    have := pg_bd7 (f := f) (n := n) (by rw [hR]; exact h)
    rw [hR] at this
    exact this
  have Ha := hide ha
  have Hb := hide hb
  have HR := hide hR
  have kbk := fun (W : World) (B : Option Addr) (m q : Nat) (g : Nat → Int) (h1 : Rd .u8 W B m q g) (h2 : Byt m g) => text_back (P := Tryd.prog) h1 h2 22 9 5 Tryd.underlying22 Tryd.underlying5 Tryd.underlying9
  have Kbk := hide kbk
  clear ha hb hR kbk
  have R0 := hide (heap_alloc_new w (.cells #[.string ⟨#[]⟩, .bool false] 79))
  by_cases he : d = 0
  · obtain ⟨hn0, g1, g2, g3, g4⟩ := hbd he
    clear hbd
    obtain ⟨N, rfl⟩ := Int.eq_ofNat_of_zero_le g1
    obtain ⟨a, rfl⟩ := Int.eq_ofNat_of_zero_le (show 0 ≤ a0 by omega)
    subst he
    have hw1 : IntKind.i64.wrap ((n : Int) - (a : Int)) = (n : Int) - (a : Int) := IntWalk.i64_in _ (by omega)
    by_cases hl : most < N ∧ 0 < (N : Int)
    · have HL := hide hl
      have dl : decide (max most 0 < (N : Int)) = true := decide_eq_true (by omega)
      clear hl
      go_enter Tryd.func75, Tryd.ntmps75
      go_wp2_with fail
      refine (pget_any A n c f 7 _ (Ha.out.alloc _) Hb.out (by omega)).mono ?_
      rintro e w1 ⟨rfl, hd1⟩
      rw [HR.out]
      have HB1 := hide (((Below.refl w.heap.size w).alloc (Nat.le_refl _) _).trans (drawn_below hd1 _))
      have Ha1 := hide (((Ha.out.alloc _)).drawn hd1)
      have R1 := hide (keepRow R0.out (drawn_below hd1 _))
      clear hd1
      have S1 := setRow w1 w.heap.size 0 (.string ⟨#[]⟩) R1.out
      have S2 := setRow _ w.heap.size 1 (.bool false) S1
      simp only [List.setIfInBounds_toArray, List.set_cons_zero, List.set_cons_succ] at S1 S2
      have y00 := frozenRow R1.out 0
      have y11 := frozenRow S1 1
      obtain ⟨d00, d01⟩ := row2 R1.out
      obtain ⟨d10, d11⟩ := row2 S1
      obtain ⟨d20, d21⟩ := row2 S2
      clear S1 S2
      go_wp2_with fail
      refine bodyPost_ret (v := .tuple #[.agg #[.string ⟨#[]⟩, .bool false], .int .i64 0, .int .i64 9]) ?_ rfl ⟨_, _, _, _, rfl, ⟨_, _, _, HR.out, .inr (.inl ⟨rfl, HL.out, rfl, rfl, rfl, rfl⟩)⟩, (HB1.out.setCell (Nat.le_refl _) _).setCell (Nat.le_refl _) _⟩
      rw [results_cell_tmp2 rfl]
      go_simp
    have HL := hide hl
    have dl : decide (max most 0 < (N : Int)) = false := decide_eq_false (by omega)
    clear hl
    by_cases hs : (n : Int) - a < N
    · have ds : decide ((n : Int) - (a : Int) < (N : Int)) = true := decide_eq_true hs
      have HS := hide hs
      clear hs
      go_enter Tryd.func75, Tryd.ntmps75
      go_wp2_with fail
      refine (pget_any A n c f 7 _ (Ha.out.alloc _) Hb.out (by omega)).mono ?_
      rintro e w1 ⟨rfl, hd1⟩
      rw [HR.out]
      have HB1 := hide (((Below.refl w.heap.size w).alloc (Nat.le_refl _) _).trans (drawn_below hd1 _))
      have Ha1 := hide (((Ha.out.alloc _)).drawn hd1)
      have R1 := hide (keepRow R0.out (drawn_below hd1 _))
      clear hd1
      have S1 := setRow w1 w.heap.size 0 (.string ⟨#[]⟩) R1.out
      have S2 := setRow _ w.heap.size 1 (.bool false) S1
      simp only [List.setIfInBounds_toArray, List.set_cons_zero, List.set_cons_succ] at S1 S2
      have y00 := frozenRow R1.out 0
      have y11 := frozenRow S1 1
      obtain ⟨d00, d01⟩ := row2 R1.out
      obtain ⟨d10, d11⟩ := row2 S1
      obtain ⟨d20, d21⟩ := row2 S2
      clear S1 S2
      go_wp2_with fail
      refine bodyPost_ret (v := .tuple #[.agg #[.string ⟨#[]⟩, .bool false], .int .i64 0, .int .i64 3]) ?_ rfl ⟨_, _, _, _, rfl, ⟨_, _, _, HR.out, .inr (.inr (.inl ⟨rfl, HL.out, HS.out, rfl, rfl, rfl, rfl⟩))⟩, (HB1.out.setCell (Nat.le_refl _) _).setCell (Nat.le_refl _) _⟩
      rw [results_cell_tmp2 rfl]
      go_simp
    have ds : decide ((n : Int) - (a : Int) < (N : Int)) = false := decide_eq_false hs
    have HS := hide hs
    have hfit : a + N ≤ n := by omega
    have hw2 : IntKind.i64.wrap ((a : Int) + (N : Int)) = (a : Int) + (N : Int) := IntWalk.i64_in _ (by omega)
    have hcut := fun W => cut_lh 22 5 Tryd.underlying22 rfl (by kernel_rfl) A n c a (a + N) (by omega) (by have := Ha.out.1; omega) .i64 .i64 W
    have Hcr := hide (Ha.out.cutR (lo := a) (hi := a + N) (by omega) hfit)
    rw [show a + N - a = N by omega, show ((a + N : Nat) : Int) = (a : Int) + (N : Int) by omega] at hcut
    rw [show a + N - a = N by omega] at Hcr
    have HByt : Hid (Byt N fun i => f (a + i)) := fun i hi => Hb.out _ (by omega)
    obtain ⟨b0, o0, rfl, h0⟩ := Ha.out.at_ hn0
    rw [Nat.add_zero] at h0
    generalize cutA (some ⟨b0, o0, none⟩) c a = A2 at *
    have hq0 := Hb.out 0 hn0
    clear hs
    obtain ⟨x0, hx0⟩ : ∃ x, f 0 = x := ⟨_, rfl⟩
    have HX := hide hx0
    rw [hx0] at h0 hq0
    clear hx0
    by_cases hf : x0 < 128
    · have df : decide (128 ≤ x0) = false := decide_eq_false (by omega)
      have HF := hide hf
      clear hf
      go_enter Tryd.func75, Tryd.ntmps75
      go_wp2_with fail
      refine (pget_any (some ⟨b0, o0, none⟩) n c f 7 _ (Ha.out.alloc _) Hb.out (by omega)).mono ?_
      rintro e w1 ⟨rfl, hd1⟩
      rw [HR.out]
      have HB1 := hide (((Below.refl w.heap.size w).alloc (Nat.le_refl _) _).trans (drawn_below hd1 _))
      have h0' : w1.cell? ⟨b0, o0, none⟩ = some (.int .u8 x0) := by
        have := rd_cellS ((Ha.out.alloc _).drawn hd1) hn0
        rw [Nat.add_zero, HX.out] at this
        exact this
      have Hc1 := hide ((Hcr.out.alloc _).drawn hd1)
      have R1 := hide (keepRow R0.out (drawn_below hd1 _))
      clear hd1
      go_wp2_with fail
      go_quiet (fail)
      generalize hW1 : w1.drewN nq = W1
      have hdq : Drawn w1 W1 := ⟨nq, hW1.symm⟩
      have HB1 := hide (HB1.out.trans (drawn_below hdq _))
      have R1 := hide (keepRow R1.out (drawn_below hdq _))
      have Hc1 := hide (Hc1.out.drawn hdq)
      have kb1 := Kbk.out W1 A2 N (c - a) _ Hc1.out HByt.out
      clear hdq hW1 h0'
      have S1 := setRow W1 w.heap.size 0 (.string (textB N fun i => f (a + i))) R1.out
      have S2 := setRow _ w.heap.size 1 (.bool false) S1
      simp only [List.setIfInBounds_toArray, List.set_cons_zero, List.set_cons_succ] at S1 S2
      have y00 := frozenRow R1.out 0
      have y11 := frozenRow S1 1
      obtain ⟨d00, d01⟩ := row2 R1.out
      obtain ⟨d10, d11⟩ := row2 S1
      obtain ⟨d20, d21⟩ := row2 S2
      clear S1 S2
      go_wp2_with fail
      refine bodyPost_ret (v := .tuple #[.agg #[.string (textB N fun i => f (a + i)), .bool false], .int .i64 ((a : Int) + (N : Int)), .int .i64 0]) ?_ rfl ⟨_, _, _, _, rfl, ⟨_, _, _, HR.out, .inr (.inr (.inr (.inl ⟨rfl, HL.out, by have := HS.out; omega, by rw [HX.out]; have := HF.out; omega, rfl, rfl, rfl, rfl⟩)))⟩, (HB1.out.setCell (Nat.le_refl _) _).setCell (Nat.le_refl _) _⟩
      rw [results_cell_tmp2 rfl]
      go_simp
    · have df : decide (128 ≤ x0) = true := decide_eq_true (by omega)
      have HF := hide hf
      clear hf
      go_enter Tryd.func75, Tryd.ntmps75
      go_wp2_with fail
      refine (pget_any (some ⟨b0, o0, none⟩) n c f 7 _ (Ha.out.alloc _) Hb.out (by omega)).mono ?_
      rintro e w1 ⟨rfl, hd1⟩
      rw [HR.out]
      have HB1 := hide (((Below.refl w.heap.size w).alloc (Nat.le_refl _) _).trans (drawn_below hd1 _))
      have h0' : w1.cell? ⟨b0, o0, none⟩ = some (.int .u8 x0) := by
        have := rd_cellS ((Ha.out.alloc _).drawn hd1) hn0
        rw [Nat.add_zero, HX.out] at this
        exact this
      have Hc1 := hide ((Hcr.out.alloc _).drawn hd1)
      have R1 := hide (keepRow R0.out (drawn_below hd1 _))
      clear hd1
      go_wp2_with fail
      go_quiet (fail)
      generalize hW1 : w1.drewN nq = W1
      have hdq : Drawn w1 W1 := ⟨nq, hW1.symm⟩
      have HB1 := hide (HB1.out.trans (drawn_below hdq _))
      have R1 := hide (keepRow R1.out (drawn_below hdq _))
      have Hc1 := hide (Hc1.out.drawn hdq)
      have kb1 := Kbk.out W1 A2 N (c - a) _ Hc1.out HByt.out
      clear hdq hW1 h0'
      go_wp2_with fail
      refine (decode_any A2 N (c - a) _ _ Hc1.out HByt.out (by omega)).mono ?_
      rintro e w2 ⟨v2, m2, h2, x2, rfl, ho2, hD2, hb2⟩
      obtain ⟨A3, c3, rfl, hr3, _⟩ := ho2.rd
      have HD2 := hide hD2
      have HB2 := hide (HB1.out.of hb2)
      have kb2 := Kbk.out w2 A3 m2 c3 _ hr3 (dcd_byt hD2)
      have R2 := hide (keepRow R1.out hb2)
      clear hb2 ho2 hr3 hD2 kb1
      by_cases hx : x2 = 0
      · have dx : (x2 != 0) = false := by simp [hx]
        have HX2 := hide hx
        clear hx
        have S1 := setRow w2 w.heap.size 0 (.string (textB m2 h2)) R2.out
        have S2 := setRow _ w.heap.size 1 (.bool true) S1
        simp only [List.setIfInBounds_toArray, List.set_cons_zero, List.set_cons_succ] at S1 S2
        have y00 := frozenRow R2.out 0
        have y11 := frozenRow S1 1
        obtain ⟨d00, d01⟩ := row2 R2.out
        obtain ⟨d10, d11⟩ := row2 S1
        obtain ⟨d20, d21⟩ := row2 S2
        clear S1 S2
        go_wp2_with fail
        refine bodyPost_ret (v := .tuple #[.agg #[.string (textB m2 h2), .bool true], .int .i64 ((a : Int) + (N : Int)), .int .i64 0]) ?_ rfl ⟨_, _, _, _, rfl, ⟨_, _, _, HR.out, .inr (.inr (.inr (.inr ⟨rfl, HL.out, by have := HS.out; omega, by rw [HX.out]; have := HF.out; omega, _, _, _, HD2.out, .inr ⟨HX2.out, rfl, rfl, rfl, rfl⟩⟩)))⟩, (HB2.out.setCell (Nat.le_refl _) _).setCell (Nat.le_refl _) _⟩
        rw [results_cell_tmp2 rfl]
        go_simp
      · have dx : (x2 != 0) = true := by simpa using hx
        have HX2 := hide hx
        clear hx
        have S1 := setRow w2 w.heap.size 0 (.string ⟨#[]⟩) R2.out
        have S2 := setRow _ w.heap.size 1 (.bool false) S1
        simp only [List.setIfInBounds_toArray, List.set_cons_zero, List.set_cons_succ] at S1 S2
        have y00 := frozenRow R2.out 0
        have y11 := frozenRow S1 1
        obtain ⟨d00, d01⟩ := row2 R2.out
        obtain ⟨d10, d11⟩ := row2 S1
        obtain ⟨d20, d21⟩ := row2 S2
        clear S1 S2
        go_wp2_with fail
        refine bodyPost_ret (v := .tuple #[.agg #[.string ⟨#[]⟩, .bool false], .int .i64 0, .int .i64 x2]) ?_ rfl ⟨_, _, _, _, rfl, ⟨_, _, _, HR.out, .inr (.inr (.inr (.inr ⟨rfl, HL.out, by have := HS.out; omega, by rw [HX.out]; have := HF.out; omega, _, _, _, HD2.out, .inl ⟨HX2.out, rfl, rfl, rfl, rfl⟩⟩)))⟩, (HB2.out.setCell (Nat.le_refl _) _).setCell (Nat.le_refl _) _⟩
        rw [results_cell_tmp2 rfl]
        go_simp
  · have de : (d != 0) = true := by simpa using he
    have HE := hide he
    clear he hbd
    go_enter Tryd.func75, Tryd.ntmps75
    go_wp2_with fail
    refine (pget_any A n c f 7 _ (Ha.out.alloc _) Hb.out (by omega)).mono ?_
    rintro e w1 ⟨rfl, hd1⟩
    rw [HR.out]
    have HB1 := hide (((Below.refl w.heap.size w).alloc (Nat.le_refl _) _).trans (drawn_below hd1 _))
    have Ha1 := hide (((Ha.out.alloc _)).drawn hd1)
    have R1 := hide (keepRow R0.out (drawn_below hd1 _))
    clear hd1
    have S1 := setRow w1 w.heap.size 0 (.string ⟨#[]⟩) R1.out
    have S2 := setRow _ w.heap.size 1 (.bool false) S1
    simp only [List.setIfInBounds_toArray, List.set_cons_zero, List.set_cons_succ] at S1 S2
    have y00 := frozenRow R1.out 0
    have y11 := frozenRow S1 1
    obtain ⟨d00, d01⟩ := row2 R1.out
    obtain ⟨d10, d11⟩ := row2 S1
    obtain ⟨d20, d21⟩ := row2 S2
    clear S1 S2
    go_wp2_with fail
    refine bodyPost_ret (v := .tuple #[.agg #[.string ⟨#[]⟩, .bool false], .int .i64 0, .int .i64 d]) ?_ rfl ⟨_, _, _, _, rfl, ⟨_, _, _, HR.out, .inl ⟨HE.out, rfl, rfl, rfl, rfl⟩⟩, (HB1.out.setCell (Nat.le_refl _) _).setCell (Nat.le_refl _) _⟩
    rw [results_cell_tmp2 rfl]
    go_simp
set_option maxRecDepth 20000 in
set_option maxHeartbeats 3200000 in
theorem rsget_any (A : Option Addr) (n c : Nat) (f : Nat → Int) (most : Int) (w : World) (ha : Rd .u8 w A n c f) (hb : Byt n f) (hn : n ≤ 1000) : Calls Tryd.prog 58 #[.slice A n c, .int .i64 most] w (RSGot f n most w) := by
  obtain ⟨N0, a0, d, hR⟩ : ∃ N a d, pg f n 7 = (N, a, d) := ⟨_, _, _, rfl⟩
  have hbd : d = 0 → 0 < n ∧ 0 ≤ N0 ∧ N0 ≤ 2147483647 ∧ 1 ≤ a0 ∧ a0 ≤ n := fun h => by
    have := pg_bd7 (f := f) (n := n) (by rw [hR]; exact h)
    rw [hR] at this
    exact this
  have Ha := hide ha
  have Hb := hide hb
  have HR := hide hR
  have kbk := fun (W : World) (B : Option Addr) (m q : Nat) (g : Nat → Int) (h1 : Rd .u8 W B m q g) (h2 : Byt m g) => text_back (P := Tryd.prog) h1 h2 22 9 5 Tryd.underlying22 Tryd.underlying5 Tryd.underlying9
  have Kbk := hide kbk
  clear ha hb hR kbk
  by_cases he : d = 0
  · obtain ⟨hn0, g1, g2, g3, g4⟩ := hbd he
    clear hbd
    obtain ⟨N, rfl⟩ := Int.eq_ofNat_of_zero_le g1
    obtain ⟨a, rfl⟩ := Int.eq_ofNat_of_zero_le (show 0 ≤ a0 by omega)
    subst he
    have hw1 : IntKind.i64.wrap ((n : Int) - (a : Int)) = (n : Int) - (a : Int) := IntWalk.i64_in _ (by omega)
    by_cases hl : most < N ∧ 0 < (N : Int)
    · have HL := hide hl
      have dl1 : decide (most < (N : Int)) = true := decide_eq_true hl.1
      have dl2 : decide ((0 : Int) < (N : Int)) = true := decide_eq_true hl.2
      have dl3 : decide (0 < N) = true := decide_eq_true (by omega)
      clear hl
      go_enter Tryd.func58, Tryd.ntmps58
      go_wp2_with fail
      refine (rpget_any A n c f 7 _ Ha.out Hb.out (by omega)).mono ?_
      rintro e w1 ⟨rfl, hd1⟩
      rw [HR.out]
      have HB1 := hide (drawn_below hd1 w.heap.size)
      have Ha1 := hide ((Ha.out).drawn hd1)
      clear hd1
      go_wp2_with fail
      refine bodyPost_ret (results_tmp4 rfl _ _ _) rfl ?_
      exact ⟨_, _, _, _, rfl, ⟨_, _, _, HR.out, .inr (.inl ⟨rfl, HL.out, rfl, rfl, rfl, rfl⟩)⟩, HB1.out⟩
    have HL := hide hl
    have dl : (decide (most < (N : Int)) && decide ((0 : Int) < (N : Int))) = false := by
      by_cases x : most < (N : Int)
      · have y : ¬ (0 : Int) < (N : Int) := fun y => hl ⟨x, y⟩
        rw [decide_eq_false y, Bool.and_false]
      · rw [decide_eq_false x, Bool.false_and]
    clear hl
    by_cases hs : (n : Int) - a < N
    · have ds : decide ((n : Int) - (a : Int) < (N : Int)) = true := decide_eq_true hs
      have HS := hide hs
      clear hs
      by_cases dm : most < (N : Int)
      · have d1 : decide (most < (N : Int)) = true := decide_eq_true dm
        have d2 : decide ((0 : Int) < (N : Int)) = false := by rw [d1] at dl; simpa using dl
        have d2' : decide (0 < N) = false := by simpa using d2
        clear dm dl
        go_enter Tryd.func58, Tryd.ntmps58
        go_wp2_with fail
        refine (rpget_any A n c f 7 _ Ha.out Hb.out (by omega)).mono ?_
        rintro e w1 ⟨rfl, hd1⟩
        rw [HR.out]
        have HB1 := hide (drawn_below hd1 w.heap.size)
        have Ha1 := hide ((Ha.out).drawn hd1)
        clear hd1
        go_wp2_with fail
        refine bodyPost_ret (results_tmp4 rfl _ _ _) rfl ?_
        exact ⟨_, _, _, _, rfl, ⟨_, _, _, HR.out, .inr (.inr (.inl ⟨rfl, HL.out, HS.out, rfl, rfl, rfl, rfl⟩))⟩, HB1.out⟩
      · have d1 : decide (most < (N : Int)) = false := decide_eq_false dm
        clear dm dl
        go_enter Tryd.func58, Tryd.ntmps58
        go_wp2_with fail
        refine (rpget_any A n c f 7 _ Ha.out Hb.out (by omega)).mono ?_
        rintro e w1 ⟨rfl, hd1⟩
        rw [HR.out]
        have HB1 := hide (drawn_below hd1 w.heap.size)
        have Ha1 := hide ((Ha.out).drawn hd1)
        clear hd1
        go_wp2_with fail
        refine bodyPost_ret (results_tmp4 rfl _ _ _) rfl ?_
        exact ⟨_, _, _, _, rfl, ⟨_, _, _, HR.out, .inr (.inr (.inl ⟨rfl, HL.out, HS.out, rfl, rfl, rfl, rfl⟩))⟩, HB1.out⟩
    have ds : decide ((n : Int) - (a : Int) < (N : Int)) = false := decide_eq_false hs
    have HS := hide hs
    have hfit : a + N ≤ n := by omega
    have hw2 : IntKind.i64.wrap ((a : Int) + (N : Int)) = (a : Int) + (N : Int) := IntWalk.i64_in _ (by omega)
    have hcut := fun W => cut_lh 22 5 Tryd.underlying22 rfl (by kernel_rfl) A n c a (a + N) (by omega) (by have := Ha.out.1; omega) .i64 .i64 W
    have Hcr := hide (Ha.out.cutR (lo := a) (hi := a + N) (by omega) hfit)
    rw [show a + N - a = N by omega, show ((a + N : Nat) : Int) = (a : Int) + (N : Int) by omega] at hcut
    rw [show a + N - a = N by omega] at Hcr
    have HByt : Hid (Byt N fun i => f (a + i)) := fun i hi => Hb.out _ (by omega)
    obtain ⟨b0, o0, rfl, h0⟩ := Ha.out.at_ hn0
    rw [Nat.add_zero] at h0
    generalize cutA (some ⟨b0, o0, none⟩) c a = A2 at *
    have hq0 := Hb.out 0 hn0
    clear hs
    obtain ⟨x0, hx0⟩ : ∃ x, f 0 = x := ⟨_, rfl⟩
    have HX := hide hx0
    rw [hx0] at h0 hq0
    clear hx0
    by_cases hf : x0 < 128
    · have df : decide (x0 < 128) = true := decide_eq_true hf
      have HF := hide hf
      clear hf
      by_cases dm : most < (N : Int)
      · have d1 : decide (most < (N : Int)) = true := decide_eq_true dm
        have d2 : decide ((0 : Int) < (N : Int)) = false := by rw [d1] at dl; simpa using dl
        have d2' : decide (0 < N) = false := by simpa using d2
        clear dm dl
        go_enter Tryd.func58, Tryd.ntmps58
        go_wp2_with fail
        refine (rpget_any (some ⟨b0, o0, none⟩) n c f 7 _ Ha.out Hb.out (by omega)).mono ?_
        rintro e w1 ⟨rfl, hd1⟩
        rw [HR.out]
        have HB1 := hide (drawn_below hd1 w.heap.size)
        have h0' : w1.cell? ⟨b0, o0, none⟩ = some (.int .u8 x0) := by
          have := rd_cellS (Ha.out.drawn hd1) hn0
          rw [Nat.add_zero, HX.out] at this
          exact this
        have Hc1 := hide (Hcr.out.drawn hd1)
        have kb1 := Kbk.out w1 A2 N (c - a) _ Hc1.out HByt.out
        clear hd1
        go_wp2_with fail
        refine bodyPost_ret (results_tmp4 rfl _ _ _) rfl ?_
        exact ⟨_, _, _, _, rfl, ⟨_, _, _, HR.out, .inr (.inr (.inr (.inl ⟨rfl, HL.out, by have := HS.out; omega, by rw [HX.out]; have := HF.out; omega, rfl, rfl, rfl, rfl⟩)))⟩, HB1.out⟩
      · have d1 : decide (most < (N : Int)) = false := decide_eq_false dm
        clear dm dl
        go_enter Tryd.func58, Tryd.ntmps58
        go_wp2_with fail
        refine (rpget_any (some ⟨b0, o0, none⟩) n c f 7 _ Ha.out Hb.out (by omega)).mono ?_
        rintro e w1 ⟨rfl, hd1⟩
        rw [HR.out]
        have HB1 := hide (drawn_below hd1 w.heap.size)
        have h0' : w1.cell? ⟨b0, o0, none⟩ = some (.int .u8 x0) := by
          have := rd_cellS (Ha.out.drawn hd1) hn0
          rw [Nat.add_zero, HX.out] at this
          exact this
        have Hc1 := hide (Hcr.out.drawn hd1)
        have kb1 := Kbk.out w1 A2 N (c - a) _ Hc1.out HByt.out
        clear hd1
        go_wp2_with fail
        refine bodyPost_ret (results_tmp4 rfl _ _ _) rfl ?_
        exact ⟨_, _, _, _, rfl, ⟨_, _, _, HR.out, .inr (.inr (.inr (.inl ⟨rfl, HL.out, by have := HS.out; omega, by rw [HX.out]; have := HF.out; omega, rfl, rfl, rfl, rfl⟩)))⟩, HB1.out⟩
    · have df : decide (x0 < 128) = false := decide_eq_false hf
      have HF := hide hf
      clear hf
      by_cases dm : most < (N : Int)
      · have d1 : decide (most < (N : Int)) = true := decide_eq_true dm
        have d2 : decide ((0 : Int) < (N : Int)) = false := by rw [d1] at dl; simpa using dl
        have d2' : decide (0 < N) = false := by simpa using d2
        clear dm dl
        go_enter Tryd.func58, Tryd.ntmps58
        go_wp2_with fail
        refine (rpget_any (some ⟨b0, o0, none⟩) n c f 7 _ Ha.out Hb.out (by omega)).mono ?_
        rintro e w1 ⟨rfl, hd1⟩
        rw [HR.out]
        have HB1 := hide (drawn_below hd1 w.heap.size)
        have h0' : w1.cell? ⟨b0, o0, none⟩ = some (.int .u8 x0) := by
          have := rd_cellS (Ha.out.drawn hd1) hn0
          rw [Nat.add_zero, HX.out] at this
          exact this
        have Hc1 := hide (Hcr.out.drawn hd1)
        have kb1 := Kbk.out w1 A2 N (c - a) _ Hc1.out HByt.out
        clear hd1
        go_wp2_with fail
        refine (rdecode_any A2 N (c - a) _ _ Hc1.out HByt.out (by omega)).mono ?_
        rintro e w2 ⟨v2, m2, h2, x2, rfl, ho2, hD2, hb2⟩
        obtain ⟨A3, c3, rfl, hr3, _⟩ := ho2.rd
        have HD2 := hide hD2
        have HB2 := hide (HB1.out.of hb2)
        have kb2 := Kbk.out w2 A3 m2 c3 _ hr3 (dcd_byt hD2)
        clear hb2 ho2 hr3 hD2 kb1 h0'
        by_cases hx : x2 = 0
        · have dx : (x2 != 0) = false := by simp [hx]
          have HX2 := hide hx
          clear hx
          go_wp2_with fail
          refine bodyPost_ret (results_tmp4 rfl _ _ _) rfl ?_
          exact ⟨_, _, _, _, rfl, ⟨_, _, _, HR.out, .inr (.inr (.inr (.inr ⟨rfl, HL.out, by have := HS.out; omega, by rw [HX.out]; have := HF.out; omega, _, _, _, HD2.out, .inr ⟨HX2.out, rfl, rfl, rfl, rfl⟩⟩)))⟩, HB2.out⟩
        · have dx : (x2 != 0) = true := by simpa using hx
          have HX2 := hide hx
          clear hx
          go_wp2_with fail
          refine bodyPost_ret (results_tmp4 rfl _ _ _) rfl ?_
          exact ⟨_, _, _, _, rfl, ⟨_, _, _, HR.out, .inr (.inr (.inr (.inr ⟨rfl, HL.out, by have := HS.out; omega, by rw [HX.out]; have := HF.out; omega, _, _, _, HD2.out, .inl ⟨HX2.out, rfl, rfl, rfl, rfl⟩⟩)))⟩, HB2.out⟩
      · have d1 : decide (most < (N : Int)) = false := decide_eq_false dm
        clear dm dl
        go_enter Tryd.func58, Tryd.ntmps58
        go_wp2_with fail
        refine (rpget_any (some ⟨b0, o0, none⟩) n c f 7 _ Ha.out Hb.out (by omega)).mono ?_
        rintro e w1 ⟨rfl, hd1⟩
        rw [HR.out]
        have HB1 := hide (drawn_below hd1 w.heap.size)
        have h0' : w1.cell? ⟨b0, o0, none⟩ = some (.int .u8 x0) := by
          have := rd_cellS (Ha.out.drawn hd1) hn0
          rw [Nat.add_zero, HX.out] at this
          exact this
        have Hc1 := hide (Hcr.out.drawn hd1)
        have kb1 := Kbk.out w1 A2 N (c - a) _ Hc1.out HByt.out
        clear hd1
        go_wp2_with fail
        refine (rdecode_any A2 N (c - a) _ _ Hc1.out HByt.out (by omega)).mono ?_
        rintro e w2 ⟨v2, m2, h2, x2, rfl, ho2, hD2, hb2⟩
        obtain ⟨A3, c3, rfl, hr3, _⟩ := ho2.rd
        have HD2 := hide hD2
        have HB2 := hide (HB1.out.of hb2)
        have kb2 := Kbk.out w2 A3 m2 c3 _ hr3 (dcd_byt hD2)
        clear hb2 ho2 hr3 hD2 kb1 h0'
        by_cases hx : x2 = 0
        · have dx : (x2 != 0) = false := by simp [hx]
          have HX2 := hide hx
          clear hx
          go_wp2_with fail
          refine bodyPost_ret (results_tmp4 rfl _ _ _) rfl ?_
          exact ⟨_, _, _, _, rfl, ⟨_, _, _, HR.out, .inr (.inr (.inr (.inr ⟨rfl, HL.out, by have := HS.out; omega, by rw [HX.out]; have := HF.out; omega, _, _, _, HD2.out, .inr ⟨HX2.out, rfl, rfl, rfl, rfl⟩⟩)))⟩, HB2.out⟩
        · have dx : (x2 != 0) = true := by simpa using hx
          have HX2 := hide hx
          clear hx
          go_wp2_with fail
          refine bodyPost_ret (results_tmp4 rfl _ _ _) rfl ?_
          exact ⟨_, _, _, _, rfl, ⟨_, _, _, HR.out, .inr (.inr (.inr (.inr ⟨rfl, HL.out, by have := HS.out; omega, by rw [HX.out]; have := HF.out; omega, _, _, _, HD2.out, .inl ⟨HX2.out, rfl, rfl, rfl, rfl⟩⟩)))⟩, HB2.out⟩
  · have de : (d != 0) = true := by simpa using he
    have HE := hide he
    clear he hbd
    go_enter Tryd.func58, Tryd.ntmps58
    go_wp2_with fail
    refine (rpget_any A n c f 7 _ Ha.out Hb.out (by omega)).mono ?_
    rintro e w1 ⟨rfl, hd1⟩
    rw [HR.out]
    have HB1 := hide (drawn_below hd1 w.heap.size)
    have Ha1 := hide ((Ha.out).drawn hd1)
    clear hd1
    go_wp2_with fail
    refine bodyPost_ret (results_tmp4 rfl _ _ _) rfl ?_
    exact ⟨_, _, _, _, rfl, ⟨_, _, _, HR.out, .inl ⟨HE.out, rfl, rfl, rfl, rfl⟩⟩, HB1.out⟩
theorem mt_congr {g h : Nat → Int} {N t S : Nat} (e : ∀ i, i < N → g i = h i) (m : Mt g N t S) : Mt h N t S := by
  obtain ⟨m1, m2, m3⟩ := m
  refine ⟨m1, m2, ?_⟩
  rw [← m3]
  exact bnum_congr fun k hk => (e (t + k) (by omega)).symm
theorem dcd_congr {g h : Nat → Int} {N n : Nat} {f : Nat → Int} {x : Int} (e : ∀ i, i < N → g i = h i) (d : Dcd g N n f x) : Dcd h N n f x := by
  have e' : ∀ i, i < N → h i = g i := fun i hi => (e i hi).symm
  obtain ⟨k, p, s, hc, hE⟩ := d
  refine ⟨k, p, s, ⟨hc.1, fun i hi => ⟨mt_congr e (hc.2 i hi).1, (hc.2 i hi).2⟩⟩, ?_⟩
  rcases hE with ⟨h1, h2, h3, h4, h5, h6⟩ | ⟨h1, h2, h4, h5⟩ | ⟨h1, h2, h3⟩
  · exact .inl ⟨h1, h2, h3, fun S hS => h4 S (mt_congr e' hS), h5, fun i a b => by rw [← e i b]; exact h6 i a b⟩
  · exact .inr (.inl ⟨h1, h2, fun S hS => h4 S (mt_congr e' hS), fun hh => h5 ⟨hh.1, fun i a b => by rw [e i b]; exact hh.2 i a b⟩⟩)
  · exact .inr (.inr ⟨h1, h2, mt_congr e h3⟩)
theorem pf_small {m : Nat} : pfF 0 7 (m : Int) 0 < 128 := by
  have e : p8 7 = 128 := by decide
  unfold pfF
  rw [e]
  split
  · show (0 : Int) + (m : Int) < 128
    omega
  · show (if (0 : Nat) < 1 then (0 : Int) + (128 - 1) else _) < 128
    simp
theorem catF_catF (a b : Nat) (f g h : Nat → Int) : catF (a + b) (catF a f g) h = catF a f (catF b g h) := by
  funext i
  by_cases h1 : i < a
  · simp only [catF, if_pos h1, if_pos (show i < a + b by omega)]
  · by_cases h2 : i - a < b
    · simp only [catF, if_neg h1, if_pos h2, if_pos (show i < a + b by omega)]
    · simp only [catF, if_neg h1, if_neg h2, if_neg (show ¬ i < a + b by omega), Nat.sub_sub]
/-- A text's bytes, whatever comes behind, say the text. -/
theorem slr_back (s : ByteArray) (sh : Bool) (hs : s.size ≤ 400) (m : Nat) (g : Nat → Int) (most : Int := 2000) (hM : ((txN s sh : Nat) : Int) ≤ most ∨ 1600 ≤ most := by exact .inr (by decide)) : SlR (catF (slN s sh) (slF s sh) g) (slN s sh + m) most s sh (slN s sh : Int) 0 := by
  have hle := txN_le s sh
  have hE := pfE19 sh (m := txN s sh) (by omega)
  have hp := pg_back hE (txN s sh + m) (catF (txN s sh) (txF s sh) g)
  have hbd := pfN_bd 7 (txN s sh : Int)
  have hF : catF (slN s sh) (slF s sh) g = catF (pfN 7 (txN s sh : Nat)) (pfF (fst19 sh) 7 (txN s sh : Nat)) (catF (txN s sh) (txF s sh) g) := catF_catF _ _ _ _ _
  have h0 : catF (slN s sh) (slF s sh) g 0 = pfF (fst19 sh) 7 (txN s sh : Nat) 0 := by
    rw [hF]
    unfold catF
    rw [if_pos (by omega)]
  have hat : ∀ i, i < txN s sh → catF (slN s sh) (slF s sh) g ((pfN 7 (txN s sh : Nat) : Int).toNat + i) = txF s sh i := fun i hi => by
    rw [hF]
    unfold catF
    rw [if_neg (by omega), show (pfN 7 (txN s sh : Nat) : Int).toNat + i - pfN 7 (txN s sh : Nat) = i by omega, if_pos hi]
  rw [← hF, ← Nat.add_assoc] at hp
  change pg _ (slN s sh + m) 7 = _ at hp
  have hk : (slN s sh : Int) = (pfN 7 (txN s sh : Nat) : Int) + (txN s sh : Int) := by
    show ((pfN 7 (txN s sh : Nat) + txN s sh : Nat) : Int) = _
    omega
  refine ⟨(txN s sh : Int), (pfN 7 (txN s sh : Nat) : Int), 0, hp, ?_⟩
  have q2 : ¬ (most < (txN s sh : Int) ∧ (0 : Int) < (txN s sh : Int)) := by omega
  have q3 : ¬ ((slN s sh + m : Nat) : Int) - (pfN 7 (txN s sh : Nat) : Int) < (txN s sh : Int) := by
    rw [Int.natCast_add, hk]
    omega
  cases sh with
  | false =>
    refine .inr (.inr (.inr (.inl ⟨rfl, q2, q3, ?_, ?_, rfl, hk, rfl⟩)))
    · rw [h0]
      exact pf_small
    · have := textB_bt s
      refine (this.symm.trans (textB_congr (g := fun i => catF (slN s false) (slF s false) g ((pfN 7 (txN s false : Nat) : Int).toNat + i)) fun i hi => (hat i hi).symm)).trans ?_
      rfl
  | true =>
    refine .inr (.inr (.inr (.inr ⟨rfl, q2, q3, ?_, s.size, bt s, 0, ?_, .inr ⟨rfl, (textB_bt s).symm, rfl, hk, rfl⟩⟩)))
    · rw [h0]
      have := pf_first hE
      simp only [fst19, if_true] at this ⊢
      omega
    · have hd := enc_dcd (bt_byt s)
      refine dcd_congr (fun i hi => ?_) hd
      have hi' : i < 8 * txN s true := hi
      unfold bitF
      have := hat (i / 8) (by omega)
      show _ = catF (slN s true) (slF s true) g ((pfN 7 (txN s true : Nat) : Int).toNat + i / 8) / 2 ^ (7 - i % 8) % 2
      rw [this]
      rfl
end Go.Proofs.YtnkcbljhgcgpaaaDoor
