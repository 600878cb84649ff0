/- Layer 18: numbers there and back: the walk of the law. -/
import Derived.Test.YtlpbonfapglocaaPfx8
import Derived.Test.YtlpbonfapglocaaCurA
namespace Go.Proofs.Ytlpbonfapglocaa
open Go.RowKit

theorem row3p {w : World} {b : Nat} {T : TypeId} {v0 v1 v2 : Value} (h : w.heap[b]? = some (.cells #[v0, v1, v2] T (0, 0))) : w.cell? ⟨b, 0, none⟩ = some v0 ∧ w.cell? ⟨b, 1, none⟩ = some v1 ∧ w.cell? ⟨b, 2, none⟩ = some v2 := by
  refine ⟨?_, ?_, ?_⟩
  · rw [cell_of_row w b 0 _ _ _ h]; rfl
  · rw [cell_of_row w b 1 _ _ _ h]; rfl
  · rw [cell_of_row w b 2 _ _ _ h]; rfl
/-- A callee that only draws, behind draws of the caller's own. -/
theorem quietD {P : Program} {f : FuncId} {args : Array Value} {w : World} {p q : Nat} {v : Value} (h : Calls P f args (w.drewN (p + q)) fun e w' => e = .returned v ∧ Drawn (w.drewN (p + q)) w') :
    Calls P f args (w.drewN (p + q)) fun e w' => e = .returned v ∧ ∃ r, w' = w.drewN (p + r) :=
  h.mono fun _ _ hh => by
    obtain ⟨r, hr⟩ := hh.2
    exact ⟨hh.1, q + r, by rw [hr, World.drewN_drewN, Nat.add_assoc]⟩
abbrev numB (first b n : Int) : Obj := .cells #[.int .i64 first, .int .i64 b, .int .i64 n] 38

set_option maxHeartbeats 1600000 in
theorem pback_none (first b n : Int) (A : Option Addr) (m c : Nat) (w : World) (h : 300 < m ∨ pfE first b n ≠ 0) :
    Calls Try.prog 6 #[.agg #[.int .i64 first, .int .i64 b, .int .i64 n], .slice A m c] w (Yes w) := by
  by_cases hl : 300 < m
  · have hd : decide ((300 : Int) < (m : Int)) = true := by simp; omega
    go_enter Try.func6, Try.ntmps6
    go_wp2_with fail
    refine (alive18 _).mono ?_
    rintro e w4 ⟨rfl, hb4⟩
    go_wp2_with fail
    go_ret
    exact ⟨rfl, ((Below.refl _ _).alloc (Nat.le_refl _) _).of hb4⟩
  · have hd : decide ((300 : Int) < (m : Int)) = false := by simp; omega
    have h0 : pfE first b n ≠ 0 := h.resolve_left hl
    have h1 : (pfE first b n != 0) = true := by simpa using h0
    have H0 := hide h0
    have R0 := hide (heap_alloc_new w (numB first b n))
    obtain ⟨q0, q1, q2⟩ := row3p R0.out
    clear h0 h
    go_enter Try.func6, Try.ntmps6
    go_wp2_with fail
    refine (pput_any first b n _).mono ?_
    rintro e w1 (⟨_, rfl, rfl⟩ | ⟨h, _⟩)
    case inr => exact absurd h H0.out
    go_wp2_with fail
    refine (alive18 _).mono ?_
    rintro e w4 ⟨rfl, hb4⟩
    go_wp2_with fail
    go_ret
    exact ⟨rfl, ((Below.refl _ _).alloc (Nat.le_refl _) _).of hb4⟩

set_option maxRecDepth 100000 in
set_option maxHeartbeats 6400000 in
theorem pback_walk (first b n : Int) (A : Option Addr) (m c : Nat) (g : Nat → Int) (w : World) (ha : Rd .u8 w A m c g) (hg : Byt m g) :
    Calls Try.prog 6 #[.agg #[.int .i64 first, .int .i64 b, .int .i64 n], .slice A m c] w (Yes w) := by
  by_cases hh : 300 < m ∨ pfE first b n ≠ 0
  · exact pback_none first b n A m c w hh
  obtain ⟨i0, hi, hz0, hz1, hz2⟩ := info_parts u8_info
  have hm : m ≤ 300 := by omega
  have h0 : pfE first b n = 0 := by
    by_cases h : pfE first b n = 0
    · exact h
    · exact absurd (.inr h) hh
  have hd : decide ((300 : Int) < (m : Int)) = false := by simp; omega
  have Ha := hide ha
  have Hg := hide hg
  have H0 := hide h0
  have HBack := hide (pg_back h0 m g)
  have HByt := hide (pf_byt h0)
  have hfst := pf_first h0
  have hbd := pfN_bd b n
  obtain ⟨q, hq⟩ : ∃ q, pfN b n = q + 1 := ⟨pfN b n - 1, by omega⟩
  have HCut := hide (pg_cut h0 q hq)
  have Hq := hide hq
  have hqL : q < pfN b n := by omega
  obtain ⟨x0, hx0⟩ : ∃ x, pfF first b n 0 = x := ⟨_, rfl⟩
  have hx : 0 ≤ x0 ∧ x0 ≤ 255 := by rw [← hx0]; exact pf_byt h0 0 (by omega)
  rw [hx0] at hfst
  have Hx0 := hide hx0
  have HGet : Hid (∀ (W : World) (A3 : Option Addr) (c3 : Nat), Rd .u8 W A3 (0 + pfN b n + m) c3 (catF (0 + pfN b n) (catF 0 (oneF 0) (pfF first b n)) g) → Calls Try.prog 22 #[.slice A3 (pfN b n + m) c3, .int .i64 b] W fun e w' => e = .returned (.tuple #[.int .i64 n, .int .i64 (pfN b n : Int), .int .i64 0]) ∧ Drawn W w') := fun W A3 c3 hr => by
    have e1 : catF 0 (oneF 0) (pfF first b n) = pfF first b n := by funext i; simp [catF]
    rw [Nat.zero_add, e1] at hr
    have hby : Byt (pfN b n + m) (catF (pfN b n) (pfF first b n) g) := fun i hi => by
      unfold catF
      split
      · exact HByt.out i (by assumption)
      · exact Hg.out _ (by omega)
    have k := pget_any A3 (pfN b n + m) c3 _ b W hr hby (by omega)
    rw [HBack.out] at k
    exact k
  have HGet2 : Hid (∀ (W : World) (A3 : Option Addr) (c3 : Nat), Rd .u8 W A3 q c3 (pfF first b n) → Calls Try.prog 22 #[.slice A3 q c3, .int .i64 b] W fun e w' => e = .returned (.tuple #[.int .i64 0, .int .i64 0, .int .i64 3]) ∧ Drawn W w') := fun W A3 c3 hr => by
    have k := pget_any A3 q c3 _ b W hr (fun i hi => HByt.out i (by omega)) (by omega)
    rw [HCut.out] at k
    exact k
  clear HBack HCut
  have R0 := hide (heap_alloc_new w (numB first b n))
  have B0 : Hid (Below w.heap.size w (w.alloc (numB first b n))) := (Below.refl _ _).alloc (Nat.le_refl _) _
  obtain ⟨q0, q1, q2⟩ := row3p R0.out
  clear ha hg h0 hh hx0 hq
  go_enter Try.func6, Try.ntmps6
  go_wp2_with fail
  refine (pput_any first b n _).mono ?_
  rintro e w1 (⟨h, _⟩ | ⟨_, h⟩)
  case inl => exact absurd H0.out h
  obtain ⟨A1, c1, rfl, hr1, hb1⟩ := h.gave
  generalize pfN b n = L at *
  have Hr1 := hide hr1
  have HB1 := hide (B0.out.of hb1)
  have R1 := hide (keepRow R0.out hb1)
  have hlt1 := rowLt R1.out
  clear hr1 hb1 h q0 q1 q2
  obtain ⟨q0, q1, q2⟩ := row3p R1.out
  go_wp2_with fail
  have HO := hide (Own.lit .u8 5 w1.heap.size w1.drew (oneF 0) #[] 0 (Nat.le_refl _) (by simp [maxLen]) rfl)
  have BA : Hid (Below w1.heap.size w1 (w1.drew.alloc (.cells #[] 5))) := ((Below.refl _ _).drew).alloc (Nat.le_refl _) _
  have HA1 := hide (Hr1.out.below BA.out)
  have Hne1 : Hid (some w.heap.size ≠ (Value.slice (some ⟨w1.heap.size, 0, none⟩) 0 0).ownBlock) := by
    show some w.heap.size ≠ some w1.heap.size
    intro e
    have := Option.some.inj e
    omega
  go_region_held3 (fun w' : World => w'.cell? ⟨w.heap.size, 1, none⟩ = some (.int .i64 b))
    ((first | exact cellKeep8 (drawn_below hd4 _) (by assumption) | exact hg3.cell (by assumption) Hne3.out | exact hg2.cell (by assumption) Hne1.out | (go_keep; done)))
    ((first
      | (refine step_app8 (by rfl) _ _ _ (by rfl) i0 0 1 Try.underlying28 hi hz0 hz1 hz2 w1.heap.size (.slice (some ⟨w1.heap.size, 0, none⟩) 0 0) 0 _ (by rfl) HO.out A1 L c1 _ (by rfl) HA1.out (by simp only [maxLen]; omega) (by omega) (by simp) ?_; intro v2 w2 hown2 hg2; have BB := hide (BA.out.grown hg2 (by simp) (fun j e => (World.ownsRow.lt HO.out j e).1)); have Ho2 := hide hown2; have Hne3 : Hid (some w.heap.size ≠ v2.ownBlock) := (fun e => by have := (World.ownsRow.lt Ho2.out _ e.symm).1; omega); have hs2 := BB.out.size; have Hb2 := hide (Ha.out.below (HB1.out.of BB.out)))
      | (refine step_app8 (by rfl) _ _ _ (by rfl) i0 0 1 Try.underlying28 hi hz0 hz1 hz2 w1.heap.size v2 (0 + L) _ (by rfl) Ho2.out A m c _ (by rfl) Hb2.out (by simp only [maxLen]; omega) (by omega) (by omega) ?_; intro v3 w3 hown3 hg3; have BC := hide (BB.out.grown hg3 hs2 (fun j e => (World.ownsRow.lt Ho2.out j e).1)); have Ho3 := hide hown3; obtain ⟨A3, c3, rfl, hr3, _⟩ := hown3.rd; have Hr3 := hide hr3)
      | (go_at_call 22; (with_reducible refine (HGet.out _ A3 c3 Hr3.out).mono ?_); rintro e w4 ⟨rfl, hd4⟩)))
  all_goals
    have B4 : Hid (Below w1.heap.size w1 w4) := BC.out.trans (drawn_below hd4 _)
    have HB4 := hide (HB1.out.of B4.out)
    have R4 := hide (keepRow R1.out B4.out)
    have Hr4 := hide (Hr1.out.below B4.out)
    have hs4 := HB4.out.size
    have hlt4 := rowLt R4.out
    clear BC HO BA HA1 Hne1 hown2 hg2 BB Ho2 Hne3 Hb2 hg3 hown3 Ho3 hr3 Hr3 hd4 HGet q0 q1 q2 B4 Hr1 R1 HB1 hs2
    obtain ⟨p0, p1, p2⟩ := row3p R4.out
    obtain ⟨b1, o1, rfl, hc1⟩ := Hr4.out.at_ (i := 0) (by omega)
    rw [Hx0.out, Nat.add_zero] at hc1
    have hL0 : (0 : Int) < (L : Int) := by omega
    have dL : ((L : Int) == 0) = false := by simp; omega
    have dL' : (L == 0) = false := by simp; omega
    have dF : decide (x0 < first) = false := by simp; omega
    have hx1 := hx.1
    have hx2 := hx.2
    have hw0 : IntKind.i64.wrap x0 = x0 := IntWalk.i64_in _ (by omega)
    go_wp2_with fail
    go_quiet (fail)
    go_wp2_with fail
    have hLc : L ≤ c1 := Hr4.out.1
    have hcut := bytes_cut_h (some ⟨b1, o1, none⟩) L c1 q (by omega)
    have hw1 : IntKind.i64.wrap ((L : Int) - 1) = (q : Int) := by
      rw [IntWalk.i64_in _ (by omega)]
      have := Hq.out
      omega
    have Hr5 := hide (Hr4.out.front (m := q) (by omega))
    generalize cutA (some ⟨b1, o1, none⟩) c1 0 = A5 at *
    clear hw0 hc1 dF dL dL' p0 p2
    go_quiet ((go_at_call 22; exact quietD (HGet2.out _ A5 c1 (Hr5.out.drawn (Drawn.of _ _)))))
    clear hw1 hcut
    go_wp2_with fail
    refine (alive18 _).mono ?_
    rintro e w6 ⟨rfl, hb6⟩
    go_wp2_with fail
    go_ret
    exact ⟨rfl, (HB4.out.trans (drawn_below (Drawn.of _ _) _)).of hb6⟩
end Go.Proofs.Ytlpbonfapglocaa
