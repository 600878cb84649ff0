/- Layer 21: the reference's Add. -/
import Derived.Test.YteikpdolickkaaaDz4
namespace Go.Proofs.Yteikpdolickkaaa
open Go.RowKit Go.Deep

theorem consFd_cat (f : Fd) (L : Nat → Fd) : catV (1 * 3) (fdV fun _ => f) (fdV L) = fdV (consFd f L) := by
  rw [fdV_cat]
  rfl
theorem ownV_at21 {s : Nat} {e : TypeId} {B : Nat} {w w' : World} {v : Value} {n : Nat} {F : Nat → Value} (h : OwnV s e B w v n F) (hb : ∀ i, v.ownBlock = some i → w'.heap[i]? = w.heap[i]?) : OwnV s e B w' v n F := by
  refine ⟨h.1, ?_⟩
  rcases h.2 with h2 | ⟨g, cap, cur, hv, hg, hh, r⟩
  · exact .inl h2
  · exact .inr ⟨g, cap, cur, hv, hg, (hb g (by rw [hv]; rfl)).trans hh, r⟩
theorem cs2_21 {W : World} {p : Nat} {a : Addr} {u x y : Value} (h : W.cell? a = some u) (hne : a.block ≠ p) : ((W.setCell ⟨p, 0, none⟩ x).setCell ⟨p, 1, none⟩ y).cell? a = some u := by
  rw [World.cell?_setCell_other _ _ _ _ (fun hh => hne (by rw [← hh])), World.cell?_setCell_other _ _ _ _ (fun hh => hne (by rw [← hh]))]
  exact h
theorem heap3_21 (w : World) (a1 a2 a3 : Array Value) (T1 T2 T3 : TypeId) : (((w.alloc (.cells a1 T1)).alloc (.cells a2 T2)).alloc (.cells a3 T3)).heap[w.heap.size]? = some (.cells a1 T1 (0, 0)) ∧ (((w.alloc (.cells a1 T1)).alloc (.cells a2 T2)).alloc (.cells a3 T3)).heap[w.heap.size + 1]? = some (.cells a2 T2 (0, 0)) ∧ (((w.alloc (.cells a1 T1)).alloc (.cells a2 T2)).alloc (.cells a3 T3)).heap[w.heap.size + 1 + 1]? = some (.cells a3 T3 (0, 0)) ∧ Below w.heap.size w (((w.alloc (.cells a1 T1)).alloc (.cells a2 T2)).alloc (.cells a3 T3)) := by
  refine ⟨keepRow (keepRow (heap_alloc_new w (.cells a1 T1)) ((Below.refl _ _).alloc (Nat.le_refl _) (.cells a2 T2))) ((Below.refl _ _).alloc (Nat.le_refl _) (.cells a3 T3)), ?_, ?_, (((Below.refl w.heap.size w).alloc (Nat.le_refl _) _).alloc (by simp) _).alloc (by simp; omega) _⟩
  · have h := keepRow (heap_alloc_new (w.alloc (.cells a1 T1)) (.cells a2 T2)) ((Below.refl _ _).alloc (Nat.le_refl _) (.cells a3 T3))
    have e : (w.alloc (.cells a1 T1)).heap.size = w.heap.size + 1 := by simp
    rw [e] at h
    exact h
  · have h := heap_alloc_new ((w.alloc (.cells a1 T1)).alloc (.cells a2 T2)) (.cells a3 T3)
    have e : ((w.alloc (.cells a1 T1)).alloc (.cells a2 T2)).heap.size = w.heap.size + 1 + 1 := by simp
    rw [e] at h
    exact h
set_option maxRecDepth 20000 in
set_option maxHeartbeats 3200000 in
theorem radd21 {w : World} {A : Option Addr} {n c : Nat} {mx : Int} {L : Nat → Fd} (h : RdV 3 w A n c (fdV L)) (hn : n ≤ 100) (hw : ∀ i, i < n → wt (L i) ≤ 500) (hmx0 : 0 ≤ mx) (hmx : mx ≤ 2147483647) (f : Fd) (hf : wt f ≤ 500) :
    Calls Try.prog 25 #[.agg #[.slice A n c, .int .i64 mx], .agg #[.string f.name, .string f.val, .bool f.nev]] w fun e w' => ∃ A' n' c', e = .returned (.agg #[.slice A' n' c', .int .i64 mx]) ∧ Below w.heap.size w w' ∧ ((mx < (wt f : Int) ∧ A' = none ∧ n' = 0 ∧ c' = 0) ∨ ((wt f : Int) ≤ mx ∧ ∃ k, FitP L n (mx - (wt f : Int)) k ∧ n' = k + 1 ∧ OwnV 3 52 w.heap.size w' (.slice A' n' c') n' (fdV (consFd ⟨f.name, f.val, false⟩ L)))) := by
  obtain ⟨nm, vl, nv⟩ := f
  have hw0 : nm.size + vl.size + 32 ≤ 500 := hf
  show Calls _ _ #[_, .agg #[.string nm, .string vl, .bool nv]] _ _
  obtain ⟨X, hX⟩ : ∃ X, X = nm.size + vl.size + 32 := ⟨_, rfl⟩
  have hwt : wt ⟨nm, vl, nv⟩ = X := hX.symm
  rw [hwt]
  obtain ⟨xw, hxw⟩ : ∃ xw : Int, xw = ((nm.size + vl.size + 32 : Nat) : Int) := ⟨_, rfl⟩
  have hxX : (X : Int) = xw := by rw [hxw, hX]
  rw [hxX]
  have Hxw := hide hxw
  have hx500 : xw ≤ 500 := by omega
  have hx0 : 0 ≤ xw := by omega
  have hn1 : nm.size ≤ 1000 := by omega
  have hv1 : vl.size ≤ 1000 := by omega
  have H := hide h
  have HW := hide hw
  clear h hw hxX hxw hX hwt hf
  go_enter Try.func25, Try.ntmps25
  go_upto_region 2 with (fail)
  refine absD _ (fun W => W.heap[w.heap.size]? = some (.cells #[.slice A n c, .int .i64 mx] 50 (0, 0)) ∧ W.heap[w.heap.size + 1]? = some (.cells #[.string nm, .string vl, .bool false] 52 (0, 0)) ∧ W.heap[w.heap.size + 1 + 1]? = some (.cells #[.slice none 0 0, .int .i64 0] 50 (0, 0)) ∧ Below w.heap.size w W) ?_ ?_
  · exact heap3_21 w _ _ _ _ _ _
  intro W0 ⟨r0, r1, r2, e0⟩
  have R0 := hide r0
  have R1 := hide r1
  have R2 := hide r2
  have E0 := hide e0
  clear r0 r1 r2 e0
  obtain ⟨t0, t1⟩ := row2 R0.out
  obtain ⟨f0, f1, f2⟩ := rowT R1.out
  have H0 := hide (H.out.below36O E0.out)
  go_region_held3 (fun W => (W.cell? ⟨w.heap.size, 0, none⟩ = some (.slice A n c) ∧ W.cell? ⟨w.heap.size, 1, none⟩ = some (.int .i64 mx)) ∧ (W.cell? ⟨w.heap.size + 1, 0, none⟩ = some (.string nm) ∧ W.cell? ⟨w.heap.size + 1, 1, none⟩ = some (.string vl) ∧ W.cell? ⟨w.heap.size + 1, 2, none⟩ = some (.bool false)))
    ((first | exact ⟨⟨t0, t1⟩, ⟨f0, f1, f2⟩⟩ | exact S5.out | (go_keep; done)))
    ((first
      | (go_at_call 98; (with_reducible refine (rweight21 nm vl false hn1 hv1 _).mono ?_); rintro e w5 ⟨rfl, hw5⟩; rw [← Hxw.out]; have hb5 : Below W0.drew.heap.size W0.drew w5 := (by rw [hw5]; exact (Below.refl _ _).alloc (Nat.le_refl _) _); have B5 := hide hb5; have keep5 := fun {a : Addr} {v : Value} (h : W0.cell? a = some v) => (hb5.cell (World.block_lt_of_cell? W0 _ h)).trans h; have S5 := hide (And.intro (And.intro (keep5 t0) (keep5 t1)) (And.intro (keep5 f0) (And.intro (keep5 f1) (keep5 f2)))); clear keep5 hw5 hb5)))
  all_goals
    have R5 := hide (keepRow (w := W0.drew) R2.out B5.out)
    have E5 := hide ((E0.out.drew).of B5.out)
    have H5 := hide (RdV.below36O (w := W0.drew) H0.out B5.out)
    clear R0 R1 R2 E0 H0 B5 t0 t1 f0 f1 f2
    obtain ⟨⟨t0, t1⟩, f0, f1, f2⟩ := S5.out
    obtain ⟨g0, g1⟩ := row2 R5.out
    have z0 := frozenRow R5.out 0
    have z1 := frozenRow R5.out 1
    have hp2 : w.heap.size ≤ w.heap.size + 1 + 1 := by omega
    by_cases hbig : mx < xw
    · have hd : decide (mx < xw) = true := decide_eq_true hbig
      have Hbig := hide hbig
      clear hbig
      rw [hd]
      go_wp2_with fail
      refine bodyPost_ret (v := .agg #[.slice none 0 0, .int .i64 mx]) ?_ rfl ⟨_, _, _, rfl, (E5.out.setCell hp2 _).setCell hp2 _, .inl ⟨Hbig.out, rfl, rfl, rfl⟩⟩
      rw [results_cellD rfl]
      go_simp
    · have hd : decide (mx < xw) = false := decide_eq_false hbig
      have Hbig : Hid (xw ≤ mx) := by show _ ≤ _; omega
      clear hbig g0 g1 z0 z1
      obtain ⟨i0, hi, hz0, hz1, hz2⟩ := info_parts field_info
      have hsub : IntKind.i64.wrap (mx - xw) = mx - xw := IntWalk.i64_in _ (by omega)
      have hsz5 := E5.out.size
      have hp5 := rowLt R5.out
      have L2 : Hid (OwnV 3 52 w.heap.size ((w5.alloc (.cells #[.string nm, .string vl, .bool false] 52)).alloc (.cells #[.string nm, .string vl, .bool false] 52)) (.slice (some ⟨w5.heap.size + 1, 0, none⟩) 1 1) 1 (fdV fun _ => ⟨nm, vl, false⟩)) := by
        have h := OwnV.lit 3 52 w.heap.size (w5.alloc (.cells #[.string nm, .string vl, .bool false] 52)) (fdV fun _ => ⟨nm, vl, false⟩) #[.string nm, .string vl, .bool false] 1 (by simp; omega) (by simp [maxLen]) rfl
        have e : (w5.alloc (.cells #[.string nm, .string vl, .bool false] 52)).heap.size = w5.heap.size + 1 := by simp
        rw [e] at h
        exact h
      rw [hd]
      go_upto_region 4 with (fail)
      go_region_held3 (fun W => (W.cell? ⟨w.heap.size, 0, none⟩ = some (.slice A n c) ∧ W.cell? ⟨w.heap.size, 1, none⟩ = some (.int .i64 mx)) ∧ (W.cell? ⟨w.heap.size + 1, 0, none⟩ = some (.string nm) ∧ W.cell? ⟨w.heap.size + 1, 1, none⟩ = some (.string vl) ∧ W.cell? ⟨w.heap.size + 1, 2, none⟩ = some (.bool false)))
        ((first | exact S5.out | exact S7.out | exact S8.out | (go_keep; done) | exact ⟨⟨cs2_21 S8.out.1.1 (by simp; omega), cs2_21 S8.out.1.2 (by simp; omega)⟩, cs2_21 S8.out.2.1 (by simp), cs2_21 S8.out.2.2.1 (by simp), cs2_21 S8.out.2.2.2 (by simp)⟩))
        ((first
          | (go_at_call 98; (with_reducible refine (rweight21 nm vl false hn1 hv1 _).mono ?_); rintro e w6 ⟨rfl, rfl⟩; rw [← Hxw.out])
          | (go_at_call 99; (with_reducible refine (rfit21 (H5.out.below36O (by go_grown)) hn HW.out).mono ?_); rintro e w7 ⟨A7, k, c7, rfl, hfit, hr7, hA7, hb7⟩; have E7 : Below w5.heap.size w5 w7 := Below.of (by go_grown) hb7; have HF7 := hide hfit; clear hfit hA7; have keep7 := fun {a : Addr} {v : Value} (h : w5.cell? a = some v) => (E7.cell (World.block_lt_of_cell? w5 _ h)).trans h; have S7 := hide (And.intro (And.intro (keep7 t0) (keep7 t1)) (And.intro (keep7 f0) (And.intro (keep7 f1) (keep7 f2)))); clear keep7)
          | (refine step_appD rfl (.tmp 15) (.tmp 23) _ rfl 3 i0 _ 40 Try.underlying48 hi hz0 hz1 hz2 rfl (by omega) w.heap.size _ 1 (fdV fun _ => ⟨nm, vl, false⟩) rfl ((OwnV.lit 3 52 w.heap.size w5 (fdV fun _ => ⟨nm, vl, false⟩) #[.string nm, .string vl, .bool false] 1 hsz5 (by simp [maxLen]) rfl).below (Below.of (by go_grown) hb7)) _ k c7 (fdV L) rfl hr7 (fdV_one _ _) (by have := HF7.out.1; simp only [maxLen]; omega) (by have := HF7.out.1; omega) (Nat.le_trans hsz5 E7.size) ?_; intro v8 w8 hown8 hg8 hob8; obtain ⟨A8, c8, rfl, _, _⟩ := hown8.rd; have E8 : Below w5.heap.size w5 w8 := E7.grown hg8 E7.size (fun j e => by cases e; exact Nat.le_refl _); have Hob : ∀ j, (Value.slice A8 (1 + k) c8).ownBlock = some j → w5.heap.size ≤ j := (fun j e => by rcases hob8 with h | h <;> (rw [h] at e; cases e) <;> first | exact Nat.le_refl _ | exact E7.size); have keep8 := fun {a : Addr} {v : Value} (h : w5.cell? a = some v) => (E8.cell (World.block_lt_of_cell? w5 _ h)).trans h; have S8 := hide (And.intro (And.intro (keep8 t0) (keep8 t1)) (And.intro (keep8 f0) (And.intro (keep8 f1) (keep8 f2)))); clear keep8; have K8 := keepRow R5.out E8; obtain ⟨y0, y1⟩ := row2 K8; have fz0 := frozenRow K8 0; have fz1 := frozenRow K8 1)
          | (refine step_appD rfl (.tmp 15) (.tmp 23) _ rfl 3 i0 _ 40 Try.underlying48 hi hz0 hz1 hz2 rfl (by omega) w.heap.size _ 1 (fdV fun _ => ⟨nm, vl, false⟩) rfl (L2.out.below (Below.of (by go_grown) hb7)) _ k c7 (fdV L) rfl hr7 (fdV_one _ _) (by have := HF7.out.1; simp only [maxLen]; omega) (by have := HF7.out.1; omega) (Nat.le_trans hsz5 E7.size) ?_; intro v8 w8 hown8 hg8 hob8; obtain ⟨A8, c8, rfl, _, _⟩ := hown8.rd; have E8 : Below w5.heap.size w5 w8 := E7.grown hg8 E7.size (fun j e => by cases e; simp); have Hob : ∀ j, (Value.slice A8 (1 + k) c8).ownBlock = some j → w5.heap.size ≤ j := (fun j e => by rcases hob8 with h | h <;> (rw [h] at e; cases e) <;> first | exact Nat.le_succ _ | exact E7.size); have keep8 := fun {a : Addr} {v : Value} (h : w5.cell? a = some v) => (E8.cell (World.block_lt_of_cell? w5 _ h)).trans h; have S8 := hide (And.intro (And.intro (keep8 t0) (keep8 t1)) (And.intro (keep8 f0) (And.intro (keep8 f1) (keep8 f2)))); clear keep8; have K8 := keepRow R5.out E8; obtain ⟨y0, y1⟩ := row2 K8; have fz0 := frozenRow K8 0; have fz1 := frozenRow K8 1)
          | (refine step_appD rfl (.tmp 15) (.tmp 23) _ rfl 3 i0 _ 40 Try.underlying48 hi hz0 hz1 hz2 rfl (by omega) w.heap.size _ 1 (fdV fun _ => ⟨nm, vl, false⟩) rfl (OwnV.lit 3 52 w.heap.size w7 (fdV fun _ => ⟨nm, vl, false⟩) #[.string nm, .string vl, .bool false] 1 (Nat.le_trans hsz5 E7.size) (by simp [maxLen]) rfl) _ k c7 (fdV L) rfl (hr7.below36O ((Below.refl _ _).alloc (Nat.le_refl _) _)) (fdV_one _ _) (by have := HF7.out.1; simp only [maxLen]; omega) (by have := HF7.out.1; omega) (Nat.le_trans hsz5 (Nat.le_trans E7.size (by simp))) ?_; intro v8 w8 hown8 hg8 hob8; obtain ⟨A8, c8, rfl, _, _⟩ := hown8.rd; have E8 : Below w5.heap.size w5 w8 := (E7.alloc E7.size _).grown hg8 (Nat.le_trans E7.size (by simp)) (fun j e => by cases e; exact E7.size); have Hob : ∀ j, (Value.slice A8 (1 + k) c8).ownBlock = some j → w5.heap.size ≤ j := (fun j e => by rcases hob8 with h | h <;> (rw [h] at e; cases e) <;> first | exact E7.size | exact Nat.le_trans E7.size (by simp)); have keep8 := fun {a : Addr} {v : Value} (h : w5.cell? a = some v) => (E8.cell (World.block_lt_of_cell? w5 _ h)).trans h; have S8 := hide (And.intro (And.intro (keep8 t0) (keep8 t1)) (And.intro (keep8 f0) (And.intro (keep8 f1) (keep8 f2)))); clear keep8; have K8 := keepRow R5.out E8; obtain ⟨y0, y1⟩ := row2 K8; have fz0 := frozenRow K8 0; have fz1 := frozenRow K8 1)))
      all_goals
        rw [consFd_cat] at hown8
        go_wp2_with fail
        refine bodyPost_ret (v := .agg #[.slice A8 (1 + k) c8, .int .i64 mx]) ?_ rfl ⟨_, _, _, rfl, ((E5.out.of E8).setCell hp2 _).setCell hp2 _, .inr ⟨Hbig.out, k, HF7.out, Nat.add_comm 1 k, ownV_at21 hown8 fun j hj => ?_⟩⟩
        · rw [results_cellD rfl]
          go_simp
        · have h9 := Hob j hj
          have h8 : j ≠ w.heap.size + 1 + 1 := by omega
          rw [Below.heap_setCell _ ⟨w.heap.size + 1 + 1, 1, none⟩ _ _ h8, Below.heap_setCell _ ⟨w.heap.size + 1 + 1, 0, none⟩ _ _ h8]
end Go.Proofs.Yteikpdolickkaaa
