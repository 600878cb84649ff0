/- Layer 32: Newest, All, rise, Ack, Narrow, Push. -/
import Derived.Test.YteikpdolickkaaaPe1
namespace Go.Proofs.Yteikpdolickkaaa
open Go.RowKit Go.Deep

set_option maxHeartbeats 400000 in
theorem cloneV32 (b off n c : Nat) (F : Nat → Value) (w : World) (ha : RdV 6 w (some ⟨b, off, none⟩) n c F) (hF : ∀ i, i < n * 6 → (F i).oneCell' = true) (hn : n ≤ 1000) :
    Calls Try.prog 121 #[.slice (some ⟨b, off, none⟩) n c] w fun e w' => ∃ v, e = .returned v ∧ OwnV 6 113 w.heap.size w' v n F ∧ Below w.heap.size w w' := by
  have hnil := fun (a : Option Addr) (W : World) => Lib.run_eql_slice_nil (P := Try.prog) W 108 113 a n c 0 0 Try.underlying108
  obtain ⟨i0, hi, hz0, hz1, hz2⟩ := info_parts vals_info
  have Ha := hide ha
  have HF := hide hF
  clear ha hF
  go_enter Try.func121, Try.ntmps121
  go_wp2_with (at_builtin; refine wp_appV rfl (.tmp 5) (.tmp 6) _ rfl 6 i0 _ 48 Try.underlying108 hi hz0 hz1 hz2 rfl (by omega) w.heap.size _ 0 F rfl (OwnV.lit 6 113 w.heap.size w F #[] 0 (Nat.le_refl _) (by simp [maxLen]) rfl) _ n c F rfl (Ha.out.below36O ((Below.refl _ _).alloc (Nat.le_refl _) _)) HF.out (by simp only [maxLen]; omega) (by omega) (by simp) ?_; intro v1 w1 hown1 hg1 hob1)
  have hb1 : Below w.heap.size w w1 := ((Below.refl _ _).alloc (Nat.le_refl _) _).grown hg1 (by simp) (fun _ e => by cases e; exact Nat.le_refl _)
  go_ret
  exact ⟨_, rfl, OwnV.congr (n := n) (F := catV (0 * 6) F F) (by simpa using hown1) (fun i _ => by simp [catV]), hb1⟩
set_option maxRecDepth 20000 in
theorem all32 {B : Nat} {w : World} {p : Nat} {g : Option Nat} {a l n : Nat} {V : Nat → Nat → Int} (h : QOk B w p g a l n V) (hB : B ≤ w.heap.size) (hn : n ≤ 1000) :
    Calls Try.prog 57 #[.pointer (some ⟨p, 0, none⟩)] w fun e w' => ∃ v, e = .returned v ∧ OwnV 6 113 w.heap.size w' v n (vlF V) ∧ Below w.heap.size w w' := by
  have H := hide h
  clear h
  go_enter Try.func57, Try.ntmps57
  go_wp2_with fail
  refine (poss32 H.out hB).mono ?_
  rintro e w1 ⟨b, off, c, rfl, ho, _, hb1⟩
  have Hb := hide hb1
  clear hb1
  go_wp2_with fail
  refine (cloneV32 b off n c (vlF V) _ ho.rdS (fun _ _ => rfl) hn).mono ?_
  rintro e w2 ⟨v, rfl, ho2, hb2⟩
  go_wp2_with fail
  go_ret
  exact ⟨_, rfl, ho2.base36O Hb.out.size, Hb.out.of hb2⟩
set_option maxRecDepth 20000 in
set_option maxHeartbeats 800000 in
theorem newest32 {B : Nat} {w : World} {p : Nat} {g : Option Nat} {a l n : Nat} {V : Nat → Nat → Int} (h : QOk B w p g a l n V) (hB : B ≤ w.heap.size) (hn : n ≤ 1000) :
    Calls Try.prog 61 #[.pointer (some ⟨p, 0, none⟩)] w fun e w' => e = .returned (vA (V (n - 1))) ∧ Below w.heap.size w w' := by
  have hpos := h.pos
  have H := hide (h.below ((Below.refl _ _).alloc (Nat.le_refl _) (.cells #[.int .i64 0, .int .i64 0, .int .i64 0, .int .i64 0, .int .i64 0, .int .i64 0] 113)))
  have R0 := hide (heap_alloc_new w (.cells #[.int .i64 0, .int .i64 0, .int .i64 0, .int .i64 0, .int .i64 0, .int .i64 0] 113))
  have B0 := hide ((Below.refl w.heap.size w).alloc (Nat.le_refl _) (.cells #[.int .i64 0, .int .i64 0, .int .i64 0, .int .i64 0, .int .i64 0, .int .i64 0] 113))
  have HB : Hid (B ≤ (w.alloc (.cells #[.int .i64 0, .int .i64 0, .int .i64 0, .int .i64 0, .int .i64 0, .int .i64 0] 113)).heap.size) := Nat.le_trans hB B0.out.size
  have hw1 : IntKind.i64.wrap ((n : Int) - 1) = ((n - 1 : Nat) : Int) := by rw [IntWalk.i64_in _ (by omega)]; omega
  have hlt : ((n - 1 : Nat) : Int) < (n : Int) := by omega
  clear h
  go_enter Try.func61, Try.ntmps61
  go_wp2_with fail
  refine (poss32 H.out HB.out).mono ?_
  rintro e w1 ⟨b, off, c, rfl, ho, _, hb1⟩
  have hB1 := hide (B0.out.of hb1)
  have R1 := hide (keepRow R0.out hb1)
  clear hb1 H R0 B0 HB
  obtain ⟨b', off', e', hc⟩ := ho.rdS.2.2.2 (by omega)
  cases e'
  have q : ∀ j, j < 6 → w1.cell? ⟨b, off + (n - 1) * 6 + j, none⟩ = some (.int .i64 (V (n - 1) j)) := fun j hj => by
    rw [Nat.add_assoc, hc _ (by omega), vlF_at _ _ _ hj]
  have q0 := q 0 (by omega)
  have q1 := q 1 (by omega)
  have q2 := q 2 (by omega)
  have q3 := q 3 (by omega)
  have q4 := q 4 (by omega)
  have q5 := q 5 (by omega)
  rw [Nat.add_zero] at q0
  obtain ⟨p0, p1, p2, p3, p4, p5⟩ := row6 R1.out
  have z0 := frozenRow R1.out 0
  have z1 := frozenRow R1.out 1
  have z2 := frozenRow R1.out 2
  have z3 := frozenRow R1.out 3
  have z4 := frozenRow R1.out 4
  have z5 := frozenRow R1.out 5
  clear q hc
  go_wp2_with fail
  refine bodyPost_ret (v := vA (V (n - 1))) ?_ rfl ⟨rfl, ?_⟩
  · unfold vA
    rw [results_cellS rfl]
    go_simp
  · exact (((((hB1.out.setCell (by simp) _).setCell (by simp) _).setCell (by simp) _).setCell (by simp) _).setCell (by simp) _).setCell (by simp) _
theorem vlF_shift (V : Nat → Nat → Int) (lo : Nat) : (fun i => vlF V (lo * 6 + i)) = vlF (fun i => V (lo + i)) := by
  funext i
  unfold vlF
  rw [show (lo * 6 + i) / 6 = lo + i / 6 by omega, show (lo * 6 + i) % 6 = i % 6 by omega]
theorem QOk.cutL {B : Nat} {w : World} {p : Nat} {g : Option Nat} {a l n lo x : Nat} {u v : Value} {V : Nat → Nat → Int} (hr : w.heap[p]? = some (.cells #[.int .i64 (a : Int), .int .i64 (l : Int), u] 111 (0, 0))) (hg : v.ownBlock = g) (hne : g ≠ some p) (hp : B ≤ p)
    (ho : OwnO 6 113 B w v (n - lo) (fun i => vlF V (lo * 6 + i))) (hlt : lo < n) (hx : x = l + lo) :
    QOk B (((w.setCell ⟨p, 2, none⟩ v).setCell ⟨p, 1, none⟩ (.int .i64 (x : Int))).drew) p g a (l + lo) (n - lo) (fun i => V (lo + i)) := by
  subst hx
  rw [vlF_shift] at ho
  refine ⟨⟨v, ?_, hg, .inl (((ho.setCell (hg ▸ hne) 2 v).setCell (hg ▸ hne) 1 _).at_ fun _ _ => rfl)⟩, hp, by omega, hne⟩
  have h1 := setRow w p 2 v hr
  have h2 := setRow _ p 1 (.int .i64 ((l + lo : Nat) : Int)) h1
  simp only [List.setIfInBounds_toArray, List.set_cons_zero, List.set_cons_succ] at h2
  exact h2
set_option maxRecDepth 20000 in
set_option maxHeartbeats 800000 in
theorem rise32 {B : Nat} {w : World} {p : Nat} {g : Option Nat} {a l n : Nat} {V : Nat → Nat → Int} (h : QOk B w p g a l n V) (x : Nat) (hx : x - l < n) (hl : l + n ≤ 1000) (hx2 : x ≤ 1000) :
    Calls Try.prog 117 #[.pointer (some ⟨p, 0, none⟩), .int .i64 (x : Int)] w fun e w' => e = .returned (.tuple #[]) ∧ QOk B w' p g a (l + (x - l)) (n - (x - l)) (fun i => V ((x - l) + i)) ∧ FrO B (fun i => i = p) w w' := by
  have H := hide h
  have hp := h.hp
  have hne := h.ne
  obtain ⟨⟨v, h1, h2, h3⟩, _⟩ := h
  obtain ⟨c0, c1, c2⟩ := rowQ h1
  by_cases hle : x ≤ l
  · have hd : decide ((x : Int) ≤ (l : Int)) = true := decide_eq_true (by omega)
    have hd' : decide (x ≤ l) = true := decide_eq_true hle
    have e0 : Hid (x - l = 0) := by show _ = _; omega
    clear h1 h2 h3
    go_enter Try.func117, Try.ntmps117
    go_wp2
    refine bodyPost_ret (results_none rfl _ _ _) rfl ?_
    refine ⟨rfl, ?_, ⟨Below.refl _ _, fun _ _ _ => rfl⟩⟩
    rw [e0.out]
    have := H.out
    simpa using this
  · have hd : decide ((x : Int) ≤ (l : Int)) = false := decide_eq_false (by omega)
    have hd' : decide (x ≤ l) = false := decide_eq_false hle
    rcases h3 with h3 | ⟨rfl, rfl, _⟩
    · rcases h3 with ⟨_, h0⟩ | ⟨b, off, cap, cur, rfl, k1, k2, k3, k4, k5, k6⟩
      · omega
      obtain ⟨lo, hlo⟩ : ∃ lo, lo = x - l := ⟨_, rfl⟩
      have ho : Hid (OwnO 6 113 B w (.slice (some ⟨b, off, none⟩) n cap) n (vlF V)) := .inr ⟨b, off, cap, cur, rfl, k1, k2, k3, k4, k5, k6⟩
      have hw1 : IntKind.i64.wrap ((x : Int) - (l : Int)) = (lo : Int) := by rw [IntWalk.i64_in _ (by omega)]; omega
      have hb1 : (lo : Int) ≤ (n : Int) := by omega
      have hb2 : (n : Int) ≤ (cap : Int) := by omega
      have Hg := hide h2
      have Hlo := hide hlo
      have Hr := hide h1
      have f1 := frozenRow h1 1
      have f2 := frozenRow h1 2
      have Hcut := hide (ho.out.cut (lo := lo) (by omega))
      have Hne : Hid (Value.ownBlock (.slice (some ⟨b, off, none⟩) n cap) ≠ some p) := by show _ ≠ _; rw [h2]; exact hne
      have Hx : Hid ((x : Int) = ((l + (x - l) : Nat) : Int)) := by show _ = _; omega
      have Hlon : Hid (lo < n) := by show _ < _; omega
      rw [← hlo]
      have Hl2 : Hid (x = l + lo) := by show _ = _; omega
      clear h1 h2 k1 k2 k3 k4 k5 k6 hle hlo
      go_enter Try.func117, Try.ntmps117
      go_wp2_with fail
      go_region
      all_goals
        go_wp2_with fail
      all_goals
        go_end0
        have hc := Hcut.out
        first
          | (rw [if_pos ‹cap = lo›, ‹cap = lo›] at hc
             refine ⟨rfl, QOk.cutL Hr.out Hg.out hne hp (by simpa using hc) Hlon.out Hl2.out, ?_⟩)
          | (rw [if_neg ‹¬ cap = lo›] at hc
             refine ⟨rfl, QOk.cutL Hr.out Hg.out hne hp hc Hlon.out Hl2.out, ?_⟩)
        exact ((FrO.set (S := fun i => i = p) _ p 2 _ hp rfl).step (FrO.set (S := fun i => i = p) _ p 1 _ hp rfl) fun _ h => .inl h).drew
    · omega
end Go.Proofs.Yteikpdolickkaaa
