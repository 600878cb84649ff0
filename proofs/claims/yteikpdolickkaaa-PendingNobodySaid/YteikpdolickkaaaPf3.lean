/- Layer 32: the reference's New, Push, Ack. -/
import Derived.Test.YteikpdolickkaaaPf2
import Derived.Deep.Cut
namespace Go.Proofs.Yteikpdolickkaaa
open Go.RowKit Go.Deep Go.ChangeShapes Go.WideShapes

theorem set3 {w : World} {p : Nat} {T : TypeId} {a0 a1 a2 : Value} (h : w.heap[p]? = some (.cells #[a0, a1, a2] T (0, 0))) (b0 b1 b2 : Value) :
    (((w.setCell ⟨p, 0, none⟩ b0).setCell ⟨p, 1, none⟩ b1).setCell ⟨p, 2, none⟩ b2).heap[p]? = some (.cells #[b0, b1, b2] T (0, 0)) := by
  have h1 := setRow w p 0 b0 h
  have h2 := setRow _ p 1 b1 h1
  have h3 := setRow _ p 2 b2 h2
  simp only [List.setIfInBounds_toArray, List.set_cons_zero, List.set_cons_succ] at h3
  exact h3
theorem own_set3 {k : IntKind} {e : TypeId} {B B' : Nat} {w : World} {v : Value} {n : Nat} {f : Nat → Int} (h : Own k e B w v n f) {p : Nat} (hp : p < B) (hB : B' ≤ B) (b0 b1 b2 : Value) : Own k e B' (((w.setCell ⟨p, 0, none⟩ b0).setCell ⟨p, 1, none⟩ b1).setCell ⟨p, 2, none⟩ b2) v n f :=
  Own.baseT (ownsRow_setCell_below (ownsRow_setCell_below (ownsRow_setCell_below h (a := ⟨p, 0, none⟩) hp _) (a := ⟨p, 1, none⟩) hp _) (a := ⟨p, 2, none⟩) hp _) hB
theorem ownV_set {s : Nat} {e : TypeId} {B : Nat} {w : World} {v : Value} {n : Nat} {F : Nat → Value} (h : OwnV s e B w v n F) {p j : Nat} (hp : p < B) (u : Value) : OwnV s e B (w.setCell ⟨p, j, none⟩ u) v n F := by
  refine ⟨h.1, ?_⟩
  rcases h.2 with h2 | ⟨g, cap, cur, hv, hg, hh, r⟩
  · exact .inl h2
  · exact .inr ⟨g, cap, cur, hv, hg, (Below.heap_setCell _ _ _ _ (show g ≠ p by omega)).trans hh, r⟩
theorem set3b {B : Nat} {w0 w : World} {p : Nat} (h : Below B w0 w) (hp : B ≤ p) (b0 b1 b2 : Value) : Below B w0 (((w.setCell ⟨p, 0, none⟩ b0).setCell ⟨p, 1, none⟩ b1).setCell ⟨p, 2, none⟩ b2) := ((h.setCell hp _).setCell hp _).setCell hp _
theorem sets_info : (Try.prog.info? 70).map (fun i => (i.zero, i.size, i.bytes)) = some (some (.slice none 0 0), 1, 24) := by kernel_rfl
def appD (m : Nat) (D : Nat → Sg) (s : Sg) : Nat → Sg := fun i => if i < m then D i else s
theorem sgF_app (m : Nat) (D : Nat → Sg) (s : Sg) : catV (m * 1) (sgF D) (fun _ => .slice s.A s.n s.c) = sgF (appD m D s) := by
  funext i
  unfold catV sgF appD
  rw [Nat.mul_one]
  by_cases h : i < m
  · simp only [if_pos h]
  · simp only [if_neg h]
theorem catV_zero (F G : Nat → Value) : catV (0 * 1) F G = G := by
  funext i
  unfold catV
  simp
theorem rnew32 (w : World) : Calls Try.prog 48 #[] w fun e w' => ∃ vn, e = .returned (.agg #[.slice none 0 0, .int .i64 0, vn]) ∧ Own .i64 3 w.heap.size w' vn 1 (fun i => ((0 + i : Nat) : Int)) ∧ Below w.heap.size w w' := by
  go_enter Try.func48, Try.ntmps48
  go_wp2_with fail
  have h := Own.lit .i64 3 w.heap.size (w.alloc (.cells #[.slice none 0 0, .int .i64 0, .slice (some ⟨w.heap.size + 1, 0, none⟩) 1 1] 95)) (fun i => ((0 + i : Nat) : Int)) #[.int .i64 0] 1 (by simp) (by simp [maxLen]) rfl
  have e1 : (w.alloc (.cells #[.slice none 0 0, .int .i64 0, .slice (some ⟨w.heap.size + 1, 0, none⟩) 1 1] 95)).heap.size = w.heap.size + 1 := by simp
  rw [e1] at h
  refine bodyPost_ret (v := .agg #[.slice none 0 0, .int .i64 0, .slice (some ⟨w.heap.size + 1, 0, none⟩) 1 1]) ?_ rfl ⟨_, rfl, h, ?_⟩
  · rw [results_cellS rfl]
    go_simp
  · exact ((Below.refl w.heap.size w).alloc (Nat.le_refl _) _).alloc (by simp) _
set_option maxRecDepth 20000 in
set_option maxHeartbeats 1600000 in
theorem rpush32 {B : Nat} {w : World} {A1 : Option Addr} {m c1 : Nat} {a : Int} {A : Option Addr} {n c l : Nat} {D : Nat → Sg} (s : Sg) (hl : OwnV 1 70 B w (.slice A1 m c1) m (sgF D)) (ho : Rd .i64 w A n c (fun i => ((l + i : Nat) : Int))) (hn : n = m + 1 - l) (hlm : l ≤ m) (hm : m ≤ 60) :
    Calls Try.prog 50 #[.agg #[.slice A1 m c1, .int .i64 a, .slice A n c], .slice s.A s.n s.c] w fun e w' => ∃ vl vn, e = .returned (.agg #[vl, .int .i64 a, vn]) ∧ OwnV 1 70 w.heap.size w' vl (m + 1) (sgF (appD m D s)) ∧ Own .i64 3 w.heap.size w' vn (m + 1 + 1 - l) (fun i => ((l + i : Nat) : Int)) ∧ Below w.heap.size w w' := by
  have Hl := hide hl
  have Ho := hide ho
  have Hn := hide hn
  clear hl ho hn
  obtain ⟨i0, hi, hz0, hz1, hz2⟩ := info_parts sets_info
  have R0 := hide (keepRow (heap_alloc_new w (.cells #[.slice A1 m c1, .int .i64 a, .slice A n c] 95)) ((Below.refl _ _).alloc (Nat.le_refl _) (.cells #[.slice none 0 0, .int .i64 0, .slice none 0 0] 95)))
  have R1 := hide (heap_alloc_new (w.alloc (.cells #[.slice A1 m c1, .int .i64 a, .slice A n c] 95)) (.cells #[.slice none 0 0, .int .i64 0, .slice none 0 0] 95))
  have E0 := hide (((Below.refl w.heap.size w).alloc (Nat.le_refl _) (.cells #[.slice A1 m c1, .int .i64 a, .slice A n c] 95)).alloc (by simp) (.cells #[.slice none 0 0, .int .i64 0, .slice none 0 0] 95))
  go_enter Try.func50, Try.ntmps50
  go_upto_region 1 with (fail)
  have hq : (w.alloc (.cells #[.slice A1 m c1, .int .i64 a, .slice A n c] 95)).heap.size = w.heap.size + 1 := by simp
  rw [hq] at R1
  clear hq
  generalize (w.alloc (.cells #[.slice A1 m c1, .int .i64 a, .slice A n c] 95)).alloc (.cells #[.slice none 0 0, .int .i64 0, .slice none 0 0] 95) = W0 at *
  obtain ⟨t0, t1, t2⟩ := rowQ (keepRow R0.out ((Below.refl _ _).alloc (Nat.le_refl _) (.cells #[] 70)))
  have Hl0 := hide ((Hl.out.rdS2).below36O E0.out)
  have hsz : W0.heap.size < (W0.alloc (.cells #[] 70)).heap.size := by simp
  go_wp2_with (first
    | (at_builtin; refine wp_appV rfl (.tmp 5) (.tmp 7) _ rfl 1 i0 _ 24 Try.underlying92 hi hz0 hz1 hz2 rfl (by omega) W0.heap.size _ 0 (sgF D) rfl (OwnV.lit 1 70 W0.heap.size W0 (sgF D) #[] 0 (Nat.le_refl _) (by simp [maxLen]) rfl) _ m c1 _ rfl (Hl0.out.below36O ((Below.refl _ _).alloc (Nat.le_refl _) _)) (fun _ _ => rfl) (by simp only [maxLen]; omega) (by omega) (Nat.le_of_lt hsz) ?_; intro v1 w1 hown1 hg1 hob1; rw [Nat.zero_add, catV_zero] at hown1; have E1 := hide (((Below.refl W0.heap.size W0).alloc (Nat.le_refl _) (.cells #[] 70)).grown hg1 (Nat.le_of_lt hsz) (fun j e => by cases e; exact Nat.le_refl _)); have O1 := hide (hown1.alloc (.cells #[.slice s.A s.n s.c] 70)); have S1 : Hid (w1.heap.size < (w1.alloc (.cells #[.slice s.A s.n s.c] 70)).heap.size) := (by show _ < _; simp))
    | (at_builtin; refine wp_appV rfl (.tmp 8) (.tmp 10) _ rfl 1 i0 _ 24 Try.underlying92 hi hz0 hz1 hz2 rfl (by omega) W0.heap.size _ m (sgF D) rfl O1.out _ 1 1 (fun _ => .slice s.A s.n s.c) rfl (OwnV.lit 1 70 0 w1 (fun _ => .slice s.A s.n s.c) #[.slice s.A s.n s.c] 1 (Nat.zero_le _) (by simp [maxLen]) rfl).rdS2 (fun _ _ => rfl) (by simp only [maxLen]; omega) (by omega) (Nat.le_trans E1.out.size (Nat.le_of_lt S1.out)) ?_; intro v2 w2 hown2 hg2 hob2; rw [sgF_app] at hown2; have E2 := hide ((E1.out.alloc E1.out.size (.cells #[.slice s.A s.n s.c] 70)).grown hg2 (Nat.le_trans E1.out.size (Nat.le_of_lt S1.out)) (fun j e => (World.ownsRow.lt O1.out j e).1)); have O2 := hide hown2; obtain ⟨A2, c2, rfl, _, _⟩ := hown2.rd; have K0 := hide (keepRow R0.out E2.out); obtain ⟨x0, x1, x2⟩ := rowQ K0.out; have f0 := frozenRow K0.out 0; have k1 := setRow w2 w.heap.size 0 (.slice A2 (m + 1) c2) K0.out; simp only [List.setIfInBounds_toArray, List.set_cons_zero, List.set_cons_succ] at k1; obtain ⟨y0, y1, y2⟩ := rowQ k1; clear k1; have K2 := hide ((Below.heap_setCell w2 ⟨w.heap.size, 0, none⟩ (.slice A2 (m + 1) c2) (w.heap.size + 1) (Nat.succ_ne_self _)).trans (keepRow R1.out E2.out)); have O3 : Hid (OwnV 1 70 W0.heap.size (w2.setCell ⟨w.heap.size, 0, none⟩ (.slice A2 (m + 1) c2)) (.slice A2 (m + 1) c2) (m + 1) (sgF (appD m D s))) := ownV_set O2.out (rowLt R0.out) _; have E3 : Hid (Below w.heap.size w (w2.setCell ⟨w.heap.size, 0, none⟩ (.slice A2 (m + 1) c2))) := ((E0.out.of E2.out).setCell (Nat.le_refl _) _); have hz : Hid (W0.heap.size ≤ (w2.setCell ⟨w.heap.size, 0, none⟩ (.slice A2 (m + 1) c2)).heap.size) := (by show _ ≤ _; have := E2.out.size; simpa [World.setCell] using this)))
  refine (risen32 (Ho.out.below E3.out) (by have := Hn.out; omega) (by have := Hn.out; omega) (l := l) (by simp) (fun i hi => by omega) (by omega) (by omega)).mono ?_
  rintro e w4 ⟨vn, rfl, hvn, hb4⟩
  obtain ⟨A4, c4, rfl, _, _⟩ := hvn.rd
  have k2 := keepRow K2.out hb4
  obtain ⟨g0, g1, g2⟩ := rowQ k2
  have z0 := frozenRow k2 0
  have z1 := frozenRow k2 1
  have z2 := frozenRow k2 2
  have hp1 := rowLt R1.out
  have O4 : Hid (OwnV 1 70 w.heap.size (((w4.setCell ⟨w.heap.size + 1, 0, none⟩ (.slice A2 (m + 1) c2)).setCell ⟨w.heap.size + 1, 1, none⟩ (.int .i64 a)).setCell ⟨w.heap.size + 1, 2, none⟩ (.slice A4 (m + 1 + 1 - l) c4)) (.slice A2 (m + 1) c2) (m + 1) (sgF (appD m D s))) :=
    (ownV_set (ownV_set (ownV_set (O3.out.below hb4) hp1 _) hp1 _) hp1 _).base36O E0.out.size
  have O5 := hide (own_set3 hvn (Nat.lt_of_lt_of_le hp1 hz.out) E3.out.size (.slice A2 (m + 1) c2) (.int .i64 a) (.slice A4 (m + 1 + 1 - l) c4))
  have E4 := hide (set3b (E3.out.of hb4) (Nat.le_succ w.heap.size) (.slice A2 (m + 1) c2) (.int .i64 a) (.slice A4 (m + 1 + 1 - l) c4))
  clear k2 hvn hb4
  go_wp2_with fail
  refine bodyPost_ret (v := .agg #[.slice A2 (m + 1) c2, .int .i64 a, .slice A4 (m + 1 + 1 - l) c4]) ?_ rfl ⟨_, _, rfl, O4.out, O5.out, E4.out⟩
  rw [results_cellS rfl]
  go_simp
end Go.Proofs.Yteikpdolickkaaa
