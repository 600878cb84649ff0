/- Layer 36: the example. -/
import Derived.Test.YteikpdolickkaaaPi4
namespace Go.Proofs.Yteikpdolickkaaa
open Go.RowKit Go.Maps Go.Deep

theorem rd8 {w : World} {q : Nat} {T : TypeId} {F : Nat → Int} (h : w.heap[q]? = some (.cells #[.int .u8 (F 0), .int .u8 (F 1), .int .u8 (F 2), .int .u8 (F 3), .int .u8 (F 4), .int .u8 (F 5), .int .u8 (F 6), .int .u8 (F 7)] T (0, 0))) : Rd .u8 w (some ⟨q, 0, none⟩) 8 8 F := by
  obtain ⟨e0, e1, e2, e3, e4, e5, e6, e7⟩ := row8 h
  refine ⟨Nat.le_refl _, by simp [maxLen], fun e => (by cases e), fun _ => ⟨q, 0, rfl, fun i hi => ?_⟩⟩
  rw [Nat.zero_add]
  rcases i with _ | _ | _ | _ | _ | _ | _ | _ | i <;> first | assumption | omega
theorem FrP.row {B p bm q : Nat} {w w' : World} {cs : Array Value} {T : TypeId} (h : FrP B p bm w w') (k : w.heap[q]? = some (.cells cs T (0, 0))) (h1 : q ≠ p) (h2 : q ≠ bm) : w'.heap[q]? = some (.cells cs T (0, 0)) :=
  (h.keep q (rowLt k) h1 h2).trans k
theorem PgOk.below {B : Nat} {w w' : World} {p bm n : Nat} {most cnt : Int} {f : List Int → Int} (h : PgOk B w p bm n most cnt f) (hb : Below w.heap.size w w') : PgOk B w' p bm n most cnt f :=
  ⟨keepRow h.row hb, h.hp, h.hm, h.ne, h.map.at_block (hb.block _ h.map.lt)⟩
theorem PgOk.new (w : World) (m : Int) : PgOk w.heap.size ((w.alloc (.map #[] 0)).alloc (.cells #[.int .i64 m, .map (some w.heap.size), .int .i64 0] 215)) (w.heap.size + 1) w.heap.size 0 m 0 (fun _ => 0) :=
  ⟨by have := heap_alloc_new (w.alloc (.map #[] 0)) (.cells #[.int .i64 m, .map (some w.heap.size), .int .i64 0] 215); simpa using this, Nat.le_succ _, Nat.le_refl _, by omega, (MpB.made w).at_block (((Below.refl _ _).alloc (Nat.le_refl _) _).block _ (MpB.made w).lt)⟩
set_option maxRecDepth 20000 in
theorem answerNo36 {B : Nat} {w : World} {p bm n : Nat} {most cnt : Int} {f : List Int → Int} (h : PgOk B w p bm n most cnt f) {A : Option Addr} {c : Nat} {F : Nat → Int} (ha : Rd .u8 w A 8 c F) (hb : Byt 8 F) (hf : ¬ 0 < f (kl F)) :
    Calls Try.prog 89 #[.pointer (some ⟨p, 0, none⟩), .slice A 8 c] w fun e w' => e = .returned (.bool false) ∧ Below w.heap.size w w' := by
  go_enter Try.func89, Try.ntmps89
  go_wp2_with fail
  refine (waits36 h ha hb).mono ?_
  rintro e w0 ⟨rfl, hb0⟩
  rw [decide_eq_false (show ¬ 0 < f (kl F) by omega)]
  go_wp2_with fail
  go_ret
  exact ⟨rfl, hb0⟩
def F8 (i : Nat) : Int := (i : Int) + 1
theorem byt8 : Byt 8 F8 := fun i hi => by unfold F8; omega
set_option maxRecDepth 20000 in
theorem alive36 (w : World) : Calls Try.prog 85 #[] w (Yes w) := by
  have P' := hide (PgOk.new w 5)
  have E' := hide (((Below.refl w.heap.size w).alloc (Nat.le_refl _) (.map #[] 0)).alloc (by simp) (.cells #[.int .i64 5, .map (some w.heap.size), .int .i64 0] 215))
  go_enter Try.func85, Try.ntmps85
  go_wp2_with fail
  refine (new36 5 (by omega) _).mono ?_
  rintro e z ⟨rfl, rfl⟩
  have hsz : ((w.alloc (.map #[] 0)).alloc (.cells #[.int .i64 5, .map (some w.heap.size), .int .i64 0] 215)).heap.size = w.heap.size + 2 := by simp
  generalize ((w.alloc (.map #[] 0)).alloc (.cells #[.int .i64 5, .map (some w.heap.size), .int .i64 0] 215)) = z at *
  have al := (Below.refl z.heap.size z).alloc (Nat.le_refl _) (.cells #[.int .u8 1, .int .u8 2, .int .u8 3, .int .u8 4, .int .u8 5, .int .u8 6, .int .u8 7, .int .u8 8] 5)
  have P0 := hide (P'.out.below al)
  have E0 := hide (E'.out.alloc E'.out.size (.cells #[.int .u8 1, .int .u8 2, .int .u8 3, .int .u8 4, .int .u8 5, .int .u8 6, .int .u8 7, .int .u8 8] 5))
  have K0 : Hid ((z.alloc (.cells #[.int .u8 1, .int .u8 2, .int .u8 3, .int .u8 4, .int .u8 5, .int .u8 6, .int .u8 7, .int .u8 8] 5)).heap[z.heap.size]? = some (.cells #[.int .u8 (F8 0), .int .u8 (F8 1), .int .u8 (F8 2), .int .u8 (F8 3), .int .u8 (F8 4), .int .u8 (F8 5), .int .u8 (F8 6), .int .u8 (F8 7)] 5 (0, 0))) := heap_alloc_new z (.cells #[.int .u8 1, .int .u8 2, .int .u8 3, .int .u8 4, .int .u8 5, .int .u8 6, .int .u8 7, .int .u8 8] 5)
  have N1 : Hid (z.heap.size ≠ w.heap.size + 1) := by show _ ≠ _; omega
  have N2 : Hid (z.heap.size ≠ w.heap.size) := by show _ ≠ _; omega
  clear al P' E' hsz
  go_wp2_with fail
  refine (send36 P0.out (Nat.le_trans (by simp) E0.out.size) (rd8 K0.out) byt8 (by omega) (by omega) (by omega) (by omega) (by decide +kernel)).mono ?_
  rintro e W1 ⟨rfl, hp, hf⟩
  have P1 := hide hp
  have K1 := hide (hf.row K0.out N1.out N2.out)
  have E1 := hide (E0.out.trans hf.below)
  clear hp hf
  go_wp2_with fail
  refine (send36 P1.out (Nat.le_trans (by simp) E1.out.size) (rd8 K1.out) byt8 (by omega) (by omega) (by omega) (by omega) (by decide +kernel)).mono ?_
  rintro e W2 ⟨rfl, hp, hf⟩
  have P2 := hide hp
  have K2 := hide (hf.row K1.out N1.out N2.out)
  have E2 := hide (E1.out.trans hf.below)
  clear hp hf
  go_wp2_with fail
  refine (answer36 P2.out (Nat.le_trans (by simp) E2.out.size) (rd8 K2.out) byt8 (by omega) (by omega) (by decide +kernel)).mono ?_
  rintro e W3 ⟨rfl, hp, hf⟩
  have P3 := hide hp
  have K3 := hide (hf.row K2.out N1.out N2.out)
  have E3 := hide (E2.out.trans hf.below)
  clear hp hf
  go_wp2_with fail
  refine (answer36 P3.out (Nat.le_trans (by simp) E3.out.size) (rd8 K3.out) byt8 (by omega) (by omega) (by decide +kernel)).mono ?_
  rintro e W4 ⟨rfl, hp, hf⟩
  have P4 := hide hp
  have K4 := hide (hf.row K3.out N1.out N2.out)
  have E4 := hide (E3.out.trans hf.below)
  clear hp hf
  go_wp2_with fail
  refine (answerNo36 P4.out (rd8 K4.out) byt8 (by decide +kernel)).mono ?_
  rintro e W5 ⟨rfl, hf⟩
  go_wp2_with fail
  go_ret
  exact ⟨rfl, E4.out.of hf⟩
end Go.Proofs.Yteikpdolickkaaa
