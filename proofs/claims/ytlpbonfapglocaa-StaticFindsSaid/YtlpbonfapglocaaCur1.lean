/- The contracts of layer 2's cursor: a cursor that is there, and one that is not. -/
import Derived.Test.YtlpbonfapglocaaOctV
import Derived.Test.YtlpbonfapglocaaClone
import Derived.Test.YtlpbonfapglocaaCut
namespace Go.Proofs.Ytlpbonfapglocaa
open Go.RowKit

/-- A cursor at block p: its n bytes are f; so many were taken. -/
def Cur (w : World) (p n : Nat) (f : Nat → Int) (t : Nat) : Prop :=
  ∃ A c, w.heap[p]? = some (.cells #[.slice A n c, .int .i64 (t : Int)] 102 (0, 0)) ∧ Rd .u8 w A n c f ∧ (∀ a, A = some a → a.block ≠ p) ∧ t ≤ n ∧ n ≤ 100000000
theorem Cur.lt {w : World} {p n t : Nat} {f : Nat → Int} (h : Cur w p n f t) : p < w.heap.size := by
  obtain ⟨A, c, hh, _⟩ := h
  exact (Array.getElem?_eq_some_iff.1 hh).1
theorem Cur.below {w w' : World} {p n t : Nat} {f : Nat → Int} (h : Cur w p n f t) (hb : Below w.heap.size w w') : Cur w' p n f t := by
  have hp := h.lt
  obtain ⟨A, c, hh, hr, ha, h1⟩ := h
  exact ⟨A, c, (hb.block p hp).trans hh, hr.below hb, ha, h1⟩
theorem Cur.drawn {w w' : World} {p n t : Nat} {f : Nat → Int} (h : Cur w p n f t) (hd : Drawn w w') : Cur w' p n f t := h.below (drawn_below hd _)
theorem bytes_elem : Try.prog.elem 28 = 5 := by kernel_rfl
theorem bytes_cut (A : Option Addr) (n c k : Nat) (hk : k ≤ n) (W : World) :
    (Instr.slice 28 (.slice A n c) (some (.int .i64 (k : Int))) none none).run Try.prog W = .ok (.slice (cutA A c k) (n - k) (c - k)) W :=
  cut_l 28 5 Try.underlying28 bytes_elem c8_size A n c k hk .i64 W
theorem bytes_cut_h (A : Option Addr) (n c k : Nat) (hk : k ≤ c) (W : World) :
    (Instr.slice 28 (.slice A n c) none (some (.int .i64 (k : Int))) none).run Try.prog W = .ok (.slice (cutA A c 0) k c) W :=
  cut_h 28 5 Try.underlying28 bytes_elem c8_size A n c k hk .i64 W
theorem Rd.front {k : IntKind} {w : World} {A : Option Addr} {n c : Nat} {f : Nat → Int} (h : Rd k w A n c f) {m : Nat} (hm : m ≤ n) : Rd k w (cutA A c 0) m c f := by
  have h1 := h.cutR (lo := 0) (hi := m) (Nat.zero_le _) hm
  simp only [Nat.sub_zero, Nat.zero_add] at h1
  exact h1
theorem grown_cell (w w1 : World) (h : Below w.heap.size w w1) (p j : Nat) (u : Value) : w.grownBy (w1.setCell ⟨p, j, none⟩ u) (some p) :=
  ⟨h.os, h.tape, h.output, by have := h.size; simpa [World.setCell] using this, fun i hi hne => (Below.heap_setCell w1 ⟨p, j, none⟩ u i (fun e => hne (by simp [e]))).trans (h.block i hi)⟩
theorem drawn_grown {w w' : World} (h : Drawn w w') (row : Option Nat) : w.grownBy w' row := by
  obtain ⟨q, rfl⟩ := h
  exact ⟨rfl, rfl, rfl, Nat.le_refl _, fun _ _ _ => rfl⟩
theorem below_grown {w w' : World} (h : Below w.heap.size w w') (row : Option Nat) : w.grownBy w' row := ⟨h.os, h.tape, h.output, h.size, fun i hi _ => h.block i hi⟩

set_option maxHeartbeats 400000 in
theorem cnew_any (A : Option Addr) (n c : Nat) (f : Nat → Int) (w : World) (ha : Rd .u8 w A n c f) (hn : n ≤ 100000000) :
    Calls Try.prog 70 #[.slice A n c] w fun e w' => ∃ p, e = .returned (.pointer (some ⟨p, 0, none⟩)) ∧ w.heap.size ≤ p ∧ Cur w' p n f 0 ∧ Below w.heap.size w w' := by
  have Ha := hide ha
  clear ha
  go_enter Try.func70, Try.ntmps70
  go_wp2_with fail
  refine (clone_any A n c f _ Ha.out (by omega)).mono ?_
  rintro e w1 ⟨v, rfl, hown, hb1⟩
  obtain ⟨A1, c1, rfl, hr1, hbl⟩ := hown.rd
  have Hr1 := hide hr1
  have Hbl := hide hbl
  have hs := hb1.size
  clear hown hr1 hbl
  go_wp2_with fail
  go_ret
  refine ⟨w1.heap.size, rfl, hs, ⟨A1, c1, heap_alloc_new w1 _, Hr1.out.alloc _, fun a e => ?_, by omega, hn⟩, hb1.alloc hs _⟩
  have := Hbl.out a e
  omega

theorem Cur.other {w w' : World} {p n t g : Nat} {f : Nat → Int} (h : Cur w p n f t) (hp : p ≠ g) (hA : ∀ A c, w.heap[p]? = some (.cells #[.slice A n c, .int .i64 (t : Int)] 102 (0, 0)) → ∀ a, A = some a → a.block ≠ g) (hg : w.grownBy w' (some g)) : Cur w' p n f t := by
  have hlt := h.lt
  obtain ⟨A, c, hh, hr, ha, h1⟩ := h
  exact ⟨A, c, (hg.block p hlt (fun e => hp (Option.some.inj e))).trans hh, hr.other hg (fun b off e => hA A c hh _ e), ha, h1⟩
set_option maxHeartbeats 400000 in
theorem cnew_own (A : Option Addr) (n c : Nat) (f : Nat → Int) (w : World) (ha : Rd .u8 w A n c f) (hn : n ≤ 100000000) :
    Calls Try.prog 70 #[.slice A n c] w fun e w' => ∃ p, e = .returned (.pointer (some ⟨p, 0, none⟩)) ∧ w.heap.size ≤ p ∧ Below w.heap.size w w' ∧ ∀ g w'', g < w.heap.size → w'.grownBy w'' (some g) → Cur w'' p n f 0 := by
  have Ha := hide ha
  clear ha
  go_enter Try.func70, Try.ntmps70
  go_wp2_with fail
  refine (clone_any A n c f _ Ha.out (by omega)).mono ?_
  rintro e w1 ⟨v, rfl, hown, hb1⟩
  obtain ⟨A1, c1, rfl, hr1, hbl⟩ := hown.rd
  have Hr1 := hide hr1
  have Hbl := hide hbl
  have hs := hb1.size
  clear hown hr1 hbl
  go_wp2_with fail
  go_ret
  refine ⟨w1.heap.size, rfl, hs, hb1.alloc hs _, fun g w'' hlt hg => Cur.other (w := w1.alloc (.cells #[.slice A1 n c1, .int .i64 0] 102)) ⟨A1, c1, heap_alloc_new w1 _, Hr1.out.alloc _, fun a e => ?_, by omega, hn⟩ (by omega) (fun A' c' hh a e => ?_) hg⟩
  · have := Hbl.out a e
    omega
  · have h2 : (w1.alloc (.cells #[.slice A1 n c1, .int .i64 0] 102)).heap[w1.heap.size]? = some (.cells #[.slice A1 n c1, .int .i64 0] 102 (0, 0)) := heap_alloc_new w1 _
    rw [h2] at hh
    simp at hh
    have := Hbl.out a (hh.1.trans e)
    omega

/-- What 'ahead' gives: the bytes that are left. -/
def Ahead (w : World) (m : Nat) (h : Nat → Int) (e : Ending) (w' : World) : Prop := ∃ A c, e = .returned (.slice A m c) ∧ Rd .u8 w A m c h ∧ Drawn w w'
set_option maxHeartbeats 400000 in
theorem ahead_any (p n t : Nat) (f : Nat → Int) (w : World) (h : Cur w p n f t) :
    Calls Try.prog 77 #[.pointer (some ⟨p, 0, none⟩)] w (Ahead w (n - t) (fun i => f (t + i))) := by
  obtain ⟨A, c, hh, hr, ha, h1, h2⟩ := h
  have c0 := cell_of_row w p 0 _ _ _ hh
  have c1 := cell_of_row w p 1 _ _ _ hh
  simp at c0 c1
  have hcut := bytes_cut A n c t h1
  have Hr := hide (hr.cutR (lo := t) (hi := n) h1 (Nat.le_refl _))
  clear hh hr ha
  go_enter Try.func77, Try.ntmps77
  go_wp2
  go_quiet (fail)
  go_wp2
  go_ret
  exact ⟨_, _, rfl, Hr.out, Drawn.of _ _⟩
theorem aheadNil (w : World) : Calls Try.prog 77 #[.pointer none] w fun e w' => e = .returned (.slice none 0 0) ∧ w = w' := by
  go_enter Try.func77, Try.ntmps77
  go_wp2
  go_ret
  exact ⟨rfl, rfl⟩
theorem Own.baseT {k : IntKind} {e : TypeId} {B B' : Nat} {w : World} {v : Value} {n : Nat} {f : Nat → Int} (h : w.ownsRow B e 1 v n (row k n f)) (hB : B' ≤ B) : Own k e B' w v n f := by
  refine ⟨h.1, ?_⟩
  rcases h.2 with h2 | ⟨g, cap, cur, hv, hg, r⟩
  · exact .inl h2
  · exact .inr ⟨g, cap, cur, hv, by omega, r⟩
theorem drawn_size {w w' : World} (h : Drawn w w') : w'.heap.size = w.heap.size := by
  obtain ⟨q, rfl⟩ := h
  rfl
/-- Whatever is written into one block that is new, the cursor stays. -/
def Later (w : World) (p n t : Nat) (f : Nat → Int) (w' : World) : Prop := ∀ (g : Nat) (w'' : World), w.heap.size ≤ g → w'.grownBy w'' (some g) → Cur w'' p n f t
theorem Rd.other0 {k : IntKind} {w w' : World} {A : Option Addr} {n c : Nat} {f : Nat → Int} (h : Rd k w A n c f) {B : Nat} (hg : w.grownBy w' (some B)) (hne : ∀ b off, 0 < n → A = some ⟨b, off, none⟩ → b ≠ B) : Rd k w' A n c f :=
  ⟨h.1, h.2.1, h.2.2.1, fun hn => by
    obtain ⟨b, off, hA, hc⟩ := h.2.2.2 hn
    exact ⟨b, off, hA, fun i hi => hg.cell (hc i hi) (by intro e; exact hne b off hn hA (Option.some.inj e))⟩⟩
/-- The state of a cursor, its bytes' address written out, behind a write to a new block. -/
theorem later_of {w w1 w'' : World} {p n t t' c g : Nat} {A : Option Addr} {f : Nat → Int} (h : Cur w p n f t)
    (hh : w1.heap[p]? = some (.cells #[.slice A n c, .int .i64 (t' : Int)] 102 (0, 0))) (hA : ∃ u, w.heap[p]? = some (.cells #[.slice A n c, u] 102 (0, 0))) (hr : Rd .u8 w1 A n c f) (ha : ∀ a, A = some a → a.block ≠ p) (ht : t' ≤ n) (hg1 : w.heap.size ≤ g) (hg : w1.grownBy w'' (some g)) : Cur w'' p n f t' := by
  have hp := h.lt
  have hn : n ≤ 100000000 := by obtain ⟨_, _, _, _, _, _, h⟩ := h; exact h
  have hp1 : p < w1.heap.size := (Array.getElem?_eq_some_iff.1 hh).1
  refine ⟨A, c, (hg.block p hp1 (fun e => by have := Option.some.inj e; omega)).trans hh, hr.other0 hg (fun b off h0 e => ?_), ha, ht, hn⟩
  obtain ⟨A', c', hh', hr', _⟩ := h
  obtain ⟨u, hu⟩ := hA
  rw [hu] at hh'
  simp at hh'
  obtain ⟨⟨rfl, _⟩, _⟩ := hh'
  obtain ⟨b', off', e', hlt, _⟩ := hr'.block h0
  rw [e'] at e
  injection e with e
  injection e with e1
  omega
/-- What is taken: bytes of the call's own, and the cursor behind them. -/
def Took (w : World) (p n t k : Nat) (f : Nat → Int) (e : Ending) (w' : World) : Prop :=
  ∃ A c, e = .returned (.slice A k c) ∧ Rd .u8 w' A k c (fun i => f (t + i)) ∧ (∀ a, A = some a → w.heap.size ≤ a.block ∧ a.off = 0 ∧ a.spot = none) ∧ Cur w' p n f (t + k) ∧ w.grownBy w' (some p) ∧ Own .u8 5 w.heap.size w' (.slice A k c) k (fun i => f (t + i)) ∧ Later w p n (t + k) f w'
/-! ### Number, Bytes, Rest -/
set_option maxHeartbeats 800000 in
theorem number_bad (p n t : Nat) (s : Int) (f : Nat → Int) (w : World) (h : Cur w p n f t) (he : getE (n - t) s ≠ 0) :
    Calls Try.prog 71 #[.pointer (some ⟨p, 0, none⟩), .int .i64 s] w fun e w' => e = .returned (.tuple #[.int .i64 0, .int .i64 (getE (n - t) s)]) ∧ Drawn w w' := by
  have hn : n ≤ 100000000 := by obtain ⟨_, _, _, _, _, _, h⟩ := h; exact h
  have H := hide h
  have hne : (getE (n - t) s != 0) = true := by simpa using he
  have He := hide he
  clear h he
  go_enter Try.func71, Try.ntmps71
  go_wp2_with fail
  refine (ahead_any p n t f _ H.out).mono ?_
  rintro e w1 ⟨A, c, rfl, _, hd1⟩
  go_wp2_with fail
  refine (get_bad A _ c s _ (by omega) He.out).mono ?_
  rintro e w2 ⟨rfl, rfl⟩
  go_wp2_with fail
  go_ret2
  exact ⟨rfl, hd1⟩
set_option maxHeartbeats 800000 in
theorem number_ok (p n t s : Nat) (f : Nat → Int) (w : World) (h : Cur w p n f t) (hb : Byt n f) (h1 : 1 ≤ s) (h2 : s ≤ 4) (h3 : t + s ≤ n) :
    Calls Try.prog 71 #[.pointer (some ⟨p, 0, none⟩), .int .i64 (s : Int)] w fun e w' =>
      e = .returned (.tuple #[.int .i64 (num (fun i => f (t + i)) s), .int .i64 0]) ∧ Cur w' p n f (t + s) ∧ w.grownBy w' (some p) := by
  have hn : n ≤ 100000000 := by obtain ⟨_, _, _, _, _, _, h⟩ := h; exact h
  have H := hide h
  have Hb : Hid (Byt (n - t) (fun i => f (t + i))) := fun i hi => hb (t + i) (by omega)
  clear h hb
  generalize hX : num (fun i => f (t + i)) s = X
  have HX := hide hX
  clear hX
  go_enter Try.func71, Try.ntmps71
  go_wp2_with fail
  refine (ahead_any p n t f _ H.out).mono ?_
  rintro e w1 ⟨A, c, rfl, hr1, hd1⟩
  have Hr1 := hide (hr1.drawn hd1)
  clear hr1
  go_wp2_with fail
  refine (get_ok A _ c s _ _ Hr1.out Hb.out h1 h2 (by omega)).mono ?_
  rintro e w2 ⟨rfl, rfl⟩
  rw [HX.out]
  have hB := drawn_below hd1 w.heap.size
  obtain ⟨A0, c0, hh, hr0, ha0, ht0, hn0⟩ := H.out.drawn hd1
  have d1 := cell_of_row w1 p 1 _ _ _ hh
  simp at d1
  have f1 := frozen_of_row w1 p 1 _ _ hh
  have Hh := hide hh
  have Hr0 := hide hr0
  have Ha0 := hide ha0
  clear hh hr0 ha0 hd1
  go_wp2_with fail
  go_ret2
  have hg : w1.grownBy (w1.setCell ⟨p, 1, none⟩ (.int .i64 ((t : Int) + s))) (some p) := grown_cell w1 w1 (Below.refl _ _) p 1 _
  refine ⟨rfl, ⟨A0, c0, ?_, Hr0.out.other hg (fun b off e => Ha0.out _ e), Ha0.out, by omega, hn0⟩, grown_cell w w1 hB p 1 _⟩
  rw [heap_setCell_same w1 p 1 _ _ _ Hh.out]
  simp
theorem Took.start {w w1 : World} {p n t k : Nat} {f : Nat → Int} {e : Ending} {w' : World} (hd : Below w.heap.size w w1) (hds : w1.heap.size = w.heap.size) (h : Took w1 p n t k f e w') : Took w p n t k f e w' := by
  obtain ⟨A, c, h1, h2, h3, h4, h5, h6, h7⟩ := h
  exact ⟨A, c, h1, h2, fun a e => ⟨Nat.le_trans hd.size (h3 a e).1, (h3 a e).2⟩, h4, ⟨h5.os.trans hd.os, h5.tape.trans hd.tape, h5.output.trans hd.output, Nat.le_trans hd.size h5.size, fun i hi hne => (h5.block i (Nat.lt_of_lt_of_le hi hd.size) hne).trans (hd.block i hi)⟩, Own.baseT h6 hd.size, fun g w'' q1 q2 => h7 g w'' (by omega) q2⟩
end Go.Proofs.Ytlpbonfapglocaa
