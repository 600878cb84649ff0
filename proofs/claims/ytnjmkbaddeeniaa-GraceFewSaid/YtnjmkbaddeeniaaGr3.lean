/- Layer 35: what a step does to the memory's blocks; fill. -/
import Derived.Test.YtnjmkbaddeeniaaGr2
namespace Go.Proofs.Ytnjmkbaddeeniaa
open Go.RowKit Go.Maps

theorem mem_int : (3 : TypeId) ≠ 35 := by decide
theorem GrOk.ne_v {B : Nat} {w : World} {g : GM} {s : GS} (h : GrOk B w g s) : g.v.ownBlock ≠ some g.p := by
  rcases h.own.2 with ⟨e, _⟩ | ⟨b, cap, cur, e, _, hh, _⟩
  · rw [e]; simp [Value.ownBlock]
  · rw [e]
    intro he
    have e2 : b = g.p := by simpa [Value.ownBlock] using he
    rw [e2, h.row] at hh
    unfold rowG at hh
    injection hh with hh
    injection hh with _ ht
    exact mem_int ht.symm
theorem GrOk.ne_m {B : Nat} {w : World} {g : GM} {s : GS} (h : GrOk B w g s) {bm : Nat} (hm : g.mv = .map (some bm)) : bm ≠ g.p ∧ g.v.ownBlock ≠ some bm := by
  rcases h.map with ⟨h1, _⟩ | ⟨b, h1, h2, ⟨D, ⟨es, clock, h3, _⟩, _⟩⟩
  · rw [h1] at hm; cases hm
  · rw [h1] at hm
    injection hm with hm
    injection hm with hm
    subst hm
    refine ⟨fun e => ?_, fun e => ?_⟩
    · rw [e, h.row] at h3
      unfold rowG at h3
      cases h3
    · rcases h.own.2 with ⟨e1, _⟩ | ⟨b', cap, cur, e1, _, hh, _⟩
      · rw [e1] at e; simp [Value.ownBlock] at e
      · rw [e1] at e
        have e2 : b' = b := by simpa [Value.ownBlock] using e
        rw [e2, h3] at hh
        cases hh
theorem Fr.refl {B : Nat} (S : Nat → Prop) (w : World) : Fr B S w w := ⟨Below.refl _ _, fun _ _ _ => rfl⟩
theorem Fr.step {B : Nat} {S S' : Nat → Prop} {w w1 w2 : World} (h : Fr B S w w1) (k : Fr B S' w1 w2) (hS : ∀ i, S' i → S i ∨ w.heap.size ≤ i) : Fr B S w w2 :=
  ⟨h.below.trans k.below, fun i hi hn => (k.keep i (Nat.lt_of_lt_of_le hi h.below.size) (fun hs => by
    rcases hS i hs with a | a
    · exact hn a
    · omega)).trans (h.keep i hi hn)⟩
theorem Fr.sub {B : Nat} {S S' : Nat → Prop} {w w' : World} (h : Fr B S' w w') (hS : ∀ i, S' i → S i) : Fr B S w w' := ⟨h.below, fun i hi hn => h.keep i hi fun hs => hn (hS i hs)⟩
theorem Fr.drawn {B : Nat} (S : Nat → Prop) (w : World) (n : Nat) : Fr B S w (w.drewN n) := ⟨drawn_below ⟨_, rfl⟩ _, fun _ _ _ => rfl⟩
theorem Fr.set {B p : Nat} (w : World) (j : Nat) (u : Value) (hp : B ≤ p) : Fr B (fun i => i = p) w (w.setCell ⟨p, j, none⟩ u) :=
  ⟨(Below.refl _ _).setCell hp _, fun i hi hn => (grown_set w p j u).block i hi (fun e => hn (Option.some.inj e))⟩
theorem Fr.alloc {B : Nat} (S : Nat → Prop) (w : World) (o : Obj) (hB : B ≤ w.heap.size) : Fr B S w (w.alloc o) := ⟨(Below.refl _ _).alloc hB _, fun i hi _ => ((Below.refl w.heap.size w).alloc (Nat.le_refl _) o).block i hi⟩
theorem Fr.grown {B b : Nat} {w w' : World} (h : w.grownBy w' (some b)) (hb : B ≤ b) (hs : B ≤ w.heap.size) : Fr B (fun i => i = b) w w' :=
  ⟨(Below.refl _ _).grown h hs (fun j e => by cases e; exact hb), fun i hi hn => h.block i hi (fun e => hn (Option.some.inj e))⟩
theorem Fr.grownV {B : Nat} {w w' : World} {v : Value} (h : w.grownBy w' v.ownBlock) (hb : ∀ j, v.ownBlock = some j → B ≤ j) (hs : B ≤ w.heap.size) : Fr B (fun i => v.ownBlock = some i) w w' :=
  ⟨(Below.refl _ _).grown h hs hb, fun i hi hn => h.block i hi (fun e => hn e.symm)⟩
theorem heap_set_ne (w : World) (p j i : Nat) (u : Value) (h : i ≠ p) : (w.setCell ⟨p, j, none⟩ u).heap[i]? = w.heap[i]? := by
  by_cases hi : i < w.heap.size
  · exact (grown_set w p j u).block i hi (fun e => h (Option.some.inj e))
  · have hs : (w.setCell ⟨p, j, none⟩ u).heap.size = w.heap.size := by simp [World.setCell]
    rw [Array.getElem?_eq_none (by omega), Array.getElem?_eq_none (by omega)]
/-- A cell of the struct is stored. -/
theorem GrOk.setFree {B : Nat} {w : World} {g : GM} {s : GS} (h : GrOk B w g s) {x : Nat} (hx : x ≤ s.n) : GrOk B (w.setCell ⟨g.p, 3, none⟩ (.int .i64 (x : Int))) g { s with free := x } := by
  have hr := setRow w g.p 3 (.int .i64 (x : Int)) h.row
  simp only [List.setIfInBounds_toArray, List.set_cons_zero, List.set_cons_succ] at hr
  exact { h with
    row := hr
    own := own_at h.own fun i hi => heap_set_ne _ _ _ _ _ (fun e => h.ne_v (by rw [← e]; exact hi))
    map := h.map.imp id fun ⟨bm, h1, h2, h3⟩ => ⟨bm, h1, h2, h3.at_block (heap_set_ne _ _ _ _ _ (h.ne_m h1).1)⟩
    freen := hx }
theorem GrOk.setMap {B : Nat} {w : World} {g : GM} {s : GS} (h : GrOk B w g s) (hn : g.mv = .map none) (hB : B ≤ w.heap.size) : GrOk B ((w.alloc (.map #[] 0)).setCell ⟨g.p, 2, none⟩ (.map (some w.heap.size))) ⟨g.p, g.v, .map (some w.heap.size)⟩ s := by
  have h1 := h.below ((Below.refl _ _).alloc (Nat.le_refl _) (.map #[] 0))
  have hr := setRow (w.alloc (.map #[] 0)) g.p 2 (.map (some w.heap.size)) h1.row
  simp only [List.setIfInBounds_toArray, List.set_cons_zero, List.set_cons_succ] at hr
  have hlt := (h.fp_lt (.inl rfl)).2
  exact { h with
    row := hr
    own := own_at h1.own fun i hi => heap_set_ne _ _ _ _ _ (fun e => h.ne_v (by rw [← e]; exact hi))
    map := .inr ⟨w.heap.size, rfl, hB, by
      rcases h.map with ⟨_, _, h4⟩ | ⟨bm, h4, _⟩
      · have h5 : MpI (w.alloc (.map #[] 0)) w.heap.size s.c s.nx := by
          obtain ⟨D, a, b, c⟩ := MpI.made w
          exact ⟨D, a.mono (Nat.zero_le _), b, fun k hk => by rw [h4 k]; exact c k hk⟩
        exact h5.at_block (heap_set_ne _ _ _ _ _ (by omega))
      · rw [hn] at h4; cases h4⟩ }
theorem GrOk.setNx {B : Nat} {w w' : World} {g : GM} {s : GS} (h : GrOk B w g s) {bm : Nat} (hm : g.mv = .map (some bm)) (hg : w.grownBy w' (some bm)) {id y : Int} (hM : MpI w' bm (s.c + 1) (updI s.nx id y)) (y0 : 0 ≤ y) (y1 : y ≤ (s.n : Int)) (hc : s.c + 1 ≤ 1000) :
    GrOk B w' g { s with nx := updI s.nx id y, c := s.c + 1 } := by
  obtain ⟨n1, n2⟩ := h.ne_m hm
  have hb : B ≤ bm := (h.fp_lt (.inr (.inr hm))).1
  exact { h with
    row := (hg.block _ (h.fp_lt (.inl rfl)).2 (fun e => n1 (Option.some.inj e).symm)).trans h.row
    own := own_at h.own fun i hi => hg.block i (h.fp_lt (.inr (.inl hi))).2 (fun e => n2 (by rw [hi, e]))
    map := .inr ⟨bm, hm, hb, hM⟩
    c1000 := hc
    f0 := fun i hi => by have := h.f0 i hi; simp only at this ⊢; omega
    nx0 := fun k x hx => by
      simp only [updI] at hx
      split at hx
      · cases hx; exact ⟨y0, y1⟩
      · exact h.nx0 k x hx }
theorem GrOk.push {B bm : Nat} {w w1 : World} {g : GM} {s : GS} (h : GrOk B w g s) (hm : g.mv = .map (some bm)) {v' : Value} (hg : w.grownBy w1 g.v.ownBlock) (hv : Own .i64 3 B w1 v' (s.n + 1) (catF s.n s.f (oneF 0))) (hob : v'.ownBlock ≠ some g.p) (hn : s.n + 1 ≤ 100) :
    GrOk B (w1.setCell ⟨g.p, 1, none⟩ v') ⟨g.p, v', g.mv⟩ { s with n := s.n + 1, f := catF s.n s.f (oneF 0) } := by
  have hrow : w1.heap[g.p]? = some (rowG s g) := (hg.block _ (h.fp_lt (.inl rfl)).2 (fun e => h.ne_v e.symm)).trans h.row
  have hr := setRow w1 g.p 1 v' hrow
  simp only [List.setIfInBounds_toArray, List.set_cons_zero, List.set_cons_succ] at hr
  exact { h with
    row := hr
    own := own_at hv fun i hi => heap_set_ne _ _ _ _ _ (fun e => hob (by rw [← e]; exact hi))
    map := by
      rcases h.map with ⟨h1, _, _⟩ | ⟨bm', h1, h2, h3⟩
      · rw [h1] at hm; cases hm
      · exact .inr ⟨bm', h1, h2, h3.at_block ((heap_set_ne _ _ _ _ _ (h.ne_m h1).1).trans (hg.block bm' h3.lt (fun e => (h.ne_m h1).2 e.symm)))⟩
    n100 := hn
    freen := by have := h.freen; simp only at this ⊢; omega
    f0 := fun i hi => by
      simp only at hi ⊢
      unfold catF oneF
      split
      · exact h.f0 i (by assumption)
      · omega
    nx0 := fun k x hx => by have := h.nx0 k x hx; simp only at this ⊢; omega }
theorem own_ne_mem {B p : Nat} {w : World} {v : Value} {n : Nat} {f : Nat → Int} {cs : Array Value} (h : Own .i64 3 B w v n f) (hr : w.heap[p]? = some (.cells cs 35 (0, 0))) : v.ownBlock ≠ some p := by
  rcases h.2 with ⟨e, _⟩ | ⟨b, cap, cur, e, _, hh, _⟩
  · rw [e]; simp [Value.ownBlock]
  · rw [e]
    intro he
    have e2 : b = p := by simpa [Value.ownBlock] using he
    rw [e2, hr] at hh
    injection hh with hh
    injection hh with _ ht
    exact mem_int ht.symm
def fillG (s : GS) (i : Nat) : GS := if s.most ≤ s.f i then { s with free := i + 1 } else s
theorem fillG_le (s : GS) (i : Nat) : (fillG s i).n = s.n ∧ (fillG s i).f = s.f ∧ (fillG s i).nx = s.nx ∧ (fillG s i).most = s.most ∧ (fillG s i).c = s.c := by unfold fillG; split <;> exact ⟨rfl, rfl, rfl, rfl, rfl⟩
set_option maxHeartbeats 1600000 in
theorem fill35 {B : Nat} {w : World} {g : GM} {s : GS} (h : GrOk B w g s) {i : Nat} (hi : i < s.n) : Calls Try.prog 77 #[.pointer (some ⟨g.p, 0, none⟩), .int .i64 (i : Int)] w fun e w' => e = .returned (.tuple #[]) ∧ GrOk B w' g (fillG s i) ∧ Fr B g.fp w w' := by
  obtain ⟨c0, c1, c2, c3⟩ := row4G h.row
  obtain ⟨A, c, hv, hr, ha⟩ := h.own.rd
  obtain ⟨b, off, rfl, hc⟩ := hr.at_ hi
  rw [hv] at c1
  have hin : (i : Int) < (s.n : Int) := by omega
  have hn := h.n100
  have H := hide h
  have hfz := hide (frozenRow (show w.heap[g.p]? = some (.cells #[.int .i64 s.most, g.v, g.mv, .int .i64 s.free] 35 (0, 0)) from h.row) 3)
  have g3 : ∀ m, (w.drewN m).frozen? ⟨g.p, 3, none⟩ = false := fun m => hfz.out
  have e3 : ∀ m, (w.drewN m).cell? ⟨g.p, 3, none⟩ = some (.int .i64 s.free) := fun m => c3
  by_cases hle : s.most ≤ s.f i
  · have dd : decide (s.most ≤ s.f i) = true := decide_eq_true hle
    have HF : Hid (fillG s i = { s with free := i + 1 }) := by show _ = _; unfold fillG; rw [if_pos hle]
    have HD : Hid (∀ m, GrOk B ((w.drewN m).setCell ⟨g.p, 3, none⟩ (.int .i64 ((i : Int) + 1))) g { s with free := i + 1 }) := fun m => by
      have h1 := (h.at_ (w' := w.drewN m) (fun _ _ => rfl)).setFree (x := i + 1) (by omega)
      rw [show ((i + 1 : Nat) : Int) = (i : Int) + 1 by omega] at h1
      exact h1
    have hp := h.hp
    clear h hle hr ha hv
    generalize s.most = x0 at *
    generalize s.f i = xi at *
    generalize s.free = x3 at *
    obtain ⟨n, hnn⟩ : ∃ n, n = s.n := ⟨_, rfl⟩
    rw [← hnn] at c1 hin hn
    clear hnn
    go_enter Try.func77, Try.ntmps77
    go_wp2_with fail
    go_quiet (fail)
    go_wp2_with fail
    go_end0
    exact ⟨rfl, by rw [HF.out]; exact HD.out _, (Fr.drawn _ _ _).step (Fr.set _ _ _ hp) (fun j hj => .inl (.inl hj))⟩
  · have dd : decide (s.most ≤ s.f i) = false := decide_eq_false hle
    have HF : Hid (fillG s i = s) := by show _ = _; unfold fillG; rw [if_neg hle]
    clear h hle hr ha hv
    generalize s.most = x0 at *
    generalize s.f i = xi at *
    go_enter Try.func77, Try.ntmps77
    go_wp2_with fail
    go_quiet (fail)
    go_wp2_with fail
    go_end0
    exact ⟨rfl, by rw [HF.out]; exact H.out.at_ (fun _ _ => rfl), Fr.drawn _ _ _⟩
end Go.Proofs.Ytnjmkbaddeeniaa
