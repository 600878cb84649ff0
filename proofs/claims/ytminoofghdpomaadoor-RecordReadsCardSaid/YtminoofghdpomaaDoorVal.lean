/- Words for slices whose elements have any number of one-cell parts ('RdV', 'OwnV': the cells as one function), and for pairs of integers ('Own2'). Plain theorems; no program is named. -/
import Derived.Test.YtminoofghdpomaaDoorMA
import Derived.Maps.AppendAt
import Derived.Deep.Fields
namespace Go.Proofs.YtminoofghdpomaaDoor
set_option linter.unusedVariables false
set_option linter.unusedSimpArgs false
open Go.RowKit Go.ChangeShapes Go.WideShapes Go.Deep

/-- The slice '.slice A n c', its elements of s cells each, reads as the cells F 0 .. F (n*s-1). -/
def RdV (s : Nat) (w : World) (A : Option Addr) (n c : Nat) (F : Nat → Value) : Prop :=
  n ≤ c ∧ c ≤ maxLen ∧ (A = none → c = 0) ∧ (0 < n → ∃ b off, A = some ⟨b, off, none⟩ ∧ ∀ i, i < n * s → w.cell? ⟨b, off + i, none⟩ = some (F i))
def rowV (n : Nat) (F : Nat → Value) : List Value := (List.range n).map F
def catV (n : Nat) (F G : Nat → Value) : Nat → Value := fun i => if i < n then F i else G (i - n)
def setV (F : Nat → Value) (j : Nat) (x : Value) : Nat → Value := fun i => if i = j then x else F i
theorem rowV_len (n : Nat) (F : Nat → Value) : (rowV n F).length = n := by simp [rowV]
theorem rowV_get (n : Nat) (F : Nat → Value) (j : Nat) (h : j < n) : (rowV n F)[j]? = some (F j) := by simp [rowV, h]
theorem rowV_get_some {n : Nat} {F : Nat → Value} {j : Nat} {u : Value} (h : (rowV n F)[j]? = some u) : j < n ∧ u = F j := by
  by_cases hj : j < n
  · rw [rowV_get n F j hj] at h
    exact ⟨hj, (Option.some.inj h).symm⟩
  · have : (rowV n F).length ≤ j := by rw [rowV_len]; omega
    rw [List.getElem?_eq_none this] at h
    cases h
theorem rowV_one {n : Nat} {F : Nat → Value} (hF : ∀ i, i < n → (F i).oneCell' = true) : ∀ u ∈ rowV n F, u.oneCell' = true := by
  intro u hu
  simp only [rowV, List.mem_map, List.mem_range] at hu
  obtain ⟨i, hi, rfl⟩ := hu
  exact hF i hi
theorem rowV_congr {n : Nat} {F G : Nat → Value} (h : ∀ i, i < n → F i = G i) : rowV n F = rowV n G := by
  refine List.ext_getElem? fun j => ?_
  by_cases hj : j < n
  · rw [rowV_get n F j hj, rowV_get n G j hj, h j hj]
  · rw [List.getElem?_eq_none (by rw [rowV_len]; omega), List.getElem?_eq_none (by rw [rowV_len]; omega)]
theorem rowV_cat (n m : Nat) (F G : Nat → Value) : rowV n F ++ rowV m G = rowV (n + m) (catV n F G) := by
  refine List.ext_getElem? fun j => ?_
  by_cases hj : j < n
  · rw [List.getElem?_append_left (by rw [rowV_len]; exact hj), rowV_get n F j hj, rowV_get _ _ j (by omega)]
    simp [catV, hj]
  · rw [List.getElem?_append_right (by rw [rowV_len]; omega), rowV_len]
    by_cases hm : j - n < m
    · rw [rowV_get m G _ hm, rowV_get _ _ j (by omega)]
      simp [catV, hj]
    · rw [List.getElem?_eq_none (by rw [rowV_len]; omega), List.getElem?_eq_none (by rw [rowV_len]; omega)]
theorem rowV_set (n : Nat) (F : Nat → Value) (j : Nat) (x : Value) : (rowV n F).set j x = rowV n (setV F j x) := by
  refine List.ext_getElem? fun i => ?_
  rw [List.getElem?_set]
  by_cases hi : i < n
  · rw [rowV_get n (setV F j x) i hi]
    by_cases hj : j = i
    · subst hj
      simp [setV, rowV_len, hi]
    · rw [if_neg hj, rowV_get n F i hi]
      have : i ≠ j := fun e => hj e.symm
      simp [setV, this]
  · rw [List.getElem?_eq_none (l := rowV n (setV F j x)) (by rw [rowV_len]; omega)]
    by_cases hj : j = i
    · subst hj
      simp [rowV_len, hi]
    · rw [if_neg hj, List.getElem?_eq_none (by rw [rowV_len]; omega)]

/-- A row of elements of s cells that the call itself made. -/
def OwnV (s : Nat) (e : TypeId) (B : Nat) (w : World) (v : Value) (n : Nat) (F : Nat → Value) : Prop := w.ownsRow B e s v n (rowV (n * s) F)
section
variable {s : Nat} {e : TypeId} {B : Nat} {w w' : World} {v : Value} {n : Nat} {F G : Nat → Value}
theorem OwnV.nil (s : Nat) (e : TypeId) (B : Nat) (w : World) (F : Nat → Value) : OwnV s e B w (.slice none 0 0) 0 F := by
  unfold OwnV
  rw [Nat.zero_mul]
  exact World.ownsRow_nil w B e s
theorem OwnV.congr (h : OwnV s e B w v n F) (hfg : ∀ i, i < n * s → F i = G i) : OwnV s e B w v n G := by
  unfold OwnV at *
  rw [← rowV_congr hfg]
  exact h
theorem OwnV.alloc (h : OwnV s e B w v n F) (o : Obj) : OwnV s e B (w.alloc o) v n F := World.ownsRow.alloc h o
theorem OwnV.drew (h : OwnV s e B w v n F) : OwnV s e B w.drew v n F := h
theorem OwnV.drewN (h : OwnV s e B w v n F) (k : Nat) : OwnV s e B (w.drewN k) v n F := h
theorem OwnV.below (h : OwnV s e B w v n F) (hb : Below w.heap.size w w') : OwnV s e B w' v n F :=
  World.ownsRow.kept (row := none) h ⟨hb.os, hb.tape, hb.output, hb.size, fun j hj _ => hb.block j hj⟩ (by cases v.ownBlock <;> simp)
theorem OwnV.grown (h : OwnV s e B w v n F) {g : Nat} (hg : w.grownBy w' (some g)) (hne : v.ownBlock ≠ some g) : OwnV s e B w' v n F :=
  World.ownsRow.kept (row := some g) h hg (.inr hne)
theorem OwnV.rd (h : OwnV s e B w v n F) : ∃ A c, v = .slice A n c ∧ RdV s w A n c F ∧ (∀ a, A = some a → B ≤ a.block ∧ a.block < w.heap.size ∧ a.off = 0 ∧ a.spot = none) := by
  unfold OwnV at h
  rcases h.2 with ⟨rfl, rfl⟩ | ⟨b, cap, cur, rfl, hB, hh, hnc, hcm, hsz, htake⟩
  · exact ⟨none, 0, rfl, ⟨Nat.le_refl _, by simp [maxLen], fun _ => rfl, fun h => absurd h (by omega)⟩, fun a ha => by cases ha⟩
  · have hlt := (h.lt b rfl).2
    refine ⟨_, _, rfl, ⟨hnc, hcm, fun e => (by cases e), fun hn => ⟨b, 0, rfl, fun i hi => ?_⟩⟩, fun a ha => ?_⟩
    · have hc := World.ownsRow.cellAt h i hi
      rw [rowV_get _ _ _ hi] at hc
      simpa using hc
    · obtain rfl := Option.some.inj ha
      exact ⟨hB, hlt, rfl, rfl⟩
theorem OwnV.rdS2 {A : Option Addr} {c : Nat} (h : OwnV s e B w (.slice A n c) n F) : RdV s w A n c F := by
  obtain ⟨A', c', e', h4, _⟩ := h.rd
  injection e' with e1 _ e2
  subst e1
  subst e2
  exact h4
theorem OwnV.frozen {b c : Nat} (h : OwnV s e B w (.slice (some ⟨b, 0, none⟩) n c) n F) (j : Nat) : w.frozen? ⟨b, j, none⟩ = false := World.ownsRow.frozenAt h j
theorem OwnV.cell {b c : Nat} (h : OwnV s e B w (.slice (some ⟨b, 0, none⟩) n c) n F) {j : Nat} (hj : j < n * s) : w.cell? ⟨b, j, none⟩ = some (F j) := by
  have hc := World.ownsRow.cellAt h j hj
  rw [rowV_get _ _ _ hj] at hc
  exact hc
theorem OwnV.set {b c : Nat} (h : OwnV s e B w (.slice (some ⟨b, 0, none⟩) n c) n F) (j : Nat) (x : Value) :
    OwnV s e B (w.setCell ⟨b, j, none⟩ x) (.slice (some ⟨b, 0, none⟩) n c) n (setV F j x) := by
  unfold OwnV at *
  rw [← rowV_set]
  exact (World.ownsRow.stored h j _).1
end
theorem OwnV.lit (s : Nat) (e : TypeId) (B : Nat) (w : World) (F : Nat → Value) (cs : Array Value) (n : Nat) (hB : B ≤ w.heap.size) (hn : n ≤ maxLen) (h : cs.toList = rowV (n * s) F) :
    OwnV s e B (w.alloc (.cells cs e)) (.slice (some ⟨w.heap.size, 0, none⟩) n n) n F := by
  have := World.ownsRow_lit (w := w) (base := B) (e := e) (size := s) cs n hB hn (by rw [← Array.length_toList, h, rowV_len])
  rw [h] at this
  exact this

section
variable {P : Program} {e : TypeId} {w : World} {ops : Array Oper} {rest : List Oper} {o : Oper} {a : Act} {Q : Exit → Act → World → Prop}
/-- append(v, x...): v a row of the call's own, x whatever can be read. -/
theorem run_appV (s : Nat) (t ty : TypeId) (i : TypeInfo) (z : Value) (bytes : Nat) (ht : P.underlying t = some (.slice e)) (hi : P.info? e = some i) (hz : i.zero = some z) (hsize : i.size = s) (hby : i.bytes = bytes) (hzs : z.cells.size = s) (hs : 0 < s)
    (B : Nat) (v : Value) (n : Nat) (F : Nat → Value) (hown : OwnV s e B w v n F) (A : Option Addr) (m c : Nat) (G : Nat → Value) (hr : RdV s w A m c G) (hG : ∀ i, i < m * s → (G i).oneCell' = true)
    (h63 : n + m ≤ maxLen) (hbytes : (n + m) * bytes ≤ 140737488355328) (hbase : B ≤ w.heap.size) :
    ∃ v' w', (Builtin.append_ #[t, t] ty #[v, .slice A m c]).run P w = .ok v' w' ∧ OwnV s e B w' v' (n + m) (catV (n * s) F G) ∧ w.grownBy w' v.ownBlock ∧ (v'.ownBlock = v.ownBlock ∨ v'.ownBlock = some w.heap.size) := by
  rcases A with _ | ad
  · obtain ⟨h1, h2, h3, _⟩ := hr
    obtain rfl : c = 0 := h3 rfl
    obtain rfl : m = 0 := by omega
    refine ⟨v, w, run_append_owned_none w B t ty e i s ht hi v n _ hown, ?_, World.grownBy.refl _ _, .inl rfl⟩
    refine OwnV.congr (F := F) (by simpa using hown) fun j hj => ?_
    have : j < n * s := by simpa using hj
    simp [catV, this]
  · have hcells : ∀ j u, (rowV (m * s) G)[j]? = some u → w.cell? (ad.add j) = some u := by
      intro j u hu
      obtain ⟨hj, rfl⟩ := rowV_get_some hu
      have hm : 0 < m := by
        rcases Nat.eq_zero_or_pos m with h0 | h0
        · subst h0; simp at hj
        · exact h0
      obtain ⟨b, off, hA, hc⟩ := hr.2.2.2 hm
      obtain rfl := Option.some.inj hA
      rw [Addr.add_lit]
      exact hc j hj
    obtain ⟨v', w', hrun, h2, h3, _, h5⟩ := run_append_own_at (P := P) w B t ty e i z s bytes ht hi hz hsize hby hzs hs v n _ hown ad m c (rowV (m * s) G) (rowV_len _ _) hcells (rowV_one hG) h63 hbytes hbase
    refine ⟨v', w', hrun, ?_, h3, h5⟩
    unfold OwnV
    rw [Nat.add_mul, ← rowV_cat]
    exact h2
theorem wp_appV (hgd : o.guard = none) (s x : Operand) (t : TypeId) (ho : o.op = .call { callee := .builtin .append, args := #[s, x], argTypes := #[t, t] })
    (sz : Nat) (i : TypeInfo) (z : Value) (bytes : Nat) (ht : P.underlying t = some (.slice e)) (hi : P.info? e = some i) (hz : i.zero = some z) (hsize : i.size = sz) (hby : i.bytes = bytes) (hzs : z.cells.size = sz) (hs0 : 0 < sz)
    (B : Nat) (v : Value) (n : Nat) (F : Nat → Value) (hs : a.eval s = v) (hown : OwnV sz e B w v n F) (A : Option Addr) (m c : Nat) (G : Nat → Value) (hx : a.eval x = .slice A m c) (hr : RdV sz w A m c G) (hG : ∀ i, i < m * sz → (G i).oneCell' = true)
    (h63 : n + m ≤ maxLen) (hbytes : (n + m) * bytes ≤ 140737488355328) (hbase : B ≤ w.heap.size)
    (h : ∀ v' w', OwnV sz e B w' v' (n + m) (catV (n * sz) F G) → w.grownBy w' v.ownBlock → (v'.ownBlock = v.ownBlock ∨ v'.ownBlock = some w.heap.size) → wpList P ops Q rest (a.put o.dst v') w') : wpList P ops Q (o :: rest) a w := by
  refine wpList_plain hgd fun K hK => ?_
  obtain ⟨v', w', hrun, h2, h3, h4⟩ := run_appV (P := P) sz t o.type i z bytes ht hi hz hsize hby hzs hs0 B v n F hown A m c G hr hG h63 hbytes hbase
  unfold Oper.wp execOp
  simp only [ho, resolve, invoke, builtin, Sem.run_bind, Sem.run_pure, Result.andThen_ok, List.map_toArray, List.map_cons, List.map_nil, hs, hx, hrun]
  exact hK _ _ (h v' w' h2 h3 h4)
end

/-! ### pairs of integers -/
def pr (f g : Nat → Int) : Nat → Value := fun i => if i % 2 = 0 then .int .i64 (f (i / 2)) else .int .i64 (g (i / 2))
theorem pr_0 (f g : Nat → Int) (i : Nat) : pr f g (i * 2) = .int .i64 (f i) := by simp [pr]
theorem pr_1 (f g : Nat → Int) (i : Nat) : pr f g (i * 2 + 1) = .int .i64 (g i) := by
  have h1 : (i * 2 + 1) % 2 = 1 := by omega
  have h2 : (i * 2 + 1) / 2 = i := by omega
  simp [pr, h1, h2]
theorem pr_one (f g : Nat → Int) (n : Nat) : ∀ i, i < n → (pr f g i).oneCell' = true := by
  intro i _
  unfold pr
  split <;> rfl
theorem pr_congr {f g f' g' : Nat → Int} {n : Nat} (hf : ∀ i, i < n → f i = f' i) (hg : ∀ i, i < n → g i = g' i) : ∀ i, i < n * 2 → pr f g i = pr f' g' i := by
  intro i hi
  unfold pr
  rw [hf (i / 2) (by omega), hg (i / 2) (by omega)]
theorem pr_cat (n : Nat) (f g f' g' : Nat → Int) : catV (n * 2) (pr f g) (pr f' g') = pr (catF n f f') (catF n g g') := by
  funext i
  unfold catV pr catF
  have e1 : (i - n * 2) % 2 = i % 2 ∨ ¬ (n * 2 ≤ i) := by omega
  have e2 : (i - n * 2) / 2 = i / 2 - n := by omega
  by_cases h : i < n * 2
  · have h2 : i / 2 < n := by omega
    simp [h, h2]
  · have h2 : ¬ i / 2 < n := by omega
    have e1' : (i - n * 2) % 2 = i % 2 := by omega
    simp [h, h2, e1', e2]
theorem pr_set0 (f g : Nat → Int) (j : Nat) (x : Int) : setV (pr f g) (j * 2) (.int .i64 x) = pr (setF f j x) g := by
  funext i
  unfold setV pr setF
  by_cases h : i = j * 2
  · subst h
    simp
  · by_cases h2 : i % 2 = 0
    · have : i / 2 ≠ j := by omega
      simp [h, h2, this]
    · simp [h, h2]
theorem pr_set1 (f g : Nat → Int) (j : Nat) (x : Int) : setV (pr f g) (j * 2 + 1) (.int .i64 x) = pr f (setF g j x) := by
  funext i
  unfold setV pr setF
  by_cases h : i = j * 2 + 1
  · subst h
    have h1 : (j * 2 + 1) % 2 = 1 := by omega
    have h2 : (j * 2 + 1) / 2 = j := by omega
    simp [h1, h2]
  · by_cases h2 : i % 2 = 0
    · simp [h, h2]
    · have : i / 2 ≠ j := by omega
      simp [h, h2, this]
theorem rd2_of_rdV {w : World} {A : Option Addr} {n c : Nat} {f g : Nat → Int} (h : RdV 2 w A n c (pr f g)) : Rd2 w A n c f g :=
  ⟨h.1, h.2.1, h.2.2.1, fun hn => by
    obtain ⟨b, off, hA, hc⟩ := h.2.2.2 hn
    refine ⟨b, off, hA, fun i hi => ⟨?_, ?_⟩⟩
    · rw [← pr_0 f g i]; exact hc (i * 2) (by omega)
    · rw [← pr_1 f g i, Nat.add_assoc]; exact hc (i * 2 + 1) (by omega)⟩
theorem rdV_of_rd2 {w : World} {A : Option Addr} {n c : Nat} {f g : Nat → Int} (h : Rd2 w A n c f g) : RdV 2 w A n c (pr f g) :=
  ⟨h.1, h.2.1, h.2.2.1, fun hn => by
    obtain ⟨b, off, hA, hc⟩ := h.2.2.2 hn
    refine ⟨b, off, hA, fun i hi => ?_⟩
    rcases Nat.mod_two_eq_zero_or_one i with h0 | h1
    · have e : i = i / 2 * 2 := by omega
      have h3 := (hc (i / 2) (by omega)).1
      rw [← pr_0 f g (i / 2), ← e] at h3
      exact h3
    · have e : i = i / 2 * 2 + 1 := by omega
      have h3 := (hc (i / 2) (by omega)).2
      rw [← pr_1 f g (i / 2), Nat.add_assoc, ← e] at h3
      exact h3⟩
/-- A row of pairs of integers of the call's own. -/
def Own2 (e : TypeId) (B : Nat) (w : World) (v : Value) (n : Nat) (f g : Nat → Int) : Prop := OwnV 2 e B w v n (pr f g)
theorem Own2.rd {e : TypeId} {B : Nat} {w : World} {v : Value} {n : Nat} {f g : Nat → Int} (h : Own2 e B w v n f g) : ∃ A c, v = .slice A n c ∧ Rd2 w A n c f g ∧ (∀ a, A = some a → B ≤ a.block ∧ a.block < w.heap.size ∧ a.off = 0 ∧ a.spot = none) := by
  obtain ⟨A, c, h1, h2, h3⟩ := OwnV.rd h
  exact ⟨A, c, h1, rd2_of_rdV h2, h3⟩
theorem Rd2.drew {w : World} {A : Option Addr} {n c : Nat} {f g : Nat → Int} (h : Rd2 w A n c f g) : Rd2 w.drew A n c f g := h
theorem Rd2.drewN {w : World} {A : Option Addr} {n c : Nat} {f g : Nat → Int} (h : Rd2 w A n c f g) (m : Nat) : Rd2 (w.drewN m) A n c f g := h
theorem Rd2.congr {w : World} {A : Option Addr} {n c : Nat} {f g f' g' : Nat → Int} (h : Rd2 w A n c f g) (hf : ∀ i, i < n → f i = f' i) (hg : ∀ i, i < n → g i = g' i) : Rd2 w A n c f' g' :=
  ⟨h.1, h.2.1, h.2.2.1, fun hn => by
    obtain ⟨b, off, hA, hc⟩ := h.2.2.2 hn
    exact ⟨b, off, hA, fun i hi => by rw [← hf i hi, ← hg i hi]; exact hc i hi⟩⟩
theorem Rd2.nil (w : World) (f g : Nat → Int) : Rd2 w none 0 0 f g := ⟨Nat.le_refl _, by simp [maxLen], fun _ => rfl, fun h => absurd h (by omega)⟩

/-! ### a struct by value, of any number of one-cell fields -/
theorem list2 {α : Type} {l : List α} (h : l.length = 2) : ∃ c0 c1, l = [c0, c1] := by
  match l, h with
  | [c0, c1], _ => exact ⟨c0, c1, rfl⟩
theorem list3 {α : Type} {l : List α} (h : l.length = 3) : ∃ c0 c1 c2, l = [c0, c1, c2] := by
  match l, h with
  | [c0, c1, c2], _ => exact ⟨c0, c1, c2, rfl⟩
theorem list5 {α : Type} {l : List α} (h : l.length = 5) : ∃ c0 c1 c2 c3 c4, l = [c0, c1, c2, c3, c4] := by
  match l, h with
  | [c0, c1, c2, c3, c4], _ => exact ⟨c0, c1, c2, c3, c4, rfl⟩
theorem list6 {α : Type} {l : List α} (h : l.length = 6) : ∃ c0 c1 c2 c3 c4 c5, l = [c0, c1, c2, c3, c4, c5] := by
  match l, h with
  | [c0, c1, c2, c3, c4, c5], _ => exact ⟨c0, c1, c2, c3, c4, c5, rfl⟩
theorem list13 {α : Type} {l : List α} (h : l.length = 13) : ∃ c0 c1 c2 c3 c4 c5 c6 c7 c8 c9 c10 c11 c12, l = [c0, c1, c2, c3, c4, c5, c6, c7, c8, c9, c10, c11, c12] := by
  match l, h with
  | [c0, c1, c2, c3, c4, c5, c6, c7, c8, c9, c10, c11, c12], _ => exact ⟨c0, c1, c2, c3, c4, c5, c6, c7, c8, c9, c10, c11, c12, rfl⟩
section
variable {H : Type} {enc : TypeId × Value → H} {P : Program} {w : World} {base : Nat} {spare : Nat → Bool} {held : Bool}
theorem open_aggs {r : Reach} {b0 : Nat} {t : TypeId} {fs : Array Field} {v : Value} {d : DataW H} {p : List MemPlace} (hs : P.underlying t = some (.struct fs)) (hone : oneCellFields P fs = true) (hC : P.cellsOf t = fs.size)
    (hv : Value.okWide P w r b0 t v) (h : DataW.Trod enc P w base spare held t v d p) :
    ∃ (l : List Value) (n : Nat), v = .agg ⟨l⟩ ∧ l.length = fs.size ∧ ∀ (j : Nat) (f : Field) (u : Value), fs[j]? = some f → l[j]? = some u → ∃ y : DataW H × List MemPlace, DataW.trod enc P w base spare held n f.type [u] = some y := by
  obtain ⟨cs, rfl, hsz⟩ := okWide_struct hs hv
  obtain ⟨l⟩ := cs
  obtain ⟨fuel, hf⟩ := h
  obtain ⟨xs, n, _, hx, _, hlen, hg⟩ := DataW.trod_struct hs hf
  have hl : l.length = fs.size := by simpa [hC] using hsz
  refine ⟨l, n, rfl, hl, fun j f u hj hu => ?_⟩
  obtain ⟨ho, hk⟩ := hone_of hone j f hj
  have h1 := hg j f hj
  rw [ho, hk] at h1
  have hjl : j < l.length := (List.getElem?_eq_some_iff.1 hu).1
  have hone' : ((Value.agg ⟨l⟩).cells.toList.drop j).take 1 = [u] := by
    have e : (Value.agg ⟨l⟩).cells.toList = l := by simp [Value.cells]
    rw [e, List.drop_eq_getElem_cons hjl]
    have := (List.getElem?_eq_some_iff.1 hu).2
    simp [this]
  rw [hone'] at h1
  have hys : xs[j]? = some (xs[j]'(by rw [hlen]; omega)) := List.getElem?_eq_getElem _
  exact ⟨_, h1.trans hys⟩
/-- A slice among a struct's fields: its form. -/
theorem slice_of {t e : TypeId} {fuel : Nat} {v : Value} {x : DataW H × List MemPlace} (ht : P.underlying t = some (.slice e)) (h : DataW.trod enc P w base spare held fuel t [v] = some x) : ∃ a n c, v = .slice a n c := by
  rcases open_slice ht h with ⟨hcs, _⟩ | ⟨ad, l, c, m, n, D, Pl, hcs, _⟩
  · exact ⟨none, 0, 0, by simpa using hcs⟩
  · exact ⟨some ad, l, c, by simpa using hcs⟩
theorem bytes_of {t e : TypeId} {k : IntKind} {fuel : Nat} {v : Value} {x : DataW H × List MemPlace} (ht : P.underlying t = some (.slice e)) (he : P.underlying e = some (.int k)) (hc : P.cellsOf e = 1)
    (h : DataW.trod enc P w base (fun _ => true) held fuel t [v] = some x) : ∃ a len cap, ∃ zs : List Int, v = .slice a len cap ∧ ((a = none ∧ len = 0 ∧ cap = 0 ∧ zs = []) ∨ ∃ x, a = some x ∧ len ≤ cap ∧ cap ≤ maxLen ∧ zs.length = cap ∧ (∀ i, i < zs.length → w.cell? (x.add i) = some (.int k (zs.getD i 0))) ∧ ∀ n ∈ zs, (Lit.int k n).wf = true) := by
  rcases open_ints ht he hc h with ⟨hcs, _⟩ | ⟨x, l, c, zs, hcs, _, hl, hm, hz, _, hcell, hwz⟩
  · exact ⟨none, 0, 0, [], by simpa using hcs, .inl ⟨rfl, rfl, rfl, rfl⟩⟩
  · exact ⟨some x, l, c, zs, by simpa using hcs, .inr ⟨x, rfl, hl, hm, by simpa using hz, hcell, hwz⟩⟩
end
end Go.Proofs.YtminoofghdpomaaDoor
