/- Words for slices of one-cell integers, told by a function of the index: 'Rd' (a slice value that can be read), 'Own' (a row that the call itself made). Plain theorems on worlds; no program is named. -/
import Derived.WalkKit
import Derived.Laws.CopyOwn
import Derived.Deep.QuietTactic
import Derived.BigQuiet
import Derived.Handy
import Derived.OpenShut
namespace Go.Proofs.YtfkjgjdbjmcioaaDoor
open Go.RowKit

theorem hide {p : Prop} (h : p) : Hid p := h

/-- The slice '.slice A n c' reads as the numbers f 0 .. f (n-1). -/
def Rd (k : IntKind) (w : World) (A : Option Addr) (n c : Nat) (f : Nat → Int) : Prop :=
  n ≤ c ∧ c ≤ maxLen ∧ (A = none → c = 0) ∧ (0 < n → ∃ b off, A = some ⟨b, off, none⟩ ∧ ∀ i, i < n → w.cell? ⟨b, off + i, none⟩ = some (.int k (f i)))

/-- Numbers of bytes. -/
def Byt (n : Nat) (f : Nat → Int) : Prop := ∀ i, i < n → 0 ≤ f i ∧ f i ≤ 255

def catF (n : Nat) (f g : Nat → Int) : Nat → Int := fun i => if i < n then f i else g (i - n)
def setF (f : Nat → Int) (j : Nat) (x : Int) : Nat → Int := fun i => if i = j then x else f i
def oneF (x : Int) : Nat → Int := fun _ => x

def row (k : IntKind) (n : Nat) (f : Nat → Int) : List Value := (List.range n).map fun i => Value.int k (f i)

theorem row_len (k : IntKind) (n : Nat) (f : Nat → Int) : (row k n f).length = n := by simp [row]
theorem row_get (k : IntKind) (n : Nat) (f : Nat → Int) (j : Nat) (h : j < n) : (row k n f)[j]? = some (.int k (f j)) := by simp [row, h]
theorem row_get_some {k : IntKind} {n : Nat} {f : Nat → Int} {j : Nat} {u : Value} (h : (row k n f)[j]? = some u) : j < n ∧ u = .int k (f j) := by
  by_cases hj : j < n
  · rw [row_get k n f j hj] at h
    exact ⟨hj, (Option.some.inj h).symm⟩
  · have : (row k n f).length ≤ j := by rw [row_len]; omega
    rw [List.getElem?_eq_none this] at h
    cases h
theorem row_one (k : IntKind) (n : Nat) (f : Nat → Int) : ∀ u ∈ row k n f, u.oneCell' = true := by
  intro u hu
  simp only [row, List.mem_map] at hu
  obtain ⟨i, _, rfl⟩ := hu
  rfl
theorem row_congr (k : IntKind) {n : Nat} {f g : Nat → Int} (h : ∀ i, i < n → f i = g i) : row k n f = row k n g := by
  refine List.ext_getElem? fun j => ?_
  by_cases hj : j < n
  · rw [row_get k n f j hj, row_get k n g j hj, h j hj]
  · rw [List.getElem?_eq_none (by rw [row_len]; omega), List.getElem?_eq_none (by rw [row_len]; omega)]
theorem row_cat (k : IntKind) (n m : Nat) (f g : Nat → Int) : row k n f ++ row k m g = row k (n + m) (catF n f g) := by
  refine List.ext_getElem? fun j => ?_
  by_cases hj : j < n
  · rw [List.getElem?_append_left (by rw [row_len]; exact hj), row_get k n f j hj, row_get k _ _ j (by omega)]
    simp [catF, hj]
  · rw [List.getElem?_append_right (by rw [row_len]; omega), row_len]
    by_cases hm : j - n < m
    · rw [row_get k m g _ hm, row_get k _ _ j (by omega)]
      simp [catF, hj]
    · rw [List.getElem?_eq_none (by rw [row_len]; omega), List.getElem?_eq_none (by rw [row_len]; omega)]
theorem row_set (k : IntKind) (n : Nat) (f : Nat → Int) (j : Nat) (x : Int) : (row k n f).set j (.int k x) = row k n (setF f j x) := by
  refine List.ext_getElem? fun i => ?_
  rw [List.getElem?_set]
  by_cases hi : i < n
  · rw [row_get k n (setF f j x) i hi]
    by_cases hj : j = i
    · subst hj
      simp [setF, row_len, hi]
    · rw [if_neg hj, row_get k n f i hi]
      have : i ≠ j := fun e => hj e.symm
      simp [setF, this]
  · rw [List.getElem?_eq_none (l := row k n (setF f j x)) (by rw [row_len]; omega)]
    by_cases hj : j = i
    · subst hj
      simp [row_len, hi]
    · rw [if_neg hj, List.getElem?_eq_none (by rw [row_len]; omega)]

/-- A slice of integers that came in. -/
theorem rd_of_row {k : IntKind} {w : World} {a : Option Addr} {len cap : Nat} {zs : List Int}
    (h : (a = none ∧ len = 0 ∧ cap = 0 ∧ zs = []) ∨ ∃ x, a = some x ∧ len ≤ cap ∧ cap ≤ maxLen ∧ zs.length = cap ∧ (∀ i, i < zs.length → w.cell? (x.add i) = some (.int k (zs.getD i 0))) ∧ ∀ n ∈ zs, (Lit.int k n).wf = true) :
    Rd k w a len cap (fun i => zs.getD i 0) := by
  rcases h with ⟨rfl, rfl, rfl, rfl⟩ | ⟨x, rfl, hl, hm, hz, hc, _⟩
  · exact ⟨Nat.le_refl _, by simp [maxLen], fun _ => rfl, fun h => absurd h (by omega)⟩
  · refine ⟨hl, hm, fun e => (by cases e), fun hn => ?_⟩
    obtain ⟨b, off, spot⟩ := x
    have h0 := hc 0 (by omega)
    obtain rfl : spot = none := by simpa [Addr.add] using World.cell?_spot h0
    exact ⟨b, off, rfl, fun i hi => by have := hc i (by omega); rwa [Addr.add_lit] at this⟩
theorem wf_of_row {k : IntKind} {w : World} {a : Option Addr} {len cap : Nat} {zs : List Int}
    (h : (a = none ∧ len = 0 ∧ cap = 0 ∧ zs = []) ∨ ∃ x, a = some x ∧ len ≤ cap ∧ cap ≤ maxLen ∧ zs.length = cap ∧ (∀ i, i < zs.length → w.cell? (x.add i) = some (.int k (zs.getD i 0))) ∧ ∀ n ∈ zs, (Lit.int k n).wf = true) :
    ∀ i, i < len → (Lit.int k (zs.getD i 0)).wf = true := by
  rcases h with ⟨rfl, rfl, rfl, rfl⟩ | ⟨x, rfl, hl, hm, hz, _, hw⟩
  · intro i hi; omega
  · intro i hi
    refine hw _ ?_
    rw [List.getD_eq_getElem?_getD, List.getElem?_eq_getElem (by omega)]
    exact List.getElem_mem _
theorem byt_of_row {w : World} {a : Option Addr} {len cap : Nat} {zs : List Int}
    (h : (a = none ∧ len = 0 ∧ cap = 0 ∧ zs = []) ∨ ∃ x, a = some x ∧ len ≤ cap ∧ cap ≤ maxLen ∧ zs.length = cap ∧ (∀ i, i < zs.length → w.cell? (x.add i) = some (.int .u8 (zs.getD i 0))) ∧ ∀ n ∈ zs, (Lit.int .u8 n).wf = true) :
    Byt len (fun i => zs.getD i 0) := fun i hi => by
  have := bounds_u8 (wf_of_row h i hi)
  show 0 ≤ zs.getD i 0 ∧ zs.getD i 0 ≤ 255
  omega

section
variable {k : IntKind} {w w' : World} {A : Option Addr} {n c : Nat} {f g : Nat → Int}

theorem Rd.nil (k : IntKind) (w : World) (f : Nat → Int) : Rd k w none 0 0 f := ⟨Nat.le_refl _, by simp [maxLen], fun _ => rfl, fun h => absurd h (by omega)⟩
theorem Rd.congr (h : Rd k w A n c f) (e : ∀ i, i < n → f i = g i) : Rd k w A n c g :=
  ⟨h.1, h.2.1, h.2.2.1, fun hn => by
    obtain ⟨b, off, hA, hc⟩ := h.2.2.2 hn
    exact ⟨b, off, hA, fun i hi => by rw [← e i hi]; exact hc i hi⟩⟩
theorem Rd.keep (h : Rd k w A n c f) (hk : ∀ p : Addr, p.block < w.heap.size → w'.cell? p = w.cell? p) : Rd k w' A n c f :=
  ⟨h.1, h.2.1, h.2.2.1, fun hn => by
    obtain ⟨b, off, hA, hc⟩ := h.2.2.2 hn
    exact ⟨b, off, hA, fun i hi => by
      have h1 := hc i hi
      rw [hk _ (World.block_lt_of_cell? w _ h1)]
      exact h1⟩⟩
theorem Rd.below (h : Rd k w A n c f) (hb : Below w.heap.size w w') : Rd k w' A n c f := h.keep fun _ hp => hb.cell hp
theorem Rd.alloc (h : Rd k w A n c f) (o : Obj) : Rd k (w.alloc o) A n c f := h.below ((Below.refl _ _).alloc (Nat.le_refl _) _)
theorem Rd.drew (h : Rd k w A n c f) : Rd k w.drew A n c f := h
theorem Rd.drewN (h : Rd k w A n c f) (m : Nat) : Rd k (w.drewN m) A n c f := h
/-- What is behind a write to one block is what it was, where that block is another. -/
theorem Rd.other (h : Rd k w A n c f) {B : Nat} (hg : w.grownBy w' (some B)) (hne : ∀ b off, A = some ⟨b, off, none⟩ → b ≠ B) : Rd k w' A n c f :=
  ⟨h.1, h.2.1, h.2.2.1, fun hn => by
    obtain ⟨b, off, hA, hc⟩ := h.2.2.2 hn
    exact ⟨b, off, hA, fun i hi => hg.cell (hc i hi) (by intro e; exact hne b off hA (Option.some.inj e))⟩⟩
/-- Of a slice that lay below block B nothing turns when all below B stays. -/
theorem Rd.belowB {w0 : World} {B : Nat} (h0 : Rd k w0 A n c f) (hB : w0.heap.size ≤ B) (hb : Below B w0 w') : Rd k w' A n c f :=
  h0.keep fun _ hp => hb.cell (Nat.lt_of_lt_of_le hp hB)
theorem Rd.block (h : Rd k w A n c f) (hn : 0 < n) : ∃ b off, A = some ⟨b, off, none⟩ ∧ b < w.heap.size ∧ ∀ i, i < n → w.cell? ⟨b, off + i, none⟩ = some (.int k (f i)) := by
  obtain ⟨b, off, hA, hc⟩ := h.2.2.2 hn
  exact ⟨b, off, hA, World.block_lt_of_cell? w _ (hc 0 hn), hc⟩
theorem Rd.at_ (h : Rd k w A n c f) {i : Nat} (hi : i < n) : ∃ b off, A = some ⟨b, off, none⟩ ∧ w.cell? ⟨b, off + i, none⟩ = some (.int k (f i)) := by
  obtain ⟨b, off, hA, hc⟩ := h.2.2.2 (by omega)
  exact ⟨b, off, hA, hc i hi⟩
/-- s[lo:hi]. -/
theorem Rd.cut (h : Rd k w A n c f) {lo hi : Nat} (h1 : lo ≤ hi) (h2 : hi ≤ n) :
    Rd k w (if c = lo then A else A.map (·.add (lo * 1))) (hi - lo) (c - lo) (fun i => f (lo + i)) := by
  obtain ⟨a1, a2, a3, a4⟩ := h
  refine ⟨by omega, by omega, fun e => ?_, fun hn => ?_⟩
  · split at e
    · have := a3 e; omega
    · have hA : A = none := by simpa using e
      have := a3 hA; omega
  · obtain ⟨b, off, hA, hc⟩ := a4 (by omega)
    refine ⟨b, off + lo, ?_, fun i hi' => ?_⟩
    · rw [if_neg (by omega), hA]
      simp [Addr.add_lit]
    · have := hc (lo + i) (by omega)
      rw [← Nat.add_assoc] at this
      exact this
/-- s[lo:hi], written by the walk at the address of a slice that is there. -/
theorem Rd.cutAt {b off : Nat} (h : Rd k w (some ⟨b, off, none⟩) n c f) {lo hi : Nat} (h1 : lo ≤ hi) (h2 : hi ≤ n) :
    Rd k w (some ⟨b, if c = lo then off else off + lo, none⟩) (hi - lo) (c - lo) (fun i => f (lo + i)) := by
  have := h.cut h1 h2
  by_cases e : c = lo
  · simpa [e] using this
  · simpa [e, Addr.add_lit] using this
theorem Rd.take (h : Rd k w A n c f) {m : Nat} (hm : m ≤ n) : Rd k w A m c f :=
  ⟨by have := h.1; omega, h.2.1, h.2.2.1, fun hn => by
    obtain ⟨b, off, hA, hc⟩ := h.2.2.2 (by omega)
    exact ⟨b, off, hA, fun i hi => hc i (by omega)⟩⟩
end

/-- A row that the call itself made: its value, its n numbers. -/
def Own (k : IntKind) (e : TypeId) (B : Nat) (w : World) (v : Value) (n : Nat) (f : Nat → Int) : Prop := w.ownsRow B e 1 v n (row k n f)

section
variable {k : IntKind} {e : TypeId} {B : Nat} {w w' : World} {v : Value} {n : Nat} {f g : Nat → Int}

theorem Own.nil (k : IntKind) (e : TypeId) (B : Nat) (w : World) (f : Nat → Int) : Own k e B w (.slice none 0 0) 0 f := World.ownsRow_nil w B e 1
theorem Own.congr (h : Own k e B w v n f) (hfg : ∀ i, i < n → f i = g i) : Own k e B w v n g := by
  unfold Own at *
  rw [← row_congr k hfg]
  exact h
theorem Own.alloc (h : Own k e B w v n f) (o : Obj) : Own k e B (w.alloc o) v n f := World.ownsRow.alloc h o
theorem Own.drew (h : Own k e B w v n f) : Own k e B w.drew v n f := h
theorem Own.below (h : Own k e B w v n f) (hb : Below w.heap.size w w') : Own k e B w' v n f :=
  World.ownsRow.kept (row := none) h ⟨hb.os, hb.tape, hb.output, hb.size, fun j hj _ => hb.block j hj⟩ (by cases v.ownBlock <;> simp)
/-- The value's form, and that it can be read. -/
theorem Own.rd (h : Own k e B w v n f) : ∃ A c, v = .slice A n c ∧ Rd k w A n c f ∧ (∀ a, A = some a → B ≤ a.block ∧ a.block < w.heap.size ∧ a.off = 0 ∧ a.spot = none) := by
  unfold Own at h
  rcases h.2 with ⟨rfl, rfl⟩ | ⟨b, cap, cur, rfl, hB, hh, hnc, hcm, hsz, htake⟩
  · exact ⟨none, 0, rfl, Rd.nil _ _ _, fun a ha => by cases ha⟩
  · have hlt := (h.lt b rfl).2
    refine ⟨_, _, rfl, ⟨hnc, hcm, fun e => (by cases e), fun hn => ⟨b, 0, rfl, fun i hi => ?_⟩⟩, fun a ha => ?_⟩
    · have hc := World.ownsRow.cellAt h i (by omega)
      rw [row_get _ _ _ _ hi] at hc
      simpa using hc
    · obtain rfl := Option.some.inj ha
      exact ⟨hB, hlt, rfl, rfl⟩
theorem Own.frozen {b c : Nat} (h : Own k e B w (.slice (some ⟨b, 0, none⟩) n c) n f) (j : Nat) : w.frozen? ⟨b, j, none⟩ = false := World.ownsRow.frozenAt h j
theorem Own.cell {b c : Nat} (h : Own k e B w (.slice (some ⟨b, 0, none⟩) n c) n f) {j : Nat} (hj : j < n) : w.cell? ⟨b, j, none⟩ = some (.int k (f j)) := by
  have hc := World.ownsRow.cellAt h j (by omega)
  rw [row_get _ _ _ _ hj] at hc
  exact hc
theorem Own.set {b c : Nat} (h : Own k e B w (.slice (some ⟨b, 0, none⟩) n c) n f) (j : Nat) (x : Int) :
    Own k e B (w.setCell ⟨b, j, none⟩ (.int k x)) (.slice (some ⟨b, 0, none⟩) n c) n (setF f j x) := by
  unfold Own at *
  rw [← row_set]
  exact (World.ownsRow.stored h j _).1
end

/-- A literal's block. -/
theorem Own.lit (k : IntKind) (e : TypeId) (B : Nat) (w : World) (f : Nat → Int) (cs : Array Value) (n : Nat) (hB : B ≤ w.heap.size) (hn : n ≤ maxLen) (h : cs.toList = row k n f) :
    Own k e B (w.alloc (.cells cs e)) (.slice (some ⟨w.heap.size, 0, none⟩) n n) n f := by
  have := World.ownsRow_lit (w := w) (base := B) (e := e) (size := 1) cs n hB hn (by rw [← Array.length_toList, h, row_len]; omega)
  rw [h] at this
  exact this

/-- A literal of one element. -/
theorem Rd.one (k : IntKind) (e : TypeId) (w : World) (x : Int) : Rd k (w.alloc (.cells #[.int k x] e)) (some ⟨w.heap.size, 0, none⟩) 1 1 (oneF x) := by
  obtain ⟨A, c, e1, h, _⟩ := (Own.lit k e 0 w (oneF x) #[.int k x] 1 (Nat.zero_le _) (by simp [maxLen]) rfl).rd
  injection e1 with e1 _ e2
  subst e1
  subst e2
  exact h

section
variable {P : Program} {k : IntKind} {e : TypeId} {w : World} {ops : Array Oper} {rest : List Oper} {o : Oper} {a : Act} {Q : Exit → Act → World → Prop}

/-- append(s, x...): s a row of the call's own, x whatever can be read (nil, empty, or not). -/
theorem run_app (t ty : TypeId) (i : TypeInfo) (z : Int) (bytes : Nat) (ht : P.underlying t = some (.slice e)) (hi : P.info? e = some i) (hz : i.zero = some (.int k z)) (hsize : i.size = 1) (hby : i.bytes = bytes)
    (B : Nat) (v : Value) (n : Nat) (f : Nat → Int) (hown : Own k e B w v n f) (A : Option Addr) (m c : Nat) (g : Nat → Int) (hr : Rd k w A m c g)
    (h63 : n + m ≤ maxLen) (hbytes : (n + m) * bytes ≤ 140737488355328) (hbase : B ≤ w.heap.size) :
    ∃ v' w', (Builtin.append_ #[t, t] ty #[v, .slice A m c]).run P w = .ok v' w' ∧ Own k e B w' v' (n + m) (catF n f g) ∧ w.grownBy w' v.ownBlock := by
  rcases A with _ | ad
  · obtain ⟨h1, h2, h3, _⟩ := hr
    obtain rfl : c = 0 := h3 rfl
    obtain rfl : m = 0 := by omega
    refine ⟨v, w, run_append_owned_none w B t ty e i 1 ht hi v n _ hown, ?_, World.grownBy.refl _ _⟩
    refine Own.congr (f := f) (by simpa using hown) fun j hj => ?_
    have : j < n := by omega
    simp [catF, this]
  · have hcells : ∀ j u, (row k m g)[j]? = some u → w.cell? (ad.add j) = some u := by
      intro j u hu
      obtain ⟨hj, rfl⟩ := row_get_some hu
      obtain ⟨b, off, hA, hc⟩ := hr.at_ hj
      obtain rfl := Option.some.inj hA
      rw [Addr.add_lit]
      exact hc
    obtain ⟨v', w', hrun, h2, h3, _⟩ := run_append_own (P := P) w B t ty e i (.int k z) 1 bytes ht hi hz hsize hby rfl (by omega) v n (row k n f) hown ad m c (row k m g) (by rw [row_len]; omega) hcells (row_one k m g) h63 hbytes hbase
    exact ⟨v', w', hrun, by unfold Own; rw [← row_cat]; exact h2, h3⟩

theorem wp_app (hgd : o.guard = none) (s x : Operand) (t : TypeId) (ho : o.op = .call { callee := .builtin .append, args := #[s, x], argTypes := #[t, t] })
    (i : TypeInfo) (z : Int) (bytes : Nat) (ht : P.underlying t = some (.slice e)) (hi : P.info? e = some i) (hz : i.zero = some (.int k z)) (hsize : i.size = 1) (hby : i.bytes = bytes)
    (B : Nat) (v : Value) (n : Nat) (f : Nat → Int) (hs : a.eval s = v) (hown : Own k e B w v n f) (A : Option Addr) (m c : Nat) (g : Nat → Int) (hx : a.eval x = .slice A m c) (hr : Rd k w A m c g)
    (h63 : n + m ≤ maxLen) (hbytes : (n + m) * bytes ≤ 140737488355328) (hbase : B ≤ w.heap.size)
    (h : ∀ v' w', Own k e B w' v' (n + m) (catF n f g) → w.grownBy w' v.ownBlock → wpList P ops Q rest (a.put o.dst v') w') : wpList P ops Q (o :: rest) a w := by
  refine wpList_plain hgd fun K hK => ?_
  obtain ⟨v', w', hrun, h2, h3⟩ := run_app (P := P) t o.type i z bytes ht hi hz hsize hby B v n f hown A m c g hr h63 hbytes hbase
  unfold Oper.wp execOp
  simp only [ho, resolve, invoke, builtin, Sem.run_bind, Sem.run_pure, Result.andThen_ok, List.map_toArray, List.map_cons, List.map_nil, hs, hx, hrun]
  exact hK _ _ (h v' w' h2 h3)

/-- make([]T, n). -/
theorem wp_mk (hgd : o.guard = none) (l c : Operand) (t : TypeId) (hop : o.op = Op.makeSlice t l c)
    (i : TypeInfo) (z : Int) (bytes : Nat) (ht : P.underlying t = some (.slice e)) (hi : P.info? e = some i) (hz : i.zero = some (.int k z)) (hsize : i.size = 1) (hby : i.bytes = bytes)
    (B : Nat) (kl kc : IntKind) (L C : Int) (n : Nat) (hl : a.eval l = .int kl L) (hc : a.eval c = .int kc C) (hL : L = (n : Int)) (hC : C = (n : Int)) (b2 : bytes * n ≤ 281474976710656) (b3 : n ≤ maxLen) (b4 : B ≤ w.heap.size)
    (hK : ∀ w', Own k e B w' (.slice (some ⟨w.heap.size, 0, none⟩) n n) n (oneF z) → w.grownBy w' none → w'.heap.size = w.heap.size + 1 → wpList P ops Q rest (a.put o.dst (.slice (some ⟨w.heap.size, 0, none⟩) n n)) w') :
    wpList P ops Q (o :: rest) a w := by
  refine wpList_plain hgd fun K hK' => ?_
  subst hL
  subst hC
  have hb : (i.bytes : Int) * (n : Int) ≤ 281474976710656 := by
    rw [hby]
    have h : ((bytes * n : Nat) : Int) ≤ 281474976710656 := by omega
    rwa [Int.natCast_mul] at h
  have hr := run_make (P := P) w t e i (.int k z) ht hi hz kl kc n n (by omega) (by omega) hb (by simp only [maxLen] at b3; omega)
  simp only [Int.toNat_natCast] at hr
  have hrow : (madeCells (Value.int k z).cells (n * i.size)).toList = row k n (oneF z) := by
    rw [hsize]
    simp [madeCells, row, oneF, Value.cells, Nat.mod_one]
  have h1 := Own.lit k e B w (oneF z) (madeCells (Value.int k z).cells (n * i.size)) n b4 b3 hrow
  unfold Oper.wp
  simp [execOp, hop, hl, hc, hr, Result.andThen]
  exact hK' _ _ (hK _ h1 (World.grownBy_alloc w _ none) (by simp))

/-- copy(d, s): d a whole row of the call's own, s no longer than d. -/
theorem run_copy_front (dT sT ty elem : TypeId) (hu : P.underlying dT = some (.slice elem)) (hsz : (P.info? elem).map (·.size) = some 1)
    (B g n cap : Nat) (f : Nat → Int) (hown : Own k elem B w (.slice (some ⟨g, 0, none⟩) n cap) n f) (A : Option Addr) (m c : Nat) (h : Nat → Int) (hr : Rd k w A m c h) (hmn : m ≤ n) :
    ∃ w', (Builtin.copy_ #[dT, sT] ty #[.slice (some ⟨g, 0, none⟩) n cap, .slice A m c]).run P w = .ok (goInt m) w' ∧
      Own k elem B w' (.slice (some ⟨g, 0, none⟩) n cap) n (catF m h (fun j => f (m + j))) ∧ w.grownBy w' (some g) := by
  have hmin : Nat.min m n = m := Nat.min_eq_left hmn
  by_cases h0 : m = 0
  · subst h0
    refine ⟨w, run_copy_none w dT sT ty elem _ A n cap 0 c hu hsz (by simp), hown.congr fun j _ => ?_, World.grownBy.refl _ _⟩
    simp [catF]
  · obtain ⟨b, off, rfl, _, hcell⟩ := hr.block (by omega)
    rcases hown.2 with ⟨e, _⟩ | ⟨g', cap', cur, e, hB, hh, hnc, hcm, hcs, htake⟩
    · cases e
    · simp only [Value.slice.injEq, Option.some.injEq, Addr.mk.injEq, and_true, true_and] at e
      obtain ⟨rfl, rfl⟩ := e
      have hl : (row k m h).length = m := row_len k m h
      have hrun := run_copy_row (P := P) w dT sT ty elem g 0 n cap ⟨b, off, none⟩ m c cur elem (row k m h) hu hsz hh (by rw [hl, hmin])
        (fun j v hj => by
          obtain ⟨hj', rfl⟩ := row_get_some hj
          rw [Addr.add_lit]
          exact hcell j hj') (by rw [hl, hcs]; omega) (row_one k m h)
      rw [hl] at hrun
      refine ⟨_, hrun, ⟨by rw [row_len]; omega, .inr ⟨g, cap, _, rfl, hB, setRow_heap w g cur _ elem _ hh, hnc, hcm, ?_, ?_⟩⟩, ⟨rfl, rfl, rfl, by simp [World.setRow], fun i _ hi => setRow_other w g i _ (fun e => hi (by simp [e]))⟩⟩
      · simp only [List.size_toArray, List.length_append, List.length_take, List.length_drop, Array.length_toList, hl]
        omega
      · have htl : cur.toList.take n = row k n f := by simpa using htake
        refine List.ext_getElem? fun i => ?_
        rw [List.getElem?_take]
        by_cases hi : i < n
        · rw [if_pos (by omega), row_get k n _ i hi]
          have h2 : cur.toList[i]? = some (.int k (f i)) := by
            have h3 := congrArg (fun l => l[i]?) htl
            simp only [List.getElem?_take, if_pos hi] at h3
            rw [h3, row_get k n f i hi]
          by_cases him : i < m
          · simp only [List.take_zero, List.nil_append, List.getElem?_append, hl, him, if_true, row_get k m h i him, catF]
          · have e3 : m + (i - m) = i := by omega
            simp only [List.take_zero, List.nil_append, List.getElem?_append, hl, him, if_false, catF, List.getElem?_drop, Nat.zero_add, e3, h2]
        · rw [if_neg (by omega), List.getElem?_eq_none (by rw [row_len]; omega)]

theorem wp_copy (hgd : o.guard = none) (d s : Operand) (dT sT elem : TypeId) (ho : o.op = .call { callee := .builtin .copy, args := #[d, s], argTypes := #[dT, sT] })
    (hu : P.underlying dT = some (.slice elem)) (hsz : (P.info? elem).map (·.size) = some 1)
    (B g n cap : Nat) (f : Nat → Int) (hd : a.eval d = .slice (some ⟨g, 0, none⟩) n cap) (hown : Own k elem B w (.slice (some ⟨g, 0, none⟩) n cap) n f)
    (A : Option Addr) (m c : Nat) (h : Nat → Int) (hs : a.eval s = .slice A m c) (hr : Rd k w A m c h) (hmn : m ≤ n)
    (hK : ∀ w', Own k elem B w' (.slice (some ⟨g, 0, none⟩) n cap) n (catF m h (fun j => f (m + j))) → w.grownBy w' (some g) → wpList P ops Q rest (a.put o.dst (goInt m)) w') :
    wpList P ops Q (o :: rest) a w := by
  refine wpList_plain hgd fun K hK' => ?_
  obtain ⟨w', hrun, h2, h3⟩ := run_copy_front (P := P) dT sT o.type elem hu hsz B g n cap f hown A m c h hr hmn
  unfold Oper.wp
  simp [execOp, ho, resolve, invoke, builtin, hd, hs, hrun, Result.andThen]
  exact hK' _ _ (hK w' h2 h3)
end
end Go.Proofs.YtfkjgjdbjmcioaaDoor
