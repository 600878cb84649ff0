/- Mem, Mem2, Same, Oct1, Oct2, Oct3, Oct4, Oct5, OctW, OctV, Clone, Cut, Cur1, Cur2, CurA in one text. -/
import Derived.WalkKit
import Derived.Laws.CopyOwn
import Derived.Deep.QuietTactic
import Derived.BigQuiet
import Derived.Handy
import Derived.OpenShut
import Derived.Deep.Slices
import Derived.Test.YtminoofghdpomaaDoorProg
import Derived.WalkLawsBesides
import Derived.StillTailTactics
import Derived.Laws.BitsAllLaws
import Derived.Laws.BitsLemmas
import Derived.Laws.IdiomStrings
import Derived.WalkSpells
import Derived.Laws.ResultCell
namespace Go.Proofs.YtminoofghdpomaaDoor
set_option linter.unusedVariables false
set_option linter.unusedSimpArgs false
section
open Go.RowKit

theorem hide {p : Prop} (h : p) : Hid p := h

/-- The slice '.slice A n c' reads as the numbers f 0 .. f (n-1). -/
def Rd (k : IntKind) (w : World) (A : Option Addr) (n c : Nat) (f : Nat → Int) : Prop :=
  n ≤ c ∧ c ≤ maxLen ∧ (A = none → c = 0) ∧ (0 < n → ∃ b off, A = some ⟨b, off, none⟩ ∧ ∀ i, i < n → w.cell? ⟨b, off + i, none⟩ = some (.int k (f i)))

/-- Numbers of bytes. -/
def Byt (n : Nat) (f : Nat → Int) : Prop := ∀ i, i < n → 0 ≤ f i ∧ f i ≤ 255

def catF (n : Nat) (f g : Nat → Int) : Nat → Int := fun i => if i < n then f i else g (i - n)
def setF (f : Nat → Int) (j : Nat) (x : Int) : Nat → Int := fun i => if i = j then x else f i
def oneF (x : Int) : Nat → Int := fun _ => x

def row (k : IntKind) (n : Nat) (f : Nat → Int) : List Value := (List.range n).map fun i => Value.int k (f i)

theorem row_len (k : IntKind) (n : Nat) (f : Nat → Int) : (row k n f).length = n := by simp [row]
theorem row_get (k : IntKind) (n : Nat) (f : Nat → Int) (j : Nat) (h : j < n) : (row k n f)[j]? = some (.int k (f j)) := by simp [row, h]
theorem row_get_some {k : IntKind} {n : Nat} {f : Nat → Int} {j : Nat} {u : Value} (h : (row k n f)[j]? = some u) : j < n ∧ u = .int k (f j) := by
  by_cases hj : j < n
  · rw [row_get k n f j hj] at h
    exact ⟨hj, (Option.some.inj h).symm⟩
  · have : (row k n f).length ≤ j := by rw [row_len]; omega
    rw [List.getElem?_eq_none this] at h
    cases h
theorem row_one (k : IntKind) (n : Nat) (f : Nat → Int) : ∀ u ∈ row k n f, u.oneCell' = true := by
  intro u hu
  simp only [row, List.mem_map] at hu
  obtain ⟨i, _, rfl⟩ := hu
  rfl
theorem row_congr (k : IntKind) {n : Nat} {f g : Nat → Int} (h : ∀ i, i < n → f i = g i) : row k n f = row k n g := by
  refine List.ext_getElem? fun j => ?_
  by_cases hj : j < n
  · rw [row_get k n f j hj, row_get k n g j hj, h j hj]
  · rw [List.getElem?_eq_none (by rw [row_len]; omega), List.getElem?_eq_none (by rw [row_len]; omega)]
theorem row_cat (k : IntKind) (n m : Nat) (f g : Nat → Int) : row k n f ++ row k m g = row k (n + m) (catF n f g) := by
  refine List.ext_getElem? fun j => ?_
  by_cases hj : j < n
  · rw [List.getElem?_append_left (by rw [row_len]; exact hj), row_get k n f j hj, row_get k _ _ j (by omega)]
    simp [catF, hj]
  · rw [List.getElem?_append_right (by rw [row_len]; omega), row_len]
    by_cases hm : j - n < m
    · rw [row_get k m g _ hm, row_get k _ _ j (by omega)]
      simp [catF, hj]
    · rw [List.getElem?_eq_none (by rw [row_len]; omega), List.getElem?_eq_none (by rw [row_len]; omega)]
theorem row_set (k : IntKind) (n : Nat) (f : Nat → Int) (j : Nat) (x : Int) : (row k n f).set j (.int k x) = row k n (setF f j x) := by
  refine List.ext_getElem? fun i => ?_
  rw [List.getElem?_set]
  by_cases hi : i < n
  · rw [row_get k n (setF f j x) i hi]
    by_cases hj : j = i
    · subst hj
      simp [setF, row_len, hi]
    · rw [if_neg hj, row_get k n f i hi]
      have : i ≠ j := fun e => hj e.symm
      simp [setF, this]
  · rw [List.getElem?_eq_none (l := row k n (setF f j x)) (by rw [row_len]; omega)]
    by_cases hj : j = i
    · subst hj
      simp [row_len, hi]
    · rw [if_neg hj, List.getElem?_eq_none (by rw [row_len]; omega)]

/-- A slice of integers that came in. -/
theorem rd_of_row {k : IntKind} {w : World} {a : Option Addr} {len cap : Nat} {zs : List Int}
    (h : (a = none ∧ len = 0 ∧ cap = 0 ∧ zs = []) ∨ ∃ x, a = some x ∧ len ≤ cap ∧ cap ≤ maxLen ∧ zs.length = cap ∧ (∀ i, i < zs.length → w.cell? (x.add i) = some (.int k (zs.getD i 0))) ∧ ∀ n ∈ zs, (Lit.int k n).wf = true) :
    Rd k w a len cap (fun i => zs.getD i 0) := by
  rcases h with ⟨rfl, rfl, rfl, rfl⟩ | ⟨x, rfl, hl, hm, hz, hc, _⟩
  · exact ⟨Nat.le_refl _, by simp [maxLen], fun _ => rfl, fun h => absurd h (by omega)⟩
  · refine ⟨hl, hm, fun e => (by cases e), fun hn => ?_⟩
    obtain ⟨b, off, spot⟩ := x
    have h0 := hc 0 (by omega)
    obtain rfl : spot = none := by simpa [Addr.add] using World.cell?_spot h0
    exact ⟨b, off, rfl, fun i hi => by have := hc i (by omega); rwa [Addr.add_lit] at this⟩
theorem wf_of_row {k : IntKind} {w : World} {a : Option Addr} {len cap : Nat} {zs : List Int}
    (h : (a = none ∧ len = 0 ∧ cap = 0 ∧ zs = []) ∨ ∃ x, a = some x ∧ len ≤ cap ∧ cap ≤ maxLen ∧ zs.length = cap ∧ (∀ i, i < zs.length → w.cell? (x.add i) = some (.int k (zs.getD i 0))) ∧ ∀ n ∈ zs, (Lit.int k n).wf = true) :
    ∀ i, i < len → (Lit.int k (zs.getD i 0)).wf = true := by
  rcases h with ⟨rfl, rfl, rfl, rfl⟩ | ⟨x, rfl, hl, hm, hz, _, hw⟩
  · intro i hi; omega
  · intro i hi
    refine hw _ ?_
    rw [List.getD_eq_getElem?_getD, List.getElem?_eq_getElem (by omega)]
    exact List.getElem_mem _
theorem byt_of_row {w : World} {a : Option Addr} {len cap : Nat} {zs : List Int}
    (h : (a = none ∧ len = 0 ∧ cap = 0 ∧ zs = []) ∨ ∃ x, a = some x ∧ len ≤ cap ∧ cap ≤ maxLen ∧ zs.length = cap ∧ (∀ i, i < zs.length → w.cell? (x.add i) = some (.int .u8 (zs.getD i 0))) ∧ ∀ n ∈ zs, (Lit.int .u8 n).wf = true) :
    Byt len (fun i => zs.getD i 0) := fun i hi => by
  have := bounds_u8 (wf_of_row h i hi)
  show 0 ≤ zs.getD i 0 ∧ zs.getD i 0 ≤ 255
  omega

section
variable {k : IntKind} {w w' : World} {A : Option Addr} {n c : Nat} {f g : Nat → Int}

theorem Rd.nil (k : IntKind) (w : World) (f : Nat → Int) : Rd k w none 0 0 f := ⟨Nat.le_refl _, by simp [maxLen], fun _ => rfl, fun h => absurd h (by omega)⟩
theorem Rd.congr (h : Rd k w A n c f) (e : ∀ i, i < n → f i = g i) : Rd k w A n c g :=
  ⟨h.1, h.2.1, h.2.2.1, fun hn => by
    obtain ⟨b, off, hA, hc⟩ := h.2.2.2 hn
    exact ⟨b, off, hA, fun i hi => by rw [← e i hi]; exact hc i hi⟩⟩
theorem Rd.keep (h : Rd k w A n c f) (hk : ∀ p : Addr, p.block < w.heap.size → w'.cell? p = w.cell? p) : Rd k w' A n c f :=
  ⟨h.1, h.2.1, h.2.2.1, fun hn => by
    obtain ⟨b, off, hA, hc⟩ := h.2.2.2 hn
    exact ⟨b, off, hA, fun i hi => by
      have h1 := hc i hi
      rw [hk _ (World.block_lt_of_cell? w _ h1)]
      exact h1⟩⟩
theorem Rd.below (h : Rd k w A n c f) (hb : Below w.heap.size w w') : Rd k w' A n c f := h.keep fun _ hp => hb.cell hp
theorem Rd.alloc (h : Rd k w A n c f) (o : Obj) : Rd k (w.alloc o) A n c f := h.below ((Below.refl _ _).alloc (Nat.le_refl _) _)
theorem Rd.drew (h : Rd k w A n c f) : Rd k w.drew A n c f := h
theorem Rd.drewN (h : Rd k w A n c f) (m : Nat) : Rd k (w.drewN m) A n c f := h
/-- What is behind a write to one block is what it was, where that block is another. -/
theorem Rd.other (h : Rd k w A n c f) {B : Nat} (hg : w.grownBy w' (some B)) (hne : ∀ b off, A = some ⟨b, off, none⟩ → b ≠ B) : Rd k w' A n c f :=
  ⟨h.1, h.2.1, h.2.2.1, fun hn => by
    obtain ⟨b, off, hA, hc⟩ := h.2.2.2 hn
    exact ⟨b, off, hA, fun i hi => hg.cell (hc i hi) (by intro e; exact hne b off hA (Option.some.inj e))⟩⟩
/-- Of a slice that lay below block B nothing turns when all below B stays. -/
theorem Rd.belowB {w0 : World} {B : Nat} (h0 : Rd k w0 A n c f) (hB : w0.heap.size ≤ B) (hb : Below B w0 w') : Rd k w' A n c f :=
  h0.keep fun _ hp => hb.cell (Nat.lt_of_lt_of_le hp hB)
theorem Rd.block (h : Rd k w A n c f) (hn : 0 < n) : ∃ b off, A = some ⟨b, off, none⟩ ∧ b < w.heap.size ∧ ∀ i, i < n → w.cell? ⟨b, off + i, none⟩ = some (.int k (f i)) := by
  obtain ⟨b, off, hA, hc⟩ := h.2.2.2 hn
  exact ⟨b, off, hA, World.block_lt_of_cell? w _ (hc 0 hn), hc⟩
theorem Rd.at_ (h : Rd k w A n c f) {i : Nat} (hi : i < n) : ∃ b off, A = some ⟨b, off, none⟩ ∧ w.cell? ⟨b, off + i, none⟩ = some (.int k (f i)) := by
  obtain ⟨b, off, hA, hc⟩ := h.2.2.2 (by omega)
  exact ⟨b, off, hA, hc i hi⟩
/-- s[lo:hi]. -/
theorem Rd.cut (h : Rd k w A n c f) {lo hi : Nat} (h1 : lo ≤ hi) (h2 : hi ≤ n) :
    Rd k w (if c = lo then A else A.map (·.add (lo * 1))) (hi - lo) (c - lo) (fun i => f (lo + i)) := by
  obtain ⟨a1, a2, a3, a4⟩ := h
  refine ⟨by omega, by omega, fun e => ?_, fun hn => ?_⟩
  · split at e
    · have := a3 e; omega
    · have hA : A = none := by simpa using e
      have := a3 hA; omega
  · obtain ⟨b, off, hA, hc⟩ := a4 (by omega)
    refine ⟨b, off + lo, ?_, fun i hi' => ?_⟩
    · rw [if_neg (by omega), hA]
      simp [Addr.add_lit]
    · have := hc (lo + i) (by omega)
      rw [← Nat.add_assoc] at this
      exact this
/-- s[lo:hi], written by the walk at the address of a slice that is there. -/
theorem Rd.cutAt {b off : Nat} (h : Rd k w (some ⟨b, off, none⟩) n c f) {lo hi : Nat} (h1 : lo ≤ hi) (h2 : hi ≤ n) :
    Rd k w (some ⟨b, if c = lo then off else off + lo, none⟩) (hi - lo) (c - lo) (fun i => f (lo + i)) := by
  have := h.cut h1 h2
  by_cases e : c = lo
  · simpa [e] using this
  · simpa [e, Addr.add_lit] using this
theorem Rd.take (h : Rd k w A n c f) {m : Nat} (hm : m ≤ n) : Rd k w A m c f :=
  ⟨by have := h.1; omega, h.2.1, h.2.2.1, fun hn => by
    obtain ⟨b, off, hA, hc⟩ := h.2.2.2 (by omega)
    exact ⟨b, off, hA, fun i hi => hc i (by omega)⟩⟩
end

/-- A row that the call itself made: its value, its n numbers. -/
def Own (k : IntKind) (e : TypeId) (B : Nat) (w : World) (v : Value) (n : Nat) (f : Nat → Int) : Prop := w.ownsRow B e 1 v n (row k n f)

section
variable {k : IntKind} {e : TypeId} {B : Nat} {w w' : World} {v : Value} {n : Nat} {f g : Nat → Int}

theorem Own.nil (k : IntKind) (e : TypeId) (B : Nat) (w : World) (f : Nat → Int) : Own k e B w (.slice none 0 0) 0 f := World.ownsRow_nil w B e 1
theorem Own.congr (h : Own k e B w v n f) (hfg : ∀ i, i < n → f i = g i) : Own k e B w v n g := by
  unfold Own at *
  rw [← row_congr k hfg]
  exact h
theorem Own.alloc (h : Own k e B w v n f) (o : Obj) : Own k e B (w.alloc o) v n f := World.ownsRow.alloc h o
theorem Own.drew (h : Own k e B w v n f) : Own k e B w.drew v n f := h
theorem Own.below (h : Own k e B w v n f) (hb : Below w.heap.size w w') : Own k e B w' v n f :=
  World.ownsRow.kept (row := none) h ⟨hb.os, hb.tape, hb.output, hb.size, fun j hj _ => hb.block j hj⟩ (by cases v.ownBlock <;> simp)
/-- The value's form, and that it can be read. -/
theorem Own.rd (h : Own k e B w v n f) : ∃ A c, v = .slice A n c ∧ Rd k w A n c f ∧ (∀ a, A = some a → B ≤ a.block ∧ a.block < w.heap.size ∧ a.off = 0 ∧ a.spot = none) := by
  unfold Own at h
  rcases h.2 with ⟨rfl, rfl⟩ | ⟨b, cap, cur, rfl, hB, hh, hnc, hcm, hsz, htake⟩
  · exact ⟨none, 0, rfl, Rd.nil _ _ _, fun a ha => by cases ha⟩
  · have hlt := (h.lt b rfl).2
    refine ⟨_, _, rfl, ⟨hnc, hcm, fun e => (by cases e), fun hn => ⟨b, 0, rfl, fun i hi => ?_⟩⟩, fun a ha => ?_⟩
    · have hc := World.ownsRow.cellAt h i (by omega)
      rw [row_get _ _ _ _ hi] at hc
      simpa using hc
    · obtain rfl := Option.some.inj ha
      exact ⟨hB, hlt, rfl, rfl⟩
theorem Own.frozen {b c : Nat} (h : Own k e B w (.slice (some ⟨b, 0, none⟩) n c) n f) (j : Nat) : w.frozen? ⟨b, j, none⟩ = false := World.ownsRow.frozenAt h j
theorem Own.cell {b c : Nat} (h : Own k e B w (.slice (some ⟨b, 0, none⟩) n c) n f) {j : Nat} (hj : j < n) : w.cell? ⟨b, j, none⟩ = some (.int k (f j)) := by
  have hc := World.ownsRow.cellAt h j (by omega)
  rw [row_get _ _ _ _ hj] at hc
  exact hc
theorem Own.set {b c : Nat} (h : Own k e B w (.slice (some ⟨b, 0, none⟩) n c) n f) (j : Nat) (x : Int) :
    Own k e B (w.setCell ⟨b, j, none⟩ (.int k x)) (.slice (some ⟨b, 0, none⟩) n c) n (setF f j x) := by
  unfold Own at *
  rw [← row_set]
  exact (World.ownsRow.stored h j _).1
end

/-- A literal's block. -/
theorem Own.lit (k : IntKind) (e : TypeId) (B : Nat) (w : World) (f : Nat → Int) (cs : Array Value) (n : Nat) (hB : B ≤ w.heap.size) (hn : n ≤ maxLen) (h : cs.toList = row k n f) :
    Own k e B (w.alloc (.cells cs e)) (.slice (some ⟨w.heap.size, 0, none⟩) n n) n f := by
  have := World.ownsRow_lit (w := w) (base := B) (e := e) (size := 1) cs n hB hn (by rw [← Array.length_toList, h, row_len]; omega)
  rw [h] at this
  exact this

/-- A literal of one element. -/
theorem Rd.one (k : IntKind) (e : TypeId) (w : World) (x : Int) : Rd k (w.alloc (.cells #[.int k x] e)) (some ⟨w.heap.size, 0, none⟩) 1 1 (oneF x) := by
  obtain ⟨A, c, e1, h, _⟩ := (Own.lit k e 0 w (oneF x) #[.int k x] 1 (Nat.zero_le _) (by simp [maxLen]) rfl).rd
  injection e1 with e1 _ e2
  subst e1
  subst e2
  exact h

section
variable {P : Program} {k : IntKind} {e : TypeId} {w : World} {ops : Array Oper} {rest : List Oper} {o : Oper} {a : Act} {Q : Exit → Act → World → Prop}

/-- append(s, x...): s a row of the call's own, x whatever can be read (nil, empty, or not). -/
theorem run_app (t ty : TypeId) (i : TypeInfo) (z : Int) (bytes : Nat) (ht : P.underlying t = some (.slice e)) (hi : P.info? e = some i) (hz : i.zero = some (.int k z)) (hsize : i.size = 1) (hby : i.bytes = bytes)
    (B : Nat) (v : Value) (n : Nat) (f : Nat → Int) (hown : Own k e B w v n f) (A : Option Addr) (m c : Nat) (g : Nat → Int) (hr : Rd k w A m c g)
    (h63 : n + m ≤ maxLen) (hbytes : (n + m) * bytes ≤ 140737488355328) (hbase : B ≤ w.heap.size) :
    ∃ v' w', (Builtin.append_ #[t, t] ty #[v, .slice A m c]).run P w = .ok v' w' ∧ Own k e B w' v' (n + m) (catF n f g) ∧ w.grownBy w' v.ownBlock := by
  rcases A with _ | ad
  · obtain ⟨h1, h2, h3, _⟩ := hr
    obtain rfl : c = 0 := h3 rfl
    obtain rfl : m = 0 := by omega
    refine ⟨v, w, run_append_owned_none w B t ty e i 1 ht hi v n _ hown, ?_, World.grownBy.refl _ _⟩
    refine Own.congr (f := f) (by simpa using hown) fun j hj => ?_
    have : j < n := by omega
    simp [catF, this]
  · have hcells : ∀ j u, (row k m g)[j]? = some u → w.cell? (ad.add j) = some u := by
      intro j u hu
      obtain ⟨hj, rfl⟩ := row_get_some hu
      obtain ⟨b, off, hA, hc⟩ := hr.at_ hj
      obtain rfl := Option.some.inj hA
      rw [Addr.add_lit]
      exact hc
    obtain ⟨v', w', hrun, h2, h3, _⟩ := run_append_own (P := P) w B t ty e i (.int k z) 1 bytes ht hi hz hsize hby rfl (by omega) v n (row k n f) hown ad m c (row k m g) (by rw [row_len]; omega) hcells (row_one k m g) h63 hbytes hbase
    exact ⟨v', w', hrun, by unfold Own; rw [← row_cat]; exact h2, h3⟩

theorem wp_app (hgd : o.guard = none) (s x : Operand) (t : TypeId) (ho : o.op = .call { callee := .builtin .append, args := #[s, x], argTypes := #[t, t] })
    (i : TypeInfo) (z : Int) (bytes : Nat) (ht : P.underlying t = some (.slice e)) (hi : P.info? e = some i) (hz : i.zero = some (.int k z)) (hsize : i.size = 1) (hby : i.bytes = bytes)
    (B : Nat) (v : Value) (n : Nat) (f : Nat → Int) (hs : a.eval s = v) (hown : Own k e B w v n f) (A : Option Addr) (m c : Nat) (g : Nat → Int) (hx : a.eval x = .slice A m c) (hr : Rd k w A m c g)
    (h63 : n + m ≤ maxLen) (hbytes : (n + m) * bytes ≤ 140737488355328) (hbase : B ≤ w.heap.size)
    (h : ∀ v' w', Own k e B w' v' (n + m) (catF n f g) → w.grownBy w' v.ownBlock → wpList P ops Q rest (a.put o.dst v') w') : wpList P ops Q (o :: rest) a w := by
  refine wpList_plain hgd fun K hK => ?_
  obtain ⟨v', w', hrun, h2, h3⟩ := run_app (P := P) t o.type i z bytes ht hi hz hsize hby B v n f hown A m c g hr h63 hbytes hbase
  unfold Oper.wp execOp
  simp only [ho, resolve, invoke, builtin, Sem.run_bind, Sem.run_pure, Result.andThen_ok, List.map_toArray, List.map_cons, List.map_nil, hs, hx, hrun]
  exact hK _ _ (h v' w' h2 h3)

/-- make([]T, n). -/
theorem wp_mk (hgd : o.guard = none) (l c : Operand) (t : TypeId) (hop : o.op = Op.makeSlice t l c)
    (i : TypeInfo) (z : Int) (bytes : Nat) (ht : P.underlying t = some (.slice e)) (hi : P.info? e = some i) (hz : i.zero = some (.int k z)) (hsize : i.size = 1) (hby : i.bytes = bytes)
    (B : Nat) (kl kc : IntKind) (L C : Int) (n : Nat) (hl : a.eval l = .int kl L) (hc : a.eval c = .int kc C) (hL : L = (n : Int)) (hC : C = (n : Int)) (b2 : bytes * n ≤ 281474976710656) (b3 : n ≤ maxLen) (b4 : B ≤ w.heap.size)
    (hK : ∀ w', Own k e B w' (.slice (some ⟨w.heap.size, 0, none⟩) n n) n (oneF z) → w.grownBy w' none → w'.heap.size = w.heap.size + 1 → wpList P ops Q rest (a.put o.dst (.slice (some ⟨w.heap.size, 0, none⟩) n n)) w') :
    wpList P ops Q (o :: rest) a w := by
  refine wpList_plain hgd fun K hK' => ?_
  subst hL
  subst hC
  have hb : (i.bytes : Int) * (n : Int) ≤ 281474976710656 := by
    rw [hby]
    have h : ((bytes * n : Nat) : Int) ≤ 281474976710656 := by omega
    rwa [Int.natCast_mul] at h
  have hr := run_make (P := P) w t e i (.int k z) ht hi hz kl kc n n (by omega) (by omega) hb (by simp only [maxLen] at b3; omega)
  simp only [Int.toNat_natCast] at hr
  have hrow : (madeCells (Value.int k z).cells (n * i.size)).toList = row k n (oneF z) := by
    rw [hsize]
    simp [madeCells, row, oneF, Value.cells, Nat.mod_one]
  have h1 := Own.lit k e B w (oneF z) (madeCells (Value.int k z).cells (n * i.size)) n b4 b3 hrow
  unfold Oper.wp
  simp [execOp, hop, hl, hc, hr, Result.andThen]
  exact hK' _ _ (hK _ h1 (World.grownBy_alloc w _ none) (by simp))

/-- copy(d, s): d a whole row of the call's own, s no longer than d. -/
theorem run_copy_front (dT sT ty elem : TypeId) (hu : P.underlying dT = some (.slice elem)) (hsz : (P.info? elem).map (·.size) = some 1)
    (B g n cap : Nat) (f : Nat → Int) (hown : Own k elem B w (.slice (some ⟨g, 0, none⟩) n cap) n f) (A : Option Addr) (m c : Nat) (h : Nat → Int) (hr : Rd k w A m c h) (hmn : m ≤ n) :
    ∃ w', (Builtin.copy_ #[dT, sT] ty #[.slice (some ⟨g, 0, none⟩) n cap, .slice A m c]).run P w = .ok (goInt m) w' ∧
      Own k elem B w' (.slice (some ⟨g, 0, none⟩) n cap) n (catF m h (fun j => f (m + j))) ∧ w.grownBy w' (some g) := by
  have hmin : Nat.min m n = m := Nat.min_eq_left hmn
  by_cases h0 : m = 0
  · subst h0
    refine ⟨w, run_copy_none w dT sT ty elem _ A n cap 0 c hu hsz (by simp), hown.congr fun j _ => ?_, World.grownBy.refl _ _⟩
    simp [catF]
  · obtain ⟨b, off, rfl, _, hcell⟩ := hr.block (by omega)
    rcases hown.2 with ⟨e, _⟩ | ⟨g', cap', cur, e, hB, hh, hnc, hcm, hcs, htake⟩
    · cases e
    · simp only [Value.slice.injEq, Option.some.injEq, Addr.mk.injEq, and_true, true_and] at e
      obtain ⟨rfl, rfl⟩ := e
      have hl : (row k m h).length = m := row_len k m h
      have hrun := run_copy_row (P := P) w dT sT ty elem g 0 n cap ⟨b, off, none⟩ m c cur elem (row k m h) hu hsz hh (by rw [hl, hmin])
        (fun j v hj => by
          obtain ⟨hj', rfl⟩ := row_get_some hj
          rw [Addr.add_lit]
          exact hcell j hj') (by rw [hl, hcs]; omega) (row_one k m h)
      rw [hl] at hrun
      refine ⟨_, hrun, ⟨by rw [row_len]; omega, .inr ⟨g, cap, _, rfl, hB, setRow_heap w g cur _ elem _ hh, hnc, hcm, ?_, ?_⟩⟩, ⟨rfl, rfl, rfl, by simp [World.setRow], fun i _ hi => setRow_other w g i _ (fun e => hi (by simp [e]))⟩⟩
      · simp only [List.size_toArray, List.length_append, List.length_take, List.length_drop, Array.length_toList, hl]
        omega
      · have htl : cur.toList.take n = row k n f := by simpa using htake
        refine List.ext_getElem? fun i => ?_
        rw [List.getElem?_take]
        by_cases hi : i < n
        · rw [if_pos (by omega), row_get k n _ i hi]
          have h2 : cur.toList[i]? = some (.int k (f i)) := by
            have h3 := congrArg (fun l => l[i]?) htl
            simp only [List.getElem?_take, if_pos hi] at h3
            rw [h3, row_get k n f i hi]
          by_cases him : i < m
          · simp only [List.take_zero, List.nil_append, List.getElem?_append, hl, him, if_true, row_get k m h i him, catF]
          · have e3 : m + (i - m) = i := by omega
            simp only [List.take_zero, List.nil_append, List.getElem?_append, hl, him, if_false, catF, List.getElem?_drop, Nat.zero_add, e3, h2]
        · rw [if_neg (by omega), List.getElem?_eq_none (by rw [row_len]; omega)]

theorem wp_copy (hgd : o.guard = none) (d s : Operand) (dT sT elem : TypeId) (ho : o.op = .call { callee := .builtin .copy, args := #[d, s], argTypes := #[dT, sT] })
    (hu : P.underlying dT = some (.slice elem)) (hsz : (P.info? elem).map (·.size) = some 1)
    (B g n cap : Nat) (f : Nat → Int) (hd : a.eval d = .slice (some ⟨g, 0, none⟩) n cap) (hown : Own k elem B w (.slice (some ⟨g, 0, none⟩) n cap) n f)
    (A : Option Addr) (m c : Nat) (h : Nat → Int) (hs : a.eval s = .slice A m c) (hr : Rd k w A m c h) (hmn : m ≤ n)
    (hK : ∀ w', Own k elem B w' (.slice (some ⟨g, 0, none⟩) n cap) n (catF m h (fun j => f (m + j))) → w.grownBy w' (some g) → wpList P ops Q rest (a.put o.dst (goInt m)) w') :
    wpList P ops Q (o :: rest) a w := by
  refine wpList_plain hgd fun K hK' => ?_
  obtain ⟨w', hrun, h2, h3⟩ := run_copy_front (P := P) dT sT o.type elem hu hsz B g n cap f hown A m c h hr hmn
  unfold Oper.wp
  simp [execOp, ho, resolve, invoke, builtin, hd, hs, hrun, Result.andThen]
  exact hK' _ _ (hK w' h2 h3)
end
end

section
open Go.RowKit Go.ChangeShapes Go.WideShapes Go.Deep

/-- The slice reads as the structs (f i, g i), i < n. -/
def Rd2 (w : World) (A : Option Addr) (n c : Nat) (f g : Nat → Int) : Prop :=
  n ≤ c ∧ c ≤ maxLen ∧ (A = none → c = 0) ∧ (0 < n → ∃ b off, A = some ⟨b, off, none⟩ ∧ ∀ i, i < n → w.cell? ⟨b, off + i * 2, none⟩ = some (.int .i64 (f i)) ∧ w.cell? ⟨b, off + i * 2 + 1, none⟩ = some (.int .i64 (g i)))
def Wf64 (n : Nat) (f : Nat → Int) : Prop := ∀ i, i < n → -9223372036854775808 ≤ f i ∧ f i ≤ 9223372036854775807
theorem Rd2.below {w w' : World} {A : Option Addr} {n c : Nat} {f g : Nat → Int} (h : Rd2 w A n c f g) (hb : Below w.heap.size w w') : Rd2 w' A n c f g :=
  ⟨h.1, h.2.1, h.2.2.1, fun hn => by
    obtain ⟨b, off, hA, hc⟩ := h.2.2.2 hn
    exact ⟨b, off, hA, fun i hi => by
      have h1 := (hc i hi).1
      have h2 := (hc i hi).2
      rw [hb.cell (World.block_lt_of_cell? w _ h1), hb.cell (World.block_lt_of_cell? w _ h2)]
      exact ⟨h1, h2⟩⟩⟩
theorem Rd2.at_ {w : World} {A : Option Addr} {n c : Nat} {f g : Nat → Int} (h : Rd2 w A n c f g) {i : Nat} (hi : i < n) :
    ∃ b off, A = some ⟨b, off, none⟩ ∧ w.cell? ⟨b, off + i * 2, none⟩ = some (.int .i64 (f i)) ∧ w.cell? ⟨b, off + i * 2 + 1, none⟩ = some (.int .i64 (g i)) := by
  obtain ⟨b, off, hA, hc⟩ := h.2.2.2 (by omega)
  exact ⟨b, off, hA, hc i hi⟩

section
variable {H : Type} {enc : TypeId × Value → H} {P : Program} {w : World} {base : Nat} {spare : Nat → Bool} {held : Bool}
theorem rd2_of {t e : TypeId} {f0 f1 : Field} {fuel : Nat} {a : Option Addr} {len cap : Nat} {x : DataW H × List MemPlace} (ht : P.underlying t = some (.slice e)) (he : P.underlying e = some (.struct #[f0, f1]))
    (hC : P.cellsOf e = 2) (o0 : f0.offset = 0) (o1 : f1.offset = 1) (k0 : P.cellsOf f0.type = 1) (k1 : P.cellsOf f1.type = 1) (u0 : P.underlying f0.type = some (.int .i64)) (u1 : P.underlying f1.type = some (.int .i64))
    (h : DataW.trod enc P w base spare held fuel t [.slice a len cap] = some x) : ∃ f g, Rd2 w a len cap f g ∧ Wf64 len f ∧ Wf64 len g := by
  rcases open_slice ht h with ⟨hcs, _⟩ | ⟨ad, l, c, m, n, D, Pl, hcs, _, hl, hm, hmm, _, hi⟩
  · simp at hcs
    obtain ⟨rfl, rfl, rfl⟩ := hcs
    exact ⟨fun _ => 0, fun _ => 0, ⟨Nat.le_refl _, by simp [maxLen], fun _ => rfl, fun h => absurd h (by omega)⟩, fun i hi => by omega, fun i hi => by omega⟩
  · simp at hcs
    obtain ⟨rfl, rfl, rfl⟩ := hcs
    have hlm : len ≤ m := by rw [hmm]; split <;> omega
    have key : ∀ i, i < len → ∃ p : Int × Int, (w.cell? (ad.add (i * 2)) = some (.int .i64 p.1) ∧ w.cell? ((ad.add (i * 2)).add 1) = some (.int .i64 p.2)) ∧ (Lit.int .i64 p.1).wf = true ∧ (Lit.int .i64 p.2).wf = true := by
      intro i him
      obtain ⟨cs', hc, ht'⟩ := hi i (by omega)
      rw [hC] at hc
      obtain ⟨_, hcl, hat⟩ := World.cells?_some hc
      obtain ⟨ys, n', _, _, _, hyl, hf⟩ := DataW.trod_struct he ht'
      match cs', hcl, hat, ys, hyl, hf with
      | [q0, q1], _, hat, [ya, yb], _, hf =>
        have a0 := hf 0 f0 rfl
        have a1 := hf 1 f1 rfl
        rw [o0, k0] at a0
        rw [o1, k1] at a1
        obtain ⟨v0, e0, _, w0⟩ := DataW.trod_int u0 (show DataW.trod enc P w base spare held n' f0.type [q0] = some ya from a0)
        obtain ⟨v1, e1, _, w1⟩ := DataW.trod_int u1 (show DataW.trod enc P w base spare held n' f1.type [q1] = some yb from a1)
        simp at e0 e1
        subst e0
        subst e1
        have h0 := hat 0 (by omega)
        have h1 := hat 1 (by omega)
        refine ⟨(v0, v1), ⟨?_, by simpa using h1⟩, w0, w1⟩
        have e : (ad.add (i * 2)).add 0 = ad.add (i * 2) := by simp [Addr.add]
        rw [e] at h0
        simpa using h0
    obtain ⟨F, hF⟩ := choose_lt key
    refine ⟨fun i => (F i).1, fun i => (F i).2, ⟨hl, hm, fun e => (by cases e), fun hn => ?_⟩, fun i hi => ?_, fun i hi => ?_⟩
    · obtain ⟨b, off, spot⟩ := ad
      have h0 := (hF 0 hn).1.1
      have hs : spot = none := by simpa [Addr.add] using World.cell?_spot h0
      subst hs
      refine ⟨b, off, rfl, fun i hi => ?_⟩
      have := (hF i hi).1
      rw [Addr.add_lit, Addr.add_lit] at this
      exact this
    · have := bounds_i64 (hF i hi).2.1
      show -9223372036854775808 ≤ (F i).1 ∧ (F i).1 ≤ 9223372036854775807
      omega
    · have := bounds_i64 (hF i hi).2.2
      show -9223372036854775808 ≤ (F i).2 ∧ (F i).2 ≤ 9223372036854775807
      omega
end
end

section
open Go.RowKit

/-- Have both slices the same numbers? -/
def sameB (n m : Nat) (f g : Nat → Int) : Bool := decide (n = m ∧ ∀ i, i < n → f i = g i)
theorem sameB_yes {n m : Nat} {f g : Nat → Int} (h : n = m) (hf : ∀ i, i < n → f i = g i) : sameB n m f g = true := decide_eq_true ⟨h, hf⟩
theorem sameB_no {n m : Nat} {f g : Nat → Int} (h : ¬ (n = m ∧ ∀ i, i < n → f i = g i)) : sameB n m f g = false := decide_eq_false h
theorem sameB_of {n m : Nat} {f g : Nat → Int} (h : sameB n m f g = true) : n = m ∧ ∀ i, i < n → f i = g i := of_decide_eq_true h

def Drawn (w w' : World) : Prop := ∃ q, w' = w.drewN q
theorem Drawn.refl (w : World) : Drawn w w := ⟨0, rfl⟩
theorem Drawn.trans {a b c : World} (h : Drawn a b) (k : Drawn b c) : Drawn a c := by
  obtain ⟨p, rfl⟩ := h
  obtain ⟨q, rfl⟩ := k
  exact ⟨p + q, by rw [World.drewN_drewN]⟩
theorem Drawn.of (w : World) (q : Nat) : Drawn w (w.drewN q) := ⟨q, rfl⟩
theorem drawn_below {w w' : World} (h : Drawn w w') (B : Nat) : Below B w w' := by
  obtain ⟨q, rfl⟩ := h
  exact ⟨rfl, rfl, rfl, Nat.le_refl _, fun _ _ => rfl⟩
theorem Rd.drawn {k : IntKind} {w w' : World} {A : Option Addr} {n c : Nat} {f : Nat → Int} (h : Rd k w A n c f) (hd : Drawn w w') : Rd k w' A n c f := h.below (drawn_below hd _)
theorem Drawn.more {w w1 : World} (h : Drawn w w1) (q : Nat) : Drawn w (w1.drewN q) := by
  obtain ⟨p, rfl⟩ := h
  exact ⟨p + q, by rw [World.drewN_drewN]⟩

end

section
open Go.RowKit

/-! ### power -/
/-! ### numbers of the first bytes -/
/-- The number of the first bytes. -/
def num (f : Nat → Int) : Nat → Int
  | 0 => 0
  | k + 1 => num f k * 256 + f k
theorem num_bd {f : Nat → Int} {n : Nat} (hb : Byt n f) (k : Nat) (hk : k ≤ n) (h4 : k ≤ 4) : 0 ≤ num f k ∧ num f k < 256 ^ k := by
  rcases k with _ | _ | _ | _ | _ | k
  · simp [num]
  · have := hb 0 (by omega); simp [num]; omega
  · have := hb 0 (by omega); have := hb 1 (by omega); simp [num]; omega
  · have := hb 0 (by omega); have := hb 1 (by omega); have := hb 2 (by omega); simp [num]; omega
  · have := hb 0 (by omega); have := hb 1 (by omega); have := hb 2 (by omega); have := hb 3 (by omega); simp [num]; omega
  · omega
def getE (n : Nat) (size : Int) : Int := if size < 1 ∨ 4 < size then 1 else if (n : Int) < size then 3 else 0


/-! ### sizes -/
/-- 256 to the power of a size. -/
def pw (s : Int) : Int := if s = 1 then 256 else if s = 2 then 65536 else if s = 3 then 16777216 else 4294967296
theorem pw_cases {s : Int} (h1 : 1 ≤ s) (h2 : s ≤ 4) : (s = 1 ∧ pw s = 256) ∨ (s = 2 ∧ pw s = 65536) ∨ (s = 3 ∧ pw s = 16777216) ∨ (s = 4 ∧ pw s = 4294967296) := by
  unfold pw
  have : s = 1 ∨ s = 2 ∨ s = 3 ∨ s = 4 := by omega
  rcases this with rfl | rfl | rfl | rfl <;> simp
end

section
open Go.RowKit

theorem ofInt_i64n (a : Nat) (ha : a < 9223372036854775808) : (BitVec.ofInt 64 (a : Int)).toNat = a := by
  rw [BitVec.ofInt_natCast, BitVec.toNat_ofNat]; exact Nat.mod_eq_of_lt (by omega)
/-- A number shifted by a byte, and a byte: their bits don't meet. -/
theorem or_byte {v c : Int} (h0 : 0 ≤ v) (h1 : v < 16777216) (h2 : 0 ≤ c) (h3 : c ≤ 255) : bits .or .i64 (v * 256) c = v * 256 + c := by
  obtain ⟨a, rfl⟩ := Int.eq_ofNat_of_zero_le h0
  obtain ⟨b, rfl⟩ := Int.eq_ofNat_of_zero_le h2
  have hn : a * 256 ||| b = a * 256 + b := by
    have : a * 256 = 2 ^ 8 * a := by omega
    rw [this, Nat.two_pow_add_eq_or_of_lt (by omega)]
  have hx : a * 256 ||| b < 2 ^ 63 := by rw [hn]; omega
  show IntKind.i64.wrap ((BitVec.ofInt 64 ((a : Int) * 256) ||| BitVec.ofInt 64 (b : Int)).toNat : Int) = _
  rw [BitVec.toNat_or, show ((a : Int) * 256) = ((a * 256 : Nat) : Int) by omega, ofInt_i64n _ (by omega), ofInt_i64n b (by omega), hn, IntKind.wrap_i64]
  omega

theorem num_lt {f : Nat → Int} {n : Nat} (hb : Byt n f) (k : Nat) (hk : k ≤ n) (h4 : k < 4) : 0 ≤ num f k ∧ num f k < 16777216 := by
  obtain ⟨a, b⟩ := num_bd hb k hk (by omega)
  have : k = 0 ∨ k = 1 ∨ k = 2 ∨ k = 3 := by omega
  rcases this with rfl | rfl | rfl | rfl <;> simp at b <;> omega

/-! ### its reference -/
/-- 256 to the power of k, for k up to 4. -/
def p2 (k : Nat) : Int := if k = 0 then 1 else if k = 1 then 256 else if k = 2 then 65536 else if k = 3 then 16777216 else 4294967296
theorem p2_succ (k : Nat) (h : k < 4) : p2 (k + 1) = 256 * p2 k := by
  have : k = 0 ∨ k = 1 ∨ k = 2 ∨ k = 3 := by omega
  rcases this with rfl | rfl | rfl | rfl <;> simp [p2]
theorem p2_cases (k : Nat) (h : k ≤ 4) : ((k : Int) = 0 ∧ p2 k = 1) ∨ ((k : Int) = 1 ∧ p2 k = 256) ∨ ((k : Int) = 2 ∧ p2 k = 65536) ∨ ((k : Int) = 3 ∧ p2 k = 16777216) ∨ ((k : Int) = 4 ∧ p2 k = 4294967296) := by
  have : k = 0 ∨ k = 1 ∨ k = 2 ∨ k = 3 ∨ k = 4 := by omega
  rcases this with rfl | rfl | rfl | rfl | rfl <;> simp [p2]
theorem step_num {f : Nat → Int} {k s : Nat} (h : k < s) (h4 : s ≤ 4) : num f k * p2 (s - k) + f k * p2 (s - 1 - k) = num f (k + 1) * p2 (s - (k + 1)) := by
  have e1 : s - k = (s - (k + 1)) + 1 := by omega
  have e2 : s - 1 - k = s - (k + 1) := by omega
  rw [e1, e2, p2_succ _ (by omega)]
  simp only [num, Int.add_mul, Int.mul_assoc]
theorem step_bd {f : Nat → Int} {n k s : Nat} (hb : Byt n f) (hn : s ≤ n) (h : k < s) (h4 : s ≤ 4) :
    0 ≤ num f k * p2 (s - k) ∧ num f k * p2 (s - k) ≤ 4294967296 ∧ 0 ≤ f k * p2 (s - 1 - k) ∧ f k * p2 (s - 1 - k) ≤ 4294967296 := by
  obtain ⟨q3, q4⟩ := hb k (by omega)
  obtain ⟨a, b⟩ := num_bd hb k (by omega) (by omega)
  have hs : s = 1 ∨ s = 2 ∨ s = 3 ∨ s = 4 := by omega
  have hk : k = 0 ∨ k = 1 ∨ k = 2 ∨ k = 3 := by omega
  rcases hs with rfl | rfl | rfl | rfl <;> rcases hk with rfl | rfl | rfl | rfl <;> first | omega | (simp [p2] at *; omega)

end

section
open Go.RowKit

theorem u8_info : (Tryd.prog.info? 5).map (fun i => (i.zero, i.size, i.bytes)) = some (some (.int .u8 0), 1, 1) := by kernel_rfl
theorem u8_size : (Tryd.prog.info? 5).map (·.size) = some 1 := by kernel_rfl

def putE (v size : Int) : Int := if size < 1 ∨ 4 < size then 1 else if v < 0 ∨ pw size ≤ v then 5 else 0
/-- The i-th byte of a number's s bytes. -/
def byteAt (v : Int) (s i : Nat) : Int := v / 2 ^ (8 * (s - 1 - i)) % 256
def putF (n : Nat) (f : Nat → Int) (s : Nat) (v : Int) : Nat → Int := catF n f (byteAt v s)

/-- What the loop has written behind k rounds. -/
def putK (n : Nat) (f : Nat → Int) (s : Nat) (v : Int) (k : Nat) : Nat → Int := fun i => if i < n then f i else if i < n + k then byteAt v s (i - n) else 0
theorem putK_zero (n : Nat) (f : Nat → Int) (s : Nat) (v : Int) : ∀ i, catF n f (fun j => oneF 0 (n + j)) i = putK n f s v 0 i := by
  intro i
  unfold catF putK oneF
  by_cases h : i < n <;> simp [h]
theorem putK_succ (n : Nat) (f : Nat → Int) (s : Nat) (v : Int) (k : Nat) : setF (putK n f s v k) (n + k) (byteAt v s k) = putK n f s v (k + 1) := by
  funext i
  unfold setF putK
  by_cases h : i = n + k
  · subst h
    have : ¬ n + k < n := by omega
    simp [this]
  · by_cases h1 : i < n
    · simp [h, h1]
    · by_cases h2 : i < n + k
      · have : i < n + (k + 1) := by omega
        simp [h, h1, h2, this]
      · have : ¬ i < n + (k + 1) := by omega
        simp [h, h1, h2, this]
theorem putK_end (n : Nat) (f : Nat → Int) (s : Nat) (v : Int) : ∀ i, i < n + s → putK n f s v s i = putF n f s v i := by
  intro i hi
  unfold putK putF catF
  by_cases h1 : i < n <;> simp [h1, hi]

/-- What a function that hands back bytes and no error leaves. -/
def Gave (w : World) (n : Nat) (f : Nat → Int) (e : Ending) (w' : World) : Prop :=
  ∃ A c, e = .returned (.tuple #[.slice A n c, .int .i64 0]) ∧ Rd .u8 w' A n c f ∧ Below w.heap.size w w'
/-- The same, and the bytes are a row of the call's own. -/
def GaveO (w : World) (n : Nat) (f : Nat → Int) (e : Ending) (w' : World) : Prop :=
  ∃ A c, e = .returned (.tuple #[.slice A n c, .int .i64 0]) ∧ Own .u8 5 w.heap.size w' (.slice A n c) n f ∧ Below w.heap.size w w'
theorem GaveO.gave {w : World} {n : Nat} {f : Nat → Int} {e : Ending} {w' : World} (h : GaveO w n f e w') : Gave w n f e w' := by
  obtain ⟨A, c, h1, h2, h3⟩ := h
  obtain ⟨A', c', e', h4, _⟩ := h2.rd
  injection e' with e1 _ e2
  subst e1
  subst e2
  exact ⟨A, c, h1, h4, h3⟩

/-! ### its reference -/
theorem p2_pow (t : Nat) (h : t ≤ 4) : p2 t = 2 ^ (8 * t) := by
  have : t = 0 ∨ t = 1 ∨ t = 2 ∨ t = 3 ∨ t = 4 := by omega
  rcases this with rfl | rfl | rfl | rfl | rfl <;> simp [p2]
theorem p2_pos (t : Nat) : 0 < p2 t := by unfold p2; repeat' split <;> omega
theorem byteAt_p2 (v : Int) (s i : Nat) (h : s ≤ 4) : byteAt v s i = v / p2 (s - 1 - i) % 256 := by
  unfold byteAt
  rw [p2_pow _ (by omega)]

/-- What the reference's loop has written behind k rounds. -/
def rputK (n : Nat) (f : Nat → Int) (s : Nat) (v : Int) : Nat → Int := catF n f (byteAt v s)
theorem rput_succ (n : Nat) (f : Nat → Int) (s k : Nat) (v : Int) : ∀ i, i < n + k + 1 → catF (n + k) (putF n f s v) (oneF (byteAt v s k)) i = putF n f s v i := by
  intro i hi
  by_cases h : i < n + k
  · simp [catF, h]
  · have e : i = n + k := by omega
    subst e
    have : ¬ n + k < n := by omega
    simp [catF, putF, oneF, this]
theorem Gave.congr {w w' : World} {n : Nat} {f g : Nat → Int} {e : Ending} (h : Gave w n f e w') (hf : ∀ i, i < n → f i = g i) : Gave w n g e w' := by
  obtain ⟨A, c, h1, h2, h3⟩ := h
  exact ⟨A, c, h1, h2.congr hf, h3⟩

end

section
open Go.RowKit

theorem natAnd31 (a : Nat) (h : a < 4294967296) : a &&& 2147483648 = if a < 2147483648 then 0 else 2147483648 := by
  refine Nat.eq_of_testBit_eq fun i => ?_
  rw [Nat.testBit_and, show (2147483648 : Nat) = 2 ^ 31 from rfl, Nat.testBit_two_pow]
  by_cases h1 : 31 = i
  · subst h1
    have e2 : a.testBit 31 = decide (2 ^ 31 ≤ a) := by
      rw [Nat.testBit_eq_decide_div_mod_eq]
      simp
      omega
    rw [e2]
    by_cases h2 : a < 2 ^ 31
    · have : ¬ 2 ^ 31 ≤ a := by omega
      simp [h2, this]
    · have h3 : 2 ^ 31 ≤ a := by omega
      rw [if_neg h2, Nat.testBit_two_pow_self]
      simp [h3]
  · split
    · simp [h1]
    · rw [Nat.testBit_two_pow]
      simp [h1]
theorem natAndNot31 (a : Nat) (h : a < 4294967296) : a &&& (2 ^ 64 - (2147483648 + 1)) = a % 2147483648 := by
  refine Nat.eq_of_testBit_eq fun i => ?_
  rw [Nat.testBit_and, Nat.testBit_two_pow_sub_succ (by omega), show (2147483648 : Nat) = 2 ^ 31 from rfl, Nat.testBit_mod_two_pow, Nat.testBit_two_pow]
  by_cases h1 : i < 31
  · have h2 : i < 64 := by omega
    have h3 : ¬ 31 = i := by omega
    simp [h1, h2, h3]
  · by_cases h2 : i = 31
    · subst h2
      simp
    · have : a.testBit i = false := Nat.testBit_lt_two_pow (Nat.lt_of_lt_of_le h (by
        have : 2 ^ 32 ≤ 2 ^ i := Nat.pow_le_pow_right (by omega) (by omega)
        omega))
      simp [this]
theorem and31 {n : Int} (h0 : 0 ≤ n) (h1 : n < 4294967296) : bits .and .i64 n 2147483648 = if n < 2147483648 then 0 else 2147483648 := by
  obtain ⟨a, rfl⟩ := Int.eq_ofNat_of_zero_le h0
  have hn := natAnd31 a (by omega)
  show IntKind.i64.wrap ((BitVec.ofInt 64 (a : Int) &&& BitVec.ofInt 64 ((2147483648 : Nat) : Int)).toNat : Int) = _
  rw [BitVec.toNat_and, ofInt_i64n a (by omega), ofInt_i64n _ (by omega), hn, IntKind.wrap_i64]
  by_cases h : a < 2147483648
  · have : (a : Int) < 2147483648 := by omega
    simp [h, this]
  · have : ¬ (a : Int) < 2147483648 := by omega
    simp [h, this]
theorem andNot31 {n : Int} (h0 : 0 ≤ n) (h1 : n < 4294967296) : bits .andNot .i64 n 2147483648 = n % 2147483648 := by
  obtain ⟨a, rfl⟩ := Int.eq_ofNat_of_zero_le h0
  have hn := natAndNot31 a (by omega)
  show IntKind.i64.wrap ((BitVec.ofInt 64 (a : Int) &&& ~~~ BitVec.ofInt 64 ((2147483648 : Nat) : Int)).toNat : Int) = _
  rw [BitVec.toNat_and, BitVec.toNat_not, ofInt_i64n a (by omega), ofInt_i64n _ (by omega), show 2 ^ 64 - 1 - 2147483648 = 2 ^ 64 - (2147483648 + 1) from rfl, hn, IntKind.wrap_i64]
  omega
theorem or31 {n : Int} (h0 : 0 ≤ n) (h1 : n < 2147483648) : bits .or .i64 n 2147483648 = n + 2147483648 := by
  obtain ⟨a, rfl⟩ := Int.eq_ofNat_of_zero_le h0
  have hn : a ||| 2147483648 = a + 2147483648 := by
    have h := Nat.two_pow_add_eq_or_of_lt (i := 31) (b := a) (by omega) 1
    rw [Nat.or_comm]
    have e : 2 ^ 31 * 1 = 2147483648 := rfl
    rw [e] at h
    omega
  show IntKind.i64.wrap ((BitVec.ofInt 64 (a : Int) ||| BitVec.ofInt 64 ((2147483648 : Nat) : Int)).toNat : Int) = _
  rw [BitVec.toNat_or, ofInt_i64n a (by omega), ofInt_i64n _ (by omega), hn, IntKind.wrap_i64]
  omega

/-! ### Low -/
def lowN (n : Int) : Int := if n < 0 ∨ 4294967296 ≤ n then 0 else if n < 2147483648 then n else n - 2147483648
def lowB (n : Int) : Bool := decide (2147483648 ≤ n ∧ n < 4294967296)
/-! ### With -/
/-! ### Same -/
def bts (n : Nat) (f : Nat → Int) : List UInt8 := (List.range n).map fun i => UInt8.ofNat (f i).toNat
theorem bts_len (n : Nat) (f : Nat → Int) : (bts n f).length = n := by simp [bts]
theorem bts_get (n : Nat) (f : Nat → Int) (j : Nat) (h : j < (bts n f).length) : (bts n f)[j] = UInt8.ofNat (f j).toNat := by simp [bts]
theorem byt_of {n : Nat} {f : Nat → Int} (h : Byt n f) {i : Nat} (hi : i < n) : ((UInt8.ofNat (f i).toNat).toNat : Int) = f i := by
  have := h i hi
  rw [UInt8.toNat_ofNat']
  omega
theorem run_str (w : World) (A : Option Addr) (n c : Nat) (f : Nat → Int) (h : Rd .u8 w A n c f) (hb : Byt n f) :
    (convert 33 9 (.slice A n c)).run Tryd.prog w = .ok (.string ⟨(bts n f).toArray⟩) w := by
  rcases A with _ | ad
  · obtain ⟨h1, h2, h3, _⟩ := h
    obtain rfl : c = 0 := h3 rfl
    obtain rfl : n = 0 := by omega
    kernel_rfl
  · have hr := run_convert_bytes_back (P := Tryd.prog) w 33 9 5 ad c (bts n f) Tryd.underlying33 Tryd.underlying5 Tryd.underlying9 (fun j hj => by
      have hj' : j < n := by rw [bts_len] at hj; exact hj
      obtain ⟨b, off, hA, hc⟩ := h.at_ hj'
      obtain rfl := Option.some.inj hA
      rw [Addr.add_lit, hc, bts_get, byt_of hb hj'])
    rw [bts_len] at hr
    exact hr
theorem bts_eq {n m : Nat} {f g : Nat → Int} (hf : Byt n f) (hg : Byt m g) : (bts n f = bts m g) ↔ sameB n m f g = true := by
  constructor
  · intro h
    have hl : n = m := by have := congrArg List.length h; simpa [bts_len] using this
    subst hl
    refine sameB_yes rfl fun i hi => ?_
    have h1 := congrArg (fun l => l[i]?) h
    simp only [List.getElem?_eq_getElem (show i < (bts n f).length by rw [bts_len]; exact hi), List.getElem?_eq_getElem (show i < (bts n g).length by rw [bts_len]; exact hi), bts_get] at h1
    have h2 := congrArg (fun u : UInt8 => (u.toNat : Int)) (Option.some.inj h1)
    simp only [byt_of hf hi, byt_of hg hi] at h2
    exact h2
  · intro h
    obtain ⟨rfl, hs⟩ := sameB_of h
    refine List.ext_getElem (by rw [bts_len, bts_len]) fun i h1 h2 => ?_
    rw [bts_get, bts_get, hs i (by rw [bts_len] at h1; exact h1)]
end

section
open Go.RowKit

/-- It returns true, and nothing that was there is written. -/
def Yes (w : World) (e : Ending) (w' : World) : Prop := e = .returned (.bool true) ∧ Below w.heap.size w w'

def lit4 : Nat → Int := fun i => if i = 1 then 1 else if i = 3 then 9 else 0
def lit2 : Nat → Int := fun i => if i = 0 then 1 else 2
theorem lit4_byt : Byt 4 lit4 := by intro i _; unfold lit4; repeat' split <;> omega
theorem num_lit4 : num lit4 3 = 256 := by decide
theorem put_lit : ∀ i, i < 0 + (2 : Int).toNat → putF 0 (oneF 0) (2 : Int).toNat 258 i = lit2 i := by
  intro i hi
  have : i = 0 ∨ i = 1 := by have : (2 : Int).toNat = 2 := rfl; omega
  rcases this with rfl | rfl <;> decide
theorem Rd.four (w : World) : Rd .u8 (w.alloc (.cells #[.int .u8 0, .int .u8 1, .int .u8 0, .int .u8 9] 5)) (some ⟨w.heap.size, 0, none⟩) 4 4 lit4 := by
  obtain ⟨A, c, e1, h, _⟩ := (Own.lit .u8 5 0 w lit4 #[.int .u8 0, .int .u8 1, .int .u8 0, .int .u8 9] 4 (Nat.zero_le _) (by simp [maxLen]) rfl).rd
  injection e1 with e1 _ e2
  subst e1
  subst e2
  exact h
theorem Rd.two (w : World) : Rd .u8 (w.alloc (.cells #[.int .u8 1, .int .u8 2] 5)) (some ⟨w.heap.size, 0, none⟩) 2 2 lit2 := by
  obtain ⟨A, c, e1, h, _⟩ := (Own.lit .u8 5 0 w lit2 #[.int .u8 1, .int .u8 2] 2 (Nat.zero_le _) (by simp [maxLen]) rfl).rd
  injection e1 with e1 _ e2
  subst e1
  subst e2
  exact h

theorem Rd.two' (w : World) {b : Nat} (hb : b = w.heap.size) : Rd .u8 (w.alloc (.cells #[.int .u8 1, .int .u8 2] 5)) (some ⟨b, 0, none⟩) 2 2 lit2 := by
  subst hb
  exact Rd.two w

end

section
open Go.RowKit

/-- alive, at a call of a law. -/
theorem _root_.Go.RowKit.Below.of {w w1 w' : World} (h : Below w.heap.size w w1) (k : Below w1.heap.size w1 w') : Below w.heap.size w w' := h.trans (k.mono h.size)

end

section
open Go.RowKit

theorem getE_ok {n : Nat} {size : Int} (h : getE n size = 0) : 1 ≤ size ∧ size ≤ 4 ∧ size ≤ n := by
  unfold getE at h
  split at h
  · omega
  · split at h <;> omega

/-! ### there and back -/
theorem byteAt_byt (v : Int) (s n : Nat) (f : Nat → Int) : Byt (0 + s) (putF 0 f s v) := by
  intro i _
  simp only [putF, catF, Nat.not_lt_zero, if_false, byteAt]
  omega
theorem num_put (v size : Int) (f : Nat → Int) (h1 : 1 ≤ size) (h2 : size ≤ 4) (h3 : 0 ≤ v) (h4 : v < pw size) : num (putF 0 f size.toNat v) size.toNat = v := by
  rcases pw_cases h1 h2 with ⟨rfl, hp⟩ | ⟨rfl, hp⟩ | ⟨rfl, hp⟩ | ⟨rfl, hp⟩
  all_goals
    rw [hp] at h4
    simp [num, putF, catF, byteAt]
    omega
theorem num_pw (size : Int) (n : Nat) (f : Nat → Int) (hb : Byt n f) (h1 : 1 ≤ size) (h2 : size ≤ 4) (h3 : size ≤ n) : 0 ≤ num f size.toNat ∧ num f size.toNat < pw size := by
  rcases pw_cases h1 h2 with ⟨rfl, hp⟩ | ⟨rfl, hp⟩ | ⟨rfl, hp⟩ | ⟨rfl, hp⟩
  all_goals
    rw [hp]
    have := num_bd hb (Int.toNat _) (show _ ≤ n from by simp; omega) (by decide)
    simpa using this
theorem put_num (size : Int) (n : Nat) (f g : Nat → Int) (hb : Byt n f) (h1 : 1 ≤ size) (h2 : size ≤ 4) (h3 : size ≤ n) : ∀ i, i < 0 + size.toNat → putF 0 g size.toNat (num f size.toNat) i = f i := by
  intro i hi
  have b0 := hb 0
  have b1 := hb 1
  have b2 := hb 2
  have b3 := hb 3
  rcases pw_cases h1 h2 with ⟨rfl, _⟩ | ⟨rfl, _⟩ | ⟨rfl, _⟩ | ⟨rfl, _⟩
  all_goals
    simp at hi
    have hi' : i = 0 ∨ i = 1 ∨ i = 2 ∨ i = 3 := by omega
    rcases hi' with rfl | rfl | rfl | rfl
    all_goals first | omega | (simp [num, putF, catF, byteAt]; omega)

theorem num_putN (v : Int) (s : Nat) (f : Nat → Int) (h1 : 1 ≤ s) (h2 : s ≤ 4) (h3 : 0 ≤ v) (h4 : v < pw s) : num (putF 0 f s v) s = v := by
  have := num_put v s f (by omega) (by omega) h3 h4
  simpa using this
theorem putE_ok {v size : Int} (h : putE v size = 0) : ∃ s : Nat, size = s ∧ 1 ≤ s ∧ s ≤ 4 ∧ 0 ≤ v ∧ v < pw s := by
  unfold putE at h
  split at h
  · omega
  · split at h
    · omega
    · exact ⟨size.toNat, by omega, by omega, by omega, by omega, by rw [show ((size.toNat : Nat) : Int) = size by omega]; omega⟩
/-! ### the highest bit -/
theorem low_bd (n : Int) : 0 ≤ lowN n ∧ lowN n < 2147483648 := by unfold lowN; split <;> (try split) <;> omega
theorem low_back (n : Int) (h0 : 0 ≤ n) (h1 : n < 4294967296) : (if lowB n = true then lowN n + 2147483648 else lowN n) = n := by
  unfold lowB lowN
  rw [if_neg (show ¬ (n < 0 ∨ 4294967296 ≤ n) by omega)]
  by_cases h : n < 2147483648
  · rw [if_pos h, if_neg (by simp; omega)]
  · rw [if_neg h, if_pos (by simp; omega)]
    omega
end

section
open Go.RowKit

theorem c8_info : (Tryd.prog.info? 5).map (fun i => (i.zero, i.size, i.bytes)) = some (some (.int .u8 0), 1, 1) := by kernel_rfl
theorem c8_size : (Tryd.prog.info? 5).map (·.size) = some 1 := by kernel_rfl

def Cloned (w : World) (n : Nat) (f : Nat → Int) (e : Ending) (w' : World) : Prop := ∃ v, e = .returned v ∧ Own .u8 5 w.heap.size w' v n f ∧ Below w.heap.size w w'

end

section
open Go.RowKit

/-- The address of a slice that is cut at lo: at the end of the room it stays. -/
def cutA (A : Option Addr) (c lo : Nat) : Option Addr := if c = lo then A else A.map (·.add (lo * 1))
theorem Rd.cutR {k : IntKind} {w : World} {A : Option Addr} {n c : Nat} {f : Nat → Int} (h : Rd k w A n c f) {lo hi : Nat} (h1 : lo ≤ hi) (h2 : hi ≤ n) :
    Rd k w (cutA A c lo) (hi - lo) (c - lo) (fun i => f (lo + i)) := h.cut h1 h2
theorem cutA_block {A : Option Addr} {c lo : Nat} {a : Addr} (h : cutA A c lo = some a) : ∃ b, A = some b ∧ b.block = a.block := by
  unfold cutA at h
  split at h
  · exact ⟨a, h, rfl⟩
  · cases A with
    | none => cases h
    | some b =>
      refine ⟨b, rfl, ?_⟩
      have := Option.some.inj h
      rw [← this]
      simp only [Addr.add]
      split <;> rfl

section
variable {P : Program} (T e : TypeId) (hT : P.underlying T = some (.slice e)) (hE : P.elem T = e) (hs : (P.info? e).map (·.size) = some 1) (A : Option Addr) (n c : Nat)
include hT hE hs
omit hT in
theorem size_run (W : World) : (sizeOf (P.elem T)).run P W = .ok 1 W := by
  obtain ⟨i, hi, h1⟩ := Option.map_eq_some_iff.1 hs
  rw [hE]
  simp [sizeOf, typeInfo, hi, h1]
theorem cut_l (lo : Nat) (hlo : lo ≤ n) (kl : IntKind) (W : World) :
    (Instr.slice T (.slice A n c) (some (.int kl (lo : Int))) none none).run P W = .ok (.slice (cutA A c lo) (n - lo) (c - lo)) W := by
  rw [run_slice_l (P := P) (w := W) T A n c (by rw [hE]; exact hT) kl (lo : Int) (by omega) (by omega), size_run T e hE hs W]
  simp [Result.andThen, sliced, cutA]
theorem cut_h (hi : Nat) (hc : hi ≤ c) (kh : IntKind) (W : World) :
    (Instr.slice T (.slice A n c) none (some (.int kh (hi : Int))) none).run P W = .ok (.slice (cutA A c 0) hi c) W := by
  rw [run_slice_h (P := P) (w := W) T A n c (by rw [hE]; exact hT) kh (hi : Int) (by omega) (by omega), size_run T e hE hs W]
  simp [Result.andThen, sliced, cutA]
theorem cut_lh (lo hi : Nat) (h1 : lo ≤ hi) (hc : hi ≤ c) (kl kh : IntKind) (W : World) :
    (Instr.slice T (.slice A n c) (some (.int kl (lo : Int))) (some (.int kh (hi : Int))) none).run P W = .ok (.slice (cutA A c lo) (hi - lo) (c - lo)) W := by
  rw [run_slice_lh (P := P) (w := W) T A n c (by rw [hE]; exact hT) kl kh (lo : Int) (hi : Int) (by omega) (by omega) (by omega), size_run T e hE hs W]
  simp [Result.andThen, sliced, cutA]
end
end

section
open Go.RowKit

theorem bytes_elem : Tryd.prog.elem 33 = 5 := by kernel_rfl
theorem bytes_cut (A : Option Addr) (n c k : Nat) (hk : k ≤ n) (W : World) :
    (Instr.slice 33 (.slice A n c) (some (.int .i64 (k : Int))) none none).run Tryd.prog W = .ok (.slice (cutA A c k) (n - k) (c - k)) W :=
  cut_l 33 5 Tryd.underlying33 bytes_elem c8_size A n c k hk .i64 W
theorem bytes_cut_h (A : Option Addr) (n c k : Nat) (hk : k ≤ c) (W : World) :
    (Instr.slice 33 (.slice A n c) none (some (.int .i64 (k : Int))) none).run Tryd.prog W = .ok (.slice (cutA A c 0) k c) W :=
  cut_h 33 5 Tryd.underlying33 bytes_elem c8_size A n c k hk .i64 W
theorem Rd.front {k : IntKind} {w : World} {A : Option Addr} {n c : Nat} {f : Nat → Int} (h : Rd k w A n c f) {m : Nat} (hm : m ≤ n) : Rd k w (cutA A c 0) m c f := by
  have h1 := h.cutR (lo := 0) (hi := m) (Nat.zero_le _) hm
  simp only [Nat.sub_zero, Nat.zero_add] at h1
  exact h1
theorem grown_cell (w w1 : World) (h : Below w.heap.size w w1) (p j : Nat) (u : Value) : w.grownBy (w1.setCell ⟨p, j, none⟩ u) (some p) :=
  ⟨h.os, h.tape, h.output, by have := h.size; simpa [World.setCell] using this, fun i hi hne => (Below.heap_setCell w1 ⟨p, j, none⟩ u i (fun e => hne (by simp [e]))).trans (h.block i hi)⟩
theorem drawn_grown {w w' : World} (h : Drawn w w') (row : Option Nat) : w.grownBy w' row := by
  obtain ⟨q, rfl⟩ := h
  exact ⟨rfl, rfl, rfl, Nat.le_refl _, fun _ _ _ => rfl⟩
theorem below_grown {w w' : World} (h : Below w.heap.size w w') (row : Option Nat) : w.grownBy w' row := ⟨h.os, h.tape, h.output, h.size, fun i hi _ => h.block i hi⟩

/-- What 'ahead' gives: the bytes that are left. -/
def Ahead (w : World) (m : Nat) (h : Nat → Int) (e : Ending) (w' : World) : Prop := ∃ A c, e = .returned (.slice A m c) ∧ Rd .u8 w A m c h ∧ Drawn w w'
theorem Own.baseT {k : IntKind} {e : TypeId} {B B' : Nat} {w : World} {v : Value} {n : Nat} {f : Nat → Int} (h : w.ownsRow B e 1 v n (row k n f)) (hB : B' ≤ B) : Own k e B' w v n f := by
  refine ⟨h.1, ?_⟩
  rcases h.2 with h2 | ⟨g, cap, cur, hv, hg, r⟩
  · exact .inl h2
  · exact .inr ⟨g, cap, cur, hv, by omega, r⟩
theorem drawn_size {w w' : World} (h : Drawn w w') : w'.heap.size = w.heap.size := by
  obtain ⟨q, rfl⟩ := h
  rfl
theorem Rd.other0 {k : IntKind} {w w' : World} {A : Option Addr} {n c : Nat} {f : Nat → Int} (h : Rd k w A n c f) {B : Nat} (hg : w.grownBy w' (some B)) (hne : ∀ b off, 0 < n → A = some ⟨b, off, none⟩ → b ≠ B) : Rd k w' A n c f :=
  ⟨h.1, h.2.1, h.2.2.1, fun hn => by
    obtain ⟨b, off, hA, hc⟩ := h.2.2.2 hn
    exact ⟨b, off, hA, fun i hi => hg.cell (hc i hi) (by intro e; exact hne b off hn hA (Option.some.inj e))⟩⟩
/-! ### Number, Bytes, Rest -/
end

section
open Go.RowKit

/-! ### Bytes -/
/-! ### the law's step -/
theorem grown_start {w w1 w2 : World} {row : Option Nat} (hd : Below w.heap.size w w1) (h5 : w1.grownBy w2 row) : w.grownBy w2 row :=
  ⟨h5.os.trans hd.os, h5.tape.trans hd.tape, h5.output.trans hd.output, Nat.le_trans hd.size h5.size, fun i hi hne => (h5.block i (Nat.lt_of_lt_of_le hi hd.size) hne).trans (hd.block i hi)⟩

/-! ### the reference's step -/
theorem results_tmp4 {fn : Func} {t u v x : Tmp} (h : fn.results = #[.tmp t, .tmp u, .tmp v, .tmp x]) (tmps : Array Value) (P : Program) (w : World) :
    (results fn tmps).run P w = .ok (.tuple #[tmps.getD t undef, tmps.getD u undef, tmps.getD v undef, tmps.getD x undef]) w := by simp [results, h]

end

section
open Go.RowKit

theorem keepRow {w w' : World} {b : Nat} {cs : Array Value} {T : TypeId} (h : w.heap[b]? = some (.cells cs T (0, 0))) (hb : Below w.heap.size w w') : w'.heap[b]? = some (.cells cs T (0, 0)) :=
  (hb.block b (Array.getElem?_eq_some_iff.1 h).1).trans h
theorem rowLt {w : World} {b : Nat} {o : Obj} (h : w.heap[b]? = some o) : b < w.heap.size := (Array.getElem?_eq_some_iff.1 h).1
theorem keepGrown {w w' : World} {b : Nat} {cs : Array Value} {T : TypeId} {v : Value} (h : w.heap[b]? = some (.cells cs T (0, 0))) (hg : w.grownBy w' v.ownBlock) (hne : v.ownBlock ≠ some b) : w'.heap[b]? = some (.cells cs T (0, 0)) :=
  (hg.block b (Array.getElem?_eq_some_iff.1 h).1 (fun e => hne e.symm)).trans h
theorem keepOne {w w' : World} {b p : Nat} {cs : Array Value} {T : TypeId} (h : w.heap[b]? = some (.cells cs T (0, 0))) (hg : w.grownBy w' (some p)) (hne : b ≠ p) : w'.heap[b]? = some (.cells cs T (0, 0)) :=
  (hg.block b (Array.getElem?_eq_some_iff.1 h).1 (fun e => hne (Option.some.inj e))).trans h
theorem grown_set (w : World) (p j : Nat) (u : Value) : w.grownBy (w.setCell ⟨p, j, none⟩ u) (some p) := grown_cell w w (Below.refl _ _) p j u
theorem row2 {w : World} {b : Nat} {T : TypeId} {v0 v1 : Value} (h : w.heap[b]? = some (.cells #[v0, v1] T (0, 0))) : w.cell? ⟨b, 0, none⟩ = some v0 ∧ w.cell? ⟨b, 1, none⟩ = some v1 := by
  refine ⟨?_, ?_⟩
  · rw [cell_of_row w b 0 _ _ _ h]; rfl
  · rw [cell_of_row w b 1 _ _ _ h]; rfl
theorem row5 {w : World} {b : Nat} {T : TypeId} {v0 v1 v2 v3 v4 : Value} (h : w.heap[b]? = some (.cells #[v0, v1, v2, v3, v4] T (0, 0))) :
    w.cell? ⟨b, 0, none⟩ = some v0 ∧ w.cell? ⟨b, 1, none⟩ = some v1 ∧ w.cell? ⟨b, 2, none⟩ = some v2 ∧ w.cell? ⟨b, 3, none⟩ = some v3 ∧ w.cell? ⟨b, 4, none⟩ = some v4 := by
  refine ⟨?_, ?_, ?_, ?_, ?_⟩
  · rw [cell_of_row w b 0 _ _ _ h]; rfl
  · rw [cell_of_row w b 1 _ _ _ h]; rfl
  · rw [cell_of_row w b 2 _ _ _ h]; rfl
  · rw [cell_of_row w b 3 _ _ _ h]; rfl
  · rw [cell_of_row w b 4 _ _ _ h]; rfl
theorem row6 {w : World} {b : Nat} {T : TypeId} {v0 v1 v2 v3 v4 v5 : Value} (h : w.heap[b]? = some (.cells #[v0, v1, v2, v3, v4, v5] T (0, 0))) :
    w.cell? ⟨b, 0, none⟩ = some v0 ∧ w.cell? ⟨b, 1, none⟩ = some v1 ∧ w.cell? ⟨b, 2, none⟩ = some v2 ∧ w.cell? ⟨b, 3, none⟩ = some v3 ∧ w.cell? ⟨b, 4, none⟩ = some v4 ∧ w.cell? ⟨b, 5, none⟩ = some v5 := by
  refine ⟨?_, ?_, ?_, ?_, ?_, ?_⟩
  · rw [cell_of_row w b 0 _ _ _ h]; rfl
  · rw [cell_of_row w b 1 _ _ _ h]; rfl
  · rw [cell_of_row w b 2 _ _ _ h]; rfl
  · rw [cell_of_row w b 3 _ _ _ h]; rfl
  · rw [cell_of_row w b 4 _ _ _ h]; rfl
  · rw [cell_of_row w b 5 _ _ _ h]; rfl
theorem setRow (w : World) (g j : Nat) (u : Value) {cs : Array Value} {T : TypeId} (h : w.heap[g]? = some (.cells cs T (0, 0))) : (w.setCell ⟨g, j, none⟩ u).heap[g]? = some (.cells (cs.setIfInBounds j u) T (0, 0)) :=
  heap_setCell_same w g j _ _ _ h
theorem frozenRow {w : World} {g : Nat} {cs : Array Value} {T : TypeId} (h : w.heap[g]? = some (.cells cs T (0, 0))) (j : Nat) : w.frozen? ⟨g, j, none⟩ = false := frozen_of_row w g j _ _ h
theorem Own.ne {k : IntKind} {e : TypeId} {B b : Nat} {w : World} {v : Value} {n : Nat} {f : Nat → Int} (h : Own k e B w v n f) (hb : b < B) : v.ownBlock ≠ some b := fun he => by
  have := (World.ownsRow.lt h b he).1
  omega
theorem Own.rdS {k : IntKind} {e : TypeId} {B : Nat} {w : World} {A : Option Addr} {n c : Nat} {f : Nat → Int} (h : Own k e B w (.slice A n c) n f) : Rd k w A n c f := by
  obtain ⟨A', c', e', h4, _⟩ := h.rd
  injection e' with e1 _ e2
  subst e1
  subst e2
  exact h4
theorem Own.baseB {k : IntKind} {e : TypeId} {B B' : Nat} {w : World} {v : Value} {n : Nat} {f : Nat → Int} (h : Own k e B w v n f) (hB : B' ≤ B) : Own k e B' w v n f := Own.baseT h hB

end
end Go.Proofs.YtminoofghdpomaaDoor
