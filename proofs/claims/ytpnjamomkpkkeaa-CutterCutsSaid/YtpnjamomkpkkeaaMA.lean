/- Mem, Mem2, Same, Oct1, Oct2, Oct3, Oct4, Oct5, OctW, OctV, Clone, Cut, Cur1, Cur2, CurA in one text. -/
import Derived.WalkKit
import Derived.Laws.CopyOwn
import Derived.Deep.QuietTactic
import Derived.BigQuiet
import Derived.Handy
import Derived.OpenShut
import Derived.Deep.Slices
import Derived.Test.YtpnjamomkpkkeaaProg
import Derived.WalkLawsBesides
import Derived.StillTailTactics
import Derived.Laws.BitsAllLaws
import Derived.Laws.BitsLemmas
import Derived.Laws.IdiomStrings
import Derived.WalkSpells
import Derived.Laws.ResultCell
namespace Go.Proofs.Ytpnjamomkpkkeaa
set_option linter.unusedVariables false
set_option linter.unusedSimpArgs false
section
open Go.RowKit

theorem hide {p : Prop} (h : p) : Hid p := h

/-- The slice '.slice A n c' reads as the numbers f 0 .. f (n-1). -/
def Rd (k : IntKind) (w : World) (A : Option Addr) (n c : Nat) (f : Nat → Int) : Prop :=
  n ≤ c ∧ c ≤ maxLen ∧ (A = none → c = 0) ∧ (0 < n → ∃ b off, A = some ⟨b, off, none⟩ ∧ ∀ i, i < n → w.cell? ⟨b, off + i, none⟩ = some (.int k (f i)))

/-- Numbers of bytes. -/
def Byt (n : Nat) (f : Nat → Int) : Prop := ∀ i, i < n → 0 ≤ f i ∧ f i ≤ 255

def catF (n : Nat) (f g : Nat → Int) : Nat → Int := fun i => if i < n then f i else g (i - n)
def setF (f : Nat → Int) (j : Nat) (x : Int) : Nat → Int := fun i => if i = j then x else f i
def oneF (x : Int) : Nat → Int := fun _ => x

def row (k : IntKind) (n : Nat) (f : Nat → Int) : List Value := (List.range n).map fun i => Value.int k (f i)

theorem row_len (k : IntKind) (n : Nat) (f : Nat → Int) : (row k n f).length = n := by simp [row]
theorem row_get (k : IntKind) (n : Nat) (f : Nat → Int) (j : Nat) (h : j < n) : (row k n f)[j]? = some (.int k (f j)) := by simp [row, h]
theorem row_get_some {k : IntKind} {n : Nat} {f : Nat → Int} {j : Nat} {u : Value} (h : (row k n f)[j]? = some u) : j < n ∧ u = .int k (f j) := by
  by_cases hj : j < n
  · rw [row_get k n f j hj] at h
    exact ⟨hj, (Option.some.inj h).symm⟩
  · have : (row k n f).length ≤ j := by rw [row_len]; omega
    rw [List.getElem?_eq_none this] at h
    cases h
theorem row_one (k : IntKind) (n : Nat) (f : Nat → Int) : ∀ u ∈ row k n f, u.oneCell' = true := by
  intro u hu
  simp only [row, List.mem_map] at hu
  obtain ⟨i, _, rfl⟩ := hu
  rfl
theorem row_congr (k : IntKind) {n : Nat} {f g : Nat → Int} (h : ∀ i, i < n → f i = g i) : row k n f = row k n g := by
  refine List.ext_getElem? fun j => ?_
  by_cases hj : j < n
  · rw [row_get k n f j hj, row_get k n g j hj, h j hj]
  · rw [List.getElem?_eq_none (by rw [row_len]; omega), List.getElem?_eq_none (by rw [row_len]; omega)]
theorem row_cat (k : IntKind) (n m : Nat) (f g : Nat → Int) : row k n f ++ row k m g = row k (n + m) (catF n f g) := by
  refine List.ext_getElem? fun j => ?_
  by_cases hj : j < n
  · rw [List.getElem?_append_left (by rw [row_len]; exact hj), row_get k n f j hj, row_get k _ _ j (by omega)]
    simp [catF, hj]
  · rw [List.getElem?_append_right (by rw [row_len]; omega), row_len]
    by_cases hm : j - n < m
    · rw [row_get k m g _ hm, row_get k _ _ j (by omega)]
      simp [catF, hj]
    · rw [List.getElem?_eq_none (by rw [row_len]; omega), List.getElem?_eq_none (by rw [row_len]; omega)]
theorem row_set (k : IntKind) (n : Nat) (f : Nat → Int) (j : Nat) (x : Int) : (row k n f).set j (.int k x) = row k n (setF f j x) := by
  refine List.ext_getElem? fun i => ?_
  rw [List.getElem?_set]
  by_cases hi : i < n
  · rw [row_get k n (setF f j x) i hi]
    by_cases hj : j = i
    · subst hj
      simp [setF, row_len, hi]
    · rw [if_neg hj, row_get k n f i hi]
      have : i ≠ j := fun e => hj e.symm
      simp [setF, this]
  · rw [List.getElem?_eq_none (l := row k n (setF f j x)) (by rw [row_len]; omega)]
    by_cases hj : j = i
    · subst hj
      simp [row_len, hi]
    · rw [if_neg hj, List.getElem?_eq_none (by rw [row_len]; omega)]

/-- A slice of integers that came in. -/
theorem rd_of_row {k : IntKind} {w : World} {a : Option Addr} {len cap : Nat} {zs : List Int}
    (h : (a = none ∧ len = 0 ∧ cap = 0 ∧ zs = []) ∨ ∃ x, a = some x ∧ len ≤ cap ∧ cap ≤ maxLen ∧ zs.length = cap ∧ (∀ i, i < zs.length → w.cell? (x.add i) = some (.int k (zs.getD i 0))) ∧ ∀ n ∈ zs, (Lit.int k n).wf = true) :
    Rd k w a len cap (fun i => zs.getD i 0) := by
  rcases h with ⟨rfl, rfl, rfl, rfl⟩ | ⟨x, rfl, hl, hm, hz, hc, _⟩
  · exact ⟨Nat.le_refl _, by simp [maxLen], fun _ => rfl, fun h => absurd h (by omega)⟩
  · refine ⟨hl, hm, fun e => (by cases e), fun hn => ?_⟩
    obtain ⟨b, off, spot⟩ := x
    have h0 := hc 0 (by omega)
    obtain rfl : spot = none := by simpa [Addr.add] using World.cell?_spot h0
    exact ⟨b, off, rfl, fun i hi => by have := hc i (by omega); rwa [Addr.add_lit] at this⟩
theorem wf_of_row {k : IntKind} {w : World} {a : Option Addr} {len cap : Nat} {zs : List Int}
    (h : (a = none ∧ len = 0 ∧ cap = 0 ∧ zs = []) ∨ ∃ x, a = some x ∧ len ≤ cap ∧ cap ≤ maxLen ∧ zs.length = cap ∧ (∀ i, i < zs.length → w.cell? (x.add i) = some (.int k (zs.getD i 0))) ∧ ∀ n ∈ zs, (Lit.int k n).wf = true) :
    ∀ i, i < len → (Lit.int k (zs.getD i 0)).wf = true := by
  rcases h with ⟨rfl, rfl, rfl, rfl⟩ | ⟨x, rfl, hl, hm, hz, _, hw⟩
  · intro i hi; omega
  · intro i hi
    refine hw _ ?_
    rw [List.getD_eq_getElem?_getD, List.getElem?_eq_getElem (by omega)]
    exact List.getElem_mem _
theorem byt_of_row {w : World} {a : Option Addr} {len cap : Nat} {zs : List Int}
    (h : (a = none ∧ len = 0 ∧ cap = 0 ∧ zs = []) ∨ ∃ x, a = some x ∧ len ≤ cap ∧ cap ≤ maxLen ∧ zs.length = cap ∧ (∀ i, i < zs.length → w.cell? (x.add i) = some (.int .u8 (zs.getD i 0))) ∧ ∀ n ∈ zs, (Lit.int .u8 n).wf = true) :
    Byt len (fun i => zs.getD i 0) := fun i hi => by
  have := bounds_u8 (wf_of_row h i hi)
  show 0 ≤ zs.getD i 0 ∧ zs.getD i 0 ≤ 255
  omega

section
variable {k : IntKind} {w w' : World} {A : Option Addr} {n c : Nat} {f g : Nat → Int}

theorem Rd.nil (k : IntKind) (w : World) (f : Nat → Int) : Rd k w none 0 0 f := ⟨Nat.le_refl _, by simp [maxLen], fun _ => rfl, fun h => absurd h (by omega)⟩
theorem Rd.congr (h : Rd k w A n c f) (e : ∀ i, i < n → f i = g i) : Rd k w A n c g :=
  ⟨h.1, h.2.1, h.2.2.1, fun hn => by
    obtain ⟨b, off, hA, hc⟩ := h.2.2.2 hn
    exact ⟨b, off, hA, fun i hi => by rw [← e i hi]; exact hc i hi⟩⟩
theorem Rd.keep (h : Rd k w A n c f) (hk : ∀ p : Addr, p.block < w.heap.size → w'.cell? p = w.cell? p) : Rd k w' A n c f :=
  ⟨h.1, h.2.1, h.2.2.1, fun hn => by
    obtain ⟨b, off, hA, hc⟩ := h.2.2.2 hn
    exact ⟨b, off, hA, fun i hi => by
      have h1 := hc i hi
      rw [hk _ (World.block_lt_of_cell? w _ h1)]
      exact h1⟩⟩
theorem Rd.below (h : Rd k w A n c f) (hb : Below w.heap.size w w') : Rd k w' A n c f := h.keep fun _ hp => hb.cell hp
theorem Rd.alloc (h : Rd k w A n c f) (o : Obj) : Rd k (w.alloc o) A n c f := h.below ((Below.refl _ _).alloc (Nat.le_refl _) _)
theorem Rd.drew (h : Rd k w A n c f) : Rd k w.drew A n c f := h
theorem Rd.drewN (h : Rd k w A n c f) (m : Nat) : Rd k (w.drewN m) A n c f := h
/-- What is behind a write to one block is what it was, where that block is another. -/
theorem Rd.other (h : Rd k w A n c f) {B : Nat} (hg : w.grownBy w' (some B)) (hne : ∀ b off, A = some ⟨b, off, none⟩ → b ≠ B) : Rd k w' A n c f :=
  ⟨h.1, h.2.1, h.2.2.1, fun hn => by
    obtain ⟨b, off, hA, hc⟩ := h.2.2.2 hn
    exact ⟨b, off, hA, fun i hi => hg.cell (hc i hi) (by intro e; exact hne b off hA (Option.some.inj e))⟩⟩
/-- Of a slice that lay below block B nothing turns when all below B stays. -/
theorem Rd.belowB {w0 : World} {B : Nat} (h0 : Rd k w0 A n c f) (hB : w0.heap.size ≤ B) (hb : Below B w0 w') : Rd k w' A n c f :=
  h0.keep fun _ hp => hb.cell (Nat.lt_of_lt_of_le hp hB)
theorem Rd.block (h : Rd k w A n c f) (hn : 0 < n) : ∃ b off, A = some ⟨b, off, none⟩ ∧ b < w.heap.size ∧ ∀ i, i < n → w.cell? ⟨b, off + i, none⟩ = some (.int k (f i)) := by
  obtain ⟨b, off, hA, hc⟩ := h.2.2.2 hn
  exact ⟨b, off, hA, World.block_lt_of_cell? w _ (hc 0 hn), hc⟩
theorem Rd.at_ (h : Rd k w A n c f) {i : Nat} (hi : i < n) : ∃ b off, A = some ⟨b, off, none⟩ ∧ w.cell? ⟨b, off + i, none⟩ = some (.int k (f i)) := by
  obtain ⟨b, off, hA, hc⟩ := h.2.2.2 (by omega)
  exact ⟨b, off, hA, hc i hi⟩
/-- s[lo:hi]. -/
theorem Rd.cut (h : Rd k w A n c f) {lo hi : Nat} (h1 : lo ≤ hi) (h2 : hi ≤ n) :
    Rd k w (if c = lo then A else A.map (·.add (lo * 1))) (hi - lo) (c - lo) (fun i => f (lo + i)) := by
  obtain ⟨a1, a2, a3, a4⟩ := h
  refine ⟨by omega, by omega, fun e => ?_, fun hn => ?_⟩
  · split at e
    · have := a3 e; omega
    · have hA : A = none := by simpa using e
      have := a3 hA; omega
  · obtain ⟨b, off, hA, hc⟩ := a4 (by omega)
    refine ⟨b, off + lo, ?_, fun i hi' => ?_⟩
    · rw [if_neg (by omega), hA]
      simp [Addr.add_lit]
    · have := hc (lo + i) (by omega)
      rw [← Nat.add_assoc] at this
      exact this
/-- s[lo:hi], written by the walk at the address of a slice that is there. -/
theorem Rd.cutAt {b off : Nat} (h : Rd k w (some ⟨b, off, none⟩) n c f) {lo hi : Nat} (h1 : lo ≤ hi) (h2 : hi ≤ n) :
    Rd k w (some ⟨b, if c = lo then off else off + lo, none⟩) (hi - lo) (c - lo) (fun i => f (lo + i)) := by
  have := h.cut h1 h2
  by_cases e : c = lo
  · simpa [e] using this
  · simpa [e, Addr.add_lit] using this
theorem Rd.take (h : Rd k w A n c f) {m : Nat} (hm : m ≤ n) : Rd k w A m c f :=
  ⟨by have := h.1; omega, h.2.1, h.2.2.1, fun hn => by
    obtain ⟨b, off, hA, hc⟩ := h.2.2.2 (by omega)
    exact ⟨b, off, hA, fun i hi => hc i (by omega)⟩⟩
end

/-- A row that the call itself made: its value, its n numbers. -/
def Own (k : IntKind) (e : TypeId) (B : Nat) (w : World) (v : Value) (n : Nat) (f : Nat → Int) : Prop := w.ownsRow B e 1 v n (row k n f)

section
variable {k : IntKind} {e : TypeId} {B : Nat} {w w' : World} {v : Value} {n : Nat} {f g : Nat → Int}

theorem Own.nil (k : IntKind) (e : TypeId) (B : Nat) (w : World) (f : Nat → Int) : Own k e B w (.slice none 0 0) 0 f := World.ownsRow_nil w B e 1
theorem Own.congr (h : Own k e B w v n f) (hfg : ∀ i, i < n → f i = g i) : Own k e B w v n g := by
  unfold Own at *
  rw [← row_congr k hfg]
  exact h
theorem Own.alloc (h : Own k e B w v n f) (o : Obj) : Own k e B (w.alloc o) v n f := World.ownsRow.alloc h o
theorem Own.drew (h : Own k e B w v n f) : Own k e B w.drew v n f := h
theorem Own.below (h : Own k e B w v n f) (hb : Below w.heap.size w w') : Own k e B w' v n f :=
  World.ownsRow.kept (row := none) h ⟨hb.os, hb.tape, hb.output, hb.size, fun j hj _ => hb.block j hj⟩ (by cases v.ownBlock <;> simp)
/-- The value's form, and that it can be read. -/
theorem Own.rd (h : Own k e B w v n f) : ∃ A c, v = .slice A n c ∧ Rd k w A n c f ∧ (∀ a, A = some a → B ≤ a.block ∧ a.block < w.heap.size ∧ a.off = 0 ∧ a.spot = none) := by
  unfold Own at h
  rcases h.2 with ⟨rfl, rfl⟩ | ⟨b, cap, cur, rfl, hB, hh, hnc, hcm, hsz, htake⟩
  · exact ⟨none, 0, rfl, Rd.nil _ _ _, fun a ha => by cases ha⟩
  · have hlt := (h.lt b rfl).2
    refine ⟨_, _, rfl, ⟨hnc, hcm, fun e => (by cases e), fun hn => ⟨b, 0, rfl, fun i hi => ?_⟩⟩, fun a ha => ?_⟩
    · have hc := World.ownsRow.cellAt h i (by omega)
      rw [row_get _ _ _ _ hi] at hc
      simpa using hc
    · obtain rfl := Option.some.inj ha
      exact ⟨hB, hlt, rfl, rfl⟩
theorem Own.frozen {b c : Nat} (h : Own k e B w (.slice (some ⟨b, 0, none⟩) n c) n f) (j : Nat) : w.frozen? ⟨b, j, none⟩ = false := World.ownsRow.frozenAt h j
theorem Own.cell {b c : Nat} (h : Own k e B w (.slice (some ⟨b, 0, none⟩) n c) n f) {j : Nat} (hj : j < n) : w.cell? ⟨b, j, none⟩ = some (.int k (f j)) := by
  have hc := World.ownsRow.cellAt h j (by omega)
  rw [row_get _ _ _ _ hj] at hc
  exact hc
theorem Own.set {b c : Nat} (h : Own k e B w (.slice (some ⟨b, 0, none⟩) n c) n f) (j : Nat) (x : Int) :
    Own k e B (w.setCell ⟨b, j, none⟩ (.int k x)) (.slice (some ⟨b, 0, none⟩) n c) n (setF f j x) := by
  unfold Own at *
  rw [← row_set]
  exact (World.ownsRow.stored h j _).1
end

/-- A literal's block. -/
theorem Own.lit (k : IntKind) (e : TypeId) (B : Nat) (w : World) (f : Nat → Int) (cs : Array Value) (n : Nat) (hB : B ≤ w.heap.size) (hn : n ≤ maxLen) (h : cs.toList = row k n f) :
    Own k e B (w.alloc (.cells cs e)) (.slice (some ⟨w.heap.size, 0, none⟩) n n) n f := by
  have := World.ownsRow_lit (w := w) (base := B) (e := e) (size := 1) cs n hB hn (by rw [← Array.length_toList, h, row_len]; omega)
  rw [h] at this
  exact this

/-- A literal of one element. -/
theorem Rd.one (k : IntKind) (e : TypeId) (w : World) (x : Int) : Rd k (w.alloc (.cells #[.int k x] e)) (some ⟨w.heap.size, 0, none⟩) 1 1 (oneF x) := by
  obtain ⟨A, c, e1, h, _⟩ := (Own.lit k e 0 w (oneF x) #[.int k x] 1 (Nat.zero_le _) (by simp [maxLen]) rfl).rd
  injection e1 with e1 _ e2
  subst e1
  subst e2
  exact h

section
variable {P : Program} {k : IntKind} {e : TypeId} {w : World} {ops : Array Oper} {rest : List Oper} {o : Oper} {a : Act} {Q : Exit → Act → World → Prop}

/-- append(s, x...): s a row of the call's own, x whatever can be read (nil, empty, or not). -/
theorem run_app (t ty : TypeId) (i : TypeInfo) (z : Int) (bytes : Nat) (ht : P.underlying t = some (.slice e)) (hi : P.info? e = some i) (hz : i.zero = some (.int k z)) (hsize : i.size = 1) (hby : i.bytes = bytes)
    (B : Nat) (v : Value) (n : Nat) (f : Nat → Int) (hown : Own k e B w v n f) (A : Option Addr) (m c : Nat) (g : Nat → Int) (hr : Rd k w A m c g)
    (h63 : n + m ≤ maxLen) (hbytes : (n + m) * bytes ≤ 140737488355328) (hbase : B ≤ w.heap.size) :
    ∃ v' w', (Builtin.append_ #[t, t] ty #[v, .slice A m c]).run P w = .ok v' w' ∧ Own k e B w' v' (n + m) (catF n f g) ∧ w.grownBy w' v.ownBlock := by
  rcases A with _ | ad
  · obtain ⟨h1, h2, h3, _⟩ := hr
    obtain rfl : c = 0 := h3 rfl
    obtain rfl : m = 0 := by omega
    refine ⟨v, w, run_append_owned_none w B t ty e i 1 ht hi v n _ hown, ?_, World.grownBy.refl _ _⟩
    refine Own.congr (f := f) (by simpa using hown) fun j hj => ?_
    have : j < n := by omega
    simp [catF, this]
  · have hcells : ∀ j u, (row k m g)[j]? = some u → w.cell? (ad.add j) = some u := by
      intro j u hu
      obtain ⟨hj, rfl⟩ := row_get_some hu
      obtain ⟨b, off, hA, hc⟩ := hr.at_ hj
      obtain rfl := Option.some.inj hA
      rw [Addr.add_lit]
      exact hc
    obtain ⟨v', w', hrun, h2, h3, _⟩ := run_append_own (P := P) w B t ty e i (.int k z) 1 bytes ht hi hz hsize hby rfl (by omega) v n (row k n f) hown ad m c (row k m g) (by rw [row_len]; omega) hcells (row_one k m g) h63 hbytes hbase
    exact ⟨v', w', hrun, by unfold Own; rw [← row_cat]; exact h2, h3⟩

theorem wp_app (hgd : o.guard = none) (s x : Operand) (t : TypeId) (ho : o.op = .call { callee := .builtin .append, args := #[s, x], argTypes := #[t, t] })
    (i : TypeInfo) (z : Int) (bytes : Nat) (ht : P.underlying t = some (.slice e)) (hi : P.info? e = some i) (hz : i.zero = some (.int k z)) (hsize : i.size = 1) (hby : i.bytes = bytes)
    (B : Nat) (v : Value) (n : Nat) (f : Nat → Int) (hs : a.eval s = v) (hown : Own k e B w v n f) (A : Option Addr) (m c : Nat) (g : Nat → Int) (hx : a.eval x = .slice A m c) (hr : Rd k w A m c g)
    (h63 : n + m ≤ maxLen) (hbytes : (n + m) * bytes ≤ 140737488355328) (hbase : B ≤ w.heap.size)
    (h : ∀ v' w', Own k e B w' v' (n + m) (catF n f g) → w.grownBy w' v.ownBlock → wpList P ops Q rest (a.put o.dst v') w') : wpList P ops Q (o :: rest) a w := by
  refine wpList_plain hgd fun K hK => ?_
  obtain ⟨v', w', hrun, h2, h3⟩ := run_app (P := P) t o.type i z bytes ht hi hz hsize hby B v n f hown A m c g hr h63 hbytes hbase
  unfold Oper.wp execOp
  simp only [ho, resolve, invoke, builtin, Sem.run_bind, Sem.run_pure, Result.andThen_ok, List.map_toArray, List.map_cons, List.map_nil, hs, hx, hrun]
  exact hK _ _ (h v' w' h2 h3)

/-- make([]T, n). -/
theorem wp_mk (hgd : o.guard = none) (l c : Operand) (t : TypeId) (hop : o.op = Op.makeSlice t l c)
    (i : TypeInfo) (z : Int) (bytes : Nat) (ht : P.underlying t = some (.slice e)) (hi : P.info? e = some i) (hz : i.zero = some (.int k z)) (hsize : i.size = 1) (hby : i.bytes = bytes)
    (B : Nat) (kl kc : IntKind) (L C : Int) (n : Nat) (hl : a.eval l = .int kl L) (hc : a.eval c = .int kc C) (hL : L = (n : Int)) (hC : C = (n : Int)) (b2 : bytes * n ≤ 281474976710656) (b3 : n ≤ maxLen) (b4 : B ≤ w.heap.size)
    (hK : ∀ w', Own k e B w' (.slice (some ⟨w.heap.size, 0, none⟩) n n) n (oneF z) → w.grownBy w' none → w'.heap.size = w.heap.size + 1 → wpList P ops Q rest (a.put o.dst (.slice (some ⟨w.heap.size, 0, none⟩) n n)) w') :
    wpList P ops Q (o :: rest) a w := by
  refine wpList_plain hgd fun K hK' => ?_
  subst hL
  subst hC
  have hb : (i.bytes : Int) * (n : Int) ≤ 281474976710656 := by
    rw [hby]
    have h : ((bytes * n : Nat) : Int) ≤ 281474976710656 := by omega
    rwa [Int.natCast_mul] at h
  have hr := run_make (P := P) w t e i (.int k z) ht hi hz kl kc n n (by omega) (by omega) hb (by simp only [maxLen] at b3; omega)
  simp only [Int.toNat_natCast] at hr
  have hrow : (madeCells (Value.int k z).cells (n * i.size)).toList = row k n (oneF z) := by
    rw [hsize]
    simp [madeCells, row, oneF, Value.cells, Nat.mod_one]
  have h1 := Own.lit k e B w (oneF z) (madeCells (Value.int k z).cells (n * i.size)) n b4 b3 hrow
  unfold Oper.wp
  simp [execOp, hop, hl, hc, hr, Result.andThen]
  exact hK' _ _ (hK _ h1 (World.grownBy_alloc w _ none) (by simp))

/-- copy(d, s): d a whole row of the call's own, s no longer than d. -/
theorem run_copy_front (dT sT ty elem : TypeId) (hu : P.underlying dT = some (.slice elem)) (hsz : (P.info? elem).map (·.size) = some 1)
    (B g n cap : Nat) (f : Nat → Int) (hown : Own k elem B w (.slice (some ⟨g, 0, none⟩) n cap) n f) (A : Option Addr) (m c : Nat) (h : Nat → Int) (hr : Rd k w A m c h) (hmn : m ≤ n) :
    ∃ w', (Builtin.copy_ #[dT, sT] ty #[.slice (some ⟨g, 0, none⟩) n cap, .slice A m c]).run P w = .ok (goInt m) w' ∧
      Own k elem B w' (.slice (some ⟨g, 0, none⟩) n cap) n (catF m h (fun j => f (m + j))) ∧ w.grownBy w' (some g) := by
  have hmin : Nat.min m n = m := Nat.min_eq_left hmn
  by_cases h0 : m = 0
  · subst h0
    refine ⟨w, run_copy_none w dT sT ty elem _ A n cap 0 c hu hsz (by simp), hown.congr fun j _ => ?_, World.grownBy.refl _ _⟩
    simp [catF]
  · obtain ⟨b, off, rfl, _, hcell⟩ := hr.block (by omega)
    rcases hown.2 with ⟨e, _⟩ | ⟨g', cap', cur, e, hB, hh, hnc, hcm, hcs, htake⟩
    · cases e
    · simp only [Value.slice.injEq, Option.some.injEq, Addr.mk.injEq, and_true, true_and] at e
      obtain ⟨rfl, rfl⟩ := e
      have hl : (row k m h).length = m := row_len k m h
      have hrun := run_copy_row (P := P) w dT sT ty elem g 0 n cap ⟨b, off, none⟩ m c cur elem (row k m h) hu hsz hh (by rw [hl, hmin])
        (fun j v hj => by
          obtain ⟨hj', rfl⟩ := row_get_some hj
          rw [Addr.add_lit]
          exact hcell j hj') (by rw [hl, hcs]; omega) (row_one k m h)
      rw [hl] at hrun
      refine ⟨_, hrun, ⟨by rw [row_len]; omega, .inr ⟨g, cap, _, rfl, hB, setRow_heap w g cur _ elem _ hh, hnc, hcm, ?_, ?_⟩⟩, ⟨rfl, rfl, rfl, by simp [World.setRow], fun i _ hi => setRow_other w g i _ (fun e => hi (by simp [e]))⟩⟩
      · simp only [List.size_toArray, List.length_append, List.length_take, List.length_drop, Array.length_toList, hl]
        omega
      · have htl : cur.toList.take n = row k n f := by simpa using htake
        refine List.ext_getElem? fun i => ?_
        rw [List.getElem?_take]
        by_cases hi : i < n
        · rw [if_pos (by omega), row_get k n _ i hi]
          have h2 : cur.toList[i]? = some (.int k (f i)) := by
            have h3 := congrArg (fun l => l[i]?) htl
            simp only [List.getElem?_take, if_pos hi] at h3
            rw [h3, row_get k n f i hi]
          by_cases him : i < m
          · simp only [List.take_zero, List.nil_append, List.getElem?_append, hl, him, if_true, row_get k m h i him, catF]
          · have e3 : m + (i - m) = i := by omega
            simp only [List.take_zero, List.nil_append, List.getElem?_append, hl, him, if_false, catF, List.getElem?_drop, Nat.zero_add, e3, h2]
        · rw [if_neg (by omega), List.getElem?_eq_none (by rw [row_len]; omega)]

theorem wp_copy (hgd : o.guard = none) (d s : Operand) (dT sT elem : TypeId) (ho : o.op = .call { callee := .builtin .copy, args := #[d, s], argTypes := #[dT, sT] })
    (hu : P.underlying dT = some (.slice elem)) (hsz : (P.info? elem).map (·.size) = some 1)
    (B g n cap : Nat) (f : Nat → Int) (hd : a.eval d = .slice (some ⟨g, 0, none⟩) n cap) (hown : Own k elem B w (.slice (some ⟨g, 0, none⟩) n cap) n f)
    (A : Option Addr) (m c : Nat) (h : Nat → Int) (hs : a.eval s = .slice A m c) (hr : Rd k w A m c h) (hmn : m ≤ n)
    (hK : ∀ w', Own k elem B w' (.slice (some ⟨g, 0, none⟩) n cap) n (catF m h (fun j => f (m + j))) → w.grownBy w' (some g) → wpList P ops Q rest (a.put o.dst (goInt m)) w') :
    wpList P ops Q (o :: rest) a w := by
  refine wpList_plain hgd fun K hK' => ?_
  obtain ⟨w', hrun, h2, h3⟩ := run_copy_front (P := P) dT sT o.type elem hu hsz B g n cap f hown A m c h hr hmn
  unfold Oper.wp
  simp [execOp, ho, resolve, invoke, builtin, hd, hs, hrun, Result.andThen]
  exact hK' _ _ (hK w' h2 h3)
end
end

section
open Go.RowKit Go.ChangeShapes Go.WideShapes Go.Deep

/-- The slice reads as the structs (f i, g i), i < n. -/
def Rd2 (w : World) (A : Option Addr) (n c : Nat) (f g : Nat → Int) : Prop :=
  n ≤ c ∧ c ≤ maxLen ∧ (A = none → c = 0) ∧ (0 < n → ∃ b off, A = some ⟨b, off, none⟩ ∧ ∀ i, i < n → w.cell? ⟨b, off + i * 2, none⟩ = some (.int .i64 (f i)) ∧ w.cell? ⟨b, off + i * 2 + 1, none⟩ = some (.int .i64 (g i)))
def Wf64 (n : Nat) (f : Nat → Int) : Prop := ∀ i, i < n → -9223372036854775808 ≤ f i ∧ f i ≤ 9223372036854775807
theorem Rd2.below {w w' : World} {A : Option Addr} {n c : Nat} {f g : Nat → Int} (h : Rd2 w A n c f g) (hb : Below w.heap.size w w') : Rd2 w' A n c f g :=
  ⟨h.1, h.2.1, h.2.2.1, fun hn => by
    obtain ⟨b, off, hA, hc⟩ := h.2.2.2 hn
    exact ⟨b, off, hA, fun i hi => by
      have h1 := (hc i hi).1
      have h2 := (hc i hi).2
      rw [hb.cell (World.block_lt_of_cell? w _ h1), hb.cell (World.block_lt_of_cell? w _ h2)]
      exact ⟨h1, h2⟩⟩⟩
theorem Rd2.at_ {w : World} {A : Option Addr} {n c : Nat} {f g : Nat → Int} (h : Rd2 w A n c f g) {i : Nat} (hi : i < n) :
    ∃ b off, A = some ⟨b, off, none⟩ ∧ w.cell? ⟨b, off + i * 2, none⟩ = some (.int .i64 (f i)) ∧ w.cell? ⟨b, off + i * 2 + 1, none⟩ = some (.int .i64 (g i)) := by
  obtain ⟨b, off, hA, hc⟩ := h.2.2.2 (by omega)
  exact ⟨b, off, hA, hc i hi⟩

section
variable {H : Type} {enc : TypeId × Value → H} {P : Program} {w : World} {base : Nat} {spare : Nat → Bool} {held : Bool}
theorem rd2_of {t e : TypeId} {f0 f1 : Field} {fuel : Nat} {a : Option Addr} {len cap : Nat} {x : DataW H × List MemPlace} (ht : P.underlying t = some (.slice e)) (he : P.underlying e = some (.struct #[f0, f1]))
    (hC : P.cellsOf e = 2) (o0 : f0.offset = 0) (o1 : f1.offset = 1) (k0 : P.cellsOf f0.type = 1) (k1 : P.cellsOf f1.type = 1) (u0 : P.underlying f0.type = some (.int .i64)) (u1 : P.underlying f1.type = some (.int .i64))
    (h : DataW.trod enc P w base spare held fuel t [.slice a len cap] = some x) : ∃ f g, Rd2 w a len cap f g ∧ Wf64 len f ∧ Wf64 len g := by
  rcases open_slice ht h with ⟨hcs, _⟩ | ⟨ad, l, c, m, n, D, Pl, hcs, _, hl, hm, hmm, _, hi⟩
  · simp at hcs
    obtain ⟨rfl, rfl, rfl⟩ := hcs
    exact ⟨fun _ => 0, fun _ => 0, ⟨Nat.le_refl _, by simp [maxLen], fun _ => rfl, fun h => absurd h (by omega)⟩, fun i hi => by omega, fun i hi => by omega⟩
  · simp at hcs
    obtain ⟨rfl, rfl, rfl⟩ := hcs
    have hlm : len ≤ m := by rw [hmm]; split <;> omega
    have key : ∀ i, i < len → ∃ p : Int × Int, (w.cell? (ad.add (i * 2)) = some (.int .i64 p.1) ∧ w.cell? ((ad.add (i * 2)).add 1) = some (.int .i64 p.2)) ∧ (Lit.int .i64 p.1).wf = true ∧ (Lit.int .i64 p.2).wf = true := by
      intro i him
      obtain ⟨cs', hc, ht'⟩ := hi i (by omega)
      rw [hC] at hc
      obtain ⟨_, hcl, hat⟩ := World.cells?_some hc
      obtain ⟨ys, n', _, _, _, hyl, hf⟩ := DataW.trod_struct he ht'
      match cs', hcl, hat, ys, hyl, hf with
      | [q0, q1], _, hat, [ya, yb], _, hf =>
        have a0 := hf 0 f0 rfl
        have a1 := hf 1 f1 rfl
        rw [o0, k0] at a0
        rw [o1, k1] at a1
        obtain ⟨v0, e0, _, w0⟩ := DataW.trod_int u0 (show DataW.trod enc P w base spare held n' f0.type [q0] = some ya from a0)
        obtain ⟨v1, e1, _, w1⟩ := DataW.trod_int u1 (show DataW.trod enc P w base spare held n' f1.type [q1] = some yb from a1)
        simp at e0 e1
        subst e0
        subst e1
        have h0 := hat 0 (by omega)
        have h1 := hat 1 (by omega)
        refine ⟨(v0, v1), ⟨?_, by simpa using h1⟩, w0, w1⟩
        have e : (ad.add (i * 2)).add 0 = ad.add (i * 2) := by simp [Addr.add]
        rw [e] at h0
        simpa using h0
    obtain ⟨F, hF⟩ := choose_lt key
    refine ⟨fun i => (F i).1, fun i => (F i).2, ⟨hl, hm, fun e => (by cases e), fun hn => ?_⟩, fun i hi => ?_, fun i hi => ?_⟩
    · obtain ⟨b, off, spot⟩ := ad
      have h0 := (hF 0 hn).1.1
      have hs : spot = none := by simpa [Addr.add] using World.cell?_spot h0
      subst hs
      refine ⟨b, off, rfl, fun i hi => ?_⟩
      have := (hF i hi).1
      rw [Addr.add_lit, Addr.add_lit] at this
      exact this
    · have := bounds_i64 (hF i hi).2.1
      show -9223372036854775808 ≤ (F i).1 ∧ (F i).1 ≤ 9223372036854775807
      omega
    · have := bounds_i64 (hF i hi).2.2
      show -9223372036854775808 ≤ (F i).2 ∧ (F i).2 ≤ 9223372036854775807
      omega
end
end

section
open Go.RowKit

/-- Have both slices the same numbers? -/
def sameB (n m : Nat) (f g : Nat → Int) : Bool := decide (n = m ∧ ∀ i, i < n → f i = g i)
theorem sameB_yes {n m : Nat} {f g : Nat → Int} (h : n = m) (hf : ∀ i, i < n → f i = g i) : sameB n m f g = true := decide_eq_true ⟨h, hf⟩
theorem sameB_no {n m : Nat} {f g : Nat → Int} (h : ¬ (n = m ∧ ∀ i, i < n → f i = g i)) : sameB n m f g = false := decide_eq_false h
theorem sameB_of {n m : Nat} {f g : Nat → Int} (h : sameB n m f g = true) : n = m ∧ ∀ i, i < n → f i = g i := of_decide_eq_true h

def Drawn (w w' : World) : Prop := ∃ q, w' = w.drewN q
theorem Drawn.refl (w : World) : Drawn w w := ⟨0, rfl⟩
theorem Drawn.trans {a b c : World} (h : Drawn a b) (k : Drawn b c) : Drawn a c := by
  obtain ⟨p, rfl⟩ := h
  obtain ⟨q, rfl⟩ := k
  exact ⟨p + q, by rw [World.drewN_drewN]⟩
theorem Drawn.of (w : World) (q : Nat) : Drawn w (w.drewN q) := ⟨q, rfl⟩
theorem drawn_below {w w' : World} (h : Drawn w w') (B : Nat) : Below B w w' := by
  obtain ⟨q, rfl⟩ := h
  exact ⟨rfl, rfl, rfl, Nat.le_refl _, fun _ _ => rfl⟩
theorem Rd.drawn {k : IntKind} {w w' : World} {A : Option Addr} {n c : Nat} {f : Nat → Int} (h : Rd k w A n c f) (hd : Drawn w w') : Rd k w' A n c f := h.below (drawn_below hd _)
theorem Drawn.more {w w1 : World} (h : Drawn w w1) (q : Nat) : Drawn w (w1.drewN q) := by
  obtain ⟨p, rfl⟩ := h
  exact ⟨p + q, by rw [World.drewN_drewN]⟩

set_option maxHeartbeats 400000 in
theorem rsame_any (A C : Option Addr) (n m c d : Nat) (f g : Nat → Int) (w : World) (ha : Rd .u8 w A n c f) (hb : Rd .u8 w C m d g) :
    Calls Try.prog 23 #[.slice A n c, .slice C m d] w fun e w' => e = .returned (.bool (sameB n m f g)) ∧ Drawn w w' := by
  have hn : n ≤ 9223372036854775807 := by have h1 := ha.1; have h2 := ha.2.1; simp only [maxLen] at h2; omega
  by_cases hnm : n = m
  · subst hnm
    have Ha := hide ha
    have Hb := hide hb
    clear ha hb
    go_enter Try.func23, Try.ntmps23
    go_wp2
    go_loopw [5] (fun i wr => ∃ k : Nat, k ≤ n ∧ i = .int .i64 k ∧ (∀ j, j < k → f j = g j) ∧ Drawn w wr) (fun i _ => n - (intOf i).toNat)
    case atStart => exact ⟨0, Nat.zero_le _, rfl, fun j hj => absurd hj (by omega), Drawn.refl _⟩
    case round =>
      obtain ⟨k, hk, rfl, hfg, q, rfl⟩ := hrel
      have Hfg := hide hfg
      clear hfg
      by_cases hlt : k < n
      · obtain ⟨b, off, rfl, hca⟩ := Ha.out.at_ hlt
        obtain ⟨b', off', rfl, hcb⟩ := Hb.out.at_ hlt
        by_cases he : f k = g k
        · have het : (f k != g k) = false := by simp [he]
          have He := hide he
          clear he
          go_wp2
          go_quiet (fail)
          go_wp2
          go_roundw
          case rel => exact ⟨k + 1, by omega, by go_num, fun j hj => (by
            by_cases hjk : j = k
            · subst hjk; exact He.out
            · exact Hfg.out j (by omega)), _, rfl⟩
          case measure => simp [intOf]; omega
        · have het : (f k != g k) = true := by simp [he]
          have hs : sameB n n f g = false := sameB_no fun h => he (h.2 k hlt)
          have Hs := hide hs
          clear hs he
          go_wp2
          go_quiet (fail)
          go_wp2
          go_ret
          exact ⟨by rw [Hs.out]; rfl, Drawn.more ⟨q, rfl⟩ _⟩
      · obtain rfl : k = n := by omega
        have hs : sameB k k f g = true := sameB_yes rfl Hfg.out
        have Hs := hide hs
        clear hs
        go_wp2
        go_ret
        exact ⟨by rw [Hs.out]; rfl, _, rfl⟩
  · have hs : sameB n m f g = false := sameB_no fun h => hnm h.1
    have Hs := hide hs
    have h1 : ((n : Int) != (m : Int)) = true := by simp; omega
    clear hs hnm
    go_enter Try.func23, Try.ntmps23
    go_wp2
    go_ret
    exact ⟨by rw [Hs.out]; rfl, Drawn.refl _⟩
end

section
open Go.RowKit

/-! ### power -/
set_option maxHeartbeats 400000 in
theorem pow_any (n r : Int) (w : World) (h : (n = 0 ∧ r = 1) ∨ (n = 1 ∧ r = 256) ∨ (n = 2 ∧ r = 65536) ∨ (n = 3 ∧ r = 16777216) ∨ (n = 4 ∧ r = 4294967296)) :
    Calls Try.prog 142 #[.int .i64 n] w fun e w' => e = .returned (.int .i64 r) ∧ w = w' := by
  rcases h with ⟨rfl, rfl⟩ | ⟨rfl, rfl⟩ | ⟨rfl, rfl⟩ | ⟨rfl, rfl⟩ | ⟨rfl, rfl⟩
  all_goals
    go_enter Try.func142, Try.ntmps142
    go_wp2
    go_rounds 5
    go_ret
    exact ⟨rfl, rfl⟩

/-! ### numbers of the first bytes -/
/-- The number of the first bytes. -/
def num (f : Nat → Int) : Nat → Int
  | 0 => 0
  | k + 1 => num f k * 256 + f k
theorem num_bd {f : Nat → Int} {n : Nat} (hb : Byt n f) (k : Nat) (hk : k ≤ n) (h4 : k ≤ 4) : 0 ≤ num f k ∧ num f k < 256 ^ k := by
  rcases k with _ | _ | _ | _ | _ | k
  · simp [num]
  · have := hb 0 (by omega); simp [num]; omega
  · have := hb 0 (by omega); have := hb 1 (by omega); simp [num]; omega
  · have := hb 0 (by omega); have := hb 1 (by omega); have := hb 2 (by omega); simp [num]; omega
  · have := hb 0 (by omega); have := hb 1 (by omega); have := hb 2 (by omega); have := hb 3 (by omega); simp [num]; omega
  · omega
def getE (n : Nat) (size : Int) : Int := if size < 1 ∨ 4 < size then 1 else if (n : Int) < size then 3 else 0


/-! ### sizes -/
theorem size_yes (s : Int) (w : World) (h1 : 1 ≤ s) (h2 : s ≤ 4) : Calls Try.prog 170 #[.int .i64 s] w fun e w' => e = .returned (.bool true) ∧ w = w' := by
  have hd : decide (s ≤ 4) = true := by simpa using h2
  have hd1 : decide (1 ≤ s) = true := by simpa using h1
  go_enter Try.func170, Try.ntmps170
  go_wp2
  go_ret
  exact ⟨rfl, rfl⟩
theorem size_no (s : Int) (w : World) (h : s < 1 ∨ 4 < s) : Calls Try.prog 170 #[.int .i64 s] w fun e w' => e = .returned (.bool false) ∧ w = w' := by
  rcases h with h | h
  · have hd : decide (1 ≤ s) = false := by simpa using h
    go_enter Try.func170, Try.ntmps170
    go_wp2
    go_ret
    exact ⟨rfl, rfl⟩
  · have hd : decide (s ≤ 4) = false := by simpa using h
    have hd1 : decide (1 ≤ s) = true := by simp; omega
    go_enter Try.func170, Try.ntmps170
    go_wp2
    go_ret
    exact ⟨rfl, rfl⟩
/-- 256 to the power of a size. -/
def pw (s : Int) : Int := if s = 1 then 256 else if s = 2 then 65536 else if s = 3 then 16777216 else 4294967296
theorem pw_cases {s : Int} (h1 : 1 ≤ s) (h2 : s ≤ 4) : (s = 1 ∧ pw s = 256) ∨ (s = 2 ∧ pw s = 65536) ∨ (s = 3 ∧ pw s = 16777216) ∨ (s = 4 ∧ pw s = 4294967296) := by
  unfold pw
  have : s = 1 ∨ s = 2 ∨ s = 3 ∨ s = 4 := by omega
  rcases this with rfl | rfl | rfl | rfl <;> simp
theorem pow_size (s : Int) (w : World) (h1 : 1 ≤ s) (h2 : s ≤ 4) : Calls Try.prog 142 #[.int .i64 s] w fun e w' => e = .returned (.int .i64 (pw s)) ∧ w = w' :=
  pow_any s (pw s) w (by have := pw_cases h1 h2; omega)
set_option maxHeartbeats 400000 in
theorem fits_yes (n s : Int) (w : World) (h1 : 1 ≤ s) (h2 : s ≤ 4) (h0 : 0 ≤ n) (h : n < pw s) : Calls Try.prog 169 #[.int .i64 n, .int .i64 s] w fun e w' => e = .returned (.bool true) ∧ w = w' := by
  have hd1 : decide (0 ≤ n) = true := by simpa using h0
  rcases pw_cases h1 h2 with ⟨rfl, hp⟩ | ⟨rfl, hp⟩ | ⟨rfl, hp⟩ | ⟨rfl, hp⟩
  all_goals
    rw [hp] at h
    clear hp h1 h2
    go_enter Try.func169, Try.ntmps169
    go_wp2
    go_ret
    refine ⟨?_, rfl⟩
    simp [h]
set_option maxHeartbeats 400000 in
theorem fits_no (n s : Int) (w : World) (h1 : 1 ≤ s) (h2 : s ≤ 4) (h : n < 0 ∨ pw s ≤ n) : Calls Try.prog 169 #[.int .i64 n, .int .i64 s] w fun e w' => e = .returned (.bool false) ∧ w = w' := by
  by_cases h0 : 0 ≤ n
  · have h' : pw s ≤ n := by omega
    clear h
    have hd1 : decide (0 ≤ n) = true := by simpa using h0
    rcases pw_cases h1 h2 with ⟨rfl, hp⟩ | ⟨rfl, hp⟩ | ⟨rfl, hp⟩ | ⟨rfl, hp⟩
    all_goals
      rw [hp] at h'
      clear hp h1 h2
      go_enter Try.func169, Try.ntmps169
      go_wp2
      go_ret
      refine ⟨?_, rfl⟩
      simp [h']
  · have hd1 : decide (0 ≤ n) = false := by simpa using h0
    clear h h0
    go_enter Try.func169, Try.ntmps169
    go_wp2
    go_ret
    exact ⟨rfl, rfl⟩
end

section
open Go.RowKit

theorem ofInt_i64n (a : Nat) (ha : a < 9223372036854775808) : (BitVec.ofInt 64 (a : Int)).toNat = a := by
  rw [BitVec.ofInt_natCast, BitVec.toNat_ofNat]; exact Nat.mod_eq_of_lt (by omega)
/-- A number shifted by a byte, and a byte: their bits don't meet. -/
theorem or_byte {v c : Int} (h0 : 0 ≤ v) (h1 : v < 16777216) (h2 : 0 ≤ c) (h3 : c ≤ 255) : bits .or .i64 (v * 256) c = v * 256 + c := by
  obtain ⟨a, rfl⟩ := Int.eq_ofNat_of_zero_le h0
  obtain ⟨b, rfl⟩ := Int.eq_ofNat_of_zero_le h2
  have hn : a * 256 ||| b = a * 256 + b := by
    have : a * 256 = 2 ^ 8 * a := by omega
    rw [this, Nat.two_pow_add_eq_or_of_lt (by omega)]
  have hx : a * 256 ||| b < 2 ^ 63 := by rw [hn]; omega
  show IntKind.i64.wrap ((BitVec.ofInt 64 ((a : Int) * 256) ||| BitVec.ofInt 64 (b : Int)).toNat : Int) = _
  rw [BitVec.toNat_or, show ((a : Int) * 256) = ((a * 256 : Nat) : Int) by omega, ofInt_i64n _ (by omega), ofInt_i64n b (by omega), hn, IntKind.wrap_i64]
  omega

set_option maxHeartbeats 400000 in
theorem get_bad (A : Option Addr) (n c : Nat) (size : Int) (w : World) (hn : n ≤ 9223372036854775807) (h : getE n size ≠ 0) :
    Calls Try.prog 166 #[.slice A n c, .int .i64 size] w fun e w' => e = .returned (.tuple #[.int .i64 0, .int .i64 (getE n size)]) ∧ w = w' := by
  by_cases h1 : size < 1 ∨ 4 < size
  · have H : Hid (getE n size = 1) := by simp [getE, h1, Hid]
    have H1 := hide h1
    clear h h1
    go_enter Try.func166, Try.ntmps166
    go_wp2_with (go_at_call 170; refine (size_no _ _ H1.out).mono ?_; rintro e w' ⟨rfl, rfl⟩)
    go_ret2
    exact ⟨by rw [H.out]; rfl, rfl⟩
  · have h1a : 1 ≤ size := by omega
    have h1b : size ≤ 4 := by omega
    have h3 : (n : Int) < size := by
      rcases Classical.em ((n : Int) < size) with h3 | h3
      · exact h3
      · exact absurd (by simp [getE, h1, h3]) h
    have H : Hid (getE n size = 3) := by simp [getE, h1, h3, Hid]
    clear h h1
    go_enter Try.func166, Try.ntmps166
    go_wp2_with (go_at_call 170; refine (size_yes _ _ h1a h1b).mono ?_; rintro e w' ⟨rfl, rfl⟩)
    go_ret2
    exact ⟨by rw [H.out]; rfl, rfl⟩

theorem num_lt {f : Nat → Int} {n : Nat} (hb : Byt n f) (k : Nat) (hk : k ≤ n) (h4 : k < 4) : 0 ≤ num f k ∧ num f k < 16777216 := by
  obtain ⟨a, b⟩ := num_bd hb k hk (by omega)
  have : k = 0 ∨ k = 1 ∨ k = 2 ∨ k = 3 := by omega
  rcases this with rfl | rfl | rfl | rfl <;> simp at b <;> omega

set_option maxHeartbeats 400000 in
theorem get_ok (A : Option Addr) (n c s : Nat) (f : Nat → Int) (w : World) (ha : Rd .u8 w A n c f) (hb : Byt n f) (h1 : 1 ≤ s) (h2 : s ≤ 4) (h3 : s ≤ n) :
    Calls Try.prog 166 #[.slice A n c, .int .i64 (s : Int)] w fun e w' => e = .returned (.tuple #[.int .i64 (num f s), .int .i64 0]) ∧ w = w' := by
  have hnc := ha.1
  have hc := ha.2.1
  simp only [maxLen] at hc
  obtain ⟨b, off, rfl, _⟩ := ha.at_ (i := 0) (by omega)
  have Ha := hide ha
  have Hb := hide hb
  clear ha hb
  go_enter Try.func166, Try.ntmps166
  go_wp2_with (go_at_call 170; refine (size_yes _ _ (by omega) (by omega)).mono ?_; rintro e w' ⟨rfl, rfl⟩)
  go_loop [6, 20] (fun v i => ∃ k : Nat, k ≤ s ∧ i = .int .i64 k ∧ v = .int .i64 (num f k)) (fun _ i => s - (intOf i).toNat)
  case atStart => exact ⟨0, Nat.zero_le _, rfl, rfl⟩
  case round =>
    obtain ⟨k, hk, rfl, rfl⟩ := hrel
    by_cases hlt : k < s
    · obtain ⟨b', off', hA, hcell⟩ := Ha.out.at_ (i := k) (by omega)
      obtain ⟨rfl, rfl⟩ : b = b' ∧ off = off' := by simpa using hA
      obtain ⟨q1, q2⟩ := num_lt Hb.out k (by omega) (by omega)
      obtain ⟨q3, q4⟩ := Hb.out k (by omega)
      have hor : bits .or .i64 (num f k * 256) (f k) = num f k * 256 + f k := or_byte q1 q2 q3 q4
      go_wp2
      go_round
      case rel => exact ⟨k + 1, by omega, by go_num, rfl⟩
      case measure => simp [intOf]; omega
    · obtain rfl : k = s := by omega
      go_wp2
      go_ret2
      exact ⟨rfl, rfl⟩

/-! ### its reference -/
set_option maxHeartbeats 400000 in
theorem rget_bad (A : Option Addr) (n c : Nat) (size : Int) (w : World) (hn : n ≤ 9223372036854775807) (h : getE n size ≠ 0) :
    Calls Try.prog 146 #[.slice A n c, .int .i64 size] w fun e w' => e = .returned (.tuple #[.int .i64 0, .int .i64 (getE n size)]) ∧ w = w' := by
  by_cases h1 : size < 1
  · have H : Hid (getE n size = 1) := by simp [getE, h1, Hid]
    have hd : decide (size < 1) = true := by simpa using h1
    clear h
    go_enter Try.func146, Try.ntmps146
    go_wp2
    go_ret2
    exact ⟨by rw [H.out]; rfl, rfl⟩
  have hd1 : decide (size < 1) = false := by simpa using h1
  by_cases h2 : 4 < size
  · have H : Hid (getE n size = 1) := by simp [getE, h2, Hid]
    have hd : decide (4 < size) = true := by simpa using h2
    clear h
    go_enter Try.func146, Try.ntmps146
    go_wp2
    go_ret2
    exact ⟨by rw [H.out]; rfl, rfl⟩
  · have hd2 : decide (4 < size) = false := by simpa using h2
    have h3 : (n : Int) < size := by
      rcases Classical.em ((n : Int) < size) with h3 | h3
      · exact h3
      · exact absurd (by simp [getE, h1, h2, h3]) h
    have H : Hid (getE n size = 3) := by simp [getE, h1, h2, h3, Hid]
    clear h
    go_enter Try.func146, Try.ntmps146
    go_wp2
    go_ret2
    exact ⟨by rw [H.out]; rfl, rfl⟩

/-- 256 to the power of k, for k up to 4. -/
def p2 (k : Nat) : Int := if k = 0 then 1 else if k = 1 then 256 else if k = 2 then 65536 else if k = 3 then 16777216 else 4294967296
theorem p2_succ (k : Nat) (h : k < 4) : p2 (k + 1) = 256 * p2 k := by
  have : k = 0 ∨ k = 1 ∨ k = 2 ∨ k = 3 := by omega
  rcases this with rfl | rfl | rfl | rfl <;> simp [p2]
theorem p2_cases (k : Nat) (h : k ≤ 4) : ((k : Int) = 0 ∧ p2 k = 1) ∨ ((k : Int) = 1 ∧ p2 k = 256) ∨ ((k : Int) = 2 ∧ p2 k = 65536) ∨ ((k : Int) = 3 ∧ p2 k = 16777216) ∨ ((k : Int) = 4 ∧ p2 k = 4294967296) := by
  have : k = 0 ∨ k = 1 ∨ k = 2 ∨ k = 3 ∨ k = 4 := by omega
  rcases this with rfl | rfl | rfl | rfl | rfl <;> simp [p2]
theorem step_num {f : Nat → Int} {k s : Nat} (h : k < s) (h4 : s ≤ 4) : num f k * p2 (s - k) + f k * p2 (s - 1 - k) = num f (k + 1) * p2 (s - (k + 1)) := by
  have e1 : s - k = (s - (k + 1)) + 1 := by omega
  have e2 : s - 1 - k = s - (k + 1) := by omega
  rw [e1, e2, p2_succ _ (by omega)]
  simp only [num, Int.add_mul, Int.mul_assoc]
theorem step_bd {f : Nat → Int} {n k s : Nat} (hb : Byt n f) (hn : s ≤ n) (h : k < s) (h4 : s ≤ 4) :
    0 ≤ num f k * p2 (s - k) ∧ num f k * p2 (s - k) ≤ 4294967296 ∧ 0 ≤ f k * p2 (s - 1 - k) ∧ f k * p2 (s - 1 - k) ≤ 4294967296 := by
  obtain ⟨q3, q4⟩ := hb k (by omega)
  obtain ⟨a, b⟩ := num_bd hb k (by omega) (by omega)
  have hs : s = 1 ∨ s = 2 ∨ s = 3 ∨ s = 4 := by omega
  have hk : k = 0 ∨ k = 1 ∨ k = 2 ∨ k = 3 := by omega
  rcases hs with rfl | rfl | rfl | rfl <;> rcases hk with rfl | rfl | rfl | rfl <;> first | omega | (simp [p2] at *; omega)

set_option maxHeartbeats 800000 in
theorem rget_ok (A : Option Addr) (n c s : Nat) (f : Nat → Int) (w : World) (ha : Rd .u8 w A n c f) (hb : Byt n f) (h1 : 1 ≤ s) (h2 : s ≤ 4) (h3 : s ≤ n) :
    Calls Try.prog 146 #[.slice A n c, .int .i64 (s : Int)] w fun e w' => e = .returned (.tuple #[.int .i64 (num f s), .int .i64 0]) ∧ Drawn w w' := by
  have hnc := ha.1
  have hc := ha.2.1
  simp only [maxLen] at hc
  have hd1 : decide ((s : Int) < 1) = false := by simp; omega
  have hd2 : decide (4 < (s : Int)) = false := by simp; omega
  have hd3 : decide (n < s) = false := by simp; omega
  obtain ⟨b, off, rfl, _⟩ := ha.at_ (i := 0) (by omega)
  have Ha := hide ha
  have Hb := hide hb
  clear ha hb
  go_enter Try.func146, Try.ntmps146
  go_wp2
  go_loopw [6, 7] (fun v i wr => ∃ k : Nat, k ≤ s ∧ i = .int .i64 k ∧ v = .int .i64 (num f k * p2 (s - k)) ∧ Drawn w wr) (fun _ i _ => s - (intOf i).toNat)
  case atStart => exact ⟨0, Nat.zero_le _, rfl, by simp [num], Drawn.refl _⟩
  case round =>
    obtain ⟨k, hk, rfl, rfl, hd⟩ := hrel
    by_cases hlt : k < s
    · obtain ⟨b', off', hA, hcell⟩ := (Ha.out.drawn hd).at_ (i := k) (by omega)
      obtain ⟨rfl, rfl⟩ : b = b' ∧ off = off' := by simpa using hA
      obtain ⟨q1, q2, q3, q4⟩ := step_bd Hb.out h3 hlt h2
      have Hs := hide (step_num (f := f) hlt h2)
      have hp := p2_cases (s - 1 - k) (by omega)
      have hcs : (((s - 1 - k : Nat) : Int)) = (s : Int) - 1 - (k : Int) := by omega
      rw [hcs] at hp
      have Hp := hide hp
      clear hp hcs
      have hkn : k < n := by omega
      have hw1 : IntKind.i64.wrap ((s : Int) - 1) = (s : Int) - 1 := IntWalk.i64_in _ (by omega)
      have hw2 : IntKind.i64.wrap ((s : Int) - 1 - (k : Int)) = (s : Int) - 1 - (k : Int) := IntWalk.i64_in _ (by omega)
      obtain ⟨r1, r2⟩ := Hb.out k (by omega)
      have hw0 : IntKind.i64.wrap (f k) = f k := IntWalk.i64_in _ (by omega)
      have hw3 : IntKind.i64.wrap (f k * p2 (s - 1 - k)) = f k * p2 (s - 1 - k) := IntWalk.i64_in _ (by omega)
      have hw4 : IntKind.i64.wrap (num f k * p2 (s - k) + f k * p2 (s - 1 - k)) = num f k * p2 (s - k) + f k * p2 (s - 1 - k) := IntWalk.i64_in _ (by omega)
      go_wp2
      go_quiet ((go_at_call 142; exact Calls.quiet_of_same ((pow_any _ _ _ Hp.out).mono fun _ _ hh => ⟨hh.1, hh.2.symm⟩)))
      go_wp2
      go_roundw
      case rel => exact ⟨k + 1, by omega, by go_num, by rw [← Hs.out], hd.trans (Drawn.of _ _)⟩
      case measure => simp [intOf]; omega
    · obtain rfl : k = s := by omega
      go_wp2
      go_ret2
      exact ⟨by simp [p2], hd⟩
end

section
open Go.RowKit

theorem u8_info : (Try.prog.info? 5).map (fun i => (i.zero, i.size, i.bytes)) = some (some (.int .u8 0), 1, 1) := by kernel_rfl
theorem u8_size : (Try.prog.info? 5).map (·.size) = some 1 := by kernel_rfl

def putE (v size : Int) : Int := if size < 1 ∨ 4 < size then 1 else if v < 0 ∨ pw size ≤ v then 5 else 0
/-- The i-th byte of a number's s bytes. -/
def byteAt (v : Int) (s i : Nat) : Int := v / 2 ^ (8 * (s - 1 - i)) % 256
def putF (n : Nat) (f : Nat → Int) (s : Nat) (v : Int) : Nat → Int := catF n f (byteAt v s)

set_option maxHeartbeats 400000 in
theorem put_bad (A : Option Addr) (n c : Nat) (v size : Int) (w : World) (h : putE v size ≠ 0) :
    Calls Try.prog 156 #[.slice A n c, .int .i64 v, .int .i64 size] w fun e w' => e = .returned (.tuple #[.slice none 0 0, .int .i64 (putE v size)]) ∧ w = w' := by
  by_cases h1 : size < 1 ∨ 4 < size
  · have H : Hid (putE v size = 1) := by simp [putE, h1, Hid]
    have H1 := hide h1
    clear h h1
    go_enter Try.func156, Try.ntmps156
    go_wp2_with (go_at_call 170; refine (size_no _ _ H1.out).mono ?_; rintro e w' ⟨rfl, rfl⟩)
    go_ret2
    exact ⟨by rw [H.out]; rfl, rfl⟩
  · have h1a : 1 ≤ size := by omega
    have h1b : size ≤ 4 := by omega
    have h3 : v < 0 ∨ pw size ≤ v := by
      rcases Classical.em (v < 0 ∨ pw size ≤ v) with h3 | h3
      · exact h3
      · exact absurd (by simp [putE, h1, h3]) h
    have H : Hid (putE v size = 5) := by simp [putE, h1, h3, Hid]
    have H3 := hide h3
    clear h h1 h3
    go_enter Try.func156, Try.ntmps156
    go_wp2_with (first | (go_at_call 170; refine (size_yes _ _ h1a h1b).mono ?_; rintro e w' ⟨rfl, rfl⟩) | (go_at_call 169; refine (fits_no _ _ _ h1a h1b H3.out).mono ?_; rintro e w' ⟨rfl, rfl⟩))
    go_ret2
    exact ⟨by rw [H.out]; rfl, rfl⟩

/-- What the loop has written behind k rounds. -/
def putK (n : Nat) (f : Nat → Int) (s : Nat) (v : Int) (k : Nat) : Nat → Int := fun i => if i < n then f i else if i < n + k then byteAt v s (i - n) else 0
theorem putK_zero (n : Nat) (f : Nat → Int) (s : Nat) (v : Int) : ∀ i, catF n f (fun j => oneF 0 (n + j)) i = putK n f s v 0 i := by
  intro i
  unfold catF putK oneF
  by_cases h : i < n <;> simp [h]
theorem putK_succ (n : Nat) (f : Nat → Int) (s : Nat) (v : Int) (k : Nat) : setF (putK n f s v k) (n + k) (byteAt v s k) = putK n f s v (k + 1) := by
  funext i
  unfold setF putK
  by_cases h : i = n + k
  · subst h
    have : ¬ n + k < n := by omega
    simp [this]
  · by_cases h1 : i < n
    · simp [h, h1]
    · by_cases h2 : i < n + k
      · have : i < n + (k + 1) := by omega
        simp [h, h1, h2, this]
      · have : ¬ i < n + (k + 1) := by omega
        simp [h, h1, h2, this]
theorem putK_end (n : Nat) (f : Nat → Int) (s : Nat) (v : Int) : ∀ i, i < n + s → putK n f s v s i = putF n f s v i := by
  intro i hi
  unfold putK putF catF
  by_cases h1 : i < n <;> simp [h1, hi]

/-- What a function that hands back bytes and no error leaves. -/
def Gave (w : World) (n : Nat) (f : Nat → Int) (e : Ending) (w' : World) : Prop :=
  ∃ A c, e = .returned (.tuple #[.slice A n c, .int .i64 0]) ∧ Rd .u8 w' A n c f ∧ Below w.heap.size w w'
/-- The same, and the bytes are a row of the call's own. -/
def GaveO (w : World) (n : Nat) (f : Nat → Int) (e : Ending) (w' : World) : Prop :=
  ∃ A c, e = .returned (.tuple #[.slice A n c, .int .i64 0]) ∧ Own .u8 5 w.heap.size w' (.slice A n c) n f ∧ Below w.heap.size w w'
theorem GaveO.gave {w : World} {n : Nat} {f : Nat → Int} {e : Ending} {w' : World} (h : GaveO w n f e w') : Gave w n f e w' := by
  obtain ⟨A, c, h1, h2, h3⟩ := h
  obtain ⟨A', c', e', h4, _⟩ := h2.rd
  injection e' with e1 _ e2
  subst e1
  subst e2
  exact ⟨A, c, h1, h4, h3⟩

set_option maxHeartbeats 1000000 in
theorem put_own (A : Option Addr) (n c s : Nat) (v : Int) (f : Nat → Int) (w : World) (ha : Rd .u8 w A n c f) (hn : n ≤ 140737488350000) (h1 : 1 ≤ s) (h2 : s ≤ 4) (h3 : 0 ≤ v) (h4 : v < pw s) :
    Calls Try.prog 156 #[.slice A n c, .int .i64 v, .int .i64 (s : Int)] w (GaveO w (n + s) (putF n f s v)) := by
  obtain ⟨i0, hi, hz0, hz1, hz2⟩ := info_parts u8_info
  have Ha := hide ha
  have H4 := hide h4
  clear ha h4
  go_enter Try.func156, Try.ntmps156
  go_wp2_with (first
    | (go_at_call 170; refine (size_yes _ _ (by omega) (by omega)).mono ?_; rintro e w' ⟨rfl, rfl⟩)
    | (go_at_call 169; refine (fits_yes _ _ _ (by omega) (by omega) h3 H4.out).mono ?_; rintro e w' ⟨rfl, rfl⟩)
    | (at_make; refine wp_mk rfl _ _ _ rfl i0 0 1 Try.underlying22 hi hz0 hz1 hz2 w.heap.size _ _ _ _ (n + s) rfl rfl (by omega) (by omega) (by omega) (by simp only [maxLen]; omega) (Nat.le_refl _) ?_; intro w1 hown1 hg1 _; have hb1 : Below w.heap.size w w1 := (Below.refl _ _).grown hg1 (Nat.le_refl _) (fun _ e => by cases e))
    | (with_reducible refine wp_copy rfl (.tmp 22) (.tmp 23) _ _ 5 rfl Try.underlying22 u8_size w.heap.size w.heap.size (n + s) (n + s) (oneF 0) rfl hown1 A n c f rfl (Ha.out.below hb1) (Nat.le_add_right _ _) ?_; intro w2 hown2 hg2))
  have hb2 : Below w.heap.size w w2 := hb1.grown hg2 hb1.size (fun _ e => by cases e; exact Nat.le_refl _)
  clear hown1 hg1 hg2 hb1
  go_loopw [26] (fun i wr => ∃ k : Nat, k ≤ s ∧ i = .int .i64 k ∧ Own .u8 5 w.heap.size wr (.slice (some ⟨w.heap.size, 0, none⟩) (n + s) (n + s)) (n + s) (putK n f s v k) ∧ Below w.heap.size w wr) (fun i _ => s - (intOf i).toNat)
  case atStart => exact ⟨0, Nat.zero_le _, rfl, hown2.congr fun i _ => putK_zero n f s v i, hb2⟩
  case round =>
    obtain ⟨k, hk, rfl, hown, hb⟩ := hrel
    clear hown2 hb2
    by_cases hlt : k < s
    · have hcell := hown.cell (j := n + k) (by omega)
      have hfz := hown.frozen (n + k)
      have Hown := hide (hown.set (n + k) (byteAt v s k))
      clear hown
      go_wp2
      go_roundw
      case rel => exact ⟨k + 1, by omega, by go_num, by rw [← putK_succ]; exact Hown.out, hb.setCell (Nat.le_refl _) _⟩
      case measure => simp [intOf]; omega
    · obtain rfl : k = s := by omega
      have Hr := hide (hown.congr (putK_end n f k v))
      clear hown
      go_wp2
      go_ret2
      exact ⟨_, _, rfl, Hr.out, hb⟩
theorem put_ok (A : Option Addr) (n c s : Nat) (v : Int) (f : Nat → Int) (w : World) (ha : Rd .u8 w A n c f) (hn : n ≤ 140737488350000) (h1 : 1 ≤ s) (h2 : s ≤ 4) (h3 : 0 ≤ v) (h4 : v < pw s) :
    Calls Try.prog 156 #[.slice A n c, .int .i64 v, .int .i64 (s : Int)] w (Gave w (n + s) (putF n f s v)) := (put_own A n c s v f w ha hn h1 h2 h3 h4).mono fun _ _ h => h.gave

/-! ### its reference -/
set_option maxHeartbeats 400000 in
theorem rput_bad (A : Option Addr) (n c : Nat) (v size : Int) (w : World) (h : putE v size ≠ 0) :
    Calls Try.prog 105 #[.slice A n c, .int .i64 v, .int .i64 size] w fun e w' => e = .returned (.tuple #[.slice none 0 0, .int .i64 (putE v size)]) ∧ w = w' := by
  by_cases h1 : size < 1
  · have H : Hid (putE v size = 1) := by simp [putE, h1, Hid]
    have hd : decide (size < 1) = true := by simpa using h1
    clear h
    go_enter Try.func105, Try.ntmps105
    go_wp2
    go_ret2
    exact ⟨by rw [H.out]; rfl, rfl⟩
  have hd1 : decide (size < 1) = false := by simpa using h1
  by_cases h2 : 4 < size
  · have H : Hid (putE v size = 1) := by simp [putE, h2, Hid]
    have hd : decide (4 < size) = true := by simpa using h2
    clear h
    go_enter Try.func105, Try.ntmps105
    go_wp2
    go_ret2
    exact ⟨by rw [H.out]; rfl, rfl⟩
  have hd2 : decide (4 < size) = false := by simpa using h2
  have h1a : 1 ≤ size := by omega
  have h1b : size ≤ 4 := by omega
  by_cases h3 : v < 0
  · have H : Hid (putE v size = 5) := by simp [putE, h1, h2, h3, Hid]
    have hd3 : decide (v < 0) = true := by simpa using h3
    clear h
    go_enter Try.func105, Try.ntmps105
    go_wp2
    go_ret2
    exact ⟨by rw [H.out]; rfl, rfl⟩
  · have h4 : pw size ≤ v := by
      rcases Classical.em (pw size ≤ v) with h4 | h4
      · exact h4
      · exact absurd (by simp [putE, h1, h2, h3, h4]) h
    have H : Hid (putE v size = 5) := by simp [putE, h1, h2, h4, Hid]
    have hd3 : decide (v < 0) = false := by simpa using h3
    have hd4 : decide (pw size ≤ v) = true := by simpa using h4
    clear h
    go_enter Try.func105, Try.ntmps105
    go_wp2_with (go_at_call 142; refine (pow_size _ _ h1a h1b).mono ?_; rintro e w' ⟨rfl, rfl⟩)
    go_ret2
    exact ⟨by rw [H.out]; rfl, rfl⟩

theorem p2_pow (t : Nat) (h : t ≤ 4) : p2 t = 2 ^ (8 * t) := by
  have : t = 0 ∨ t = 1 ∨ t = 2 ∨ t = 3 ∨ t = 4 := by omega
  rcases this with rfl | rfl | rfl | rfl | rfl <;> simp [p2]
theorem p2_pos (t : Nat) : 0 < p2 t := by unfold p2; repeat' split <;> omega
theorem byteAt_p2 (v : Int) (s i : Nat) (h : s ≤ 4) : byteAt v s i = v / p2 (s - 1 - i) % 256 := by
  unfold byteAt
  rw [p2_pow _ (by omega)]

/-- What the reference's loop has written behind k rounds. -/
def rputK (n : Nat) (f : Nat → Int) (s : Nat) (v : Int) : Nat → Int := catF n f (byteAt v s)
theorem rput_succ (n : Nat) (f : Nat → Int) (s k : Nat) (v : Int) : ∀ i, i < n + k + 1 → catF (n + k) (putF n f s v) (oneF (byteAt v s k)) i = putF n f s v i := by
  intro i hi
  by_cases h : i < n + k
  · simp [catF, h]
  · have e : i = n + k := by omega
    subst e
    have : ¬ n + k < n := by omega
    simp [catF, putF, oneF, this]
theorem Gave.congr {w w' : World} {n : Nat} {f g : Nat → Int} {e : Ending} (h : Gave w n f e w') (hf : ∀ i, i < n → f i = g i) : Gave w n g e w' := by
  obtain ⟨A, c, h1, h2, h3⟩ := h
  exact ⟨A, c, h1, h2.congr hf, h3⟩

set_option maxHeartbeats 1000000 in
theorem rput_own (A : Option Addr) (n c s : Nat) (v : Int) (f : Nat → Int) (w : World) (ha : Rd .u8 w A n c f) (hn : n ≤ 140737488350000) (h1 : 1 ≤ s) (h2 : s ≤ 4) (h3 : 0 ≤ v) (h4 : v < pw s) :
    Calls Try.prog 105 #[.slice A n c, .int .i64 v, .int .i64 (s : Int)] w (GaveO w (n + s) (putF n f s v)) := by
  obtain ⟨i0, hi, hz0, hz1, hz2⟩ := info_parts u8_info
  have hd1 : decide ((s : Int) < 1) = false := by simp; omega
  have hd2 : decide (4 < (s : Int)) = false := by simp; omega
  have hd3 : decide (v < 0) = false := by simp; omega
  have hd4 : decide (pw s ≤ v) = false := by simp; omega
  have hv : v < 4294967296 := by have := pw_cases (s := s) (by omega) (by omega); omega
  have Ha := hide ha
  clear ha h4
  go_enter Try.func105, Try.ntmps105
  go_wp2_with (first
    | (go_at_call 142; refine (pow_size _ _ (by omega) (by omega)).mono ?_; rintro e w' ⟨rfl, rfl⟩)
    | (at_builtin; refine wp_app rfl (.tmp 24) (.tmp 25) _ rfl i0 0 1 Try.underlying22 hi hz0 hz1 hz2 w.heap.size _ 0 (oneF 0) rfl (Own.lit .u8 5 w.heap.size w (oneF 0) #[] 0 (Nat.le_refl _) (by simp [maxLen]) rfl) A n c f rfl (Ha.out.alloc _) (by simp only [maxLen]; omega) (by omega) (by simp) ?_; intro v1 w1 hown1 hg1))
  have hb1 : Below w.heap.size w w1 := ((Below.refl _ _).alloc (Nat.le_refl _) _).grown hg1 (by simp) (fun _ e => by cases e; exact Nat.le_refl _)
  clear hg1
  go_loopw [8, 9] (fun sl i wr => ∃ k : Nat, k ≤ s ∧ i = .int .i64 k ∧ Own .u8 5 w.heap.size wr sl (n + k) (putF n f s v) ∧ Below w.heap.size w wr) (fun _ i _ => s - (intOf i).toNat)
  case atStart => exact ⟨0, Nat.zero_le _, rfl, Own.congr (n := n + 0) (f := catF 0 (oneF 0) f) (by simpa using hown1) (fun i hi => by
    have hi' : i < n := by omega
    simp [catF, putF, hi']), hb1⟩
  case round =>
    obtain ⟨k, hk, rfl, hown, hb⟩ := hrel
    clear hown1 hb1
    by_cases hlt : k < s
    · have hp := p2_cases (s - 1 - k) (by omega)
      have hcs : (((s - 1 - k : Nat) : Int)) = (s : Int) - 1 - (k : Int) := by omega
      rw [hcs] at hp
      have Hp := hide hp
      have hpos := p2_pos (s - 1 - k)
      have hq : 0 ≤ v / p2 (s - 1 - k) := Int.ediv_nonneg h3 (by omega)
      have hq2 : v / p2 (s - 1 - k) ≤ 4294967296 := Int.le_trans (Int.ediv_le_self _ h3) (by omega)
      have Hby := hide (byteAt_p2 v s k h2)
      have Hown := hide hown
      have hsz := hb.size
      clear hp hcs hown
      go_wp2_with (first
        | (go_at_call 142; refine (pow_any _ _ _ Hp.out).mono ?_; rintro e w' ⟨rfl, rfl⟩)
        | (at_builtin; refine wp_app rfl (.tmp 32) (.tmp 42) _ rfl i0 0 1 Try.underlying22 hi hz0 hz1 hz2 w.heap.size _ (n + k) (putF n f s v) rfl (Hown.out.alloc _) _ 1 1 _ rfl (Rd.one .u8 5 _ _) (by simp only [maxLen]; omega) (by omega) (by simp; omega) ?_; intro v2 w2 hown2 hg2))
      have hb2 : Below w.heap.size w w2 := (hb.alloc hb.size _).grown hg2 (by simp; omega) (fun j e => (World.ownsRow.lt Hown.out j e).1)
      go_roundw
      case rel => exact ⟨k + 1, by omega, by go_num, hown2.congr (fun i hi => by rw [← Hby.out]; exact rput_succ n f s k v i hi), hb2⟩
      case measure => simp [intOf]; omega
    · obtain rfl : k = s := by omega
      obtain ⟨A', c', rfl, _, _⟩ := hown.rd
      have Hr := hide hown
      clear hown
      go_wp2
      go_ret2
      exact ⟨_, _, rfl, Hr.out, hb⟩
theorem rput_ok (A : Option Addr) (n c s : Nat) (v : Int) (f : Nat → Int) (w : World) (ha : Rd .u8 w A n c f) (hn : n ≤ 140737488350000) (h1 : 1 ≤ s) (h2 : s ≤ 4) (h3 : 0 ≤ v) (h4 : v < pw s) :
    Calls Try.prog 105 #[.slice A n c, .int .i64 v, .int .i64 (s : Int)] w (Gave w (n + s) (putF n f s v)) := (rput_own A n c s v f w ha hn h1 h2 h3 h4).mono fun _ _ h => h.gave
end

section
open Go.RowKit

theorem natAnd31 (a : Nat) (h : a < 4294967296) : a &&& 2147483648 = if a < 2147483648 then 0 else 2147483648 := by
  refine Nat.eq_of_testBit_eq fun i => ?_
  rw [Nat.testBit_and, show (2147483648 : Nat) = 2 ^ 31 from rfl, Nat.testBit_two_pow]
  by_cases h1 : 31 = i
  · subst h1
    have e2 : a.testBit 31 = decide (2 ^ 31 ≤ a) := by
      rw [Nat.testBit_eq_decide_div_mod_eq]
      simp
      omega
    rw [e2]
    by_cases h2 : a < 2 ^ 31
    · have : ¬ 2 ^ 31 ≤ a := by omega
      simp [h2, this]
    · have h3 : 2 ^ 31 ≤ a := by omega
      rw [if_neg h2, Nat.testBit_two_pow_self]
      simp [h3]
  · split
    · simp [h1]
    · rw [Nat.testBit_two_pow]
      simp [h1]
theorem natAndNot31 (a : Nat) (h : a < 4294967296) : a &&& (2 ^ 64 - (2147483648 + 1)) = a % 2147483648 := by
  refine Nat.eq_of_testBit_eq fun i => ?_
  rw [Nat.testBit_and, Nat.testBit_two_pow_sub_succ (by omega), show (2147483648 : Nat) = 2 ^ 31 from rfl, Nat.testBit_mod_two_pow, Nat.testBit_two_pow]
  by_cases h1 : i < 31
  · have h2 : i < 64 := by omega
    have h3 : ¬ 31 = i := by omega
    simp [h1, h2, h3]
  · by_cases h2 : i = 31
    · subst h2
      simp
    · have : a.testBit i = false := Nat.testBit_lt_two_pow (Nat.lt_of_lt_of_le h (by
        have : 2 ^ 32 ≤ 2 ^ i := Nat.pow_le_pow_right (by omega) (by omega)
        omega))
      simp [this]
theorem and31 {n : Int} (h0 : 0 ≤ n) (h1 : n < 4294967296) : bits .and .i64 n 2147483648 = if n < 2147483648 then 0 else 2147483648 := by
  obtain ⟨a, rfl⟩ := Int.eq_ofNat_of_zero_le h0
  have hn := natAnd31 a (by omega)
  show IntKind.i64.wrap ((BitVec.ofInt 64 (a : Int) &&& BitVec.ofInt 64 ((2147483648 : Nat) : Int)).toNat : Int) = _
  rw [BitVec.toNat_and, ofInt_i64n a (by omega), ofInt_i64n _ (by omega), hn, IntKind.wrap_i64]
  by_cases h : a < 2147483648
  · have : (a : Int) < 2147483648 := by omega
    simp [h, this]
  · have : ¬ (a : Int) < 2147483648 := by omega
    simp [h, this]
theorem andNot31 {n : Int} (h0 : 0 ≤ n) (h1 : n < 4294967296) : bits .andNot .i64 n 2147483648 = n % 2147483648 := by
  obtain ⟨a, rfl⟩ := Int.eq_ofNat_of_zero_le h0
  have hn := natAndNot31 a (by omega)
  show IntKind.i64.wrap ((BitVec.ofInt 64 (a : Int) &&& ~~~ BitVec.ofInt 64 ((2147483648 : Nat) : Int)).toNat : Int) = _
  rw [BitVec.toNat_and, BitVec.toNat_not, ofInt_i64n a (by omega), ofInt_i64n _ (by omega), show 2 ^ 64 - 1 - 2147483648 = 2 ^ 64 - (2147483648 + 1) from rfl, hn, IntKind.wrap_i64]
  omega
theorem or31 {n : Int} (h0 : 0 ≤ n) (h1 : n < 2147483648) : bits .or .i64 n 2147483648 = n + 2147483648 := by
  obtain ⟨a, rfl⟩ := Int.eq_ofNat_of_zero_le h0
  have hn : a ||| 2147483648 = a + 2147483648 := by
    have h := Nat.two_pow_add_eq_or_of_lt (i := 31) (b := a) (by omega) 1
    rw [Nat.or_comm]
    have e : 2 ^ 31 * 1 = 2147483648 := rfl
    rw [e] at h
    omega
  show IntKind.i64.wrap ((BitVec.ofInt 64 (a : Int) ||| BitVec.ofInt 64 ((2147483648 : Nat) : Int)).toNat : Int) = _
  rw [BitVec.toNat_or, ofInt_i64n a (by omega), ofInt_i64n _ (by omega), hn, IntKind.wrap_i64]
  omega

/-! ### Low -/
def lowN (n : Int) : Int := if n < 0 ∨ 4294967296 ≤ n then 0 else if n < 2147483648 then n else n - 2147483648
def lowB (n : Int) : Bool := decide (2147483648 ≤ n ∧ n < 4294967296)
set_option maxHeartbeats 400000 in
theorem low_any (n : Int) (w : World) : Calls Try.prog 152 #[.int .i64 n] w fun e w' => e = .returned (.tuple #[.int .i64 (lowN n), .bool (lowB n)]) ∧ w = w' := by
  by_cases h : n < 0 ∨ 4294967296 ≤ n
  · have H1 : Hid (lowN n = 0) := by simp [lowN, h, Hid]
    have H2 : Hid (lowB n = false) := by simp [lowB, Hid]; omega
    have h' : n < 0 ∨ pw 4 ≤ n := by simp [pw]; omega
    have H := hide h'
    clear h h'
    go_enter Try.func152, Try.ntmps152
    go_wp2_with (go_at_call 169; refine (fits_no _ _ _ (by omega) (by omega) H.out).mono ?_; rintro e w' ⟨rfl, rfl⟩)
    go_ret2
    exact ⟨by rw [H1.out, H2.out]; rfl, rfl⟩
  · have h0 : 0 ≤ n := by omega
    have h1 : n < 4294967296 := by omega
    have h' : n < pw 4 := by simp [pw]; omega
    have H := hide h'
    clear h h'
    by_cases h2 : n < 2147483648
    · have H1 : Hid (lowN n = n) := by unfold Hid lowN; rw [if_neg (by omega), if_pos h2]
      have H2 : Hid (lowB n = false) := by simp [lowB, Hid]; omega
      have e1 : bits .and .i64 n 2147483648 = 0 := by rw [and31 h0 h1, if_pos h2]
      have e2 : bits .andNot .i64 n 2147483648 = n := by rw [andNot31 h0 h1]; omega
      go_enter Try.func152, Try.ntmps152
      go_wp2_with (go_at_call 169; refine (fits_yes _ _ _ (by omega) (by omega) h0 H.out).mono ?_; rintro e w' ⟨rfl, rfl⟩)
      go_ret2
      exact ⟨by rw [H1.out, H2.out]; rfl, rfl⟩
    · have H1 : Hid (lowN n = n - 2147483648) := by unfold Hid lowN; rw [if_neg (by omega), if_neg h2]
      have H2 : Hid (lowB n = true) := by simp [lowB, Hid]; omega
      have e1 : bits .and .i64 n 2147483648 = 2147483648 := by rw [and31 h0 h1, if_neg h2]
      have e2 : bits .andNot .i64 n 2147483648 = n - 2147483648 := by rw [andNot31 h0 h1]; omega
      go_enter Try.func152, Try.ntmps152
      go_wp2_with (go_at_call 169; refine (fits_yes _ _ _ (by omega) (by omega) h0 H.out).mono ?_; rintro e w' ⟨rfl, rfl⟩)
      go_ret2
      exact ⟨by rw [H1.out, H2.out]; rfl, rfl⟩

set_option maxHeartbeats 400000 in
theorem rlow_any (n : Int) (w : World) : Calls Try.prog 147 #[.int .i64 n] w fun e w' => e = .returned (.tuple #[.int .i64 (lowN n), .bool (lowB n)]) ∧ w = w' := by
  by_cases h : n < 0
  · have H1 : Hid (lowN n = 0) := by simp [lowN, h, Hid]
    have H2 : Hid (lowB n = false) := by simp [lowB, Hid]; omega
    have hd : decide (n < 0) = true := by simpa using h
    go_enter Try.func147, Try.ntmps147
    go_wp2
    go_ret2
    exact ⟨by rw [H1.out, H2.out]; rfl, rfl⟩
  have hd : decide (n < 0) = false := by simpa using h
  by_cases h1 : 4294967296 ≤ n
  · have H1 : Hid (lowN n = 0) := by simp [lowN, h1, Hid]
    have H2 : Hid (lowB n = false) := by simp [lowB, Hid]; omega
    have hd1 : decide (4294967296 ≤ n) = true := by simpa using h1
    go_enter Try.func147, Try.ntmps147
    go_wp2
    go_ret2
    exact ⟨by rw [H1.out, H2.out]; rfl, rfl⟩
  have hd1 : decide (4294967296 ≤ n) = false := by simpa using h1
  by_cases h2 : n < 2147483648
  · have H1 : Hid (lowN n = n) := by unfold Hid lowN; rw [if_neg (by omega), if_pos h2]
    have H2 : Hid (lowB n = false) := by simp [lowB, Hid]; omega
    go_enter Try.func147, Try.ntmps147
    go_wp2
    go_ret2
    exact ⟨by rw [H1.out, H2.out]; rfl, rfl⟩
  · have H1 : Hid (lowN n = n - 2147483648) := by unfold Hid lowN; rw [if_neg (by omega), if_neg h2]
    have H2 : Hid (lowB n = true) := by simp [lowB, Hid]; omega
    go_enter Try.func147, Try.ntmps147
    go_wp2
    go_ret2
    exact ⟨by rw [H1.out, H2.out]; rfl, rfl⟩

/-! ### With -/
set_option maxHeartbeats 400000 in
theorem with_bad (n : Int) (b : Bool) (w : World) (h : n < 0 ∨ 2147483648 ≤ n) : Calls Try.prog 155 #[.int .i64 n, .bool b] w fun e w' => e = .returned (.tuple #[.int .i64 0, .int .i64 5]) ∧ w = w' := by
  by_cases h0 : n < 0
  · have hd : decide (n < 0) = true := by simpa using h0
    clear h
    go_enter Try.func155, Try.ntmps155
    go_wp2
    go_ret2
    exact ⟨rfl, rfl⟩
  · have hd : decide (n < 0) = false := by simpa using h0
    have h1 : 2147483648 ≤ n := by omega
    have hd1 : decide (2147483648 ≤ n) = true := by simpa using h1
    clear h
    go_enter Try.func155, Try.ntmps155
    go_wp2
    go_ret2
    exact ⟨rfl, rfl⟩
set_option maxHeartbeats 400000 in
theorem with_ok (n : Int) (b : Bool) (w : World) (h0 : 0 ≤ n) (h1 : n < 2147483648) :
    Calls Try.prog 155 #[.int .i64 n, .bool b] w fun e w' => e = .returned (.tuple #[.int .i64 (if b = true then n + 2147483648 else n), .int .i64 0]) ∧ w = w' := by
  have hd : decide (n < 0) = false := by simpa using h0
  have hd1 : decide (2147483648 ≤ n) = false := by simpa using h1
  have e1 : bits .or .i64 n 2147483648 = n + 2147483648 := or31 h0 h1
  cases b
  all_goals
    go_enter Try.func155, Try.ntmps155
    go_wp2
    go_ret2
    exact ⟨rfl, rfl⟩

/-! ### Same -/
def bts (n : Nat) (f : Nat → Int) : List UInt8 := (List.range n).map fun i => UInt8.ofNat (f i).toNat
theorem bts_len (n : Nat) (f : Nat → Int) : (bts n f).length = n := by simp [bts]
theorem bts_get (n : Nat) (f : Nat → Int) (j : Nat) (h : j < (bts n f).length) : (bts n f)[j] = UInt8.ofNat (f j).toNat := by simp [bts]
theorem byt_of {n : Nat} {f : Nat → Int} (h : Byt n f) {i : Nat} (hi : i < n) : ((UInt8.ofNat (f i).toNat).toNat : Int) = f i := by
  have := h i hi
  rw [UInt8.toNat_ofNat']
  omega
theorem run_str (w : World) (A : Option Addr) (n c : Nat) (f : Nat → Int) (h : Rd .u8 w A n c f) (hb : Byt n f) :
    (convert 22 9 (.slice A n c)).run Try.prog w = .ok (.string ⟨(bts n f).toArray⟩) w := by
  rcases A with _ | ad
  · obtain ⟨h1, h2, h3, _⟩ := h
    obtain rfl : c = 0 := h3 rfl
    obtain rfl : n = 0 := by omega
    kernel_rfl
  · have hr := run_convert_bytes_back (P := Try.prog) w 22 9 5 ad c (bts n f) Try.underlying22 Try.underlying5 Try.underlying9 (fun j hj => by
      have hj' : j < n := by rw [bts_len] at hj; exact hj
      obtain ⟨b, off, hA, hc⟩ := h.at_ hj'
      obtain rfl := Option.some.inj hA
      rw [Addr.add_lit, hc, bts_get, byt_of hb hj'])
    rw [bts_len] at hr
    exact hr
theorem bts_eq {n m : Nat} {f g : Nat → Int} (hf : Byt n f) (hg : Byt m g) : (bts n f = bts m g) ↔ sameB n m f g = true := by
  constructor
  · intro h
    have hl : n = m := by have := congrArg List.length h; simpa [bts_len] using this
    subst hl
    refine sameB_yes rfl fun i hi => ?_
    have h1 := congrArg (fun l => l[i]?) h
    simp only [List.getElem?_eq_getElem (show i < (bts n f).length by rw [bts_len]; exact hi), List.getElem?_eq_getElem (show i < (bts n g).length by rw [bts_len]; exact hi), bts_get] at h1
    have h2 := congrArg (fun u : UInt8 => (u.toNat : Int)) (Option.some.inj h1)
    simp only [byt_of hf hi, byt_of hg hi] at h2
    exact h2
  · intro h
    obtain ⟨rfl, hs⟩ := sameB_of h
    refine List.ext_getElem (by rw [bts_len, bts_len]) fun i h1 h2 => ?_
    rw [bts_get, bts_get, hs i (by rw [bts_len] at h1; exact h1)]
set_option maxHeartbeats 400000 in
theorem bequal_any (A C : Option Addr) (n m c d : Nat) (f g : Nat → Int) (w : World) (ha : Rd .u8 w A n c f) (hb : Rd .u8 w C m d g) (hf : Byt n f) (hg : Byt m g) :
    Calls Try.prog 165 #[.slice A n c, .slice C m d] w fun e w' => e = .returned (.bool (sameB n m f g)) ∧ w = w' := by
  have h1 := run_str w A n c f ha hf
  have h2 := run_str w C m d g hb hg
  have He := hide (bts_eq hf hg)
  clear ha hb hf hg
  generalize hx : bts n f = x at *
  generalize hy : bts m g = y at *
  generalize hz : sameB n m f g = z at *
  clear hx hy hz
  cases z
  · have h3 : x ≠ y := fun e => by have := He.out.1 e; cases this
    have h4 : (x == y) = false := by simpa using h3
    go_enter Try.func165, Try.ntmps165
    go_wp2
    go_ret
    exact ⟨by simp [h4], rfl⟩
  · obtain rfl : x = y := He.out.2 rfl
    go_enter Try.func165, Try.ntmps165
    go_wp2
    go_ret
    exact ⟨by simp, rfl⟩
end

section
open Go.RowKit

theorem osame_any (A C : Option Addr) (n m c d : Nat) (f g : Nat → Int) (w : World) (ha : Rd .u8 w A n c f) (hb : Rd .u8 w C m d g) (hf : Byt n f) (hg : Byt m g) :
    Calls Try.prog 140 #[.slice A n c, .slice C m d] w fun e w' => e = .returned (.bool (sameB n m f g)) ∧ w = w' := by
  have Ha := hide ha
  have Hb := hide hb
  have Hf := hide hf
  have Hg := hide hg
  clear ha hb hf hg
  go_enter Try.func140, Try.ntmps140
  go_wp2_with (go_at_call 165; refine (bequal_any _ _ _ _ _ _ f g _ Ha.out Hb.out Hf.out Hg.out).mono ?_; rintro e w' ⟨rfl, rfl⟩)
  go_ret
  exact ⟨rfl, rfl⟩

/-- It returns true, and nothing that was there is written. -/
def Yes (w : World) (e : Ending) (w' : World) : Prop := e = .returned (.bool true) ∧ Below w.heap.size w w'

theorem put_okI (A : Option Addr) (n c : Nat) (size v : Int) (f : Nat → Int) (w : World) (ha : Rd .u8 w A n c f) (hn : n ≤ 140737488350000) (h1 : 1 ≤ size) (h2 : size ≤ 4) (h3 : 0 ≤ v) (h4 : v < pw size) :
    Calls Try.prog 156 #[.slice A n c, .int .i64 v, .int .i64 size] w (Gave w (n + size.toNat) (putF n f size.toNat v)) := by
  obtain ⟨s, rfl⟩ := Int.eq_ofNat_of_zero_le (show 0 ≤ size by omega)
  exact put_ok A n c s v f w ha hn (by omega) (by omega) h3 h4
theorem rput_okI (A : Option Addr) (n c : Nat) (size v : Int) (f : Nat → Int) (w : World) (ha : Rd .u8 w A n c f) (hn : n ≤ 140737488350000) (h1 : 1 ≤ size) (h2 : size ≤ 4) (h3 : 0 ≤ v) (h4 : v < pw size) :
    Calls Try.prog 105 #[.slice A n c, .int .i64 v, .int .i64 size] w (Gave w (n + size.toNat) (putF n f size.toNat v)) := by
  obtain ⟨s, rfl⟩ := Int.eq_ofNat_of_zero_le (show 0 ≤ size by omega)
  exact rput_ok A n c s v f w ha hn (by omega) (by omega) h3 h4
theorem get_okI (A : Option Addr) (n c : Nat) (size : Int) (f : Nat → Int) (w : World) (ha : Rd .u8 w A n c f) (hb : Byt n f) (h1 : 1 ≤ size) (h2 : size ≤ 4) (h3 : size ≤ n) :
    Calls Try.prog 166 #[.slice A n c, .int .i64 size] w fun e w' => e = .returned (.tuple #[.int .i64 (num f size.toNat), .int .i64 0]) ∧ w = w' := by
  obtain ⟨s, rfl⟩ := Int.eq_ofNat_of_zero_le (show 0 ≤ size by omega)
  exact get_ok A n c s f w ha hb (by omega) (by omega) (by omega)
theorem rget_okI (A : Option Addr) (n c : Nat) (size : Int) (f : Nat → Int) (w : World) (ha : Rd .u8 w A n c f) (hb : Byt n f) (h1 : 1 ≤ size) (h2 : size ≤ 4) (h3 : size ≤ n) :
    Calls Try.prog 146 #[.slice A n c, .int .i64 size] w fun e w' => e = .returned (.tuple #[.int .i64 (num f size.toNat), .int .i64 0]) ∧ Drawn w w' := by
  obtain ⟨s, rfl⟩ := Int.eq_ofNat_of_zero_le (show 0 ≤ size by omega)
  exact rget_ok A n c s f w ha hb (by omega) (by omega) (by omega)

def lit4 : Nat → Int := fun i => if i = 1 then 1 else if i = 3 then 9 else 0
def lit2 : Nat → Int := fun i => if i = 0 then 1 else 2
theorem lit4_byt : Byt 4 lit4 := by intro i _; unfold lit4; repeat' split <;> omega
theorem num_lit4 : num lit4 3 = 256 := by decide
theorem put_lit : ∀ i, i < 0 + (2 : Int).toNat → putF 0 (oneF 0) (2 : Int).toNat 258 i = lit2 i := by
  intro i hi
  have : i = 0 ∨ i = 1 := by have : (2 : Int).toNat = 2 := rfl; omega
  rcases this with rfl | rfl <;> decide
theorem Rd.four (w : World) : Rd .u8 (w.alloc (.cells #[.int .u8 0, .int .u8 1, .int .u8 0, .int .u8 9] 5)) (some ⟨w.heap.size, 0, none⟩) 4 4 lit4 := by
  obtain ⟨A, c, e1, h, _⟩ := (Own.lit .u8 5 0 w lit4 #[.int .u8 0, .int .u8 1, .int .u8 0, .int .u8 9] 4 (Nat.zero_le _) (by simp [maxLen]) rfl).rd
  injection e1 with e1 _ e2
  subst e1
  subst e2
  exact h
theorem Rd.two (w : World) : Rd .u8 (w.alloc (.cells #[.int .u8 1, .int .u8 2] 5)) (some ⟨w.heap.size, 0, none⟩) 2 2 lit2 := by
  obtain ⟨A, c, e1, h, _⟩ := (Own.lit .u8 5 0 w lit2 #[.int .u8 1, .int .u8 2] 2 (Nat.zero_le _) (by simp [maxLen]) rfl).rd
  injection e1 with e1 _ e2
  subst e1
  subst e2
  exact h

theorem put_l (w : World) : Calls Try.prog 156 #[.slice none 0 0, .int .i64 258, .int .i64 2] w (Gave w 2 lit2) :=
  (put_okI none 0 0 2 258 (oneF 0) w (Rd.nil _ _ _) (by omega) (by omega) (by omega) (by omega) (by decide)).mono fun _ _ h => h.congr put_lit
theorem get_l (w : World) : Calls Try.prog 166 #[.slice (some ⟨w.heap.size, 0, none⟩) 4 4, .int .i64 3] (w.alloc (.cells #[.int .u8 0, .int .u8 1, .int .u8 0, .int .u8 9] 5))
    fun e w' => e = .returned (.tuple #[.int .i64 256, .int .i64 0]) ∧ w.alloc (.cells #[.int .u8 0, .int .u8 1, .int .u8 0, .int .u8 9] 5) = w' := by
  have h := get_okI _ 4 4 3 lit4 _ (Rd.four w) lit4_byt (by omega) (by omega) (by omega)
  rw [show (3 : Int).toNat = 3 from rfl, num_lit4] at h
  exact h
theorem rsame_yes (A C : Option Addr) (n c d : Nat) (f g : Nat → Int) (w : World) (ha : Rd .u8 w A n c f) (hb : Rd .u8 w C n d g) (h : ∀ i, i < n → f i = g i) :
    Calls Try.prog 23 #[.slice A n c, .slice C n d] w fun e w' => e = .returned (.bool true) ∧ Drawn w w' := by
  have h1 := rsame_any A C n n c d f g w ha hb
  rw [sameB_yes rfl h] at h1
  exact h1

theorem Rd.two' (w : World) {b : Nat} (hb : b = w.heap.size) : Rd .u8 (w.alloc (.cells #[.int .u8 1, .int .u8 2] 5)) (some ⟨b, 0, none⟩) 2 2 lit2 := by
  subst hb
  exact Rd.two w

end

section
open Go.RowKit

/-- alive, at a call of a law. -/
theorem _root_.Go.RowKit.Below.of {w w1 w' : World} (h : Below w.heap.size w w1) (k : Below w1.heap.size w1 w') : Below w.heap.size w w' := h.trans (k.mono h.size)

end

section
open Go.RowKit

theorem getE_ok {n : Nat} {size : Int} (h : getE n size = 0) : 1 ≤ size ∧ size ≤ 4 ∧ size ≤ n := by
  unfold getE at h
  split at h
  · omega
  · split at h <;> omega

/-! ### there and back -/
theorem byteAt_byt (v : Int) (s n : Nat) (f : Nat → Int) : Byt (0 + s) (putF 0 f s v) := by
  intro i _
  simp only [putF, catF, Nat.not_lt_zero, if_false, byteAt]
  omega
theorem num_put (v size : Int) (f : Nat → Int) (h1 : 1 ≤ size) (h2 : size ≤ 4) (h3 : 0 ≤ v) (h4 : v < pw size) : num (putF 0 f size.toNat v) size.toNat = v := by
  rcases pw_cases h1 h2 with ⟨rfl, hp⟩ | ⟨rfl, hp⟩ | ⟨rfl, hp⟩ | ⟨rfl, hp⟩
  all_goals
    rw [hp] at h4
    simp [num, putF, catF, byteAt]
    omega
theorem num_pw (size : Int) (n : Nat) (f : Nat → Int) (hb : Byt n f) (h1 : 1 ≤ size) (h2 : size ≤ 4) (h3 : size ≤ n) : 0 ≤ num f size.toNat ∧ num f size.toNat < pw size := by
  rcases pw_cases h1 h2 with ⟨rfl, hp⟩ | ⟨rfl, hp⟩ | ⟨rfl, hp⟩ | ⟨rfl, hp⟩
  all_goals
    rw [hp]
    have := num_bd hb (Int.toNat _) (show _ ≤ n from by simp; omega) (by decide)
    simpa using this
theorem put_num (size : Int) (n : Nat) (f g : Nat → Int) (hb : Byt n f) (h1 : 1 ≤ size) (h2 : size ≤ 4) (h3 : size ≤ n) : ∀ i, i < 0 + size.toNat → putF 0 g size.toNat (num f size.toNat) i = f i := by
  intro i hi
  have b0 := hb 0
  have b1 := hb 1
  have b2 := hb 2
  have b3 := hb 3
  rcases pw_cases h1 h2 with ⟨rfl, _⟩ | ⟨rfl, _⟩ | ⟨rfl, _⟩ | ⟨rfl, _⟩
  all_goals
    simp at hi
    have hi' : i = 0 ∨ i = 1 ∨ i = 2 ∨ i = 3 := by omega
    rcases hi' with rfl | rfl | rfl | rfl
    all_goals first | omega | (simp [num, putF, catF, byteAt]; omega)

theorem num_putN (v : Int) (s : Nat) (f : Nat → Int) (h1 : 1 ≤ s) (h2 : s ≤ 4) (h3 : 0 ≤ v) (h4 : v < pw s) : num (putF 0 f s v) s = v := by
  have := num_put v s f (by omega) (by omega) h3 h4
  simpa using this
theorem putE_ok {v size : Int} (h : putE v size = 0) : ∃ s : Nat, size = s ∧ 1 ≤ s ∧ s ≤ 4 ∧ 0 ≤ v ∧ v < pw s := by
  unfold putE at h
  split at h
  · omega
  · split at h
    · omega
    · exact ⟨size.toNat, by omega, by omega, by omega, by omega, by rw [show ((size.toNat : Nat) : Int) = size by omega]; omega⟩
theorem put_nil (s : Nat) (v : Int) (w : World) (h1 : 1 ≤ s) (h2 : s ≤ 4) (h3 : 0 ≤ v) (h4 : v < pw s) :
    Calls Try.prog 156 #[.slice none 0 0, .int .i64 v, .int .i64 (s : Int)] w (Gave w s (putF 0 (oneF 0) s v)) := by
  have h := put_ok none 0 0 s v (oneF 0) w (Rd.nil _ _ _) (by omega) h1 h2 h3 h4
  rw [Nat.zero_add] at h
  exact h
/-- The second half, behind the Get of the bytes: they are put again as they were. -/
theorem put_back (s n : Nat) (f : Nat → Int) (w : World) (hb : Byt n f) (h1 : 1 ≤ s) (h2 : s ≤ 4) (h3 : s ≤ n) :
    Calls Try.prog 156 #[.slice none 0 0, .int .i64 (num f s), .int .i64 (s : Int)] w (Gave w s f) := by
  have hp := num_pw s n f hb (by omega) (by omega) (by omega)
  simp only [Int.toNat_natCast] at hp
  refine (put_nil s (num f s) w h1 h2 hp.1 hp.2).mono fun _ _ h => h.congr fun i hi => ?_
  have := put_num s n f (oneF 0) hb (by omega) (by omega) (by omega) i (by simpa using hi)
  simpa using this
theorem get_badN (A : Option Addr) (n c s : Nat) (w : World) (hn : n ≤ 9223372036854775807) (h1 : 1 ≤ s) (h2 : s ≤ 4) (h3 : n < s) :
    Calls Try.prog 166 #[.slice A n c, .int .i64 (s : Int)] w fun e w' => e = .returned (.tuple #[.int .i64 0, .int .i64 3]) ∧ w = w' := by
  have e : getE n s = 3 := by unfold getE; rw [if_neg (by omega), if_pos (by omega)]
  have h := get_bad A n c s w hn (by rw [e]; decide)
  rw [e] at h
  exact h

/-! ### the highest bit -/
theorem low_bd (n : Int) : 0 ≤ lowN n ∧ lowN n < 2147483648 := by unfold lowN; split <;> (try split) <;> omega
theorem low_back (n : Int) (h0 : 0 ≤ n) (h1 : n < 4294967296) : (if lowB n = true then lowN n + 2147483648 else lowN n) = n := by
  unfold lowB lowN
  rw [if_neg (show ¬ (n < 0 ∨ 4294967296 ≤ n) by omega)]
  by_cases h : n < 2147483648
  · rw [if_pos h, if_neg (by simp; omega)]
  · rw [if_neg h, if_pos (by simp; omega)]
    omega
end

section
open Go.RowKit

theorem c8_info : (Try.prog.info? 5).map (fun i => (i.zero, i.size, i.bytes)) = some (some (.int .u8 0), 1, 1) := by kernel_rfl
theorem c8_size : (Try.prog.info? 5).map (·.size) = some 1 := by kernel_rfl

def Cloned (w : World) (n : Nat) (f : Nat → Int) (e : Ending) (w' : World) : Prop := ∃ v, e = .returned v ∧ Own .u8 5 w.heap.size w' v n f ∧ Below w.heap.size w w'

set_option maxHeartbeats 400000 in
theorem clone_any (A : Option Addr) (n c : Nat) (f : Nat → Int) (w : World) (ha : Rd .u8 w A n c f) (hn : n ≤ 140737488350000) :
    Calls Try.prog 113 #[.slice A n c] w (Cloned w n f) := by
  have hnil := fun (a : Option Addr) (W : World) => Lib.run_eql_slice_nil (P := Try.prog) W 22 5 a n c 0 0 Try.underlying22
  rcases A with _ | ad
  · obtain rfl : c = 0 := ha.2.2.1 rfl
    obtain rfl : n = 0 := by have := ha.1; omega
    clear ha
    go_enter Try.func113, Try.ntmps113
    go_wp2
    go_ret
    exact ⟨_, rfl, Own.nil _ _ _ _ _, Below.refl _ _⟩
  · obtain ⟨i0, hi, hz0, hz1, hz2⟩ := info_parts c8_info
    have Ha := hide ha
    clear ha
    go_enter Try.func113, Try.ntmps113
    go_wp2_with (at_builtin; refine wp_app rfl (.tmp 5) (.tmp 6) _ rfl i0 0 1 Try.underlying22 hi hz0 hz1 hz2 w.heap.size _ 0 (oneF 0) rfl (Own.lit .u8 5 w.heap.size w (oneF 0) #[] 0 (Nat.le_refl _) (by simp [maxLen]) rfl) _ n c f rfl (Ha.out.alloc _) (by simp only [maxLen]; omega) (by omega) (by simp) ?_; intro v1 w1 hown1 hg1)
    have hb1 : Below w.heap.size w w1 := ((Below.refl _ _).alloc (Nat.le_refl _) _).grown hg1 (by simp) (fun _ e => by cases e; exact Nat.le_refl _)
    go_ret
    exact ⟨_, rfl, Own.congr (n := n) (f := catF 0 (oneF 0) f) (by simpa using hown1) (fun i _ => by simp [catF]), hb1⟩
end

section
open Go.RowKit

/-- The address of a slice that is cut at lo: at the end of the room it stays. -/
def cutA (A : Option Addr) (c lo : Nat) : Option Addr := if c = lo then A else A.map (·.add (lo * 1))
theorem Rd.cutR {k : IntKind} {w : World} {A : Option Addr} {n c : Nat} {f : Nat → Int} (h : Rd k w A n c f) {lo hi : Nat} (h1 : lo ≤ hi) (h2 : hi ≤ n) :
    Rd k w (cutA A c lo) (hi - lo) (c - lo) (fun i => f (lo + i)) := h.cut h1 h2
theorem cutA_block {A : Option Addr} {c lo : Nat} {a : Addr} (h : cutA A c lo = some a) : ∃ b, A = some b ∧ b.block = a.block := by
  unfold cutA at h
  split at h
  · exact ⟨a, h, rfl⟩
  · cases A with
    | none => cases h
    | some b =>
      refine ⟨b, rfl, ?_⟩
      have := Option.some.inj h
      rw [← this]
      simp only [Addr.add]
      split <;> rfl

section
variable {P : Program} (T e : TypeId) (hT : P.underlying T = some (.slice e)) (hE : P.elem T = e) (hs : (P.info? e).map (·.size) = some 1) (A : Option Addr) (n c : Nat)
include hT hE hs
omit hT in
theorem size_run (W : World) : (sizeOf (P.elem T)).run P W = .ok 1 W := by
  obtain ⟨i, hi, h1⟩ := Option.map_eq_some_iff.1 hs
  rw [hE]
  simp [sizeOf, typeInfo, hi, h1]
theorem cut_l (lo : Nat) (hlo : lo ≤ n) (kl : IntKind) (W : World) :
    (Instr.slice T (.slice A n c) (some (.int kl (lo : Int))) none none).run P W = .ok (.slice (cutA A c lo) (n - lo) (c - lo)) W := by
  rw [run_slice_l (P := P) (w := W) T A n c (by rw [hE]; exact hT) kl (lo : Int) (by omega) (by omega), size_run T e hE hs W]
  simp [Result.andThen, sliced, cutA]
theorem cut_h (hi : Nat) (hc : hi ≤ c) (kh : IntKind) (W : World) :
    (Instr.slice T (.slice A n c) none (some (.int kh (hi : Int))) none).run P W = .ok (.slice (cutA A c 0) hi c) W := by
  rw [run_slice_h (P := P) (w := W) T A n c (by rw [hE]; exact hT) kh (hi : Int) (by omega) (by omega), size_run T e hE hs W]
  simp [Result.andThen, sliced, cutA]
theorem cut_lh (lo hi : Nat) (h1 : lo ≤ hi) (hc : hi ≤ c) (kl kh : IntKind) (W : World) :
    (Instr.slice T (.slice A n c) (some (.int kl (lo : Int))) (some (.int kh (hi : Int))) none).run P W = .ok (.slice (cutA A c lo) (hi - lo) (c - lo)) W := by
  rw [run_slice_lh (P := P) (w := W) T A n c (by rw [hE]; exact hT) kl kh (lo : Int) (hi : Int) (by omega) (by omega) (by omega), size_run T e hE hs W]
  simp [Result.andThen, sliced, cutA]
end
end

section
open Go.RowKit

/-- A cursor at block p: its n bytes are f; so many were taken. -/
def Cur (w : World) (p n : Nat) (f : Nat → Int) (t : Nat) : Prop :=
  ∃ A c, w.heap[p]? = some (.cells #[.slice A n c, .int .i64 (t : Int)] 194 (0, 0)) ∧ Rd .u8 w A n c f ∧ (∀ a, A = some a → a.block ≠ p) ∧ t ≤ n ∧ n ≤ 100000000
theorem Cur.lt {w : World} {p n t : Nat} {f : Nat → Int} (h : Cur w p n f t) : p < w.heap.size := by
  obtain ⟨A, c, hh, _⟩ := h
  exact (Array.getElem?_eq_some_iff.1 hh).1
theorem Cur.below {w w' : World} {p n t : Nat} {f : Nat → Int} (h : Cur w p n f t) (hb : Below w.heap.size w w') : Cur w' p n f t := by
  have hp := h.lt
  obtain ⟨A, c, hh, hr, ha, h1⟩ := h
  exact ⟨A, c, (hb.block p hp).trans hh, hr.below hb, ha, h1⟩
theorem Cur.drawn {w w' : World} {p n t : Nat} {f : Nat → Int} (h : Cur w p n f t) (hd : Drawn w w') : Cur w' p n f t := h.below (drawn_below hd _)
theorem bytes_elem : Try.prog.elem 22 = 5 := by kernel_rfl
theorem bytes_cut (A : Option Addr) (n c k : Nat) (hk : k ≤ n) (W : World) :
    (Instr.slice 22 (.slice A n c) (some (.int .i64 (k : Int))) none none).run Try.prog W = .ok (.slice (cutA A c k) (n - k) (c - k)) W :=
  cut_l 22 5 Try.underlying22 bytes_elem c8_size A n c k hk .i64 W
theorem bytes_cut_h (A : Option Addr) (n c k : Nat) (hk : k ≤ c) (W : World) :
    (Instr.slice 22 (.slice A n c) none (some (.int .i64 (k : Int))) none).run Try.prog W = .ok (.slice (cutA A c 0) k c) W :=
  cut_h 22 5 Try.underlying22 bytes_elem c8_size A n c k hk .i64 W
theorem Rd.front {k : IntKind} {w : World} {A : Option Addr} {n c : Nat} {f : Nat → Int} (h : Rd k w A n c f) {m : Nat} (hm : m ≤ n) : Rd k w (cutA A c 0) m c f := by
  have h1 := h.cutR (lo := 0) (hi := m) (Nat.zero_le _) hm
  simp only [Nat.sub_zero, Nat.zero_add] at h1
  exact h1
theorem grown_cell (w w1 : World) (h : Below w.heap.size w w1) (p j : Nat) (u : Value) : w.grownBy (w1.setCell ⟨p, j, none⟩ u) (some p) :=
  ⟨h.os, h.tape, h.output, by have := h.size; simpa [World.setCell] using this, fun i hi hne => (Below.heap_setCell w1 ⟨p, j, none⟩ u i (fun e => hne (by simp [e]))).trans (h.block i hi)⟩
theorem drawn_grown {w w' : World} (h : Drawn w w') (row : Option Nat) : w.grownBy w' row := by
  obtain ⟨q, rfl⟩ := h
  exact ⟨rfl, rfl, rfl, Nat.le_refl _, fun _ _ _ => rfl⟩
theorem below_grown {w w' : World} (h : Below w.heap.size w w') (row : Option Nat) : w.grownBy w' row := ⟨h.os, h.tape, h.output, h.size, fun i hi _ => h.block i hi⟩

set_option maxHeartbeats 400000 in
theorem cnew_any (A : Option Addr) (n c : Nat) (f : Nat → Int) (w : World) (ha : Rd .u8 w A n c f) (hn : n ≤ 100000000) :
    Calls Try.prog 69 #[.slice A n c] w fun e w' => ∃ p, e = .returned (.pointer (some ⟨p, 0, none⟩)) ∧ w.heap.size ≤ p ∧ Cur w' p n f 0 ∧ Below w.heap.size w w' := by
  have Ha := hide ha
  clear ha
  go_enter Try.func69, Try.ntmps69
  go_wp2_with fail
  refine (clone_any A n c f _ Ha.out (by omega)).mono ?_
  rintro e w1 ⟨v, rfl, hown, hb1⟩
  obtain ⟨A1, c1, rfl, hr1, hbl⟩ := hown.rd
  have Hr1 := hide hr1
  have Hbl := hide hbl
  have hs := hb1.size
  clear hown hr1 hbl
  go_wp2_with fail
  go_ret
  refine ⟨w1.heap.size, rfl, hs, ⟨A1, c1, heap_alloc_new w1 _, Hr1.out.alloc _, fun a e => ?_, by omega, hn⟩, hb1.alloc hs _⟩
  have := Hbl.out a e
  omega

theorem Cur.other {w w' : World} {p n t g : Nat} {f : Nat → Int} (h : Cur w p n f t) (hp : p ≠ g) (hA : ∀ A c, w.heap[p]? = some (.cells #[.slice A n c, .int .i64 (t : Int)] 194 (0, 0)) → ∀ a, A = some a → a.block ≠ g) (hg : w.grownBy w' (some g)) : Cur w' p n f t := by
  have hlt := h.lt
  obtain ⟨A, c, hh, hr, ha, h1⟩ := h
  exact ⟨A, c, (hg.block p hlt (fun e => hp (Option.some.inj e))).trans hh, hr.other hg (fun b off e => hA A c hh _ e), ha, h1⟩
set_option maxHeartbeats 400000 in
theorem cnew_own (A : Option Addr) (n c : Nat) (f : Nat → Int) (w : World) (ha : Rd .u8 w A n c f) (hn : n ≤ 100000000) :
    Calls Try.prog 69 #[.slice A n c] w fun e w' => ∃ p, e = .returned (.pointer (some ⟨p, 0, none⟩)) ∧ w.heap.size ≤ p ∧ Below w.heap.size w w' ∧ ∀ g w'', g < w.heap.size → w'.grownBy w'' (some g) → Cur w'' p n f 0 := by
  have Ha := hide ha
  clear ha
  go_enter Try.func69, Try.ntmps69
  go_wp2_with fail
  refine (clone_any A n c f _ Ha.out (by omega)).mono ?_
  rintro e w1 ⟨v, rfl, hown, hb1⟩
  obtain ⟨A1, c1, rfl, hr1, hbl⟩ := hown.rd
  have Hr1 := hide hr1
  have Hbl := hide hbl
  have hs := hb1.size
  clear hown hr1 hbl
  go_wp2_with fail
  go_ret
  refine ⟨w1.heap.size, rfl, hs, hb1.alloc hs _, fun g w'' hlt hg => Cur.other (w := w1.alloc (.cells #[.slice A1 n c1, .int .i64 0] 194)) ⟨A1, c1, heap_alloc_new w1 _, Hr1.out.alloc _, fun a e => ?_, by omega, hn⟩ (by omega) (fun A' c' hh a e => ?_) hg⟩
  · have := Hbl.out a e
    omega
  · have h2 : (w1.alloc (.cells #[.slice A1 n c1, .int .i64 0] 194)).heap[w1.heap.size]? = some (.cells #[.slice A1 n c1, .int .i64 0] 194 (0, 0)) := heap_alloc_new w1 _
    rw [h2] at hh
    simp at hh
    have := Hbl.out a (hh.1.trans e)
    omega

/-- What 'ahead' gives: the bytes that are left. -/
def Ahead (w : World) (m : Nat) (h : Nat → Int) (e : Ending) (w' : World) : Prop := ∃ A c, e = .returned (.slice A m c) ∧ Rd .u8 w A m c h ∧ Drawn w w'
set_option maxHeartbeats 400000 in
theorem ahead_any (p n t : Nat) (f : Nat → Int) (w : World) (h : Cur w p n f t) :
    Calls Try.prog 167 #[.pointer (some ⟨p, 0, none⟩)] w (Ahead w (n - t) (fun i => f (t + i))) := by
  obtain ⟨A, c, hh, hr, ha, h1, h2⟩ := h
  have c0 := cell_of_row w p 0 _ _ _ hh
  have c1 := cell_of_row w p 1 _ _ _ hh
  simp at c0 c1
  have hcut := bytes_cut A n c t h1
  have Hr := hide (hr.cutR (lo := t) (hi := n) h1 (Nat.le_refl _))
  clear hh hr ha
  go_enter Try.func167, Try.ntmps167
  go_wp2
  go_quiet (fail)
  go_wp2
  go_ret
  exact ⟨_, _, rfl, Hr.out, Drawn.of _ _⟩
theorem aheadNil (w : World) : Calls Try.prog 167 #[.pointer none] w fun e w' => e = .returned (.slice none 0 0) ∧ w = w' := by
  go_enter Try.func167, Try.ntmps167
  go_wp2
  go_ret
  exact ⟨rfl, rfl⟩
theorem left_any (p n t : Nat) (f : Nat → Int) (w : World) (h : Cur w p n f t) :
    Calls Try.prog 153 #[.pointer (some ⟨p, 0, none⟩)] w fun e w' => e = .returned (.int .i64 (n - t : Nat)) ∧ Drawn w w' := by
  have H := hide h
  clear h
  obtain ⟨q, hq⟩ : ∃ q, q = n - t := ⟨_, rfl⟩
  have Hq := hide hq
  rw [← hq]
  clear hq
  go_enter Try.func153, Try.ntmps153
  go_wp2_with fail
  refine (ahead_any p n t f _ H.out).mono ?_
  rintro e w1 ⟨A, c, rfl, _, hd⟩
  rw [← Hq.out]
  go_wp2_with fail
  go_ret
  exact ⟨rfl, hd⟩
theorem leftNil (w : World) : Calls Try.prog 153 #[.pointer none] w fun e w' => e = .returned (.int .i64 0) ∧ w = w' := by
  go_enter Try.func153, Try.ntmps153
  go_wp2_with (go_at_call 167; refine (aheadNil _).mono ?_; rintro e w' ⟨rfl, rfl⟩)
  go_ret
  exact ⟨rfl, rfl⟩

theorem Own.baseT {k : IntKind} {e : TypeId} {B B' : Nat} {w : World} {v : Value} {n : Nat} {f : Nat → Int} (h : w.ownsRow B e 1 v n (row k n f)) (hB : B' ≤ B) : Own k e B' w v n f := by
  refine ⟨h.1, ?_⟩
  rcases h.2 with h2 | ⟨g, cap, cur, hv, hg, r⟩
  · exact .inl h2
  · exact .inr ⟨g, cap, cur, hv, by omega, r⟩
theorem drawn_size {w w' : World} (h : Drawn w w') : w'.heap.size = w.heap.size := by
  obtain ⟨q, rfl⟩ := h
  rfl
/-- Whatever is written into one block that is new, the cursor stays. -/
def Later (w : World) (p n t : Nat) (f : Nat → Int) (w' : World) : Prop := ∀ (g : Nat) (w'' : World), w.heap.size ≤ g → w'.grownBy w'' (some g) → Cur w'' p n f t
theorem Rd.other0 {k : IntKind} {w w' : World} {A : Option Addr} {n c : Nat} {f : Nat → Int} (h : Rd k w A n c f) {B : Nat} (hg : w.grownBy w' (some B)) (hne : ∀ b off, 0 < n → A = some ⟨b, off, none⟩ → b ≠ B) : Rd k w' A n c f :=
  ⟨h.1, h.2.1, h.2.2.1, fun hn => by
    obtain ⟨b, off, hA, hc⟩ := h.2.2.2 hn
    exact ⟨b, off, hA, fun i hi => hg.cell (hc i hi) (by intro e; exact hne b off hn hA (Option.some.inj e))⟩⟩
/-- The state of a cursor, its bytes' address written out, behind a write to a new block. -/
theorem later_of {w w1 w'' : World} {p n t t' c g : Nat} {A : Option Addr} {f : Nat → Int} (h : Cur w p n f t)
    (hh : w1.heap[p]? = some (.cells #[.slice A n c, .int .i64 (t' : Int)] 194 (0, 0))) (hA : ∃ u, w.heap[p]? = some (.cells #[.slice A n c, u] 194 (0, 0))) (hr : Rd .u8 w1 A n c f) (ha : ∀ a, A = some a → a.block ≠ p) (ht : t' ≤ n) (hg1 : w.heap.size ≤ g) (hg : w1.grownBy w'' (some g)) : Cur w'' p n f t' := by
  have hp := h.lt
  have hn : n ≤ 100000000 := by obtain ⟨_, _, _, _, _, _, h⟩ := h; exact h
  have hp1 : p < w1.heap.size := (Array.getElem?_eq_some_iff.1 hh).1
  refine ⟨A, c, (hg.block p hp1 (fun e => by have := Option.some.inj e; omega)).trans hh, hr.other0 hg (fun b off h0 e => ?_), ha, ht, hn⟩
  obtain ⟨A', c', hh', hr', _⟩ := h
  obtain ⟨u, hu⟩ := hA
  rw [hu] at hh'
  simp at hh'
  obtain ⟨⟨rfl, _⟩, _⟩ := hh'
  obtain ⟨b', off', e', hlt, _⟩ := hr'.block h0
  rw [e'] at e
  injection e with e
  injection e with e1
  omega
/-- What is taken: bytes of the call's own, and the cursor behind them. -/
def Took (w : World) (p n t k : Nat) (f : Nat → Int) (e : Ending) (w' : World) : Prop :=
  ∃ A c, e = .returned (.slice A k c) ∧ Rd .u8 w' A k c (fun i => f (t + i)) ∧ (∀ a, A = some a → w.heap.size ≤ a.block ∧ a.off = 0 ∧ a.spot = none) ∧ Cur w' p n f (t + k) ∧ w.grownBy w' (some p) ∧ Own .u8 5 w.heap.size w' (.slice A k c) k (fun i => f (t + i)) ∧ Later w p n (t + k) f w'
theorem take_none (w : World) (P : Option Addr) : Calls Try.prog 168 #[.pointer P, .int .i64 0] w fun e w' => e = .returned (.slice none 0 0) ∧ w = w' := by
  go_enter Try.func168, Try.ntmps168
  go_wp2
  go_ret
  exact ⟨rfl, rfl⟩
set_option maxHeartbeats 800000 in
theorem take_any (p n t k : Nat) (f : Nat → Int) (w : World) (h : Cur w p n f t) (hk : t + k ≤ n) :
    Calls Try.prog 168 #[.pointer (some ⟨p, 0, none⟩), .int .i64 (k : Int)] w (Took w p n t k f) := by
  by_cases h0 : k = 0
  · subst h0
    exact (take_none w _).mono fun e w' ⟨h1, h2⟩ => ⟨none, 0, h1, by subst h2; exact Rd.nil _ _ _, fun a e => (by cases e), by subst h2; exact h, by subst h2; exact World.grownBy.refl _ _, by subst h2; exact Own.nil _ _ _ _ _, by
      subst h2
      obtain ⟨A, c, hh, hr, ha, ht, hn⟩ := h
      exact fun g w'' q1 q2 => later_of ⟨A, c, hh, hr, ha, ht, hn⟩ hh ⟨_, hh⟩ hr ha ht q1 q2⟩
  · have hne : ((k : Int) == 0) = false := by simp; omega
    have hlt := h.lt
    have hn : n ≤ 100000000 := by obtain ⟨_, _, _, _, _, _, h⟩ := h; exact h
    have H := hide h
    have hle : k ≤ n - t := by omega
    obtain ⟨q, hq⟩ : ∃ q, q = n - t := ⟨_, rfl⟩
    have Hq := hide hq
    rw [← hq] at hle
    clear h h0 hq
    go_enter Try.func168, Try.ntmps168
    go_wp2_with fail
    refine (ahead_any p n t f _ H.out).mono ?_
    rintro e w1 ⟨A, c, rfl, hr1, hd1⟩
    rw [← Hq.out] at hr1 ⊢
    have hcut := bytes_cut_h A q c k (by have := hr1.1; omega)
    have Hr1 := hide ((hr1.drawn hd1).front (m := k) hle)
    have Hcut := hide hcut
    have hb1 := drawn_below hd1 w.heap.size
    clear hr1 hd1
    go_wp2_with fail
    refine (clone_any _ k c _ _ Hr1.out (by omega)).mono ?_
    rintro e w2 ⟨v, rfl, hown, hb2⟩
    obtain ⟨A2, c2, rfl, hr2, hbl⟩ := hown.rd
    have hB2 : Below w.heap.size w w2 := hb1.of hb2
    obtain ⟨A0, c0, hh, hr0, ha0, ht0, hn0⟩ := H.out.below hB2
    have d1 := cell_of_row w2 p 1 _ _ _ hh
    simp at d1
    have f1 := frozen_of_row w2 p 1 _ _ hh
    have Hr2 := hide hr2
    have Hown := hide hown
    have Hbl := hide hbl
    have Hh := hide hh
    have Hr0 := hide hr0
    have Ha0 := hide ha0
    have hs1 := hb1.size
    clear hown hr2 hbl hh hr0 ha0 hcut
    go_wp2_with fail
    go_ret
    have hg : w2.grownBy (w2.setCell ⟨p, 1, none⟩ (.int .i64 ((t : Int) + k))) (some p) := grown_cell w2 w2 (Below.refl _ _) p 1 _
    refine ⟨A2, c2, rfl, Hr2.out.other hg (fun b off e => ?_), fun a e => ?_, ⟨A0, c0, ?_, Hr0.out.other hg (fun b off e => Ha0.out _ e), Ha0.out, by omega, hn0⟩, grown_cell w w2 hB2 p 1 _, Own.baseT (World.ownsRow.kept Hown.out hg (by
      cases hA : A2 with
      | none => exact .inl rfl
      | some a => exact .inr (by simp [Value.ownBlock]; have := Hbl.out a hA; omega))) hs1, fun g w'' q1 q2 => later_of H.out (by
        rw [heap_setCell_same w2 p 1 _ _ _ Hh.out]
        simp) ⟨_, (hB2.block p hlt).symm.trans Hh.out⟩ (Hr0.out.other hg (fun b off e => Ha0.out _ e)) Ha0.out (by omega) q1 q2⟩
    · have := Hbl.out _ e
      simp at this
      omega
    · have := Hbl.out _ e
      exact ⟨by omega, this.2.2.1, this.2.2.2⟩
    · rw [heap_setCell_same w2 p 1 _ _ _ Hh.out]
      simp

/-! ### Number, Bytes, Rest -/
set_option maxHeartbeats 800000 in
theorem number_bad (p n t : Nat) (s : Int) (f : Nat → Int) (w : World) (h : Cur w p n f t) (he : getE (n - t) s ≠ 0) :
    Calls Try.prog 148 #[.pointer (some ⟨p, 0, none⟩), .int .i64 s] w fun e w' => e = .returned (.tuple #[.int .i64 0, .int .i64 (getE (n - t) s)]) ∧ Drawn w w' := by
  have hn : n ≤ 100000000 := by obtain ⟨_, _, _, _, _, _, h⟩ := h; exact h
  have H := hide h
  have hne : (getE (n - t) s != 0) = true := by simpa using he
  have He := hide he
  clear h he
  go_enter Try.func148, Try.ntmps148
  go_wp2_with fail
  refine (ahead_any p n t f _ H.out).mono ?_
  rintro e w1 ⟨A, c, rfl, _, hd1⟩
  go_wp2_with fail
  refine (get_bad A _ c s _ (by omega) He.out).mono ?_
  rintro e w2 ⟨rfl, rfl⟩
  go_wp2_with fail
  go_ret2
  exact ⟨rfl, hd1⟩
set_option maxHeartbeats 800000 in
theorem number_ok (p n t s : Nat) (f : Nat → Int) (w : World) (h : Cur w p n f t) (hb : Byt n f) (h1 : 1 ≤ s) (h2 : s ≤ 4) (h3 : t + s ≤ n) :
    Calls Try.prog 148 #[.pointer (some ⟨p, 0, none⟩), .int .i64 (s : Int)] w fun e w' =>
      e = .returned (.tuple #[.int .i64 (num (fun i => f (t + i)) s), .int .i64 0]) ∧ Cur w' p n f (t + s) ∧ w.grownBy w' (some p) := by
  have hn : n ≤ 100000000 := by obtain ⟨_, _, _, _, _, _, h⟩ := h; exact h
  have H := hide h
  have Hb : Hid (Byt (n - t) (fun i => f (t + i))) := fun i hi => hb (t + i) (by omega)
  clear h hb
  generalize hX : num (fun i => f (t + i)) s = X
  have HX := hide hX
  clear hX
  go_enter Try.func148, Try.ntmps148
  go_wp2_with fail
  refine (ahead_any p n t f _ H.out).mono ?_
  rintro e w1 ⟨A, c, rfl, hr1, hd1⟩
  have Hr1 := hide (hr1.drawn hd1)
  clear hr1
  go_wp2_with fail
  refine (get_ok A _ c s _ _ Hr1.out Hb.out h1 h2 (by omega)).mono ?_
  rintro e w2 ⟨rfl, rfl⟩
  rw [HX.out]
  have hB := drawn_below hd1 w.heap.size
  obtain ⟨A0, c0, hh, hr0, ha0, ht0, hn0⟩ := H.out.drawn hd1
  have d1 := cell_of_row w1 p 1 _ _ _ hh
  simp at d1
  have f1 := frozen_of_row w1 p 1 _ _ hh
  have Hh := hide hh
  have Hr0 := hide hr0
  have Ha0 := hide ha0
  clear hh hr0 ha0 hd1
  go_wp2_with fail
  go_ret2
  have hg : w1.grownBy (w1.setCell ⟨p, 1, none⟩ (.int .i64 ((t : Int) + s))) (some p) := grown_cell w1 w1 (Below.refl _ _) p 1 _
  refine ⟨rfl, ⟨A0, c0, ?_, Hr0.out.other hg (fun b off e => Ha0.out _ e), Ha0.out, by omega, hn0⟩, grown_cell w w1 hB p 1 _⟩
  rw [heap_setCell_same w1 p 1 _ _ _ Hh.out]
  simp
theorem Took.start {w w1 : World} {p n t k : Nat} {f : Nat → Int} {e : Ending} {w' : World} (hd : Below w.heap.size w w1) (hds : w1.heap.size = w.heap.size) (h : Took w1 p n t k f e w') : Took w p n t k f e w' := by
  obtain ⟨A, c, h1, h2, h3, h4, h5, h6, h7⟩ := h
  exact ⟨A, c, h1, h2, fun a e => ⟨Nat.le_trans hd.size (h3 a e).1, (h3 a e).2⟩, h4, ⟨h5.os.trans hd.os, h5.tape.trans hd.tape, h5.output.trans hd.output, Nat.le_trans hd.size h5.size, fun i hi hne => (h5.block i (Nat.lt_of_lt_of_le hi hd.size) hne).trans (hd.block i hi)⟩, Own.baseT h6 hd.size, fun g w'' q1 q2 => h7 g w'' (by omega) q2⟩
set_option maxHeartbeats 400000 in
theorem rest_any (p n t : Nat) (f : Nat → Int) (w : World) (h : Cur w p n f t) :
    Calls Try.prog 151 #[.pointer (some ⟨p, 0, none⟩)] w (Took w p n t (n - t) f) := by
  have H := hide h
  have htn : t ≤ n := by obtain ⟨_, _, _, _, _, h, _⟩ := h; exact h
  clear h
  go_enter Try.func151, Try.ntmps151
  go_wp2_with fail
  refine (left_any p n t f _ H.out).mono ?_
  rintro e w1 ⟨rfl, hd1⟩
  have hb1 := drawn_below hd1 w.heap.size
  go_wp2_with fail
  refine (take_any p n t (n - t) f _ (H.out.drawn hd1) (by omega)).mono ?_
  rintro e w2 ht
  obtain ⟨A, c, rfl, h2⟩ := ht.start hb1 (drawn_size hd1)
  have H2 := hide h2
  clear h2
  go_wp2_with fail
  go_ret
  exact ⟨A, c, rfl, H2.out⟩
end

section
open Go.RowKit

theorem numberNil (s : Int) (w : World) : Calls Try.prog 148 #[.pointer none, .int .i64 s] w fun e w' => e = .returned (.tuple #[.int .i64 0, .int .i64 (getE 0 s)]) ∧ w = w' := by
  have he : getE 0 s ≠ 0 := by unfold getE; split <;> (try split) <;> omega
  have hne : (getE 0 s != 0) = true := by simpa using he
  have He := hide he
  clear he
  go_enter Try.func148, Try.ntmps148
  go_wp2_with fail
  refine (aheadNil _).mono ?_
  rintro e w1 ⟨rfl, rfl⟩
  go_wp2_with fail
  refine (get_bad none 0 0 s _ (by omega) He.out).mono ?_
  rintro e w2 ⟨rfl, rfl⟩
  go_wp2_with fail
  go_ret2
  exact ⟨rfl, rfl⟩

/-! ### Bytes -/
theorem bytes_neg (P : Option Addr) (s : Int) (w : World) (h : s < 0) : Calls Try.prog 154 #[.pointer P, .int .i64 s] w fun e w' => e = .returned (.tuple #[.slice none 0 0, .int .i64 1]) ∧ w = w' := by
  go_enter Try.func154, Try.ntmps154
  go_wp2_with fail
  go_ret2
  exact ⟨rfl, rfl⟩
theorem bytes_short (p n t : Nat) (s : Int) (f : Nat → Int) (w : World) (h : Cur w p n f t) (h0 : 0 ≤ s) (h1 : ((n - t : Nat) : Int) < s) :
    Calls Try.prog 154 #[.pointer (some ⟨p, 0, none⟩), .int .i64 s] w fun e w' => e = .returned (.tuple #[.slice none 0 0, .int .i64 3]) ∧ Drawn w w' := by
  have H := hide h
  clear h
  obtain ⟨q, hq⟩ : ∃ q, q = n - t := ⟨_, rfl⟩
  have Hq := hide hq
  rw [← hq] at h1
  clear hq
  go_enter Try.func154, Try.ntmps154
  go_wp2_with fail
  refine (left_any p n t f _ H.out).mono ?_
  rintro e w1 ⟨rfl, hd1⟩
  rw [← Hq.out]
  go_wp2_with fail
  go_ret2
  exact ⟨rfl, hd1⟩
theorem bytes_ok (p n t s : Nat) (f : Nat → Int) (w : World) (h : Cur w p n f t) (h1 : t + s ≤ n) :
    Calls Try.prog 154 #[.pointer (some ⟨p, 0, none⟩), .int .i64 (s : Int)] w fun e w' =>
      ∃ A c, e = .returned (.tuple #[.slice A s c, .int .i64 0]) ∧ Rd .u8 w' A s c (fun i => f (t + i)) ∧ (∀ a, A = some a → w.heap.size ≤ a.block ∧ a.off = 0 ∧ a.spot = none) ∧ Cur w' p n f (t + s) ∧ w.grownBy w' (some p) ∧ Own .u8 5 w.heap.size w' (.slice A s c) s (fun i => f (t + i)) ∧ Later w p n (t + s) f w' := by
  have H := hide h
  clear h
  obtain ⟨q, hq⟩ : ∃ q, q = n - t := ⟨_, rfl⟩
  have Hq := hide hq
  have hsq : s ≤ q := by omega
  clear hq
  go_enter Try.func154, Try.ntmps154
  go_wp2_with fail
  refine (left_any p n t f _ H.out).mono ?_
  rintro e w1 ⟨rfl, hd1⟩
  rw [← Hq.out]
  have hb1 := drawn_below hd1 w.heap.size
  go_wp2_with fail
  refine (take_any p n t s f _ (H.out.drawn hd1) h1).mono ?_
  rintro e w2 ht
  obtain ⟨A, c, rfl, h2⟩ := ht.start hb1 (drawn_size hd1)
  have H2 := hide h2
  clear h2
  go_wp2_with fail
  go_ret2
  exact ⟨A, c, rfl, H2.out⟩
theorem bytesNil_short (s : Int) (w : World) (h0 : 0 < s) : Calls Try.prog 154 #[.pointer none, .int .i64 s] w fun e w' => e = .returned (.tuple #[.slice none 0 0, .int .i64 3]) ∧ w = w' := by
  go_enter Try.func154, Try.ntmps154
  go_wp2_with (go_at_call 153; refine (leftNil _).mono ?_; rintro e w' ⟨rfl, rfl⟩)
  go_ret2
  exact ⟨rfl, rfl⟩
theorem bytesNil_none (w : World) : Calls Try.prog 154 #[.pointer none, .int .i64 0] w fun e w' => e = .returned (.tuple #[.slice none 0 0, .int .i64 0]) ∧ w = w' := by
  go_enter Try.func154, Try.ntmps154
  go_wp2_with (first | (go_at_call 153; refine (leftNil _).mono ?_; rintro e w' ⟨rfl, rfl⟩) | (go_at_call 168; refine (take_none _ _).mono ?_; rintro e w' ⟨rfl, rfl⟩))
  go_ret2
  exact ⟨rfl, rfl⟩
theorem restNil (w : World) : Calls Try.prog 151 #[.pointer none] w fun e w' => e = .returned (.slice none 0 0) ∧ w = w' := by
  go_enter Try.func151, Try.ntmps151
  go_wp2_with (first | (go_at_call 153; refine (leftNil _).mono ?_; rintro e w' ⟨rfl, rfl⟩) | (go_at_call 168; refine (take_none _ _).mono ?_; rintro e w' ⟨rfl, rfl⟩))
  go_ret
  exact ⟨rfl, rfl⟩

/-! ### the law's step -/
/-- What a step answers and leaves. -/
def StepRes (w : World) (p n t : Nat) (f : Nat → Int) (x : Int) (y k : Nat) (er : Int) (e : Ending) (w' : World) : Prop :=
  ∃ A c, e = .returned (.tuple #[.int .i64 x, .slice A y c, .int .i64 er]) ∧ Rd .u8 w' A y c (fun i => f (t + i)) ∧ Cur w' p n f (t + k) ∧ w.grownBy w' (some p)
theorem grown_start {w w1 w2 : World} {row : Option Nat} (hd : Below w.heap.size w w1) (h5 : w1.grownBy w2 row) : w.grownBy w2 row :=
  ⟨h5.os.trans hd.os, h5.tape.trans hd.tape, h5.output.trans hd.output, Nat.le_trans hd.size h5.size, fun i hi hne => (h5.block i (Nat.lt_of_lt_of_le hi hd.size) hne).trans (hd.block i hi)⟩

/-! ### the reference's step -/
theorem results_tmp4 {fn : Func} {t u v x : Tmp} (h : fn.results = #[.tmp t, .tmp u, .tmp v, .tmp x]) (tmps : Array Value) (P : Program) (w : World) :
    (results fn tmps).run P w = .ok (.tuple #[tmps.getD t undef, tmps.getD u undef, tmps.getD v undef, tmps.getD x undef]) w := by simp [results, h]

end

section
open Go.RowKit

theorem keepRow {w w' : World} {b : Nat} {cs : Array Value} {T : TypeId} (h : w.heap[b]? = some (.cells cs T (0, 0))) (hb : Below w.heap.size w w') : w'.heap[b]? = some (.cells cs T (0, 0)) :=
  (hb.block b (Array.getElem?_eq_some_iff.1 h).1).trans h
theorem rowLt {w : World} {b : Nat} {o : Obj} (h : w.heap[b]? = some o) : b < w.heap.size := (Array.getElem?_eq_some_iff.1 h).1
theorem keepGrown {w w' : World} {b : Nat} {cs : Array Value} {T : TypeId} {v : Value} (h : w.heap[b]? = some (.cells cs T (0, 0))) (hg : w.grownBy w' v.ownBlock) (hne : v.ownBlock ≠ some b) : w'.heap[b]? = some (.cells cs T (0, 0)) :=
  (hg.block b (Array.getElem?_eq_some_iff.1 h).1 (fun e => hne e.symm)).trans h
theorem keepOne {w w' : World} {b p : Nat} {cs : Array Value} {T : TypeId} (h : w.heap[b]? = some (.cells cs T (0, 0))) (hg : w.grownBy w' (some p)) (hne : b ≠ p) : w'.heap[b]? = some (.cells cs T (0, 0)) :=
  (hg.block b (Array.getElem?_eq_some_iff.1 h).1 (fun e => hne (Option.some.inj e))).trans h
theorem grown_set (w : World) (p j : Nat) (u : Value) : w.grownBy (w.setCell ⟨p, j, none⟩ u) (some p) := grown_cell w w (Below.refl _ _) p j u
theorem row2 {w : World} {b : Nat} {T : TypeId} {v0 v1 : Value} (h : w.heap[b]? = some (.cells #[v0, v1] T (0, 0))) : w.cell? ⟨b, 0, none⟩ = some v0 ∧ w.cell? ⟨b, 1, none⟩ = some v1 := by
  refine ⟨?_, ?_⟩
  · rw [cell_of_row w b 0 _ _ _ h]; rfl
  · rw [cell_of_row w b 1 _ _ _ h]; rfl
theorem row5 {w : World} {b : Nat} {T : TypeId} {v0 v1 v2 v3 v4 : Value} (h : w.heap[b]? = some (.cells #[v0, v1, v2, v3, v4] T (0, 0))) :
    w.cell? ⟨b, 0, none⟩ = some v0 ∧ w.cell? ⟨b, 1, none⟩ = some v1 ∧ w.cell? ⟨b, 2, none⟩ = some v2 ∧ w.cell? ⟨b, 3, none⟩ = some v3 ∧ w.cell? ⟨b, 4, none⟩ = some v4 := by
  refine ⟨?_, ?_, ?_, ?_, ?_⟩
  · rw [cell_of_row w b 0 _ _ _ h]; rfl
  · rw [cell_of_row w b 1 _ _ _ h]; rfl
  · rw [cell_of_row w b 2 _ _ _ h]; rfl
  · rw [cell_of_row w b 3 _ _ _ h]; rfl
  · rw [cell_of_row w b 4 _ _ _ h]; rfl
theorem row6 {w : World} {b : Nat} {T : TypeId} {v0 v1 v2 v3 v4 v5 : Value} (h : w.heap[b]? = some (.cells #[v0, v1, v2, v3, v4, v5] T (0, 0))) :
    w.cell? ⟨b, 0, none⟩ = some v0 ∧ w.cell? ⟨b, 1, none⟩ = some v1 ∧ w.cell? ⟨b, 2, none⟩ = some v2 ∧ w.cell? ⟨b, 3, none⟩ = some v3 ∧ w.cell? ⟨b, 4, none⟩ = some v4 ∧ w.cell? ⟨b, 5, none⟩ = some v5 := by
  refine ⟨?_, ?_, ?_, ?_, ?_, ?_⟩
  · rw [cell_of_row w b 0 _ _ _ h]; rfl
  · rw [cell_of_row w b 1 _ _ _ h]; rfl
  · rw [cell_of_row w b 2 _ _ _ h]; rfl
  · rw [cell_of_row w b 3 _ _ _ h]; rfl
  · rw [cell_of_row w b 4 _ _ _ h]; rfl
  · rw [cell_of_row w b 5 _ _ _ h]; rfl
theorem setRow (w : World) (g j : Nat) (u : Value) {cs : Array Value} {T : TypeId} (h : w.heap[g]? = some (.cells cs T (0, 0))) : (w.setCell ⟨g, j, none⟩ u).heap[g]? = some (.cells (cs.setIfInBounds j u) T (0, 0)) :=
  heap_setCell_same w g j _ _ _ h
theorem frozenRow {w : World} {g : Nat} {cs : Array Value} {T : TypeId} (h : w.heap[g]? = some (.cells cs T (0, 0))) (j : Nat) : w.frozen? ⟨g, j, none⟩ = false := frozen_of_row w g j _ _ h
theorem Own.ne {k : IntKind} {e : TypeId} {B b : Nat} {w : World} {v : Value} {n : Nat} {f : Nat → Int} (h : Own k e B w v n f) (hb : b < B) : v.ownBlock ≠ some b := fun he => by
  have := (World.ownsRow.lt h b he).1
  omega
theorem Own.rdS {k : IntKind} {e : TypeId} {B : Nat} {w : World} {A : Option Addr} {n c : Nat} {f : Nat → Int} (h : Own k e B w (.slice A n c) n f) : Rd k w A n c f := by
  obtain ⟨A', c', e', h4, _⟩ := h.rd
  injection e' with e1 _ e2
  subst e1
  subst e2
  exact h4
theorem Own.baseB {k : IntKind} {e : TypeId} {B B' : Nat} {w : World} {v : Value} {n : Nat} {f : Nat → Int} (h : Own k e B w v n f) (hB : B' ≤ B) : Own k e B' w v n f := Own.baseT h hB

/-- A cursor at block p whose n bytes f lie at A; t were taken. -/
def CurA (w : World) (p : Nat) (A : Option Addr) (c n : Nat) (f : Nat → Int) (t : Nat) : Prop :=
  w.heap[p]? = some (.cells #[.slice A n c, .int .i64 (t : Int)] 194 (0, 0)) ∧ Rd .u8 w A n c f ∧ (∀ a, A = some a → a.block ≠ p) ∧ t ≤ n ∧ n ≤ 100000000
theorem CurA.cur {w : World} {p c n t : Nat} {A : Option Addr} {f : Nat → Int} (h : CurA w p A c n f t) : Cur w p n f t := ⟨A, c, h⟩
theorem CurA.lt {w : World} {p c n t : Nat} {A : Option Addr} {f : Nat → Int} (h : CurA w p A c n f t) : p < w.heap.size := h.cur.lt
theorem CurA.below {w w' : World} {p c n t : Nat} {A : Option Addr} {f : Nat → Int} (h : CurA w p A c n f t) (hb : Below w.heap.size w w') : CurA w' p A c n f t :=
  ⟨keepRow h.1 hb, h.2.1.below hb, h.2.2⟩
theorem CurA.other {w w' : World} {p c n t g : Nat} {A : Option Addr} {f : Nat → Int} (h : CurA w p A c n f t) (hg : w.grownBy w' (some g)) (hp : p ≠ g) (hA : ∀ a, A = some a → a.block ≠ g) : CurA w' p A c n f t :=
  ⟨keepOne h.1 hg hp, h.2.1.other hg (fun b off e => hA _ e), h.2.2⟩
set_option maxHeartbeats 400000 in
theorem cnewA (A : Option Addr) (n c : Nat) (f : Nat → Int) (w : World) (ha : Rd .u8 w A n c f) (hn : n ≤ 100000000) :
    Calls Try.prog 69 #[.slice A n c] w fun e w' => ∃ p A' c', e = .returned (.pointer (some ⟨p, 0, none⟩)) ∧ w.heap.size ≤ p ∧ CurA w' p A' c' n f 0 ∧ (∀ a, A' = some a → w.heap.size ≤ a.block ∧ a.block < w'.heap.size) ∧ Below w.heap.size w w' := by
  have Ha := hide ha
  clear ha
  go_enter Try.func69, Try.ntmps69
  go_wp2_with fail
  refine (clone_any A n c f _ Ha.out (by omega)).mono ?_
  rintro e w1 ⟨v, rfl, hown, hb1⟩
  obtain ⟨A1, c1, rfl, hr1, hbl⟩ := hown.rd
  have Hr1 := hide hr1
  have Hbl := hide hbl
  have hs := hb1.size
  clear hown hr1 hbl
  go_wp2_with fail
  go_ret
  refine ⟨w1.heap.size, A1, c1, rfl, hs, ⟨heap_alloc_new w1 _, Hr1.out.alloc _, fun a e => ?_, by omega, hn⟩, fun a e => ?_, hb1.alloc hs _⟩
  · have := Hbl.out a e
    omega
  · have := Hbl.out a e
    simp
    omega
set_option maxHeartbeats 400000 in
theorem numberA (p n t s c : Nat) (A : Option Addr) (size : Int) (hs : size = (s : Int)) (f : Nat → Int) (w : World) (h : CurA w p A c n f t) (hb : Byt n f) (h1 : 1 ≤ s) (h2 : s ≤ 4) (h3 : t + s ≤ n) :
    Calls Try.prog 148 #[.pointer (some ⟨p, 0, none⟩), .int .i64 size] w fun e w' =>
      e = .returned (.tuple #[.int .i64 (num (fun i => f (t + i)) s), .int .i64 0]) ∧ CurA w' p A c n f (t + s) ∧ w.grownBy w' (some p) := by
  subst hs
  have hn : n ≤ 100000000 := h.2.2.2.2
  have H := hide h
  have Hb : Hid (Byt (n - t) (fun i => f (t + i))) := fun i hi => hb (t + i) (by omega)
  clear h hb
  generalize hX : num (fun i => f (t + i)) s = X
  have HX := hide hX
  clear hX
  go_enter Try.func148, Try.ntmps148
  go_wp2_with fail
  refine (ahead_any p n t f _ H.out.cur).mono ?_
  rintro e w1 ⟨A1, c1, rfl, hr1, hd1⟩
  have Hr1 := hide (hr1.drawn hd1)
  clear hr1
  go_wp2_with fail
  refine (get_ok A1 _ c1 s _ _ Hr1.out Hb.out h1 h2 (by omega)).mono ?_
  rintro e w2 ⟨rfl, rfl⟩
  rw [HX.out]
  have hB := drawn_below hd1 w.heap.size
  obtain ⟨hh, hr0, ha0, ht0, hn0⟩ := H.out.below hB
  have d1 := cell_of_row w1 p 1 _ _ _ hh
  simp at d1
  have f1 := frozen_of_row w1 p 1 _ _ hh
  have Hh := hide hh
  have Hr0 := hide hr0
  have Ha0 := hide ha0
  clear hh hr0 ha0 hd1
  go_wp2_with fail
  go_ret2
  have hg : w1.grownBy (w1.setCell ⟨p, 1, none⟩ (.int .i64 ((t : Int) + s))) (some p) := grown_cell w1 w1 (Below.refl _ _) p 1 _
  refine ⟨rfl, ⟨?_, Hr0.out.other hg (fun b off e => Ha0.out _ e), Ha0.out, by omega, hn0⟩, grown_cell w w1 hB p 1 _⟩
  rw [heap_setCell_same w1 p 1 _ _ _ Hh.out]
  simp
end
end Go.Proofs.Ytpnjamomkpkkeaa
