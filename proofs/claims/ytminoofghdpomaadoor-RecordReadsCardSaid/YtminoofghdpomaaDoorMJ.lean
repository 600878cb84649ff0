/- Set1, Set2, Set3 in one text. -/
import Derived.Test.YtminoofghdpomaaDoorMA
import Derived.Test.YtminoofghdpomaaDoorVal
namespace Go.Proofs.YtminoofghdpomaaDoor
set_option linter.unusedVariables false
set_option linter.unusedSimpArgs false
section
open Go.RowKit

section
variable {P : Program} {e : TypeId} {w : World} {ops : Array Oper} {rest : List Oper} {o : Oper} {a : Act} {Q : Exit → Act → World → Prop}
/-- make([]T, n). -/
theorem wp_mkV (hgd : o.guard = none) (l c : Operand) (t : TypeId) (hop : o.op = Op.makeSlice t l c) (s : Nat)
    (i : TypeInfo) (z : Value) (bytes : Nat) (ht : P.underlying t = some (.slice e)) (hi : P.info? e = some i) (hz : i.zero = some z) (hsize : i.size = s) (hby : i.bytes = bytes) (F : Nat → Value)
    (B : Nat) (kl kc : IntKind) (L C : Int) (n : Nat) (hl : a.eval l = .int kl L) (hc : a.eval c = .int kc C) (hL : L = (n : Int)) (hC : C = (n : Int)) (hrow : (madeCells z.cells (n * s)).toList = rowV (n * s) F) (b2 : bytes * n ≤ 281474976710656) (b3 : n ≤ maxLen) (b4 : B ≤ w.heap.size)
    (hK : ∀ w', OwnV s e B w' (.slice (some ⟨w.heap.size, 0, none⟩) n n) n F → w.grownBy w' none → w'.heap.size = w.heap.size + 1 → wpList P ops Q rest (a.put o.dst (.slice (some ⟨w.heap.size, 0, none⟩) n n)) w') :
    wpList P ops Q (o :: rest) a w := by
  refine wpList_plain hgd fun K hK' => ?_
  subst hL
  subst hC
  have hb : (i.bytes : Int) * (n : Int) ≤ 281474976710656 := by
    rw [hby]
    have h : ((bytes * n : Nat) : Int) ≤ 281474976710656 := by omega
    rwa [Int.natCast_mul] at h
  have hr := run_make (P := P) w t e i z ht hi hz kl kc n n (by omega) (by omega) hb (by simp only [maxLen] at b3; omega)
  simp only [Int.toNat_natCast] at hr
  rw [hsize] at hr
  have h1 := OwnV.lit s e B w F (madeCells z.cells (n * s)) n b4 b3 hrow
  unfold Oper.wp
  simp [execOp, hop, hl, hc, hr, Result.andThen]
  exact hK' _ _ (hK _ h1 (World.grownBy_alloc w _ none) (by simp))
end
theorem made2 (n : Nat) : (madeCells (Value.agg #[.int .i64 0, .int .i64 0]).cells (n * 2)).toList = rowV (n * 2) (pr (oneF 0) (oneF 0)) := by
  simp only [madeCells, rowV, Array.toList_map, Array.toList_range, Value.cells]
  refine List.map_congr_left fun i _ => ?_
  rcases Nat.mod_two_eq_zero_or_one i with h | h <;> simp [h, pr, oneF]

/-- The settings that bytes are. -/
def sF (f : Nat → Int) (i : Nat) : Int := num (fun j => f (i * 6 + j)) 2
def sG (f : Nat → Int) (i : Nat) : Int := num (fun j => f (i * 6 + 2 + j)) 4
/-- Those of the first k. -/
def upF (k : Nat) (F : Nat → Int) (i : Nat) : Int := if i < k then F i else 0
theorem upF_succ (k : Nat) (F : Nat → Int) : setF (upF k F) k (F k) = upF (k + 1) F := by
  funext i
  unfold setF upF
  by_cases h : i = k
  · subst h
    simp
  · by_cases h2 : i < k
    · have : i < k + 1 := by omega
      simp [h, h2, this]
    · have : ¬ i < k + 1 := by omega
      simp [h, h2, this]
/-- What a parse hands back. -/
def Sets (w : World) (m : Nat) (F G : Nat → Int) (v2 : Value) (e : Ending) (w' : World) : Prop :=
  ∃ A c, e = .returned (.tuple #[.slice A m c, v2]) ∧ Rd2 w' A m c F G ∧ Below w.heap.size w w'

end

section
open Go.RowKit

theorem numS_congr {f g : Nat → Int} {k : Nat} (h : ∀ j, f j = g j) : num f k = num g k := by rw [funext h]
theorem OwnV.ltB {s : Nat} {e : TypeId} {B : Nat} {w : World} {v : Value} {n : Nat} {F : Nat → Value} (h : OwnV s e B w v n F) : ∀ j, v.ownBlock = some j → B ≤ j := fun j e => (World.ownsRow.lt h j e).1
def RSets (w : World) (n : Nat) (f : Nat → Int) (e : Ending) (w' : World) : Prop :=
  (∃ m, n = m * 6 ∧ Sets w m (sF f) (sG f) (.bool true) e w') ∨ (n % 6 ≠ 0 ∧ e = .returned (.tuple #[.slice none 0 0, .bool false]) ∧ Below w.heap.size w w')
theorem app_set {f : Nat → Int} {k : Nat} {x y : Int} (hx : sF f k = x) (hy : sG f k = y) : ∀ i, i < (k + 1) * 2 → catV (k * 2) (pr (sF f) (sG f)) (pr (oneF x) (oneF y)) i = pr (sF f) (sG f) i := by
  intro i hi
  rw [pr_cat]
  refine pr_congr (n := k + 1) (fun j hj => ?_) (fun j hj => ?_) i hi
  · by_cases h : j < k
    · simp [catF, h]
    · obtain rfl : j = k := by omega
      simp [catF, oneF, hx]
  · by_cases h : j < k
    · simp [catF, h]
    · obtain rfl : j = k := by omega
      simp [catF, oneF, hy]

/-! ### the reference's comparing -/
def same2B (n m : Nat) (f g f' g' : Nat → Int) : Bool := decide (n = m ∧ ∀ i, i < n → f i = f' i ∧ g i = g' i)
end

section
open Go.RowKit

theorem results_cellS {fn : Func} {p : Tmp} {ty : TypeId} (h : fn.results = #[.cell p ty]) (tmps : Array Value) (P : Program) (w : World) :
    (results fn tmps).run P w = ((asAddr (tmps.getD p undef)).run P w).andThen fun a w' => (loadVar ty a).run P w' := by
  simp [results, h]
abbrev ini : Value := .agg #[.int .i64 4096, .int .i64 1, .int .i64 4294967296, .int .i64 65535, .int .i64 16384, .int .i64 4294967296]
def lit6 : Nat → Int := fun i => if i = 1 then 5 else if i = 4 then 64 else 0
theorem lit6_byt : Byt 6 lit6 := by intro i _; unfold lit6; repeat' split <;> omega
theorem Rd.litS (w : World) (cs : Array Value) (n : Nat) (f : Nat → Int) (hn : n ≤ maxLen) (h : cs.toList = row .u8 n f) {b : Nat} (hb : b = w.heap.size) : Rd .u8 (w.alloc (.cells cs 5)) (some ⟨b, 0, none⟩) n n f := by
  subst hb
  exact (Own.lit .u8 5 0 w f cs n (Nat.zero_le _) hn h).rdS
/-! ### Put -/
def okS (F G : Nat → Int) (i : Nat) : Prop := (0 ≤ F i ∧ F i < 65536) ∧ (0 ≤ G i ∧ G i < 4294967296)
instance okS_dec (F G : Nat → Int) (i : Nat) : Decidable (okS F G i) := by unfold okS; infer_instance
/-- The bytes of settings. -/
def sB (F G : Nat → Int) (j : Nat) : Int := if j % 6 < 2 then byteAt (F (j / 6)) 2 (j % 6) else byteAt (G (j / 6)) 4 (j % 6 - 2)
theorem sB_app (F G : Nat → Int) (k : Nat) : ∀ i, i < k * 6 + 6 → catF (k * 6) (sB F G) (putF 2 (putF 0 (oneF 0) 2 (F k)) 4 (G k)) i = sB F G i := by
  intro i hi
  by_cases h : i < k * 6
  · simp [catF, h]
  · have e1 : i / 6 = k := by omega
    have e2 : i % 6 = i - k * 6 := by omega
    have e3 : catF (k * 6) (sB F G) (putF 2 (putF 0 (oneF 0) 2 (F k)) 4 (G k)) i = putF 2 (putF 0 (oneF 0) 2 (F k)) 4 (G k) (i - k * 6) := by simp [catF, h]
    rw [e3]
    unfold sB
    rw [e1, e2]
    by_cases h2 : i - k * 6 < 2
    · simp [putF, catF, h2]
    · simp [putF, catF, h2]
theorem sB_app2 (F G : Nat → Int) (k : Nat) : ∀ i, i < k * 6 + 2 + 4 → catF (k * 6 + 2) (catF (k * 6) (sB F G) (putF 0 (oneF 0) 2 (F k))) (putF 0 (oneF 0) 4 (G k)) i = sB F G i := by
  intro i hi
  rw [← sB_app F G k i (by omega)]
  by_cases h : i < k * 6
  · have h2 : i < k * 6 + 2 := by omega
    simp [catF, h, h2]
  · by_cases h2 : i < k * 6 + 2
    · have h3 : i - k * 6 < 2 := by omega
      simp [catF, putF, h, h2, h3]
    · have h3 : ¬ i - k * 6 < 2 := by omega
      have e : i - (k * 6 + 2) = i - k * 6 - 2 := by omega
      simp [catF, putF, h, h2, h3, e]
def SPut (w : World) (n : Nat) (F G : Nat → Int) (no : Value) (yes : Value) (e : Ending) (w' : World) : Prop :=
  ((∀ i, i < n → okS F G i) ∧ ∃ A c, e = .returned (.tuple #[.slice A (n * 6) c, yes]) ∧ Rd .u8 w' A (n * 6) c (sB F G) ∧ Below w.heap.size w w') ∨
  (¬ (∀ i, i < n → okS F G i) ∧ e = .returned (.tuple #[.slice none 0 0, no]) ∧ Below w.heap.size w w')
theorem pw2 : pw ((2 : Nat) : Int) = 65536 := by decide
theorem pw4 : pw ((4 : Nat) : Int) = 4294967296 := by decide

end
end Go.Proofs.YtminoofghdpomaaDoor
