/- Layer 13: alive; the contracts of 'setting.Put' and of its reference. -/
import Derived.Test.YteikpdolickkaaaSet2
namespace Go.Proofs.Yteikpdolickkaaa
open Go.RowKit

theorem results_cellS {fn : Func} {p : Tmp} {ty : TypeId} (h : fn.results = #[.cell p ty]) (tmps : Array Value) (P : Program) (w : World) :
    (results fn tmps).run P w = ((asAddr (tmps.getD p undef)).run P w).andThen fun a w' => (loadVar ty a).run P w' := by
  simp [results, h]
abbrev ini : Value := .agg #[.int .i64 4096, .int .i64 1, .int .i64 4294967296, .int .i64 65535, .int .i64 16384, .int .i64 4294967296]
theorem init_any (w : World) : Calls Try.prog 142 #[] w fun e w' => e = .returned ini ∧ Below w.heap.size w w' := by
  go_enter Try.func142, Try.ntmps142
  go_wp2
  refine bodyPost_ret (v := ini) ?_ rfl ⟨rfl, (Below.refl _ _).alloc (Nat.le_refl _) _⟩
  rw [results_cellS rfl]
  go_simp
theorem rinit_any (w : World) : Calls Try.prog 143 #[] w fun e w' => e = .returned ini ∧ Below w.heap.size w w' := by
  go_enter Try.func143, Try.ntmps143
  go_wp2
  refine bodyPost_ret (v := ini) ?_ rfl ⟨rfl, (Below.refl _ _).alloc (Nat.le_refl _) _⟩
  rw [results_cellS rfl]
  go_simp
def lit6 : Nat → Int := fun i => if i = 1 then 5 else if i = 4 then 64 else 0
theorem lit6_byt : Byt 6 lit6 := by intro i _; unfold lit6; repeat' split <;> omega
theorem Rd.litS (w : World) (cs : Array Value) (n : Nat) (f : Nat → Int) (hn : n ≤ maxLen) (h : cs.toList = row .u8 n f) {b : Nat} (hb : b = w.heap.size) : Rd .u8 (w.alloc (.cells cs 5)) (some ⟨b, 0, none⟩) n n f := by
  subst hb
  exact (Own.lit .u8 5 0 w f cs n (Nat.zero_le _) hn h).rdS
/-! ### Put -/
def okS (F G : Nat → Int) (i : Nat) : Prop := (0 ≤ F i ∧ F i < 65536) ∧ (0 ≤ G i ∧ G i < 4294967296)
instance okS_dec (F G : Nat → Int) (i : Nat) : Decidable (okS F G i) := by unfold okS; infer_instance
/-- The bytes of settings. -/
def sB (F G : Nat → Int) (j : Nat) : Int := if j % 6 < 2 then byteAt (F (j / 6)) 2 (j % 6) else byteAt (G (j / 6)) 4 (j % 6 - 2)
theorem sB_app (F G : Nat → Int) (k : Nat) : ∀ i, i < k * 6 + 6 → catF (k * 6) (sB F G) (putF 2 (putF 0 (oneF 0) 2 (F k)) 4 (G k)) i = sB F G i := by
  intro i hi
  by_cases h : i < k * 6
  · simp [catF, h]
  · have e1 : i / 6 = k := by omega
    have e2 : i % 6 = i - k * 6 := by omega
    have e3 : catF (k * 6) (sB F G) (putF 2 (putF 0 (oneF 0) 2 (F k)) 4 (G k)) i = putF 2 (putF 0 (oneF 0) 2 (F k)) 4 (G k) (i - k * 6) := by simp [catF, h]
    rw [e3]
    unfold sB
    rw [e1, e2]
    by_cases h2 : i - k * 6 < 2
    · simp [putF, catF, h2]
    · simp [putF, catF, h2]
theorem sB_app2 (F G : Nat → Int) (k : Nat) : ∀ i, i < k * 6 + 2 + 4 → catF (k * 6 + 2) (catF (k * 6) (sB F G) (putF 0 (oneF 0) 2 (F k))) (putF 0 (oneF 0) 4 (G k)) i = sB F G i := by
  intro i hi
  rw [← sB_app F G k i (by omega)]
  by_cases h : i < k * 6
  · have h2 : i < k * 6 + 2 := by omega
    simp [catF, h, h2]
  · by_cases h2 : i < k * 6 + 2
    · have h3 : i - k * 6 < 2 := by omega
      simp [catF, putF, h, h2, h3]
    · have h3 : ¬ i - k * 6 < 2 := by omega
      have e : i - (k * 6 + 2) = i - k * 6 - 2 := by omega
      simp [catF, putF, h, h2, h3, e]
def SPut (w : World) (n : Nat) (F G : Nat → Int) (no : Value) (yes : Value) (e : Ending) (w' : World) : Prop :=
  ((∀ i, i < n → okS F G i) ∧ ∃ A c, e = .returned (.tuple #[.slice A (n * 6) c, yes]) ∧ Rd .u8 w' A (n * 6) c (sB F G) ∧ Below w.heap.size w w') ∨
  (¬ (∀ i, i < n → okS F G i) ∧ e = .returned (.tuple #[.slice none 0 0, no]) ∧ Below w.heap.size w w')
theorem pw2 : pw ((2 : Nat) : Int) = 65536 := by decide
theorem pw4 : pw ((4 : Nat) : Int) = 4294967296 := by decide

end Go.Proofs.Yteikpdolickkaaa
