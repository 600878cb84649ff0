/- Layer 23: what comes of a block, as one answer for both ways out. -/
import Derived.Test.YtnkcbljhgcgpaaaDoorDeb
namespace Go.Proofs.YtnkcbljhgcgpaaaDoor
set_option linter.unusedVariables false
set_option linter.unusedSimpArgs false
open Go.RowKit Go.Deep Go.ChangeShapes Go.WideShapes

def oE : Ds ⊕ Int → Int
  | .inr er => er
  | .inl _ => 0
def oF : Ds ⊕ Int → List Fd
  | .inr _ => []
  | .inl σ => σ.fs
def oS : Ds ⊕ Int → List Int
  | .inr _ => []
  | .inl σ => σ.szs
def oM (mx : Nat) : Ds ⊕ Int → Nat
  | .inr _ => mx
  | .inl σ => σ.mx
def oT (tb : List Fd) : Ds ⊕ Int → List Fd
  | .inr _ => tb
  | .inl σ => σ.tb
theorem DcR.len {f : Nat → Int} {n t : Nat} {σ σ' : Ds} (h : DcR f n t σ (.inl σ')) (hb : Byt n f) (hn : n ≤ 100000) (hz : ∀ f ∈ σ.tb, SmF f) : σ'.fs.length ≤ σ.fs.length + (n - t) ∧ σ'.szs.length ≤ σ.szs.length + (n - t) := by
  generalize hr : (Sum.inl σ' : Ds ⊕ Int) = r at h
  induction h with
  | done h1 => cases hr; omega
  | bad _ _ _ => cases hr
  | fault _ _ _ => cases hr
  | @go t σ σ1 k i z m ns vs a b r h1 hg he _ ih =>
    have hq := gtr_rng (fun j hj => hb _ (by omega)) hg
    have hl : σ1.fs.length ≤ σ.fs.length + 1 ∧ σ1.szs.length ≤ σ.szs.length + 1 ∧ ∀ f ∈ σ1.tb, SmF f := by
      have h9 := he
      unfold dstep at he
      by_cases h5 : k = 5
      · rw [if_pos h5] at he
        by_cases h6 : σ.fs.length = 0
        · rw [if_pos h6] at he
          cases he
          exact ⟨by show σ.fs.length ≤ _; omega, by simp, fun f hf => hz f (fitL_mem hf)⟩
        · rw [if_neg h6] at he; cases he
      · rw [if_neg h5] at he
        cases hd : dfld σ.tb k i ns vs with
        | none => rw [hd] at he; cases he
        | some f =>
          rw [hd] at he
          simp only [Sum.inl.injEq] at he
          subst he
          refine ⟨by simp, by simp, fun g hg => ?_⟩
          simp only at hg
          have hf := dfld_sm hz (by omega) (by omega) hd
          by_cases h2 : k = 2
          · rw [if_pos h2] at hg
            rcases addL_mem hg with rfl | hg
            · exact hf
            · exact hz g hg
          · rw [if_neg h2] at hg
            exact hz g hg
    have := ih hl.2.2 hr
    omega
theorem out_ok {f : Nat → Int} {n mx T : Nat} {tb : List Fd} {r : Ds ⊕ Int} (h : DcR f n 0 ⟨[], [], mx, tb⟩ r) (hb : Byt n f) (hn : n ≤ 100000) (hsm : ∀ f ∈ tb, SmF f) (hT : tb.length ≤ T) (hmx : mx ≤ 2147483647) :
    (∀ f ∈ oT tb r, SmF f) ∧ (oT tb r).length ≤ T + n ∧ oM mx r ≤ 2147483647 ∧ (oF r).length ≤ n ∧ (oS r).length ≤ n := by
  cases r with
  | inr er => exact ⟨hsm, Nat.le_trans hT (Nat.le_add_right _ _), hmx, Nat.zero_le _, Nat.zero_le _⟩
  | inl σ =>
    have h1 := DcR.ok (T := T) hb hn h ⟨fun f hf => absurd hf (by simp), hsm, hT, hmx⟩
    have h2 := h.len hb hn hsm
    simp only [List.length_nil, Nat.zero_add, Nat.sub_zero] at h2
    exact ⟨h1.tb, h1.len, h1.mx, h2.1, h2.2⟩
theorem nilRdV (s : Nat) (w : World) (F : Nat → Value) : RdV s w none 0 0 F := ⟨Nat.le_refl _, by simp [maxLen], fun _ => rfl, fun h => absurd h (Nat.lt_irrefl _)⟩
def DcQ (B : Nat) (pd : Nat) (g : Option Nat) (f : Nat → Int) (n : Nat) (mx : Nat) (tb : List Fd) (w : World) (e : Ending) (w' : World) : Prop :=
  ∃ (r : Ds ⊕ Int) (A1 : Option Addr) (c1 : Nat) (A2 : Option Addr) (c2 : Nat) (g' : Option Nat), e = .returned (.tuple #[.agg #[.slice A1 (oF r).length c1, .slice A2 (oS r).length c2], .int .i64 (oE r)]) ∧ DcR f n 0 ⟨[], [], mx, tb⟩ r ∧
    OwnO 3 51 w.heap.size w' (.slice A1 (oF r).length c1) (oF r).length (fdV (fn (oF r))) ∧ OwnO 1 3 w.heap.size w' (.slice A2 (oS r).length c2) (oS r).length (inV (oS r)) ∧ TL B w' pd g' (oM mx r) (oT tb r) ∧ FrO B (fun i => i = pd) w w' ∧ (g' = g ∨ ∀ i, g' = some i → w.heap.size ≤ i)
theorem decodeQ {B : Nat} {w : World} {pd : Nat} {g : Option Nat} {mx : Nat} {tb : List Fd} {T : Nat} (hd : TL B w pd g mx tb) (hB : B ≤ w.heap.size) (hsm : ∀ f ∈ tb, SmF f) (hT : tb.length ≤ T) (hT2 : T ≤ 700000) (A : Option Addr) (n c : Nat) (f : Nat → Int) (ha : Rd .u8 w A n c f) (hb : Byt n f) (hn : n ≤ 100000)
    (Ty : TypeId) (fr : Nat × Nat) (hg : w.heap[0]? = some (.cells formsV Ty fr)) :
    Calls Tryd.prog 10 #[.pointer (some ⟨pd, 0, none⟩), .slice A n c] w (DcQ B pd g f n mx tb w) := by
  refine (decode23 hd hB hsm hT hT2 A n c f ha hb hn Ty fr hg).mono ?_
  rintro e w' ⟨r, hr, hm⟩
  cases r with
  | inr er =>
    obtain ⟨rfl, h1, h2⟩ := hm
    exact ⟨.inr er, none, 0, none, 0, g, rfl, hr, OwnO.nil _ _ _ _ _, OwnO.nil _ _ _ _ _, hd.below h2, FrO.of h2 hB, .inl rfl⟩
  | inl σ =>
    obtain ⟨A1, c1, A2, c2, g', rfl, h1, h2, h3, h4, h5⟩ := hm
    exact ⟨.inl σ, A1, c1, A2, c2, g', rfl, hr, h1, h2, h3, h5, .inr h4⟩
def DrQ (f : Nat → Int) (n : Nat) (mx : Nat) (tb : List Fd) (A0 : Option Addr) (w : World) (e : Ending) (w' : World) : Prop :=
  ∃ (r : Ds ⊕ Int) (Af : Option Addr) (cf : Nat) (As : Option Addr) (cs : Nat) (An : Option Addr) (cn : Nat), e = .returned (.tuple #[.slice Af (oF r).length cf, .slice As (oS r).length cs, .agg #[.slice An (oT tb r).length cn, .int .i64 (oM mx r : Int)], .int .i64 (oE r)]) ∧ DcR f n 0 ⟨[], [], mx, tb⟩ r ∧
    RdV 3 w' Af (oF r).length cf (fdV (fn (oF r))) ∧ RdV 1 w' As (oS r).length cs (inV (oS r)) ∧ RdV 3 w' An (oT tb r).length cn (fdV (fn (oT tb r))) ∧ (∀ a, An = some a → a.block < w'.heap.size ∧ ((∃ a0, A0 = some a0 ∧ a0.block = a.block) ∨ w.heap.size ≤ a.block)) ∧ Below w.heap.size w w' ∧ (∀ a, Af = some a → w.heap.size ≤ a.block) ∧ (∀ a, As = some a → w.heap.size ≤ a.block)
theorem rdecodeQ {w : World} {A : Option Addr} {c mx : Nat} {tb : List Fd} {T : Nat} (hd : RdV 3 w A tb.length c (fdV (fn tb))) (hA : ∀ a, A = some a → a.block < w.heap.size) (hmx : mx ≤ 2147483647) (hsm : ∀ f ∈ tb, SmF f) (hT : tb.length ≤ T) (hT2 : T ≤ 700000) (A1 : Option Addr) (n c1 : Nat) (f : Nat → Int) (ha : Rd .u8 w A1 n c1 f) (hb : Byt n f) (hn : n ≤ 1000) :
    Calls Tryd.prog 11 #[.agg #[.slice A tb.length c, .int .i64 (mx : Int)], .slice A1 n c1] w (DrQ f n mx tb A w) := by
  refine (rdecode23 hd hA hmx hsm hT hT2 A1 n c1 f ha hb hn).mono ?_
  rintro e w' ⟨r, hr, hm⟩
  cases r with
  | inr er =>
    obtain ⟨rfl, h1, h2⟩ := hm
    exact ⟨.inr er, none, 0, none, 0, A, c, rfl, hr, nilRdV _ _ _, nilRdV _ _ _, hd.below36O h2, fun a ha => ⟨Nat.lt_of_lt_of_le (hA a ha) h2.size, .inl ⟨a, ha, rfl⟩⟩, h2, (fun a ha => by cases ha), (fun a ha => by cases ha)⟩
  | inl σ =>
    obtain ⟨Af, cf, As, cs, An, cn, rfl, h1, h2, h3, h4, h5⟩ := hm
    exact ⟨.inl σ, Af, cf, As, cs, An, cn, rfl, hr, h1.rdS, h2.rdS, h3, h4, h5, (fun a ha => by subst ha; exact (h1.lt a.block rfl).1), (fun a ha => by subst ha; exact (h2.lt a.block rfl).1)⟩
end Go.Proofs.YtnkcbljhgcgpaaaDoor
