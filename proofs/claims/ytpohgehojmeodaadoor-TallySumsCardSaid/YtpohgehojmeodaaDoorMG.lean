/- Fd1, Fd2 in one text. -/
import Derived.Test.YtpohgehojmeodaaDoorVal
import Derived.Deep.Slices
import Derived.ShutString
import Derived.PlainAid
import Derived.Test.YtpohgehojmeodaaDoorMA
import Derived.Test.YtpohgehojmeodaaDoorProg
namespace Go.Proofs.YtpohgehojmeodaaDoor
set_option linter.unusedVariables false
set_option linter.unusedSimpArgs false
section
open Go.RowKit Go.ChangeShapes Go.WideShapes Go.Deep

/-- A field: its name, its value, and whether it may never be kept. -/
structure Fd where
  name : ByteArray
  val : ByteArray
  nev : Bool
instance : Inhabited Fd := ⟨⟨⟨#[]⟩, ⟨#[]⟩, false⟩⟩
/-- The slice reads as the fields F i, i < n. -/
def RdFd (w : World) (A : Option Addr) (n c : Nat) (F : Nat → Fd) : Prop :=
  n ≤ c ∧ c ≤ maxLen ∧ (A = none → c = 0) ∧ (0 < n → ∃ b off, A = some ⟨b, off, none⟩ ∧ ∀ i, i < n → w.cell? ⟨b, off + i * 3, none⟩ = some (.string (F i).name) ∧ w.cell? ⟨b, off + i * 3 + 1, none⟩ = some (.string (F i).val) ∧ w.cell? ⟨b, off + i * 3 + 2, none⟩ = some (.bool (F i).nev)) ∧
  ∀ i, i < n → (F i).name.size ≤ maxLen ∧ (F i).val.size ≤ maxLen
theorem RdFd.below {w w' : World} {A : Option Addr} {n c : Nat} {F : Nat → Fd} (h : RdFd w A n c F) (hb : Below w.heap.size w w') : RdFd w' A n c F :=
  ⟨h.1, h.2.1, h.2.2.1, fun hn => by
    obtain ⟨b, off, hA, hc⟩ := h.2.2.2.1 hn
    exact ⟨b, off, hA, fun i hi => by
      have h1 := (hc i hi).1
      have h2 := (hc i hi).2.1
      have h3 := (hc i hi).2.2
      rw [hb.cell (World.block_lt_of_cell? w _ h1), hb.cell (World.block_lt_of_cell? w _ h2), hb.cell (World.block_lt_of_cell? w _ h3)]
      exact ⟨h1, h2, h3⟩⟩, h.2.2.2.2⟩
theorem RdFd.at_ {w : World} {A : Option Addr} {n c : Nat} {F : Nat → Fd} (h : RdFd w A n c F) {i : Nat} (hi : i < n) :
    ∃ b off, A = some ⟨b, off, none⟩ ∧ w.cell? ⟨b, off + i * 3, none⟩ = some (.string (F i).name) ∧ w.cell? ⟨b, off + i * 3 + 1, none⟩ = some (.string (F i).val) ∧ w.cell? ⟨b, off + i * 3 + 2, none⟩ = some (.bool (F i).nev) := by
  obtain ⟨b, off, hA, hc⟩ := h.2.2.2.1 (by omega)
  exact ⟨b, off, hA, hc i hi⟩
theorem RdFd.drew {w : World} {A : Option Addr} {n c : Nat} {F : Nat → Fd} (h : RdFd w A n c F) : RdFd w.drew A n c F := h
theorem RdFd.drewN {w : World} {A : Option Addr} {n c : Nat} {F : Nat → Fd} (h : RdFd w A n c F) (m : Nat) : RdFd (w.drewN m) A n c F := h
theorem RdFd.len {w : World} {A : Option Addr} {n c : Nat} {F : Nat → Fd} (h : RdFd w A n c F) {i : Nat} (hi : i < n) : (F i).name.size ≤ 9223372036854775807 ∧ (F i).val.size ≤ 9223372036854775807 := by
  have := h.2.2.2.2 i hi
  simp only [maxLen] at this
  exact ⟨by omega, by omega⟩
theorem RdFd.le {w : World} {A : Option Addr} {n c : Nat} {F : Nat → Fd} (h : RdFd w A n c F) : n ≤ 9223372036854775807 := by
  have h1 := h.1
  have h2 := h.2.1
  simp only [maxLen] at h2
  omega
theorem RdFd.nil (w : World) (F : Nat → Fd) : RdFd w none 0 0 F := ⟨Nat.le_refl _, by simp [maxLen], fun _ => rfl, fun h => absurd h (by omega), fun i hi => by omega⟩

section
variable {H : Type} {enc : TypeId × Value → H} {P : Program} {w : World} {base : Nat} {spare : Nat → Bool} {held : Bool}
theorem rdfd_of {t e : TypeId} {f0 f1 f2 : Field} {fuel : Nat} {a : Option Addr} {len cap : Nat} {x : DataW H × List MemPlace} (ht : P.underlying t = some (.slice e)) (he : P.underlying e = some (.struct #[f0, f1, f2]))
    (hC : P.cellsOf e = 3) (o0 : f0.offset = 0) (o1 : f1.offset = 1) (o2 : f2.offset = 2) (k0 : P.cellsOf f0.type = 1) (k1 : P.cellsOf f1.type = 1) (k2 : P.cellsOf f2.type = 1) (u0 : P.underlying f0.type = some .string) (u1 : P.underlying f1.type = some .string) (u2 : P.underlying f2.type = some .bool)
    (h : DataW.trod enc P w base spare held fuel t [.slice a len cap] = some x) : ∃ F, RdFd w a len cap F := by
  rcases open_slice ht h with ⟨hcs, _⟩ | ⟨ad, l, c, m, n, D, Pl, hcs, _, hl, hm, hmm, _, hi⟩
  · simp at hcs
    obtain ⟨rfl, rfl, rfl⟩ := hcs
    exact ⟨fun _ => default, RdFd.nil _ _⟩
  · simp at hcs
    obtain ⟨rfl, rfl, rfl⟩ := hcs
    have hlm : len ≤ m := by rw [hmm]; split <;> omega
    have key : ∀ i, i < len → ∃ p : Fd, (w.cell? (ad.add (i * 3)) = some (.string p.name) ∧ w.cell? ((ad.add (i * 3)).add 1) = some (.string p.val) ∧ w.cell? ((ad.add (i * 3)).add 2) = some (.bool p.nev)) ∧ p.name.size ≤ maxLen ∧ p.val.size ≤ maxLen := by
      intro i him
      obtain ⟨cs', hc, ht'⟩ := hi i (by omega)
      rw [hC] at hc
      obtain ⟨_, hcl, hat⟩ := World.cells?_some hc
      obtain ⟨ys, n', _, _, _, hyl, hf⟩ := DataW.trod_struct he ht'
      match cs', hcl, hat, ys, hyl, hf with
      | [q0, q1, q2], _, hat, [ya, yb, yc], _, hf =>
        have a0 := hf 0 f0 rfl
        have a1 := hf 1 f1 rfl
        have a2 := hf 2 f2 rfl
        rw [o0, k0] at a0
        rw [o1, k1] at a1
        rw [o2, k2] at a2
        obtain ⟨v0, e0, _, w0⟩ := DataW.trod_string u0 (show DataW.trod enc P w base spare held n' f0.type [q0] = some ya from a0)
        obtain ⟨v1, e1, _, w1⟩ := DataW.trod_string u1 (show DataW.trod enc P w base spare held n' f1.type [q1] = some yb from a1)
        obtain ⟨v2, e2, _⟩ := DataW.trod_bool u2 (show DataW.trod enc P w base spare held n' f2.type [q2] = some yc from a2)
        simp at e0 e1 e2
        subst e0
        subst e1
        subst e2
        have h0 := hat 0 (by omega)
        have h1 := hat 1 (by omega)
        have h2 := hat 2 (by omega)
        refine ⟨⟨v0, v1, v2⟩, ⟨?_, by simpa using h1, by simpa using h2⟩, w0, w1⟩
        have e : (ad.add (i * 3)).add 0 = ad.add (i * 3) := by simp [Addr.add]
        rw [e] at h0
        simpa using h0
    obtain ⟨F, hF⟩ := choose_lt key
    refine ⟨F, ⟨hl, hm, fun e => (by cases e), fun hn => ?_, fun i hi => (hF i hi).2⟩⟩
    obtain ⟨b, off, spot⟩ := ad
    have h0 := (hF 0 hn).1.1
    have hs : spot = none := by simpa [Addr.add] using World.cell?_spot h0
    subst hs
    refine ⟨b, off, rfl, fun i hi => ?_⟩
    have := (hF i hi).1
    rw [Addr.add_lit, Addr.add_lit, Addr.add_lit] at this
    exact this
end
end

section
open Go.RowKit

/-- The cells of fields. -/
def fdV (F : Nat → Fd) : Nat → Value := fun i => if i % 3 = 0 then .string (F (i / 3)).name else if i % 3 = 1 then .string (F (i / 3)).val else .bool (F (i / 3)).nev
theorem fdV_0 (F : Nat → Fd) (i : Nat) : fdV F (i * 3) = .string (F i).name := by simp [fdV]
theorem fdV_1 (F : Nat → Fd) (i : Nat) : fdV F (i * 3 + 1) = .string (F i).val := by
  have h1 : (i * 3 + 1) % 3 = 1 := by omega
  have h2 : (i * 3 + 1) / 3 = i := by omega
  simp [fdV, h1, h2]
theorem fdV_2 (F : Nat → Fd) (i : Nat) : fdV F (i * 3 + 2) = .bool (F i).nev := by
  have h1 : (i * 3 + 2) % 3 = 2 := by omega
  have h2 : (i * 3 + 2) / 3 = i := by omega
  simp [fdV, h1, h2]
theorem fdV_one (F : Nat → Fd) (n : Nat) : ∀ i, i < n → (fdV F i).oneCell' = true := by
  intro i _
  unfold fdV
  split
  · rfl
  · split <;> rfl
def catFd (n : Nat) (F G : Nat → Fd) : Nat → Fd := fun i => if i < n then F i else G (i - n)
theorem fdV_cat (n : Nat) (F G : Nat → Fd) : catV (n * 3) (fdV F) (fdV G) = fdV (catFd n F G) := by
  funext i
  unfold catV fdV catFd
  have e2 : (i - n * 3) / 3 = i / 3 - n := by omega
  by_cases h : i < n * 3
  · have h2 : i / 3 < n := by omega
    simp [h, h2]
  · have h2 : ¬ i / 3 < n := by omega
    have e1' : (i - n * 3) % 3 = i % 3 := by omega
    simp [h, h2, e1', e2]
theorem fdV_congr {F G : Nat → Fd} {n : Nat} (h : ∀ i, i < n → F i = G i) : ∀ i, i < n * 3 → fdV F i = fdV G i := by
  intro i hi
  unfold fdV
  rw [h (i / 3) (by omega)]
theorem rdFd_of_rdV {w : World} {A : Option Addr} {n c : Nat} {F : Nat → Fd} (h : RdV 3 w A n c (fdV F)) (hs : ∀ i, i < n → (F i).name.size ≤ maxLen ∧ (F i).val.size ≤ maxLen) : RdFd w A n c F :=
  ⟨h.1, h.2.1, h.2.2.1, fun hn => by
    obtain ⟨b, off, hA, hc⟩ := h.2.2.2 hn
    refine ⟨b, off, hA, fun i hi => ⟨?_, ?_, ?_⟩⟩
    · rw [← fdV_0 F i]; exact hc (i * 3) (by omega)
    · rw [← fdV_1 F i, Nat.add_assoc]; exact hc (i * 3 + 1) (by omega)
    · rw [← fdV_2 F i, Nat.add_assoc]; exact hc (i * 3 + 2) (by omega), hs⟩
theorem rdV_of_rdFd {w : World} {A : Option Addr} {n c : Nat} {F : Nat → Fd} (h : RdFd w A n c F) : RdV 3 w A n c (fdV F) :=
  ⟨h.1, h.2.1, h.2.2.1, fun hn => by
    obtain ⟨b, off, hA, hc⟩ := h.2.2.2.1 hn
    refine ⟨b, off, hA, fun i hi => ?_⟩
    have h3 : i % 3 = 0 ∨ i % 3 = 1 ∨ i % 3 = 2 := by omega
    obtain ⟨c0, c1, c2⟩ := hc (i / 3) (by omega)
    rcases h3 with h3 | h3 | h3
    · have e : i = i / 3 * 3 := by omega
      rw [← fdV_0 F (i / 3), ← e] at c0
      exact c0
    · have e : i = i / 3 * 3 + 1 := by omega
      rw [← fdV_1 F (i / 3), Nat.add_assoc, ← e] at c1
      exact c1
    · have e : i = i / 3 * 3 + 2 := by omega
      rw [← fdV_2 F (i / 3), Nat.add_assoc, ← e] at c2
      exact c2⟩
/-- The place of a row of elements of s cells that is cut at lo. -/
def cutS (s : Nat) (A : Option Addr) (c lo : Nat) : Option Addr := if c = lo then A else A.map (·.add (lo * s))
theorem RdFd.cutR {w : World} {A : Option Addr} {n c : Nat} {F : Nat → Fd} (h : RdFd w A n c F) {lo hi : Nat} (h1 : lo ≤ hi) (h2 : hi ≤ n) :
    RdFd w (cutS 3 A c lo) (hi - lo) (c - lo) (fun i => F (lo + i)) := by
  obtain ⟨a1, a2, a3, a4, a5⟩ := h
  refine ⟨by omega, by omega, fun e => ?_, fun hn => ?_, fun i hi' => a5 (lo + i) (by omega)⟩
  · unfold cutS at e
    split at e
    · have := a3 e; omega
    · have hA : A = none := by simpa using e
      have := a3 hA; omega
  · obtain ⟨b, off, hA, hc⟩ := a4 (by omega)
    refine ⟨b, off + lo * 3, ?_, fun i hi' => ?_⟩
    · unfold cutS
      rw [if_neg (by omega), hA]
      simp [Addr.add_lit]
    · have := hc (lo + i) (by omega)
      rw [Nat.add_mul, ← Nat.add_assoc] at this
      exact this
section
variable {P : Program} (T e : TypeId) (s : Nat) (hT : P.underlying T = some (.slice e)) (hE : P.elem T = e) (hs : (P.info? e).map (·.size) = some s) (A : Option Addr) (n c : Nat)
include hT hE hs
omit hT in
theorem size_runS (W : World) : (sizeOf (P.elem T)).run P W = .ok s W := by
  obtain ⟨i, hi, h1⟩ := Option.map_eq_some_iff.1 hs
  rw [hE]
  simp [sizeOf, typeInfo, hi, h1]
theorem cutS_l (lo : Nat) (hlo : lo ≤ n) (kl : IntKind) (W : World) :
    (Instr.slice T (.slice A n c) (some (.int kl (lo : Int))) none none).run P W = .ok (.slice (cutS s A c lo) (n - lo) (c - lo)) W := by
  rw [run_slice_l (P := P) (w := W) T A n c (by rw [hE]; exact hT) kl (lo : Int) (by omega) (by omega), size_runS T e s hE hs W]
  simp [Result.andThen, sliced, cutS]
theorem cutS_h (hi : Nat) (hc : hi ≤ c) (kh : IntKind) (W : World) :
    (Instr.slice T (.slice A n c) none (some (.int kh (hi : Int))) none).run P W = .ok (.slice (cutS s A c 0) hi c) W := by
  rw [run_slice_h (P := P) (w := W) T A n c (by rw [hE]; exact hT) kh (hi : Int) (by omega) (by omega), size_runS T e s hE hs W]
  simp [Result.andThen, sliced, cutS]
end
theorem rdV_oneFd (w : World) (x : Fd) (T : TypeId) : RdV 3 (w.alloc (.cells #[.string x.name, .string x.val, .bool x.nev] T)) (some ⟨w.heap.size, 0, none⟩) 1 1 (fdV (fun _ => x)) :=
  (OwnV.lit 3 T 0 w (fdV (fun _ => x)) #[.string x.name, .string x.val, .bool x.nev] 1 (Nat.zero_le _) (by simp [maxLen]) rfl).rdS2
theorem fd_info : (Tryd.prog.info? 60).map (fun i => (i.zero, i.size, i.bytes)) = some (some (.agg #[.string ⟨#[]⟩, .string ⟨#[]⟩, .bool false]), 3, 40) := by kernel_rfl
theorem fd_size : (Tryd.prog.info? 60).map (·.size) = some 3 := by kernel_rfl
theorem fd_elem : Tryd.prog.elem 61 = 60 := by kernel_rfl
end
end Go.Proofs.YtpohgehojmeodaaDoor
