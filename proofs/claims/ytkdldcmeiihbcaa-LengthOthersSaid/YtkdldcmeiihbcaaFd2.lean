/- Rows of fields: as cells, cut, put together. -/
import Derived.Test.YtkdldcmeiihbcaaFd1
import Derived.Test.YtkdldcmeiihbcaaCut
import Derived.Test.YtkdldcmeiihbcaaProg
namespace Go.Proofs.Ytkdldcmeiihbcaa
open Go.RowKit

/-- The cells of fields. -/
def fdV (F : Nat → Fd) : Nat → Value := fun i => if i % 3 = 0 then .string (F (i / 3)).name else if i % 3 = 1 then .string (F (i / 3)).val else .bool (F (i / 3)).nev
theorem fdV_0 (F : Nat → Fd) (i : Nat) : fdV F (i * 3) = .string (F i).name := by simp [fdV]
theorem fdV_1 (F : Nat → Fd) (i : Nat) : fdV F (i * 3 + 1) = .string (F i).val := by
  have h1 : (i * 3 + 1) % 3 = 1 := by omega
  have h2 : (i * 3 + 1) / 3 = i := by omega
  simp [fdV, h1, h2]
theorem fdV_2 (F : Nat → Fd) (i : Nat) : fdV F (i * 3 + 2) = .bool (F i).nev := by
  have h1 : (i * 3 + 2) % 3 = 2 := by omega
  have h2 : (i * 3 + 2) / 3 = i := by omega
  simp [fdV, h1, h2]
theorem fdV_one (F : Nat → Fd) (n : Nat) : ∀ i, i < n → (fdV F i).oneCell' = true := by
  intro i _
  unfold fdV
  split
  · rfl
  · split <;> rfl
def catFd (n : Nat) (F G : Nat → Fd) : Nat → Fd := fun i => if i < n then F i else G (i - n)
theorem fdV_cat (n : Nat) (F G : Nat → Fd) : catV (n * 3) (fdV F) (fdV G) = fdV (catFd n F G) := by
  funext i
  unfold catV fdV catFd
  have e2 : (i - n * 3) / 3 = i / 3 - n := by omega
  by_cases h : i < n * 3
  · have h2 : i / 3 < n := by omega
    simp [h, h2]
  · have h2 : ¬ i / 3 < n := by omega
    have e1' : (i - n * 3) % 3 = i % 3 := by omega
    simp [h, h2, e1', e2]
theorem fdV_congr {F G : Nat → Fd} {n : Nat} (h : ∀ i, i < n → F i = G i) : ∀ i, i < n * 3 → fdV F i = fdV G i := by
  intro i hi
  unfold fdV
  rw [h (i / 3) (by omega)]
theorem rdFd_of_rdV {w : World} {A : Option Addr} {n c : Nat} {F : Nat → Fd} (h : RdV 3 w A n c (fdV F)) (hs : ∀ i, i < n → (F i).name.size ≤ maxLen ∧ (F i).val.size ≤ maxLen) : RdFd w A n c F :=
  ⟨h.1, h.2.1, h.2.2.1, fun hn => by
    obtain ⟨b, off, hA, hc⟩ := h.2.2.2 hn
    refine ⟨b, off, hA, fun i hi => ⟨?_, ?_, ?_⟩⟩
    · rw [← fdV_0 F i]; exact hc (i * 3) (by omega)
    · rw [← fdV_1 F i, Nat.add_assoc]; exact hc (i * 3 + 1) (by omega)
    · rw [← fdV_2 F i, Nat.add_assoc]; exact hc (i * 3 + 2) (by omega), hs⟩
theorem rdV_of_rdFd {w : World} {A : Option Addr} {n c : Nat} {F : Nat → Fd} (h : RdFd w A n c F) : RdV 3 w A n c (fdV F) :=
  ⟨h.1, h.2.1, h.2.2.1, fun hn => by
    obtain ⟨b, off, hA, hc⟩ := h.2.2.2.1 hn
    refine ⟨b, off, hA, fun i hi => ?_⟩
    have h3 : i % 3 = 0 ∨ i % 3 = 1 ∨ i % 3 = 2 := by omega
    obtain ⟨c0, c1, c2⟩ := hc (i / 3) (by omega)
    rcases h3 with h3 | h3 | h3
    · have e : i = i / 3 * 3 := by omega
      rw [← fdV_0 F (i / 3), ← e] at c0
      exact c0
    · have e : i = i / 3 * 3 + 1 := by omega
      rw [← fdV_1 F (i / 3), Nat.add_assoc, ← e] at c1
      exact c1
    · have e : i = i / 3 * 3 + 2 := by omega
      rw [← fdV_2 F (i / 3), Nat.add_assoc, ← e] at c2
      exact c2⟩
/-- The place of a row of elements of s cells that is cut at lo. -/
def cutS (s : Nat) (A : Option Addr) (c lo : Nat) : Option Addr := if c = lo then A else A.map (·.add (lo * s))
theorem RdFd.cutR {w : World} {A : Option Addr} {n c : Nat} {F : Nat → Fd} (h : RdFd w A n c F) {lo hi : Nat} (h1 : lo ≤ hi) (h2 : hi ≤ n) :
    RdFd w (cutS 3 A c lo) (hi - lo) (c - lo) (fun i => F (lo + i)) := by
  obtain ⟨a1, a2, a3, a4, a5⟩ := h
  refine ⟨by omega, by omega, fun e => ?_, fun hn => ?_, fun i hi' => a5 (lo + i) (by omega)⟩
  · unfold cutS at e
    split at e
    · have := a3 e; omega
    · have hA : A = none := by simpa using e
      have := a3 hA; omega
  · obtain ⟨b, off, hA, hc⟩ := a4 (by omega)
    refine ⟨b, off + lo * 3, ?_, fun i hi' => ?_⟩
    · unfold cutS
      rw [if_neg (by omega), hA]
      simp [Addr.add_lit]
    · have := hc (lo + i) (by omega)
      rw [Nat.add_mul, ← Nat.add_assoc] at this
      exact this
section
variable {P : Program} (T e : TypeId) (s : Nat) (hT : P.underlying T = some (.slice e)) (hE : P.elem T = e) (hs : (P.info? e).map (·.size) = some s) (A : Option Addr) (n c : Nat)
include hT hE hs
omit hT in
theorem size_runS (W : World) : (sizeOf (P.elem T)).run P W = .ok s W := by
  obtain ⟨i, hi, h1⟩ := Option.map_eq_some_iff.1 hs
  rw [hE]
  simp [sizeOf, typeInfo, hi, h1]
theorem cutS_l (lo : Nat) (hlo : lo ≤ n) (kl : IntKind) (W : World) :
    (Instr.slice T (.slice A n c) (some (.int kl (lo : Int))) none none).run P W = .ok (.slice (cutS s A c lo) (n - lo) (c - lo)) W := by
  rw [run_slice_l (P := P) (w := W) T A n c (by rw [hE]; exact hT) kl (lo : Int) (by omega) (by omega), size_runS T e s hE hs W]
  simp [Result.andThen, sliced, cutS]
theorem cutS_h (hi : Nat) (hc : hi ≤ c) (kh : IntKind) (W : World) :
    (Instr.slice T (.slice A n c) none (some (.int kh (hi : Int))) none).run P W = .ok (.slice (cutS s A c 0) hi c) W := by
  rw [run_slice_h (P := P) (w := W) T A n c (by rw [hE]; exact hT) kh (hi : Int) (by omega) (by omega), size_runS T e s hE hs W]
  simp [Result.andThen, sliced, cutS]
end
theorem rdV_oneFd (w : World) (x : Fd) (T : TypeId) : RdV 3 (w.alloc (.cells #[.string x.name, .string x.val, .bool x.nev] T)) (some ⟨w.heap.size, 0, none⟩) 1 1 (fdV (fun _ => x)) :=
  (OwnV.lit 3 T 0 w (fdV (fun _ => x)) #[.string x.name, .string x.val, .bool x.nev] 1 (Nat.zero_le _) (by simp [maxLen]) rfl).rdS2
theorem fd_info : (Try.prog.info? 36).map (fun i => (i.zero, i.size, i.bytes)) = some (some (.agg #[.string ⟨#[]⟩, .string ⟨#[]⟩, .bool false]), 3, 40) := by kernel_rfl
theorem fd_size : (Try.prog.info? 36).map (·.size) = some 3 := by kernel_rfl
theorem fd_elem : Try.prog.elem 38 = 36 := by kernel_rfl
end Go.Proofs.Ytkdldcmeiihbcaa
