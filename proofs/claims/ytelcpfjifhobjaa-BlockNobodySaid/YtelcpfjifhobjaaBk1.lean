/- Layer 30: a block that is put together: its memory; settings' clone; what may come. -/
import Derived.Test.YtelcpfjifhobjaaRw2
import Derived.Test.YtelcpfjifhobjaaFs4
import Derived.Deep.RegionHeld3
namespace Go.Proofs.Ytelcpfjifhobjaa
set_option linter.unusedVariables false
set_option linter.unusedSimpArgs false
open Go.RowKit

theorem RdV.belowZ {s : Nat} {w w' : World} {A : Option Addr} {n c : Nat} {F : Nat → Value} (h : RdV s w A n c F) (hb : Below w.heap.size w w') : RdV s w' A n c F :=
  ⟨h.1, h.2.1, h.2.2.1, fun hn => by
    obtain ⟨b, off, hA, hc⟩ := h.2.2.2 hn
    exact ⟨b, off, hA, fun i hi => by rw [hb.cell (World.block_lt_of_cell? w _ (hc i hi))]; exact hc i hi⟩⟩
theorem RdV.congrZ {s : Nat} {w : World} {A : Option Addr} {n c : Nat} {F G : Nat → Value} (h : RdV s w A n c F) (hfg : ∀ i, i < n * s → F i = G i) : RdV s w A n c G :=
  ⟨h.1, h.2.1, h.2.2.1, fun hn => by
    obtain ⟨b, off, hA, hc⟩ := h.2.2.2 hn
    exact ⟨b, off, hA, fun i hi => by rw [hc i hi, hfg i hi]⟩⟩
theorem pr_oneZ (s t : Nat → Int) (n : Nat) : ∀ i, i < n * 2 → (pr s t i).oneCell' = true := pr_one s t (n * 2)
set_option maxHeartbeats 800000 in
theorem sclone30 (A : Option Addr) (n c : Nat) (s t : Nat → Int) (w : World) (ha : Rd2 w A n c s t) (hn : n ≤ 100000) :
    Calls Try.prog 104 #[.slice A n c] w fun e w' => ∃ A' c', e = .returned (.slice A' n c') ∧ Rd2 w' A' n c' s t ∧ (∀ a, A' = some a → w.heap.size ≤ a.block ∧ a.block < w'.heap.size) ∧ Below w.heap.size w w' := by
  have hnil := fun (a : Option Addr) (W : World) => Lib.run_eql_slice_nil (P := Try.prog) W 26 170 a n c 0 0 Try.underlying26
  rcases A with _ | ad
  · obtain rfl : c = 0 := ha.2.2.1 rfl
    obtain rfl : n = 0 := by have := ha.1; omega
    clear ha
    go_enter Try.func104, Try.ntmps104
    go_wp2
    go_ret
    exact ⟨none, 0, rfl, Rd2.nil _ _ _, fun a e => (by cases e), Below.refl _ _⟩
  · obtain ⟨i0, hi, hz0, hz1, hz2⟩ := info_parts set_info
    have Ha := hide (rdV_of_rd2 ha)
    clear ha
    go_enter Try.func104, Try.ntmps104
    go_wp2_with (at_builtin; refine wp_appV rfl (.tmp 5) (.tmp 6) _ rfl 2 i0 _ 16 Try.underlying26 hi hz0 hz1 hz2 rfl (by omega) w.heap.size _ 0 (pr (oneF 0) (oneF 0)) rfl (OwnV.lit 2 170 w.heap.size w (pr (oneF 0) (oneF 0)) #[] 0 (Nat.le_refl _) (by simp [maxLen]) rfl) _ n c _ rfl (Ha.out.belowZ ((Below.refl _ _).alloc (Nat.le_refl _) _)) (pr_oneZ s t n) (by simp only [maxLen]; omega) (by omega) (by simp) ?_; intro v1 w1 hown1 hg1 _)
    have hb1 : Below w.heap.size w w1 := ((Below.refl _ _).alloc (Nat.le_refl _) _).grown hg1 (by simp) (fun _ e => by cases e; exact Nat.le_refl _)
    rw [Nat.zero_add] at hown1
    obtain ⟨A', c', rfl, hr, hz⟩ := hown1.rd
    have HR : Hid (Rd2 w1 A' n c' s t) := rd2_of_rdV (hr.congrZ (fun i _ => by simp [catV]))
    have HZ : Hid (∀ a, A' = some a → w.heap.size ≤ a.block ∧ a.block < w1.heap.size) := fun a e => ⟨(hz a e).1, (hz a e).2.1⟩
    clear hr hz hown1
    go_ret
    exact ⟨A', c', rfl, HR.out, HZ.out, hb1⟩

/-- What is told of a block that is put together. -/
structure BS where
  begun : Bool := false
  T : Int := 0
  fl : Int := 0
  st : Int := 0
  pd : Int := 0
  N : Nat := 0
  D : Nat → Int := fun _ => 0
  n2 : Nat := 0
  s : Nat → Int := fun _ => 0
  t : Nat → Int := fun _ => 0
  wt : Int := 0
  pa : Int := 0
  al : Bool := false
  pm : Int := 0
  la : Int := 0
  co : Int := 0
  sp : Int := 0
structure AsOk (B : Nat) (w : World) (p : Nat) (fp : Nat → Prop) (most : Int) (X : BS) : Prop where
  ex : ∃ v A2 c2, w.heap[p]? = some (.cells #[.int .i64 most, .bool X.begun, .int .i64 X.T, .int .i64 X.fl, .int .i64 X.st, .int .i64 X.pd, v, .slice A2 X.n2 c2, .int .i64 X.wt, .int .i64 X.pa, .bool X.al, .int .i64 X.pm, .int .i64 X.la, .int .i64 X.co, .int .i64 X.sp] 59 (0, 0)) ∧ Own .u8 5 B w v X.N X.D ∧ Rd2 w A2 X.n2 c2 X.s X.t ∧ (∀ b, v.ownBlock = some b → fp b ∧ b ≠ p) ∧ (∀ a, A2 = some a → fp a.block ∧ a.block ≠ p ∧ v.ownBlock ≠ some a.block)
  hp : fp p
  lo : ∀ i, fp i → B ≤ i ∧ i < w.heap.size
theorem AsOk.below {B : Nat} {w w' : World} {p : Nat} {fp : Nat → Prop} {most : Int} {X : BS} (h : AsOk B w p fp most X) (hb : Below w.heap.size w w') : AsOk B w' p fp most X := by
  obtain ⟨⟨v, A2, c2, h1, h2, h3, h4, h5⟩, hp, lo⟩ := h
  exact ⟨⟨v, A2, c2, keepRow h1 hb, h2.below hb, h3.below hb, h4, h5⟩, hp, fun i hi => ⟨(lo i hi).1, Nat.lt_of_lt_of_le (lo i hi).2 hb.size⟩⟩
theorem AsOk.other {B g : Nat} {w w' : World} {p : Nat} {fp : Nat → Prop} {most : Int} {X : BS} (h : AsOk B w p fp most X) (hg : w.grownBy w' (some g)) (hne : ¬ fp g) : AsOk B w' p fp most X := by
  obtain ⟨⟨v, A2, c2, h1, h2, h3, h4, h5⟩, hp, lo⟩ := h
  have hf : FrS 0 (Q1 g) w w' := ⟨⟨hg.os, hg.tape, hg.output, hg.size, fun i hi => absurd hi (by omega)⟩, fun i hi a => hg.block i hi (fun e => a (Option.some.inj e))⟩
  exact ⟨⟨v, A2, c2, keepOne h1 hg (fun e => hne (e ▸ hp)), World.ownsRow.kept (row := some g) h2 hg (.inr (fun e => hne (h4 g e).1)), h3.frs hf (fun b off _ e s => hne (by have e2 : b = g := s; have := (h5 _ e).1; simp at this; rw [← e2]; exact this)), h4, h5⟩, hp, fun i hi => ⟨(lo i hi).1, Nat.lt_of_lt_of_le (lo i hi).2 hg.size⟩⟩
set_option maxHeartbeats 800000 in
theorem new30 (most : Int) (m : Int) (hm : m = max most 0) (w : World) : Calls Try.prog 22 #[.int .i64 most] w fun e w' => e = .returned (.pointer (some ⟨w.heap.size, 0, none⟩)) ∧ AsOk w.heap.size w' w.heap.size (Q1 w.heap.size) m {} ∧ Below w.heap.size w w' := by
  have hmx : (if most < 0 then 0 else most) = m := by rw [hm]; split <;> omega
  have hmx2 : max most 0 = m := hm.symm
  have R0 := hide (heap_alloc_new w (.cells #[.int .i64 m, .bool false, .int .i64 0, .int .i64 0, .int .i64 0, .int .i64 0, .slice none 0 0, .slice none 0 0, .int .i64 0, .int .i64 0, .bool false, .int .i64 0, .int .i64 0, .int .i64 0, .int .i64 0] 59))
  have E0 := hide ((Below.refl w.heap.size w).alloc (Nat.le_refl _) (.cells #[.int .i64 m, .bool false, .int .i64 0, .int .i64 0, .int .i64 0, .int .i64 0, .slice none 0 0, .slice none 0 0, .int .i64 0, .int .i64 0, .bool false, .int .i64 0, .int .i64 0, .int .i64 0, .int .i64 0] 59))
  clear hm
  go_enter Try.func22, Try.ntmps22
  go_wp2
  go_ret
  exact ⟨rfl, ⟨⟨_, none, 0, R0.out, Own.nil _ _ _ _ _, Rd2.nil _ _ _, fun b e => (by cases e), fun a e => (by cases e)⟩, rfl, fun i hi => by have e : i = w.heap.size := hi; subst e; simp⟩, E0.out⟩
def partB (T : Int) : Bool := (T == 1) || ((T == 5) || (T == 9))
theorem part30 (T : Int) (w : World) : Calls Try.prog 65 #[.int .i64 T] w fun e w' => e = .returned (.bool (partB T)) ∧ w = w' := by
  unfold partB
  go_enter Try.func65, Try.ntmps65
  go_wp2
  all_goals
    go_ret
    simp_all [Bool.or_assoc]
def takesB (X : BS) (T st : Int) : Bool := if X.begun = true then (T == 9) && (st == X.st) else T != 9
theorem row15 {w : World} {b : Nat} {T : TypeId} {v0 v1 v2 v3 v4 v5 v6 v7 v8 v9 v10 v11 v12 v13 v14 : Value} (h : w.heap[b]? = some (.cells #[v0, v1, v2, v3, v4, v5, v6, v7, v8, v9, v10, v11, v12, v13, v14] T (0, 0))) : w.cell? ⟨b, 0, none⟩ = some v0 ∧ w.cell? ⟨b, 1, none⟩ = some v1 ∧ w.cell? ⟨b, 2, none⟩ = some v2 ∧ w.cell? ⟨b, 3, none⟩ = some v3 ∧ w.cell? ⟨b, 4, none⟩ = some v4 ∧ w.cell? ⟨b, 5, none⟩ = some v5 ∧ w.cell? ⟨b, 6, none⟩ = some v6 ∧ w.cell? ⟨b, 7, none⟩ = some v7 ∧ w.cell? ⟨b, 8, none⟩ = some v8 ∧ w.cell? ⟨b, 9, none⟩ = some v9 ∧ w.cell? ⟨b, 10, none⟩ = some v10 ∧ w.cell? ⟨b, 11, none⟩ = some v11 ∧ w.cell? ⟨b, 12, none⟩ = some v12 ∧ w.cell? ⟨b, 13, none⟩ = some v13 ∧ w.cell? ⟨b, 14, none⟩ = some v14 := by
  refine ⟨?_, ?_, ?_, ?_, ?_, ?_, ?_, ?_, ?_, ?_, ?_, ?_, ?_, ?_, ?_⟩
  all_goals (rw [cell_of_row w b _ _ _ _ h]; rfl)

end Go.Proofs.Ytelcpfjifhobjaa
