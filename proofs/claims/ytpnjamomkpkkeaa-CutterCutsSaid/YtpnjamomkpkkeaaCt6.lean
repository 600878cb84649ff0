/- Layer 12, with no memory in it: a side's frames as a function of its bytes; the order in which both sides' frames end. -/
import Derived.Test.YtpnjamomkpkkeaaCt1
namespace Go.Proofs.Ytpnjamomkpkkeaa
set_option linter.unusedVariables false
set_option linter.unusedSimpArgs false
open Go.RowKit

theorem Hw.step {sd : Int} {L : List Int} {fs : List Rl} {s : Pt} (h : Hw sd L fs s) (hlt : (s.g.length : Int) < s.want sd) {b : Int} (hb : 0 ≤ b ∧ b ≤ 255) : ∃ gs s', Hw sd (L ++ [b]) (fs ++ gs) s' ∧ (s'.g.length : Int) < s'.want sd := by
  have hM : ByL [b] := fun x hx => by rw [List.mem_singleton.1 hx]; exact hb
  have hlen : ((s.g ++ [b]).length : Int) = s.g.length + 1 := by simp
  by_cases h1 : ((s.g ++ [b]).length : Int) < s.want sd
  · exact ⟨[], ⟨s.k, s.h, s.g ++ [b]⟩, by rw [List.append_nil]; exact h.stay hM h1, h1⟩
  · have he : ((s.g ++ [b]).length : Int) = s.want sd := by omega
    by_cases hk : s.k = 2
    · exact ⟨_, _, h.body hM hk he, by simp [Pt.want]⟩
    · by_cases hp : s.k = 0 ∧ sd = 0
      · obtain ⟨hk0, rfl⟩ := hp
        exact ⟨_, _, h.pre hM hk0 he, by simp [Pt.want]⟩
      · obtain ⟨h2, h9⟩ := h.head hM hk hp he
        by_cases hz : (0 : Int) < gL (lyF (s.g ++ [b]))
        · exact ⟨[], _, by rw [List.append_nil]; exact h2, by simpa [Pt.want] using hz⟩
        · have h4 := h2.le
          have e : (⟨2, s.g ++ [b], []⟩ : Pt).want sd = gL (lyF (s.g ++ [b])) := by simp [Pt.want]
          rw [e] at h4
          have h5 : ((([] : List Int).length : Nat) : Int) ≤ gL (lyF (s.g ++ [b])) := h4
          have h6 : (0 : Int) ≤ gL (lyF (s.g ++ [b])) := h5
          have h3 := h2.body (M := []) (fun x hx => absurd hx (by simp)) rfl (by rw [e]; show (0 : Int) = _; omega)
          rw [List.append_nil] at h3
          exact ⟨_, _, h3, by simp [Pt.want]⟩
theorem Hw.grow {sd : Int} : ∀ (M : List Int) {L : List Int} {fs : List Rl} {s : Pt}, Hw sd L fs s → (s.g.length : Int) < s.want sd → ByL M → ∃ gs s', Hw sd (L ++ M) (fs ++ gs) s' ∧ (s'.g.length : Int) < s'.want sd
  | [], L, fs, s, h, hl, _ => ⟨[], s, by rw [List.append_nil, List.append_nil]; exact h, hl⟩
  | b :: M, L, fs, s, h, hl, hM => by
    obtain ⟨gs, s1, h1, l1⟩ := h.step hl (hM b (List.mem_cons_self ..))
    obtain ⟨gs2, s2, h2, l2⟩ := Hw.grow M h1 l1 fun x hx => hM x (List.mem_cons_of_mem _ hx)
    refine ⟨gs ++ gs2, s2, ?_, l2⟩
    rw [← List.append_assoc]
    have e : L ++ b :: M = L ++ [b] ++ M := by simp
    rw [e]
    exact h2
/-- A side's frames. -/
noncomputable def frs (sd : Int) (L : List Int) : List Rl := Classical.epsilon fun fs => ∃ s, Hw sd L fs s ∧ (s.g.length : Int) < s.want sd
theorem frs_eq {sd : Int} {L : List Int} {fs : List Rl} {s : Pt} (h : Hw sd L fs s) (hl : (s.g.length : Int) < s.want sd) : frs sd L = fs := by
  obtain ⟨s', h', l'⟩ := Classical.epsilon_spec (p := fun fs => ∃ s, Hw sd L fs s ∧ (s.g.length : Int) < s.want sd) ⟨fs, s, h, hl⟩
  exact (uniq h'.ok h.ok (h'.inc l') (h.inc hl) (h'.eq.symm.trans h.eq)).1
theorem frs_hw {sd : Int} {L : List Int} (h : ByL L) : ∃ s, Hw sd L (frs sd L) s ∧ (s.g.length : Int) < s.want sd := by
  obtain ⟨gs, s, h1, h2⟩ := Hw.grow L (Hw.new sd []) (by unfold Pt.want; simp; split <;> omega) h
  rw [List.nil_append, List.nil_append] at h1
  rw [frs_eq h1 h2]
  exact ⟨s, h1, h2⟩
theorem frs_of {sd : Int} {L r : List Int} {fs : List Rl} (hb : ByL L) (ho : FsOk sd fs) (hi : Inc sd fs r) (he : L = encL fs ++ r) : frs sd L = fs := by
  obtain ⟨s, h1, h2⟩ := frs_hw (sd := sd) hb
  exact (uniq h1.ok ho (h1.inc h2) hi (h1.eq.symm.trans he)).1
theorem frs_more {sd : Int} {L M : List Int} (h : ByL L) (hM : ByL M) : ∃ gs, frs sd (L ++ M) = frs sd L ++ gs := by
  obtain ⟨s, h1, h2⟩ := frs_hw (sd := sd) h
  obtain ⟨gs, s', h3, h4⟩ := Hw.grow M h1 h2 hM
  exact ⟨gs, frs_eq h3 h4⟩
/-- How many bytes are left. -/
noncomputable def lftN (sd : Int) (L : List Int) : Nat := L.length - (encL (frs sd L)).length
theorem lft_eq {sd : Int} {L : List Int} {s : Pt} (h : Hw sd L (frs sd L) s) : lftN sd L = s.pend.length := by
  unfold lftN
  have := congrArg List.length h.eq
  rw [List.length_append] at this
  omega
theorem frs_nil (sd : Int) : frs sd [] = [] := frs_eq (Hw.new sd []) (by unfold Pt.want; simp; split <;> omega)
theorem lft_nil (sd : Int) : lftN sd [] = 0 := by unfold lftN; simp
def upS {α : Type} (L : Int → α) (sd : Int) (x : α) : Int → α := fun j => if j = sd then x else L j
theorem upS_at {α : Type} (L : Int → α) (sd : Int) (x : α) : upS L sd x sd = x := by simp [upS]
theorem upS_ne {α : Type} (L : Int → α) {sd j : Int} (x : α) (h : j ≠ sd) : upS L sd x j = L j := by simp [upS, h]
theorem upS_up {α : Type} (L : Int → α) (sd : Int) (x y : α) : upS (upS L sd x) sd y = upS L sd y := by
  funext j
  unfold upS
  split <;> rfl
theorem upS_id {α : Type} (L : Int → α) (sd : Int) : upS L sd (L sd) = L := by
  funext j
  unfold upS
  split
  · rename_i h; rw [h]
  · rfl
/-- The frames of bytes of both sides, in the order in which they end; what each side has behind them. -/
noncomputable def outF : (Int → List Int) → List (Int × Int) → List Rl
  | _, [] => []
  | L, (sd, b) :: q => (frs sd (L sd ++ [b])).drop (frs sd (L sd)).length ++ outF (upS L sd (L sd ++ [b])) q
def endF : (Int → List Int) → List (Int × Int) → Int → List Int
  | L, [] => L
  | L, (sd, b) :: q => endF (upS L sd (L sd ++ [b])) q
theorem outF_app : ∀ (q r : List (Int × Int)) (L : Int → List Int), outF L (q ++ r) = outF L q ++ outF (endF L q) r
  | [], _, _ => rfl
  | (sd, b) :: q, r, L => by
    show _ ++ outF _ (q ++ r) = (_ ++ outF _ q) ++ _
    rw [outF_app q r, List.append_assoc]
    rfl
theorem endF_app : ∀ (q r : List (Int × Int)) (L : Int → List Int), endF L (q ++ r) = endF (endF L q) r
  | [], _, _ => rfl
  | (sd, b) :: q, r, L => endF_app q r _
theorem out_chunk (sd : Int) : ∀ (M : List Int) (L : Int → List Int), ByL (L sd) → ByL M → outF L (M.map fun b => (sd, b)) = (frs sd (L sd ++ M)).drop (frs sd (L sd)).length ∧ endF L (M.map fun b => (sd, b)) = upS L sd (L sd ++ M)
  | [], L, _, _ => by
    constructor
    · show [] = _
      rw [List.append_nil, List.drop_length]
    · show L = _
      rw [List.append_nil, upS_id]
  | b :: M, L, hL, hM => by
    have hb : ByL [b] := fun x hx => by rw [List.mem_singleton.1 hx]; exact hM b (List.mem_cons_self ..)
    have hM' : ByL M := fun x hx => hM x (List.mem_cons_of_mem _ hx)
    obtain ⟨i1, i2⟩ := out_chunk sd M (upS L sd (L sd ++ [b])) (by rw [upS_at]; exact hL.app hb) hM'
    rw [upS_at] at i1 i2
    have e : L sd ++ b :: M = L sd ++ [b] ++ M := by simp
    constructor
    · show (frs sd (L sd ++ [b])).drop (frs sd (L sd)).length ++ outF (upS L sd (L sd ++ [b])) (M.map fun b => (sd, b)) = _
      rw [i1, e]
      obtain ⟨g1, h1⟩ := frs_more (sd := sd) hL hb
      obtain ⟨g2, h2⟩ := frs_more (sd := sd) (hL.app hb) hM'
      rw [h2, h1, List.drop_left, List.drop_left, List.append_assoc, List.drop_left]
    · show endF (upS L sd (L sd ++ [b])) (M.map fun b => (sd, b)) = _
      rw [i2, e, upS_up]
end Go.Proofs.Ytpnjamomkpkkeaa
