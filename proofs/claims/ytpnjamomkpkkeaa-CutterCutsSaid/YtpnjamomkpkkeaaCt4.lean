/- Layer 12: what a feeding keeps of the memory, step by step. -/
import Derived.Test.YtpnjamomkpkkeaaCt3
import Derived.Lib.MinMax
namespace Go.Proofs.Ytpnjamomkpkkeaa
set_option linter.unusedVariables false
set_option linter.unusedSimpArgs false
open Go.RowKit

theorem rdV1_of {k : IntKind} {w : World} {A : Option Addr} {n c : Nat} {f : Nat → Int} (h : Rd k w A n c f) : RdV 1 w A n c (fun i => .int k (f i)) :=
  ⟨h.1, h.2.1, h.2.2.1, fun hn => by
    obtain ⟨b, off, hA, hc⟩ := h.2.2.2 hn
    exact ⟨b, off, hA, fun i hi => hc i (by omega)⟩⟩
theorem rowV1 (k : IntKind) (n : Nat) (f : Nat → Int) : rowV (n * 1) (fun i => .int k (f i)) = row k n f := by
  rw [Nat.mul_one]
  rfl
section
variable {P : Program} {k : IntKind} {e : TypeId} {w : World} {ops : Array Oper} {o : Oper} {a : Act} {K : Act → World → Prop} {Q : Exit → Act → World → Prop} {E : Prop}
theorem step_appQ (hgd : o.guard = none) (s x : Operand) (t : TypeId) (ho : o.op = .call { callee := .builtin .append, args := #[s, x], argTypes := #[t, t] })
    (i : TypeInfo) (z : Int) (bytes : Nat) (ht : P.underlying t = some (.slice e)) (hi : P.info? e = some i) (hz : i.zero = some (.int k z)) (hsize : i.size = 1) (hby : i.bytes = bytes)
    (B : Nat) (v : Value) (n : Nat) (f : Nat → Int) (hs : a.eval s = v) (hown : Own k e B w v n f) (A : Option Addr) (m c : Nat) (g : Nat → Int) (hx : a.eval x = .slice A m c) (hr : Rd k w A m c g)
    (h63 : n + m ≤ maxLen) (hbytes : (n + m) * bytes ≤ 140737488355328) (hbase : B ≤ w.heap.size)
    (h : ∀ v' w', Own k e B w' v' (n + m) (catF n f g) → w.grownBy w' v.ownBlock → (v'.ownBlock = v.ownBlock ∨ v'.ownBlock = some w.heap.size) → K (a.put o.dst v') w') :
    if Region.wanted o (yielded ops a.tmps) = true then Oper.wp P o a w K Q else E := by
  rw [if_pos (by simp [Region.wanted, hgd])]
  have hown' : OwnV 1 e B w v n (fun i => .int k (f i)) := by unfold OwnV; rw [rowV1]; exact hown
  obtain ⟨v', w', hrun, h2, h3, h4⟩ := run_appV (P := P) 1 t o.type i (.int k z) bytes ht hi hz hsize hby rfl (by omega) B v n _ hown' A m c _ (rdV1_of hr) (fun _ _ => rfl) h63 hbytes hbase
  have h2' : Own k e B w' v' (n + m) (catF n f g) := by
    unfold OwnV at h2
    unfold Own
    rw [← rowV1]
    have : catV (n * 1) (fun i => Value.int k (f i)) (fun i => Value.int k (g i)) = fun i => .int k (catF n f g i) := by
      funext j
      unfold catV catF
      rw [Nat.mul_one]
      split <;> rfl
    rw [← this]
    exact h2
  unfold Oper.wp execOp
  simp only [ho, resolve, invoke, builtin, Sem.run_bind, Sem.run_pure, Result.andThen_ok, List.map_toArray, List.map_cons, List.map_nil, hs, hx, hrun]
  exact h v' w' h2' h3 h4
end
theorem own_ne_type {k : IntKind} {e e2 : TypeId} {B B2 s m n : Nat} {w : World} {v u : Value} {f : Nat → Int} {F : Nat → Value} (h : Own k e B w v n f) (h2 : OwnV s e2 B2 w u m F) (he : e ≠ e2) {j : Nat} (hj : v.ownBlock = some j) : u.ownBlock ≠ some j := fun hu => by
  rcases h.2 with ⟨rfl, _⟩ | ⟨g, cap, cur, rfl, _, hh, _⟩
  · cases hj
  · rcases h2.2 with ⟨rfl, _⟩ | ⟨g2, cap2, cur2, rfl, _, hh2, _⟩
    · cases hu
    · have e1 : g = j := Option.some.inj hj
      have e3 : g2 = j := Option.some.inj hu
      subst e1 e3
      rw [hh] at hh2
      injection hh2 with hh2
      injection hh2 with _ h4 _
      exact he h4
theorem own_ne_row12 {k : IntKind} {e T : TypeId} {B n p : Nat} {w : World} {v : Value} {f : Nat → Int} {cs : Array Value} (h : Own k e B w v n f) (hr : w.heap[p]? = some (.cells cs T (0, 0))) (he : e ≠ T) : v.ownBlock ≠ some p := fun hv => by
  rcases h.2 with ⟨rfl, _⟩ | ⟨g, cap, cur, rfl, _, hh, _⟩
  · cases hv
  · have e1 : g = p := Option.some.inj hv
    subst e1
    rw [hh] at hr
    injection hr with hr
    injection hr with _ h4 _
    exact he h4
def lenV : Value → Nat | .slice _ n _ => n | _ => 0
def twoV : Option Value → Nat | some (.int _ x) => if x = 2 then 1 else 0 | _ => 0
/-- The memory of a feeding: the part at p, what it has, the bytes that are left, the frames that have ended. -/
structure FdJ (R : Pt → Value → Obj) (p B : Nat) (w : World) (v0 : Value) (D : List Int) (gs : List Rl) (s : Pt) (v ve : Value) (A : Option Addr) (c : Nat) (F : Nat → Rw) (w' : World) : Prop where
  row : w'.heap[p]? = some (R s v)
  own : Own .u8 5 B w' v s.g.length (lyF s.g)
  blk : ∀ i, v.ownBlock = some i → v0.ownBlock = some i ∨ w.heap.size ≤ i
  nep : v.ownBlock ≠ some p
  hp : p < w.heap.size
  fr : FrQ (fun i => i = p ∨ v0.ownBlock = some i) w w'
  rd : Rd .u8 w' A D.length c (lyF D)
  byt : ByL D
  ap : 0 < D.length → ∀ a, A = some a → a.block < w.heap.size ∧ v0.ownBlock ≠ some a.block ∧ a.block ≠ p
  ov : OwnV 6 29 w.heap.size w' ve gs.length (rwV F)
  bod : ∀ i x, gs[i]? = some x → RwIs w' (F i) x ∧ (0 < (F i).n → ∀ a, (F i).A = some a → (v0.ownBlock = some a.block ∨ w.heap.size ≤ a.block) ∧ a.block ≠ p ∧ v.ownBlock ≠ some a.block ∧ ve.ownBlock ≠ some a.block ∧ a.block < w'.heap.size)
section
variable {R : Pt → Value → Obj} {p B : Nat} {w w1 : World} {v0 : Value} {D : List Int} {gs : List Rl} {s : Pt} {v ve : Value} {A : Option Addr} {c : Nat} {F : Nat → Rw}
/-- Bytes are put behind what the part has, and the part's cell is written. -/
theorem FdJ.fed (h : FdJ R p B w v0 D gs s v ve A c F w1) {nn : Nat} (hnn : nn ≤ D.length) {v5 : Value} {w5 : World} (h5 : Own .u8 5 B w5 v5 (s.g.length + nn) (catF s.g.length (lyF s.g) (lyF (D.take nn)))) (hg : w1.grownBy w5 v.ownBlock) (hb : v5.ownBlock = v.ownBlock ∨ v5.ownBlock = some w1.heap.size) {j : Nat} {cs : Array Value}
    (hr5 : (w5.setCell ⟨p, j, none⟩ v5).heap[p]? = some (R ⟨s.k, s.h, s.g ++ D.take nn⟩ v5)) (hR : w5.heap[p]? = some (.cells cs 60 (0, 0))) :
    FdJ R p B w v0 (D.drop nn) gs ⟨s.k, s.h, s.g ++ D.take nn⟩ v5 ve (cutA A c nn) (c - nn) F (w5.setCell ⟨p, j, none⟩ v5) := by
  have hlen : (s.g ++ D.take nn).length = s.g.length + nn := by rw [List.length_append, List.length_take]; omega
  have hdl : (D.drop nn).length = D.length - nn := List.length_drop
  have hne5 : v5.ownBlock ≠ some p := own_ne_row12 h5 hR (by decide)
  have hS1 : FrQ (fun i => v.ownBlock = some i) w1 w5 := FrQ.grown hg fun g e => e
  have hS2 : FrQ (fun i => i = p) w5 (w5.setCell ⟨p, j, none⟩ v5) := FrQ.set (S := fun i => i = p) rfl j v5
  have hsz : w.heap.size ≤ w1.heap.size := h.fr.size
  have hvV : ∀ i, v.ownBlock = some i → ve.ownBlock ≠ some i := fun i hi => own_ne_type h.own h.ov (by decide) hi
  have hpV : ve.ownBlock ≠ some p := fun e => by have := (World.ownsRow.lt h.ov p e).1; have := h.hp; omega
  have hq : FrQ (fun i => v.ownBlock = some i ∨ i = p) w1 (w5.setCell ⟨p, j, none⟩ v5) := hS1.trans hS2 (fun _ _ e => .inl e) fun _ _ e => .inr e
  refine ⟨hr5, ?_, ?_, hne5, h.hp, ?_, ?_, h.byt.drop nn, ?_, h.ov.frQ hq ?_, ?_⟩
  · refine (Own.congr ?_ fun i _ => lyF_cat i).frQ hS2 fun i hi e => hne5 (e ▸ hi)
    dsimp only
    rw [hlen]
    exact h5
  · intro i hi
    rcases hb with hb | hb
    · exact h.blk i (hb ▸ hi)
    · rw [hb] at hi; cases hi; exact .inr hsz
  · refine h.fr.trans hq (fun _ _ e => e) fun i hi e => ?_
    rcases e with e | e
    · rcases h.blk i e with h1 | h1
      · exact .inr h1
      · omega
    · exact .inl e
  · rw [hdl]
    refine ((h.rd.cutR (lo := nn) (hi := D.length) hnn (Nat.le_refl _)).congr fun i _ => (lyF_drop D nn i).symm).frQ hq fun hn a ha e => ?_
    obtain ⟨b, hb1, hb2⟩ := cutA_block ha
    obtain ⟨h1, h2, h3⟩ := h.ap (by omega) b hb1
    rcases e with e | e
    · rw [← hb2] at e
      rcases h.blk _ e with h4 | h4
      · exact h2 h4
      · omega
    · exact h3 (hb2.trans e)
  · intro hn a ha
    obtain ⟨b, hb1, hb2⟩ := cutA_block ha
    rw [← hb2]
    exact h.ap (by omega) b hb1
  · intro i hi e
    rcases e with e | e
    · exact hvV i e hi
    · exact hpV (e ▸ hi)
  · intro i x hx
    obtain ⟨h1, h2⟩ := h.bod i x hx
    have hk : ∀ (hn : 0 < (F i).n) (a : Addr), (F i).A = some a → ¬ (v.ownBlock = some a.block ∨ a.block = p) := fun hn a ha e => by
      obtain ⟨_, k1, k2, _, _⟩ := h2 hn a ha
      rcases e with e | e
      · exact k2 e
      · exact k1 e
    refine ⟨h1.frQ hq hk, fun hn a ha => ?_⟩
    obtain ⟨k0, k1, k2, k3, k4⟩ := h2 hn a ha
    have hs := hq.size
    refine ⟨k0, k1, fun e => ?_, k3, by omega⟩
    rcases hb with hb | hb
    · exact k2 (hb ▸ e)
    · rw [hb] at e
      have := Option.some.inj e
      omega
/-- What was waited for is whole, and gone: what it was stays as it is. -/
theorem FdJ.gone (h : FdJ R p B w v0 D gs s v ve A c F w1) {W : World} {s' : Pt} (hg : s'.g = []) (hq : FrQ (fun i => i = p) w1 W) (hr : W.heap[p]? = some (R s' (.slice none 0 0))) :
    FdJ R p B w v0 D gs s' (.slice none 0 0) ve A c F W ∧ (∀ Av n cv, v = .slice Av n cv → Rd .u8 W Av n cv (lyF s.g) ∧ n = s.g.length ∧ (∀ a, Av = some a → (v0.ownBlock = some a.block ∨ w.heap.size ≤ a.block) ∧ a.block ≠ p ∧ ve.ownBlock ≠ some a.block ∧ a.block < W.heap.size)) := by
  have hpV : ve.ownBlock ≠ some p := fun e => by have := (World.ownsRow.lt h.ov p e).1; have := h.hp; omega
  have hs := hq.size
  refine ⟨⟨hr, by rw [hg]; exact Own.nil _ _ _ _ _, fun i e => (by cases e), fun e => (by cases e), h.hp, h.fr.trans hq (fun _ _ e => e) fun i _ e => .inl e, h.rd.frQ hq fun hn a ha => (h.ap hn a ha).2.2, h.byt, h.ap, h.ov.frQ hq fun i hi e => hpV (e ▸ hi), fun i x hx => ?_⟩, ?_⟩
  · obtain ⟨h1, h2⟩ := h.bod i x hx
    refine ⟨h1.frQ hq fun hn a ha => (h2 hn a ha).2.1, fun hn a ha => ?_⟩
    obtain ⟨k0, k1, k2, k3, k4⟩ := h2 hn a ha
    exact ⟨k0, k1, fun e => (by cases e), k3, by omega⟩
  · rintro Av n cv rfl
    obtain ⟨A', c', e1, hrd, hbk⟩ := h.own.rd
    injection e1 with e1 e2 e3
    subst e1 e2 e3
    have hb : ∀ a, Av = some a → (Value.slice Av s.g.length cv).ownBlock = some a.block := fun a e => by rw [e]; rfl
    refine ⟨hrd.frQ hq fun hn a ha e => h.nep ((hb a ha).trans (congrArg some e)), rfl, fun a ha => ⟨h.blk _ (hb a ha), fun e => h.nep ((hb a ha).trans (congrArg some e)), own_ne_type h.own h.ov (by decide) (hb a ha), by have := (World.ownsRow.lt h.own _ (hb a ha)).2; omega⟩⟩
/-- Only new blocks have turned. -/
theorem FdJ.below (h : FdJ R p B w v0 D gs s v ve A c F w1) {W : World} (hb : Below w1.heap.size w1 W) : FdJ R p B w v0 D gs s v ve A c F W :=
  ⟨(hb.block p (rowLt h.row)).trans h.row, h.own.below hb, h.blk, h.nep, h.hp, h.fr.trans (FrQ.ofBelow (fun _ => False) hb) (fun _ _ e => e) (fun _ _ e => e.elim), h.rd.below hb, h.byt, h.ap, h.ov.below hb, fun i x hx => by
    obtain ⟨h1, h2⟩ := h.bod i x hx
    refine ⟨h1.below hb, fun hn a ha => ?_⟩
    obtain ⟨k0, k1, k2, k3, k4⟩ := h2 hn a ha
    exact ⟨k0, k1, k2, k3, Nat.lt_of_lt_of_le k4 hb.size⟩⟩
/-- A frame is put behind the others. -/
theorem FdJ.app (h : FdJ R p B w v0 D gs s (.slice none 0 0) ve A c F w1) {X : Rw} {x : Rl} (hx : RwIs w1 X x) (hX : ∀ a, X.A = some a → (v0.ownBlock = some a.block ∨ w.heap.size ≤ a.block) ∧ a.block ≠ p ∧ ve.ownBlock ≠ some a.block ∧ a.block < w1.heap.size) {ve' : Value} {w6 : World} (h6 : OwnV 6 29 w.heap.size w6 ve' (gs.length + 1) (catV (gs.length * 6) (rwV F) (rwV fun _ => X))) (hg : w1.grownBy w6 ve.ownBlock) (hb : ve'.ownBlock = ve.ownBlock ∨ ve'.ownBlock = some w1.heap.size) :
    FdJ R p B w v0 D (gs ++ [x]) s (.slice none 0 0) ve' A c (catRw gs.length F fun _ => X) w6 := by
  have hq : FrQ (fun i => ve.ownBlock = some i) w1 w6 := FrQ.grown hg fun g e => e
  have hlo : ∀ i, ve.ownBlock = some i → w.heap.size ≤ i := fun i e => (World.ownsRow.lt h.ov i e).1
  have hs := hq.size
  have hvb : ∀ a : Addr, ve.ownBlock ≠ some a.block → a.block < w1.heap.size → ve'.ownBlock ≠ some a.block := fun a h1 h2 e => by
    rcases hb with hb | hb
    · exact h1 (hb ▸ e)
    · rw [hb] at e; have := Option.some.inj e; omega
  refine ⟨hq.row h.row fun e => by have := hlo p e; have := h.hp; omega, h.own.frQ hq fun i e => (by cases e), h.blk, h.nep, h.hp, h.fr.trans hq (fun _ _ e => e) fun i hi e => absurd (hlo i e) (by omega), h.rd.frQ hq fun hn a ha e => absurd (hlo _ e) (by have := (h.ap hn a ha).1; omega), h.byt, h.ap, ?_, ?_⟩
  · rw [rwV_cat] at h6
    rw [List.length_append]
    exact h6
  · intro i y hy
    unfold catRw
    by_cases hi : i < gs.length
    · rw [if_pos hi]
      rw [List.getElem?_append_left hi] at hy
      obtain ⟨h1, h2⟩ := h.bod i y hy
      refine ⟨h1.frQ hq fun hn a ha => (h2 hn a ha).2.2.2.1, fun hn a ha => ?_⟩
      obtain ⟨k0, k1, k2, k3, k4⟩ := h2 hn a ha
      exact ⟨k0, k1, k2, hvb a k3 k4, by omega⟩
    · rw [if_neg hi]
      rw [List.getElem?_append_right (by omega)] at hy
      obtain ⟨-, rfl⟩ : i - gs.length = 0 ∧ x = y := by
        match hm : i - gs.length, hy with
        | 0, hy => exact ⟨rfl, by simpa using hy⟩
        | m + 1, hy => simp at hy
      refine ⟨hx.frQ hq fun hn a ha => (hX a ha).2.2.1, fun hn a ha => ?_⟩
      obtain ⟨k0, k1, k3, k4⟩ := hX a ha
      exact ⟨k0, k1, fun e => (by cases e), hvb a k3 k4, by omega⟩
end
end Go.Proofs.Ytpnjamomkpkkeaa
