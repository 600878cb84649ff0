/- Layer 10: the program's Join. -/
import Derived.Test.YtpnjamomkpkkeaaJn1
import Derived.Deep.RegionLaw
namespace Go.Proofs.Ytpnjamomkpkkeaa
set_option linter.unusedVariables false
set_option linter.unusedSimpArgs false
open Go.RowKit

theorem JS.step_none (s : JS) (x : Int) (b : Nat → Int) : s.step x 0 b = s := by unfold JS.step; rw [if_pos rfl]
theorem JS.step_more {s : JS} {x : Int} {j : Nat} {b : Nat → Int} (hj : j ≠ 0) (h : 0 < s.m ∧ s.X (s.m - 1) = x) : s.step x j b = ⟨s.m, s.X, upd s.N (s.m - 1) (s.N (s.m - 1) + j), upd s.G (s.m - 1) (catF (s.N (s.m - 1)) (s.G (s.m - 1)) b)⟩ := by
  unfold JS.step
  rw [if_neg hj, if_pos h]
theorem JS.step_new {s : JS} {x : Int} {j : Nat} {b : Nat → Int} (hj : j ≠ 0) (h : ¬ (0 < s.m ∧ s.X (s.m - 1) = x)) : s.step x j b = ⟨s.m + 1, upd s.X s.m x, upd s.N s.m j, upd s.G s.m b⟩ := by
  unfold JS.step
  rw [if_neg hj, if_neg h]
theorem PcD.drewN {B : Nat} {w : World} {v : Value} {n : Nat} {X : Nat → Int} {V : Nat → Value} {N : Nat → Nat} {G : Nat → Nat → Int} (h : PcD B w v n X V N G) (k : Nat) : PcD B (w.drewN k) v n X V N G := ⟨⟨h.pcs.row, h.pcs.bytes⟩, h.apart⟩
theorem own_ne_row {B b m : Nat} {w : World} {y : Value} {g : Nat → Int} {cs : Array Value} (h : Own .u8 5 B w y m g) (hr : w.heap[b]? = some (.cells cs 52 (0, 0))) : y.ownBlock ≠ some b := by
  rcases h.2 with ⟨rfl, _⟩ | ⟨b', cap, cur, rfl, hB, hh, _⟩
  · simp [Value.ownBlock]
  · intro he
    have e : b' = b := by simpa [Value.ownBlock] using he
    subst e
    rw [hr] at hh
    injection hh with hh
    injection hh with _ ht
    exact uint8_chunk ht.symm
theorem pieces_ne {B bv m n cv : Nat} {w : World} {y : Value} {g : Nat → Int} {F : Nat → Value} (h : Own .u8 5 B w y m g) (h2 : OwnV 2 52 B w (.slice (some ⟨bv, 0, none⟩) (n + 1) cv) (n + 1) F) : y.ownBlock ≠ some bv := by
  rcases h2.2 with ⟨e, _⟩ | ⟨b', cap, cur, e, hB, hh, _⟩
  · cases e
  · injection e with e1 _ _
    have e2 : bv = b' := by simpa using e1
    subst e2
    exact own_ne_row h hh
theorem row_of_own {B bv n cv : Nat} {w : World} {F : Nat → Value} (h2 : OwnV 2 52 B w (.slice (some ⟨bv, 0, none⟩) (n + 1) cv) (n + 1) F) : ∃ cs, w.heap[bv]? = some (.cells cs 52 (0, 0)) := by
  rcases h2.2 with ⟨e, _⟩ | ⟨b', cap, cur, e, hB, hh, _⟩
  · cases e
  · injection e with e1 _ _
    have e2 : bv = b' := by simpa using e1
    subst e2
    exact ⟨_, hh⟩
/-- The last piece, more bytes behind it. -/
theorem PcD.extend {B bv p cv q : Nat} {W W4 : World} {y : Value} {X : Nat → Int} {V : Nat → Value} {N : Nat → Nat} {G : Nat → Nat → Int} {g : Nat → Int} (h : PcD B W (.slice (some ⟨bv, 0, none⟩) (p + 1) cv) (p + 1) X V N G)
    (hy : Own .u8 5 B W4 y (N p + q) (catF (N p) (G p) g)) (hg : W.drew.grownBy W4 (V p).ownBlock) (hob : y.ownBlock = (V p).ownBlock ∨ y.ownBlock = some W.drew.heap.size) :
    PcD B (W4.setCell ⟨bv, p * 2 + 1, none⟩ y) (.slice (some ⟨bv, 0, none⟩) (p + 1) cv) (p + 1) X (upd V p y) (upd N p (N p + q)) (upd G p (catF (N p) (G p) g)) := by
  have hp := h.pcs.bytes p (by omega)
  have hrow : OwnV 2 52 B W.drew (.slice (some ⟨bv, 0, none⟩) (p + 1) cv) (p + 1) (pcF X V) := h.pcs.row
  have hne : (V p).ownBlock ≠ some bv := pieces_ne hp h.pcs.row
  have hk4 : OwnV 2 52 B W4 (.slice (some ⟨bv, 0, none⟩) (p + 1) cv) (p + 1) (pcF X V) := World.ownsRow.kept hrow hg (.inr (fun e => hne (e.symm.trans rfl)))
  obtain ⟨cs, hcs⟩ := row_of_own hk4
  have hkt : KeepT 5 W4 (W4.setCell ⟨bv, p * 2 + 1, none⟩ y) := KeepT.set hcs uint8_chunk
  refine ⟨⟨(OwnV.set hk4 (p * 2 + 1) y).congr fun i hi => ?_, fun j hj => ?_⟩, fun i j hi hj hij => ?_⟩
  · unfold setV pcF upd
    by_cases h1 : i = p * 2 + 1
    · rw [if_pos h1, if_neg (by omega), if_pos (by omega)]
    · rw [if_neg h1]
      by_cases h2 : i % 2 = 0
      · rw [if_pos h2, if_pos h2]
      · rw [if_neg h2, if_neg h2, if_neg (by omega)]
  · unfold upd
    by_cases h1 : j = p
    · rw [if_pos h1, if_pos h1, if_pos h1]
      exact hy.keepT hkt
    · rw [if_neg h1, if_neg h1, if_neg h1]
      have hj' : Own .u8 5 B W.drew (V j) (N j) (G j) := h.pcs.bytes j hj
      have : Own .u8 5 B W4 (V j) (N j) (G j) := World.ownsRow.kept hj' hg (h.apart j p hj (by omega) h1)
      exact this.keepT hkt
  · have old : ∀ i, i < p + 1 → i ≠ p → (V i).ownBlock = none ∨ (V i).ownBlock ≠ y.ownBlock := by
      intro i hi hip
      rcases h.apart i p hi (by omega) hip with e | e
      · exact .inl e
      · rcases hob with e2 | e2
        · exact .inr (by rw [e2]; exact e)
        · cases hb : (V i).ownBlock with
          | none => exact .inl rfl
          | some b =>
            refine .inr fun e3 => ?_
            rw [e2] at e3
            have l1 := (World.ownsRow.lt (h.pcs.bytes i hi) b hb).2
            have l2 : b = W.heap.size := Option.some.inj e3
            omega
    unfold upd
    by_cases h1 : i = p
    · rw [if_pos h1, if_neg (by omega)]
      rcases old j hj (by omega) with e | e
      · cases hy' : y.ownBlock with
        | none => exact .inl rfl
        | some b => exact .inr (by rw [e]; simp)
      · exact .inr (Ne.symm e)
    · by_cases h2 : j = p
      · rw [if_neg h1, if_pos h2]
        exact old i hi h1
      · rw [if_neg h1, if_neg h2]
        exact h.apart i j hi hj hij
theorem own_v {k : IntKind} {e : TypeId} {B : Nat} {w : World} {v : Value} {n : Nat} {f : Nat → Int} (h : Own k e B w v n f) : OwnV 1 e B w v n (fun i => .int k (f i)) := by
  unfold OwnV
  rw [Nat.mul_one]
  exact h
theorem v_own {k : IntKind} {e : TypeId} {B : Nat} {w : World} {v : Value} {n : Nat} {f : Nat → Int} (h : OwnV 1 e B w v n (fun i => .int k (f i))) : Own k e B w v n f := by
  unfold OwnV at h
  rw [Nat.mul_one] at h
  exact h
theorem rd_v {k : IntKind} {w : World} {A : Option Addr} {n c : Nat} {f : Nat → Int} (h : Rd k w A n c f) : RdV 1 w A n c (fun i => .int k (f i)) :=
  ⟨h.1, h.2.1, h.2.2.1, fun hn => by
    obtain ⟨b, off, hA, hc⟩ := h.2.2.2 hn
    exact ⟨b, off, hA, fun i hi => hc i (by omega)⟩⟩
theorem cat_v {k : IntKind} (n : Nat) (f g : Nat → Int) (m : Nat) : ∀ i, i < (n + m) * 1 → catV (n * 1) (fun i => .int k (f i)) (fun i => .int k (g i)) i = (fun i => .int k (catF n f g i)) i := by
  intro i _
  unfold catV catF
  rw [Nat.mul_one]
  simp only
  split <;> rfl
theorem jn_succ (F : Nat → Ck) (k : Nat) {c : Ck} (h : F k = c) : jn F (k + 1) = (jn F k).step c.from_ c.n c.b := by rw [← h]; rfl
/-- The state of Join behind k chunks. -/
def JI (w : World) (F : Nat → Ck) (s : JS) (v : Value) (W : World) : Prop := (∃ V, PcD w.heap.size W v s.m s.X V s.N s.G) ∧ Below w.heap.size w W
end Go.Proofs.Ytpnjamomkpkkeaa
