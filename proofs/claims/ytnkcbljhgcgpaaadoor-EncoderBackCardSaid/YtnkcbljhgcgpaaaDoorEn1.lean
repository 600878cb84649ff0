/- Layer 24: where a field stands, and where a name stands, on both sides. -/
import Derived.Test.YtnkcbljhgcgpaaaDoorDec
namespace Go.Proofs.YtnkcbljhgcgpaaaDoor
set_option linter.unusedVariables false
set_option linter.unusedSimpArgs false
open Go.RowKit Go.Deep Go.ChangeShapes Go.WideShapes

theorem TL.drew {B : Nat} {w : World} {p : Nat} {g : Option Nat} {mx : Nat} {l : List Fd} (h : TL B w p g mx l) : TL B w.drew p g mx l := TOk.drew h
/-- The place of a field; 0: it stands nowhere. -/
def PlR (l : List Fd) (nm vl : ByteArray) (p : Int) : Prop :=
  ∃ i b, FdR nm vl i b ∧ ((b = true ∧ p = i) ∨ (b = false ∧ ∃ j d, FiR (fn l) l.length nm vl j d ∧ ((d = true ∧ p = 61 + j) ∨ (d = false ∧ p = 0))))
theorem PlR.same {l : List Fd} {nm vl : ByteArray} {p q : Int} (h : PlR l nm vl p) (k : PlR l nm vl q) : p = q := by
  obtain ⟨i, b, h1, h2⟩ := h
  obtain ⟨i', b', k1, k2⟩ := k
  obtain ⟨rfl, rfl⟩ := h1.same k1
  rcases h2 with ⟨rfl, rfl⟩ | ⟨rfl, j, d, h3, h4⟩
  · rcases k2 with ⟨_, rfl⟩ | ⟨e, _⟩
    · rfl
    · cases e
  · rcases k2 with ⟨e, _⟩ | ⟨_, j', d', k3, k4⟩
    · cases e
    · obtain ⟨rfl, rfl⟩ := h3.same k3
      rcases h4 with ⟨rfl, rfl⟩ | ⟨rfl, rfl⟩
      · rcases k4 with ⟨_, rfl⟩ | ⟨e, _⟩
        · rfl
        · cases e
      · rcases k4 with ⟨e, _⟩ | ⟨_, rfl⟩
        · cases e
        · rfl
/-- The place of a name; 0: it stands nowhere. -/
def NmR (l : List Fd) (nm : ByteArray) (p : Int) : Prop :=
  (∃ k : Nat, k < 61 ∧ p = (k : Int) + 1 ∧ nmB k = nm ∧ ∀ j, j < k → nmB j ≠ nm) ∨
  ((∀ j, j < 61 → nmB j ≠ nm) ∧ ((∃ q : Nat, q < l.length ∧ p = 62 + (q : Int) ∧ (fn l q).name = nm ∧ ∀ j, j < q → (fn l j).name ≠ nm) ∨ (p = 0 ∧ ∀ j, j < l.length → (fn l j).name ≠ nm)))
theorem least_same {P : Nat → Prop} {k k' : Nat} (h : P k) (h' : P k') (a : ∀ j, j < k → ¬ P j) (a' : ∀ j, j < k' → ¬ P j) : k = k' := by
  rcases Nat.lt_trichotomy k k' with e | e | e
  · exact absurd h (a' k e)
  · exact e
  · exact absurd h' (a k' e)
theorem NmR.same {l : List Fd} {nm : ByteArray} {p q : Int} (h : NmR l nm p) (k : NmR l nm q) : p = q := by
  rcases h with ⟨a, a1, rfl, a3, a4⟩ | ⟨a1, ⟨a, a2, rfl, a3, a4⟩ | ⟨rfl, a2⟩⟩ <;> rcases k with ⟨b, b1, rfl, b3, b4⟩ | ⟨b1, ⟨b, b2, rfl, b3, b4⟩ | ⟨rfl, b2⟩⟩
  · rw [least_same (P := fun j => nmB j = nm) a3 b3 a4 b4]
  · exact absurd a3 (b1 a a1)
  · exact absurd a3 (b1 a a1)
  · exact absurd b3 (a1 b b1)
  · rw [least_same (P := fun j => (fn l j).name = nm) a3 b3 a4 b4]
  · exact absurd a3 (b2 a a2)
  · exact absurd b3 (a1 b b1)
  · exact absurd b3 (a2 b b2)
  · rfl
/-- A static field without a value is the only one of its name. -/
theorem alone24 : ∀ k, k < 61 → vlB k = ⟨#[]⟩ → ∀ j, j < k → nmB j ≠ nmB k := by
  have h : ∀ k, k < 61 → vlB k = ⟨#[]⟩ → ∀ j, j < k → nmB j ≠ nmB k := by decide +kernel
  exact h
theorem fdr_name {nm : ByteArray} {i : Int} {b : Bool} (h : FdR nm ⟨#[]⟩ i b) : (0 < i ∧ ∃ k : Nat, k < 61 ∧ i = (k : Int) + 1 ∧ nmB k = nm ∧ ∀ j, j < k → nmB j ≠ nm) ∨ (i = 0 ∧ ∀ j, j < 61 → nmB j ≠ nm) := by
  rcases h with ⟨_, k, hk, rfl, h1, h2, _⟩ | ⟨_, _, ⟨rfl, h1⟩ | ⟨k, hk, rfl, h1, h2⟩⟩
  · exact .inl ⟨by omega, k, hk, rfl, h1, fun j hj e => alone24 k hk h2 j hj (e.trans h1.symm)⟩
  · exact .inr ⟨rfl, h1⟩
  · exact .inl ⟨by omega, k, hk, rfl, h1, h2⟩
theorem fdr_rng {nm vl : ByteArray} {i : Int} {b : Bool} (h : FdR nm vl i b) : 0 ≤ i ∧ i ≤ 61 := by
  rcases h with ⟨_, k, hk, rfl, _⟩ | ⟨_, _, ⟨rfl, _⟩ | ⟨k, hk, rfl, _⟩⟩ <;> omega
theorem fir_rng {l : List Fd} {nm vl : ByteArray} {i : Int} {b : Bool} (h : FiR (fn l) l.length nm vl i b) : 0 ≤ i ∧ i ≤ l.length := by
  rcases h.range with rfl | ⟨q, hq, rfl⟩ <;> omega
theorem PlR.rng {l : List Fd} {nm vl : ByteArray} {p : Int} (h : PlR l nm vl p) : 0 ≤ p ∧ p ≤ 61 + l.length := by
  obtain ⟨i, b, h1, h2⟩ := h
  have := fdr_rng h1
  rcases h2 with ⟨_, rfl⟩ | ⟨_, j, d, h3, ⟨_, rfl⟩ | ⟨_, rfl⟩⟩
  · omega
  · have := fir_rng h3; omega
  · omega
theorem NmR.rng {l : List Fd} {nm : ByteArray} {p : Int} (h : NmR l nm p) : 0 ≤ p ∧ p ≤ 61 + l.length := by
  rcases h with ⟨k, hk, rfl, _⟩ | ⟨_, ⟨q, hq, rfl, _⟩ | ⟨rfl, _⟩⟩ <;> omega
def IntGot (R : Int → Prop) (w : World) (e : Ending) (w' : World) : Prop := ∃ p, e = .returned (.int .i64 p) ∧ R p ∧ Below w.heap.size w w'
set_option maxRecDepth 20000 in
set_option maxHeartbeats 1600000 in
theorem place24 {B : Nat} {w : World} {p : Nat} {g : Option Nat} {mx : Nat} {l : List Fd} (h : TL B w p g mx l) (hn : l.length ≤ 1000000) (nm vl : ByteArray) (nv : Bool) :
    Calls Tryd.prog 67 #[.pointer (some ⟨p, 0, none⟩), .agg #[.string nm, .string vl, .bool nv]] w (IntGot (PlR l nm vl) w) := by
  have al := (Below.refl w.heap.size w).alloc (Nat.le_refl _) (.cells #[.string nm, .string vl, .bool nv] 51)
  have R0 := hide (heap_alloc_new w (.cells #[.string nm, .string vl, .bool nv] 51))
  have H0 := hide (h.below al)
  have E0 := hide al
  obtain ⟨f0, f1, f2⟩ := rowT R0.out
  clear h al
  go_enter Tryd.func67, Tryd.ntmps67
  go_wp2_with fail
  generalize hW : w.alloc (.cells #[.string nm, .string vl, .bool nv] 51) = W at *
  clear hW
  refine (sfind_any nm vl _).mono ?_
  rintro e w1 ⟨i, b, rfl, hr, hb⟩
  have HR := hide hr
  have R1 := hide (keepRow R0.out hb)
  have H1 := hide (H0.out.below hb)
  have E1 := hide (E0.out.of hb)
  clear hr hb f0 f1 f2 R0 H0 E0
  obtain ⟨f0, f1, f2⟩ := rowT R1.out
  cases b with
  | true =>
    go_wp2_with fail
    go_ret
    exact ⟨i, rfl, ⟨i, true, HR.out, .inl ⟨rfl, rfl⟩⟩, E1.out⟩
  | false =>
    go_upto_region 4 with (fail)
    go_region_held3 (fun W => W.cell? ⟨w.heap.size, 0, none⟩ = some (.string nm) ∧ W.cell? ⟨w.heap.size, 1, none⟩ = some (.string vl))
      ((first | exact ⟨f0, f1⟩ | exact S5.out | (go_keep; done)))
      ((first
        | (go_at_call 87; (with_reducible refine (findL (TL.drew H1.out) hn nm vl).mono ?_); rintro e w5 ⟨j, d, rfl, hf, hb⟩; have HF := hide hf; have E5 := hide (E1.out.drew.of hb); have hrg := fir_rng hf; have S5 := hide (And.intro ((hb.cell (World.block_lt_of_cell? w1 _ f0)).trans f0) ((hb.cell (World.block_lt_of_cell? w1 _ f1)).trans f1)); clear hf hb)))
    all_goals
      have hw : IntKind.i64.wrap (61 + j) = 61 + j := IntWalk.i64_in _ (by omega)
      cases d with
      | true =>
        go_wp2_with fail
        go_ret
        exact ⟨61 + j, rfl, ⟨i, false, HR.out, .inr ⟨rfl, j, true, HF.out, .inl ⟨rfl, rfl⟩⟩⟩, E5.out⟩
      | false =>
        go_wp2_with fail
        go_ret
        exact ⟨0, rfl, ⟨i, false, HR.out, .inr ⟨rfl, j, false, HF.out, .inr ⟨rfl, rfl⟩⟩⟩, E5.out⟩
set_option maxRecDepth 20000 in
set_option maxHeartbeats 1600000 in
theorem name24 {B : Nat} {w : World} {p : Nat} {g : Option Nat} {mx : Nat} {l : List Fd} (h : TL B w p g mx l) (hn : l.length ≤ 1000000) (nm : ByteArray) :
    Calls Tryd.prog 68 #[.pointer (some ⟨p, 0, none⟩), .string nm] w (IntGot (NmR l nm) w) := by
  have H0 := hide h
  clear h
  go_enter Tryd.func68, Tryd.ntmps68
  go_wp2_with fail
  refine (sfind_any nm ⟨#[]⟩ _).mono ?_
  rintro e w1 ⟨i, b, rfl, hr, hb⟩
  have H1 := hide (H0.out.below hb)
  have E1 := hide hb
  clear hb H0
  rcases fdr_name hr with ⟨h0, k, hk, rfl, h1, h2⟩ | ⟨rfl, h1⟩
  · have hd : decide ((0 : Int) < (k : Int) + 1) = true := decide_eq_true (by omega)
    have HK := hide (And.intro h1 h2)
    clear h1 h2 hr h0
    go_wp2_with fail
    go_ret
    exact ⟨_, rfl, .inl ⟨k, hk, rfl, HK.out.1, HK.out.2⟩, E1.out⟩
  · have hd : decide ((0 : Int) < 0) = false := rfl
    have HN := hide h1
    clear h1 hr
    go_wp2_with fail
    go_loopw [7] (fun i wr => ∃ k : Nat, k ≤ l.length ∧ i = .int .i64 ((k : Int) + 1) ∧ (∀ j, j < k → (fn l j).name ≠ nm) ∧ TL B wr p g mx l ∧ Below w.heap.size w wr) (fun i _ => l.length + 1 - (intOf i).toNat)
    case atStart => exact ⟨0, Nat.zero_le _, rfl, fun j hj => absurd hj (Nat.not_lt_zero _), H1.out, E1.out⟩
    case round =>
      obtain ⟨k, hk, rfl, hno, ht, hb⟩ := hrel
      have HNo := hide hno
      have HT := hide ht
      have HB := hide hb
      have hlen := hide (len21 ht)
      clear hno ht hb H1 E1
      by_cases hlt : k < l.length
      · have hd1 : decide ((k : Int) + 1 ≤ (l.length : Int)) = true := decide_eq_true (by omega)
        go_wp2_with fail
        refine hlen.out.mono ?_
        rintro e w2 ⟨rfl, rfl⟩
        go_wp2_with fail
        refine (atTL HT.out hn ((k : Int) + 1)).mono ?_
        rintro e w3 ⟨n1, v1, x1, has, rfl, hv, hb3⟩
        have hat : atT l ((k : Int) + 1) = some (fn l k) := by
          unfold atT
          rw [if_pos (by omega), show ((k : Int) + 1 - 1).toNat = k by omega, List.getElem?_eq_getElem hlt, fn_get hlt]
        rw [hat] at hv
        rcases hv with ⟨e, _⟩ | ⟨f, e, rfl, rfl, rfl, rfl⟩
        · cases e
        obtain rfl : fn l k = f := Option.some.inj e
        have al := (Below.refl w3.heap.size w3).alloc (Nat.le_refl _) (.cells #[.string (fn l k).name, .string (fn l k).val, .bool (fn l k).nev] 51)
        have R3 := hide (heap_alloc_new w3 (.cells #[.string (fn l k).name, .string (fn l k).val, .bool (fn l k).nev] 51))
        have HT3 := hide (HT.out.below (hb3.of al))
        have HB3 := hide (HB.out.of (hb3.of al))
        obtain ⟨f0, f1, f2⟩ := rowT R3.out
        clear hat e hb3 al hlen HT HB
        by_cases hnm : (fn l k).name = nm
        · have hs := str_eq21 hnm
          have hw : IntKind.i64.wrap (61 + ((k : Int) + 1)) = 62 + (k : Int) := by rw [IntWalk.i64_in _ (by omega)]; omega
          have Hnm := hide hnm
          clear hnm
          generalize hX : (fn l k).name = X at *
          have HX := hide hX
          clear hX
          go_wp2_with fail
          go_ret
          exact ⟨_, rfl, .inr ⟨HN.out, .inl ⟨k, hlt, rfl, HX.out.trans Hnm.out, HNo.out⟩⟩, HB3.out⟩
        · have hs := str_ne21 hnm
          have Hnm := hide hnm
          have hw : IntKind.i64.wrap ((k : Int) + 1 + 1) = ((k + 1 : Nat) : Int) + 1 := by rw [IntWalk.i64_in _ (by omega)]; omega
          clear hnm
          go_wp2_with fail
          go_roundw
          case rel =>
            refine ⟨k + 1, by omega, rfl, fun j hj => ?_, HT3.out, HB3.out⟩
            rcases Nat.lt_or_ge j k with h | h
            · exact HNo.out j h
            · obtain rfl : j = k := by omega
              exact Hnm.out
          case measure => simp [intOf]; omega
      · have hd1 : decide ((k : Int) + 1 ≤ (l.length : Int)) = false := decide_eq_false (by omega)
        obtain rfl : l.length = k := by omega
        go_wp2_with fail
        refine hlen.out.mono ?_
        rintro e w2 ⟨rfl, rfl⟩
        go_wp2_with fail
        go_ret
        exact ⟨_, rfl, .inr ⟨HN.out, .inr ⟨rfl, HNo.out⟩⟩, HB.out⟩
end Go.Proofs.YtnkcbljhgcgpaaaDoor
