/- Layer 24: the document's places; which kind is asked for; how a field is written, as a relation that decides it. -/
import Derived.Test.YtnkcbljhgcgpaaaDoorEn1
namespace Go.Proofs.YtnkcbljhgcgpaaaDoor
set_option linter.unusedVariables false
set_option linter.unusedSimpArgs false
open Go.RowKit Go.Deep Go.ChangeShapes Go.WideShapes

set_option maxRecDepth 20000 in
set_option maxHeartbeats 1600000 in
theorem rplace24 {w : World} {A : Option Addr} {c : Nat} {mx : Int} {l : List Fd} (h : RdV 3 w A l.length c (fdV (fn l))) (hn : l.length ≤ 1000000) (nm vl : ByteArray) (nv : Bool) :
    Calls Tryd.prog 71 #[.agg #[.slice A l.length c, .int .i64 mx], .agg #[.string nm, .string vl, .bool nv]] w (IntGot (PlR l nm vl) w) := by
  have a1 := (Below.refl w.heap.size w).alloc (Nat.le_refl _) (.cells #[.slice A l.length c, .int .i64 mx] 37)
  have hs1 : (w.alloc (.cells #[.slice A l.length c, .int .i64 mx] 37)).heap.size = w.heap.size + 1 := by simp
  have a2 := (Below.refl (w.alloc (.cells #[.slice A l.length c, .int .i64 mx] 37)).heap.size (w.alloc (.cells #[.slice A l.length c, .int .i64 mx] 37))).alloc (Nat.le_refl _) (.cells #[.string nm, .string vl, .bool nv] 51)
  have r1 := heap_alloc_new (w.alloc (.cells #[.slice A l.length c, .int .i64 mx] 37)) (.cells #[.string nm, .string vl, .bool nv] 51)
  rw [hs1] at r1
  have R0 := hide r1
  have Q0 := hide (keepRow (heap_alloc_new w (.cells #[.slice A l.length c, .int .i64 mx] 37)) a2)
  have E0 := hide (a1.of a2)
  have H0 := hide (h.below36O E0.out)
  obtain ⟨f0, f1, f2⟩ := rowT R0.out
  clear h a1 a2 r1 hs1
  go_enter Tryd.func71, Tryd.ntmps71
  go_wp2_with fail
  generalize hW : (w.alloc (.cells #[.slice A l.length c, .int .i64 mx] 37)).alloc (.cells #[.string nm, .string vl, .bool nv] 51) = W at *
  clear hW
  refine (srfind_any nm vl _).mono ?_
  rintro e w1 ⟨i, b, rfl, hr, hw1⟩
  have hb : Below W.heap.size W w1 := by rw [hw1]; exact Below.refl _ _
  clear hw1
  have HR := hide hr
  have R1 := hide (keepRow R0.out hb)
  have Q1 := hide (keepRow Q0.out hb)
  have H1 := hide (H0.out.below36O hb)
  have E1 := hide (E0.out.of hb)
  clear hr hb f0 f1 f2 R0 H0 E0 Q0
  obtain ⟨f0, f1, f2⟩ := rowT R1.out
  obtain ⟨t0, t1⟩ := row2 Q1.out
  cases b with
  | true =>
    go_wp2_with fail
    go_ret
    exact ⟨i, rfl, ⟨i, true, HR.out, .inl ⟨rfl, rfl⟩⟩, E1.out⟩
  | false =>
    go_wp2_with fail
    refine (rfindL H1.out hn nm vl).mono ?_
    rintro e w5 ⟨j, d, rfl, hf, hb⟩
    have HF := hide hf
    have E5 := hide (E1.out.of hb)
    have hrg := fir_rng hf
    have hw : IntKind.i64.wrap (61 + j) = 61 + j := IntWalk.i64_in _ (by omega)
    clear hf hb
    cases d with
    | true =>
      go_wp2_with fail
      go_ret
      exact ⟨61 + j, rfl, ⟨i, false, HR.out, .inr ⟨rfl, j, true, HF.out, .inl ⟨rfl, rfl⟩⟩⟩, E5.out⟩
    | false =>
      go_wp2_with fail
      go_ret
      exact ⟨0, rfl, ⟨i, false, HR.out, .inr ⟨rfl, j, false, HF.out, .inr ⟨rfl, rfl⟩⟩⟩, E5.out⟩
set_option maxRecDepth 20000 in
set_option maxHeartbeats 1600000 in
theorem rname24 {w : World} {A : Option Addr} {c : Nat} {mx : Int} {l : List Fd} (h : RdV 3 w A l.length c (fdV (fn l))) (hn : l.length ≤ 1000000) (nm : ByteArray) :
    Calls Tryd.prog 72 #[.agg #[.slice A l.length c, .int .i64 mx], .string nm] w (IntGot (NmR l nm) w) := by
  have a1 := (Below.refl w.heap.size w).alloc (Nat.le_refl _) (.cells #[.slice A l.length c, .int .i64 mx] 37)
  have Q0 := hide (heap_alloc_new w (.cells #[.slice A l.length c, .int .i64 mx] 37))
  have E0 := hide a1
  have H0 := hide h
  clear h a1
  go_enter Tryd.func72, Tryd.ntmps72
  go_wp2_with fail
  generalize hW : w.alloc (.cells #[.slice A l.length c, .int .i64 mx] 37) = W0 at *
  clear hW
  go_loopw [5] (fun i W => ∃ k : Nat, k ≤ 61 ∧ i = .int .i64 ((k : Int) + 1) ∧ (∀ j, j < k → nmB j ≠ nm) ∧ W.heap[w.heap.size]? = some (.cells #[.slice A l.length c, .int .i64 mx] 37 (0, 0)) ∧ Below w.heap.size w W) (fun i _ => 62 - (intOf i).toNat)
  case atStart => exact ⟨0, Nat.zero_le _, rfl, fun j hj => absurd hj (Nat.not_lt_zero _), Q0.out, E0.out⟩
  case round =>
    obtain ⟨k, hk, rfl, hno, hq, hb⟩ := hrel
    have HNo := hide hno
    have HQ := hide hq
    have HB := hide hb
    clear hno hq hb
    by_cases hlt : k < 61
    · have hd1 : decide ((k : Int) + 1 ≤ 61) = true := decide_eq_true (by omega)
      go_wp2_with fail
      refine (rat_in k _ hlt).mono ?_
      rintro e w3 ⟨rfl, hb3⟩
      have al := (Below.refl w3.heap.size w3).alloc (Nat.le_refl _) (.cells #[.string (nmB k), .string (vlB k), .bool false] 51)
      have R3 := hide (heap_alloc_new w3 (.cells #[.string (nmB k), .string (vlB k), .bool false] 51))
      have HQ3 := hide (keepRow HQ.out (hb3.of al))
      have HB3 := hide (HB.out.of (hb3.of al))
      obtain ⟨f0, f1, f2⟩ := rowT R3.out
      clear hb3 al HQ HB
      by_cases hnm : nmB k = nm
      · have hs := str_eq21 hnm
        have Hnm := hide hnm
        clear hnm
        generalize hX : nmB k = X at *
        have HX := hide hX
        clear hX
        go_wp2_with fail
        go_ret
        exact ⟨_, rfl, .inl ⟨k, hlt, rfl, HX.out.trans Hnm.out, HNo.out⟩, HB3.out⟩
      · have hs := str_ne21 hnm
        have Hnm := hide hnm
        have hw : IntKind.i64.wrap ((k : Int) + 1 + 1) = ((k + 1 : Nat) : Int) + 1 := by rw [IntWalk.i64_in _ (by omega)]; omega
        clear hnm
        go_wp2_with fail
        go_roundw
        case rel =>
          refine ⟨k + 1, by omega, rfl, fun j hj => ?_, HQ3.out, HB3.out⟩
          rcases Nat.lt_or_ge j k with h | h
          · exact HNo.out j h
          · obtain rfl : j = k := by omega
            exact Hnm.out
        case measure => simp [intOf]; omega
    · have hd1 : decide ((k : Int) + 1 ≤ 61) = false := decide_eq_false (by omega)
      have HNS : Hid (∀ j, j < 61 → nmB j ≠ nm) := fun j hj => HNo.out j (by omega)
      obtain ⟨t0, t1⟩ := row2 HQ.out
      have H1 := hide (H0.out.below36O HB.out)
      clear hlt HNo
      go_wp2_with fail
      go_loop [8] (fun i => ∃ q : Nat, q ≤ l.length ∧ i = .int .i64 q ∧ ∀ j, j < q → (fn l j).name ≠ nm) (fun i => l.length - (intOf i).toNat)
      case atStart => exact ⟨0, Nat.zero_le _, rfl, fun j hj => absurd hj (Nat.not_lt_zero _)⟩
      case round =>
        obtain ⟨q, hq, rfl, hno⟩ := hrel
        have HNo := hide hno
        clear hno
        by_cases hlt : q < l.length
        · have hql : (q : Int) < (l.length : Int) := by omega
          obtain ⟨bb, oo, rfl, d0, d1, d2⟩ := row_at21 H1.out hlt
          by_cases hnm : (fn l q).name = nm
          · have hs := str_eq21 hnm
            have hw : IntKind.i64.wrap (62 + (q : Int)) = 62 + (q : Int) := IntWalk.i64_in _ (by omega)
            have Hnm := hide hnm
            clear hnm
            generalize hX : (fn l q).name = X at *
            have HX := hide hX
            clear hX
            go_wp2_with fail
            go_ret
            exact ⟨_, rfl, .inr ⟨HNS.out, .inl ⟨q, hlt, rfl, HX.out.trans Hnm.out, HNo.out⟩⟩, HB.out⟩
          · have hs := str_ne21 hnm
            have Hnm := hide hnm
            clear hnm
            go_wp2_with fail
            go_round
            case rel =>
              refine ⟨q + 1, by omega, by go_num, fun j hj => ?_⟩
              rcases Nat.lt_or_ge j q with h | h
              · exact HNo.out j h
              · obtain rfl : j = q := by omega
                exact Hnm.out
            case measure => simp [intOf]; omega
        · obtain rfl : l.length = q := by omega
          go_wp2_with fail
          go_ret
          exact ⟨_, rfl, .inr ⟨HNS.out, .inr ⟨rfl, HNo.out⟩⟩, HB.out⟩
/-- Which kind is asked for. -/
def kd24 (nv : Bool) (way : Int) : Int := if nv = true then 4 else if way = 1 then 2 else if way = 2 then 3 else 1
theorem kindof24 (nm vl : ByteArray) (nv : Bool) (way : Int) (nn sn sv : Bool) (w : World) :
    Calls Tryd.prog 66 #[.agg #[.string nm, .string vl, .bool nv], .agg #[.int .i64 way, .bool nn, .bool sn, .bool sv]] w fun e w' => e = .returned (.int .i64 (kd24 nv way)) ∧ Below w.heap.size w w' := by
  cases nv with
  | true =>
    go_enter Tryd.func66, Tryd.ntmps66
    go_wp2
    go_ret
    exact ⟨rfl, by go_grown⟩
  | false =>
    by_cases h1 : way = 1
    · subst h1
      go_enter Tryd.func66, Tryd.ntmps66
      go_wp2
      go_ret
      exact ⟨rfl, by go_grown⟩
    · by_cases h2 : way = 2
      · subst h2
        go_enter Tryd.func66, Tryd.ntmps66
        go_wp2
        go_ret
        exact ⟨rfl, by go_grown⟩
      · have e : kd24 false way = 1 := by unfold kd24; rw [if_neg (by simp), if_neg h1, if_neg h2]
        have d1 : ((way : Int) == 1) = false := by simpa using h1
        have d2 : ((way : Int) == 2) = false := by simpa using h2
        have HE := hide e
        clear h1 h2 e
        go_enter Tryd.func66, Tryd.ntmps66
        go_wp2
        go_ret
        exact ⟨by rw [HE.out]; rfl, by go_grown⟩
/-- How a field is written, and the table behind it. -/
def WrR (mx : Nat) (l : List Fd) (f : Fd) (way : Int) (nn sn sv : Bool) (k i : Int) (ns : ByteArray) (a : Bool) (vs : ByteArray) (b : Bool) (l' : List Fd) : Prop :=
  ∃ p m, PlR l f.name f.val p ∧ NmR l f.name m ∧
    ((kd24 f.nev way = 1 ∧ 0 < p ∧ k = 1 ∧ i = p ∧ ns = ⟨#[]⟩ ∧ a = false ∧ vs = ⟨#[]⟩ ∧ b = false ∧ l' = l) ∨
     (¬ (kd24 f.nev way = 1 ∧ 0 < p) ∧ k = (if kd24 f.nev way = 1 then 2 else kd24 f.nev way) ∧ i = (if nn = true then 0 else m) ∧ ns = (if i = 0 then f.name else ⟨#[]⟩) ∧ a = (if i = 0 then sn else false) ∧ vs = f.val ∧ b = sv ∧ l' = if k = 2 then addL mx f l else l))
theorem WrR.same {mx : Nat} {l : List Fd} {f : Fd} {way : Int} {nn sn sv : Bool} {k i k' i' : Int} {ns vs ns' vs' : ByteArray} {a b a' b' : Bool} {l1 l2 : List Fd} (h : WrR mx l f way nn sn sv k i ns a vs b l1) (h' : WrR mx l f way nn sn sv k' i' ns' a' vs' b' l2) :
    k = k' ∧ i = i' ∧ ns = ns' ∧ a = a' ∧ vs = vs' ∧ b = b' ∧ l1 = l2 := by
  obtain ⟨p, m, h1, h2, h3⟩ := h
  obtain ⟨p', m', k1, k2, k3⟩ := h'
  obtain rfl := h1.same k1
  obtain rfl := h2.same k2
  rcases h3 with ⟨e1, e2, rfl, rfl, rfl, rfl, rfl, rfl, rfl⟩ | ⟨e1, rfl, rfl, rfl, rfl, rfl, rfl, rfl⟩
  · rcases k3 with ⟨_, _, rfl, rfl, rfl, rfl, rfl, rfl, rfl⟩ | ⟨e3, _⟩
    · exact ⟨rfl, rfl, rfl, rfl, rfl, rfl, rfl⟩
    · exact absurd ⟨e1, e2⟩ e3
  · rcases k3 with ⟨e3, e4, _⟩ | ⟨_, rfl, rfl, rfl, rfl, rfl, rfl, rfl⟩
    · exact absurd ⟨e3, e4⟩ e1
    · exact ⟨rfl, rfl, rfl, rfl, rfl, rfl, rfl⟩
theorem least_ex {P : Nat → Prop} : ∀ n, (∃ k, k < n ∧ P k) → ∃ k, k < n ∧ P k ∧ ∀ j, j < k → ¬ P j
  | 0, ⟨k, hk, _⟩ => absurd hk (Nat.not_lt_zero _)
  | n + 1, ⟨k, hk, hp⟩ => by
    by_cases h : ∃ k, k < n ∧ P k
    · obtain ⟨k', h1, h2, h3⟩ := least_ex n h
      exact ⟨k', by omega, h2, h3⟩
    · have e : k = n := by
        rcases Nat.lt_or_ge k n with h' | h'
        · exact absurd ⟨k, h', hp⟩ h
        · omega
      subst e
      exact ⟨k, hk, hp, fun j hj hpj => h ⟨j, hj, hpj⟩⟩
theorem nmr_ex (l : List Fd) (nm : ByteArray) : ∃ m, NmR l nm m := by
  by_cases h : ∃ k, k < 61 ∧ nmB k = nm
  · obtain ⟨k, h1, h2, h3⟩ := least_ex 61 h
    exact ⟨_, .inl ⟨k, h1, rfl, h2, h3⟩⟩
  · have hn : ∀ j, j < 61 → nmB j ≠ nm := fun j hj e => h ⟨j, hj, e⟩
    by_cases h' : ∃ q, q < l.length ∧ (fn l q).name = nm
    · obtain ⟨q, h1, h2, h3⟩ := least_ex l.length h'
      exact ⟨_, .inr ⟨hn, .inl ⟨q, h1, rfl, h2, h3⟩⟩⟩
    · exact ⟨0, .inr ⟨hn, .inr ⟨rfl, fun j hj e => h' ⟨j, hj, e⟩⟩⟩⟩
theorem fdr_ex (nm vl : ByteArray) : ∃ i b, FdR nm vl i b := by
  by_cases h : ∃ k, k < 61 ∧ (nmB k = nm ∧ vlB k = vl)
  · obtain ⟨k, h1, h2, h3⟩ := least_ex (P := fun k => nmB k = nm ∧ vlB k = vl) 61 h
    exact ⟨_, true, .inl ⟨rfl, k, h1, rfl, h2.1, h2.2, h3⟩⟩
  · have hn : ∀ j, j < 61 → ¬ (nmB j = nm ∧ vlB j = vl) := fun j hj e => h ⟨j, hj, e⟩
    by_cases h' : ∃ k, k < 61 ∧ nmB k = nm
    · obtain ⟨k, h1, h2, h3⟩ := least_ex 61 h'
      exact ⟨_, false, .inr ⟨rfl, hn, .inr ⟨k, h1, rfl, h2, h3⟩⟩⟩
    · exact ⟨0, false, .inr ⟨rfl, hn, .inl ⟨rfl, fun j hj e => h' ⟨j, hj, e⟩⟩⟩⟩
theorem fir_ex (L : Nat → Fd) (m : Nat) (nm vl : ByteArray) : ∃ i b, FiR L m nm vl i b := by
  by_cases h : ∃ k, k < m ∧ ((L k).name = nm ∧ (L k).val = vl)
  · obtain ⟨k, h1, h2, h3⟩ := least_ex (P := fun k => (L k).name = nm ∧ (L k).val = vl) m h
    exact ⟨_, true, .inl ⟨rfl, k, h1, rfl, h2.1, h2.2, h3⟩⟩
  · have hn : ∀ j, j < m → ¬ ((L j).name = nm ∧ (L j).val = vl) := fun j hj e => h ⟨j, hj, e⟩
    by_cases h' : ∃ k, k < m ∧ (L k).name = nm
    · obtain ⟨k, h1, h2, h3⟩ := least_ex (P := fun k => (L k).name = nm) m h'
      exact ⟨_, false, .inr ⟨rfl, hn, .inr ⟨k, h1, rfl, h2, h3⟩⟩⟩
    · exact ⟨0, false, .inr ⟨rfl, hn, .inl ⟨rfl, fun j hj e => h' ⟨j, hj, e⟩⟩⟩⟩
theorem plr_ex (l : List Fd) (nm vl : ByteArray) : ∃ p, PlR l nm vl p := by
  obtain ⟨i, b, h⟩ := fdr_ex nm vl
  cases b with
  | true => exact ⟨i, i, true, h, .inl ⟨rfl, rfl⟩⟩
  | false =>
    obtain ⟨j, d, k⟩ := fir_ex (fn l) l.length nm vl
    cases d with
    | true => exact ⟨61 + j, i, false, h, .inr ⟨rfl, j, true, k, .inl ⟨rfl, rfl⟩⟩⟩
    | false => exact ⟨0, i, false, h, .inr ⟨rfl, j, false, k, .inr ⟨rfl, rfl⟩⟩⟩
end Go.Proofs.YtnkcbljhgcgpaaaDoor
