/- Layer 28: the first fields of a message; what fields say, or the rule that they break. -/
import Derived.Test.YtpohgehojmeodaaDoorMg1
import Derived.Deep.Cut
namespace Go.Proofs.YtpohgehojmeodaaDoor
set_option linter.unusedVariables false
set_option linter.unusedSimpArgs false
open Go.RowKit Go.PlainAid

theorem store4m {w : World} {p : Nat} {T : TypeId} {a0 a1 a2 a3 : Value} (h : w.heap[p]? = some (.cells #[a0, a1, a2, a3] T (0, 0))) (b0 b1 b2 b3 : Value) :
    (w.cell? ⟨p, 0, none⟩ = some a0 ∧ w.frozen? ⟨p, 0, none⟩ = false) ∧
    ((w.setCell ⟨p, 0, none⟩ b0).cell? ⟨p, 1, none⟩ = some a1 ∧ (w.setCell ⟨p, 0, none⟩ b0).frozen? ⟨p, 1, none⟩ = false) ∧
    (((w.setCell ⟨p, 0, none⟩ b0).setCell ⟨p, 1, none⟩ b1).cell? ⟨p, 2, none⟩ = some a2 ∧ ((w.setCell ⟨p, 0, none⟩ b0).setCell ⟨p, 1, none⟩ b1).frozen? ⟨p, 2, none⟩ = false) ∧
    ((((w.setCell ⟨p, 0, none⟩ b0).setCell ⟨p, 1, none⟩ b1).setCell ⟨p, 2, none⟩ b2).cell? ⟨p, 3, none⟩ = some a3 ∧ (((w.setCell ⟨p, 0, none⟩ b0).setCell ⟨p, 1, none⟩ b1).setCell ⟨p, 2, none⟩ b2).frozen? ⟨p, 3, none⟩ = false) ∧
    ((((w.setCell ⟨p, 0, none⟩ b0).setCell ⟨p, 1, none⟩ b1).setCell ⟨p, 2, none⟩ b2).setCell ⟨p, 3, none⟩ b3).heap[p]? = some (.cells #[b0, b1, b2, b3] T (0, 0)) := by
  have h1 := setRow w p 0 b0 h
  have h2 := setRow _ p 1 b1 h1
  have h3 := setRow _ p 2 b2 h2
  have h4 := setRow _ p 3 b3 h3
  simp only [List.setIfInBounds_toArray, List.set_cons_zero, List.set_cons_succ] at h1 h2 h3 h4
  have r : ∀ {W : World} {v0 v1 v2 v3 : Value}, W.heap[p]? = some (.cells #[v0, v1, v2, v3] T (0, 0)) → W.cell? ⟨p, 0, none⟩ = some v0 ∧ W.cell? ⟨p, 1, none⟩ = some v1 ∧ W.cell? ⟨p, 2, none⟩ = some v2 ∧ W.cell? ⟨p, 3, none⟩ = some v3 := fun h => by
    refine ⟨?_, ?_, ?_, ?_⟩ <;> simp [World.cell?, h]
  exact ⟨⟨(r h).1, frozenRow h 0⟩, ⟨(r h1).2.1, frozenRow h1 1⟩, ⟨(r h2).2.2.1, frozenRow h2 2⟩, ⟨(r h3).2.2.2, frozenRow h3 3⟩, h4⟩
theorem row4m {w : World} {b : Nat} {T : TypeId} {v0 v1 v2 v3 : Value} (h : w.heap[b]? = some (.cells #[v0, v1, v2, v3] T (0, 0))) : w.cell? ⟨b, 0, none⟩ = some v0 ∧ w.cell? ⟨b, 1, none⟩ = some v1 ∧ w.cell? ⟨b, 2, none⟩ = some v2 ∧ w.cell? ⟨b, 3, none⟩ = some v3 := by
  refine ⟨?_, ?_, ?_, ?_⟩ <;> simp [World.cell?, h]
theorem below4m {B : Nat} {w w' : World} {p : Nat} (h : Below B w w') (hp : B ≤ p) (b0 b1 b2 b3 : Value) : Below B w ((((w'.setCell ⟨p, 0, none⟩ b0).setCell ⟨p, 1, none⟩ b1).setCell ⟨p, 2, none⟩ b2).setCell ⟨p, 3, none⟩ b3) :=
  (((h.setCell hp _).setCell hp _).setCell hp _).setCell hp _
def hdM (kind : Int) (F : Nat → Fd) (n : Nat) : ByteArray := if kind = 0 ∨ kind = 3 then reqS F n nMethod else ⟨#[]⟩
def hdN (kind : Int) (F : Nat → Fd) (n : Nat) : Int := if kind = 1 then resN F n else 0
def hdB (kind : Int) (F : Nat → Fd) (n : Nat) : Bool := if kind = 0 ∨ kind = 3 then reqB F n else if kind = 1 then resB F n else okF [] F n
def HdE (kind : Int) (F : Nat → Fd) (n : Nat) (w : World) (e : Ending) (w' : World) : Prop := ∃ (s0 s1 s2 s3 : ByteArray) (st : Int) (ok : Bool), e = .returned (.tuple #[.agg #[.string s0, .string s1, .string s2, .string s3, .int .i64 st], .bool ok]) ∧ (s0 = hdM kind F n ∧ st = hdN kind F n ∧ ok = hdB kind F n) ∧ Below w.heap.size w w'
set_option maxRecDepth 100000 in
set_option maxHeartbeats 1600000 in
theorem head28 (kind : Int) (A : Option Addr) (n c : Nat) (F : Nat → Fd) (w : World) (ha : RdFd w A n c F) : Calls Tryd.prog 164 #[.int .i64 kind, .slice A n c] w (HdE kind F n w) := by
  have R0 := hide (heap_alloc_new w (.cells #[.string ⟨#[]⟩, .string ⟨#[]⟩, .string ⟨#[]⟩, .string ⟨#[]⟩, .int .i64 0] 160))
  have E0 := hide ((Below.refl w.heap.size w).alloc (Nat.le_refl _) (.cells #[.string ⟨#[]⟩, .string ⟨#[]⟩, .string ⟨#[]⟩, .string ⟨#[]⟩, .int .i64 0] 160))
  have A0 := hide (ha.below ((Below.refl _ _).alloc (Nat.le_refl _) (.cells #[.string ⟨#[]⟩, .string ⟨#[]⟩, .string ⟨#[]⟩, .string ⟨#[]⟩, .int .i64 0] 160)))
  clear ha
  by_cases h0 : kind = 0 ∨ kind = 3
  · have HK : Hid (hdM kind F n = reqS F n nMethod ∧ hdN kind F n = 0 ∧ hdB kind F n = reqB F n) := by
      unfold hdM hdN hdB
      rw [if_pos h0, if_pos h0, if_neg (by omega)]
      exact ⟨rfl, rfl, rfl⟩
    obtain ⟨x0, hx0⟩ : ∃ x, x = reqS F n nMethod := ⟨_, rfl⟩
    obtain ⟨x1, hx1⟩ : ∃ x, x = reqS F n nScheme := ⟨_, rfl⟩
    obtain ⟨x2, hx2⟩ : ∃ x, x = reqS F n nAuth := ⟨_, rfl⟩
    obtain ⟨x3, hx3⟩ : ∃ x, x = reqS F n nPath := ⟨_, rfl⟩
    obtain ⟨bb, hbb⟩ : ∃ x, x = reqB F n := ⟨_, rfl⟩
    have HV : Hid (reqV F n = .tuple #[.agg #[.string x0, .string x1, .string x2, .string x3, .int .i64 0], .bool bb]) := by show _ = _; unfold reqV; rw [hx0, hx1, hx2, hx3, hbb]
    rw [← hx0, ← hbb] at HK
    clear hx0 hx1 hx2 hx3 hbb
    go_enter Tryd.func164, Tryd.ntmps164
    rcases h0 with rfl | rfl
    all_goals
      go_wp2_with fail
      refine (request_any A n c F _ A0.out).mono ?_
      rw [HV.out]
      rintro e w1 ⟨rfl, hb1⟩
      have R1 := keepRow R0.out hb1
      have E1 := E0.out.of hb1
      obtain ⟨⟨c0, f0⟩, ⟨c1, f1⟩, ⟨c2, f2⟩, ⟨c3, f3⟩, ⟨c4, f4⟩, r5⟩ := store5p R1 (.string x0) (.string x1) (.string x2) (.string x3) (.int .i64 0)
      have R2 := hide r5
      have E2 := hide (below5p E1 (p := w.heap.size) (Nat.le_refl _) (.string x0) (.string x1) (.string x2) (.string x3) (.int .i64 0))
      clear r5 R1 E1 hb1
      go_wp2_with fail
      obtain ⟨d0, d1, d2, d3, d4⟩ := row5 R2.out
      refine bodyPost_ret (v := .tuple #[.agg #[.string x0, .string x1, .string x2, .string x3, .int .i64 0], .bool bb]) ?_ rfl ⟨_, _, _, _, _, _, rfl, ⟨HK.out.1.symm, HK.out.2.1.symm, HK.out.2.2.symm⟩, E2.out⟩
      rw [results_cell_tmp rfl]
      go_simp
  · have k0 : (kind == 0) = false := by simpa using fun h => h0 (.inl h)
    have k3 : (kind == 3) = false := by simpa using fun h => h0 (.inr h)
    by_cases h1 : kind = 1
    · have HK : Hid (hdM kind F n = ⟨#[]⟩ ∧ hdN kind F n = resN F n ∧ hdB kind F n = resB F n) := by
        unfold hdM hdN hdB
        rw [if_neg h0, if_neg h0, if_pos h1, if_pos h1]
        exact ⟨rfl, rfl, rfl⟩
      obtain ⟨st, hst⟩ : ∃ x, x = resN F n := ⟨_, rfl⟩
      obtain ⟨bb, hbb⟩ : ∃ x, x = resB F n := ⟨_, rfl⟩
      have HV : Hid (resV F n = .tuple #[.agg #[.string ⟨#[]⟩, .string ⟨#[]⟩, .string ⟨#[]⟩, .string ⟨#[]⟩, .int .i64 st], .bool bb]) := by show _ = _; unfold resV; rw [hst, hbb]
      rw [← hst, ← hbb] at HK
      clear hst hbb h0 k0 k3
      subst h1
      go_enter Tryd.func164, Tryd.ntmps164
      go_wp2_with fail
      refine (response_any A n c F _ A0.out).mono ?_
      rw [HV.out]
      rintro e w1 ⟨rfl, hb1⟩
      have R1 := keepRow R0.out hb1
      have E1 := E0.out.of hb1
      obtain ⟨⟨c0, f0⟩, ⟨c1, f1⟩, ⟨c2, f2⟩, ⟨c3, f3⟩, ⟨c4, f4⟩, r5⟩ := store5p R1 (.string ⟨#[]⟩) (.string ⟨#[]⟩) (.string ⟨#[]⟩) (.string ⟨#[]⟩) (.int .i64 st)
      have R2 := hide r5
      have E2 := hide (below5p E1 (p := w.heap.size) (Nat.le_refl _) (.string ⟨#[]⟩) (.string ⟨#[]⟩) (.string ⟨#[]⟩) (.string ⟨#[]⟩) (.int .i64 st))
      clear r5 R1 E1 hb1
      go_wp2_with fail
      obtain ⟨d0, d1, d2, d3, d4⟩ := row5 R2.out
      refine bodyPost_ret (v := .tuple #[.agg #[.string ⟨#[]⟩, .string ⟨#[]⟩, .string ⟨#[]⟩, .string ⟨#[]⟩, .int .i64 st], .bool bb]) ?_ rfl ⟨_, _, _, _, _, _, rfl, ⟨HK.out.1.symm, HK.out.2.1.symm, HK.out.2.2.symm⟩, E2.out⟩
      rw [results_cell_tmp rfl]
      go_simp
    · have k1 : (kind == 1) = false := by simpa using h1
      have HK : Hid (hdM kind F n = ⟨#[]⟩ ∧ hdN kind F n = 0 ∧ hdB kind F n = okF [] F n) := by
        unfold hdM hdN hdB
        rw [if_neg h0, if_neg h0, if_neg h1, if_neg h1]
        exact ⟨rfl, rfl, rfl⟩
      obtain ⟨bb, hbb⟩ : ∃ x, x = okF [] F n := ⟨_, rfl⟩
      rw [← hbb] at HK
      have Hbb := hide hbb
      clear hbb h0 h1
      go_enter Tryd.func164, Tryd.ntmps164
      go_wp2_with fail
      refine (trailer_any A n c F _ A0.out).mono ?_
      rw [← Hbb.out]
      rintro e w1 ⟨rfl, hb1⟩
      have R1 := keepRow R0.out hb1
      have E1 := E0.out.of hb1
      obtain ⟨⟨c0, f0⟩, ⟨c1, f1⟩, ⟨c2, f2⟩, ⟨c3, f3⟩, ⟨c4, f4⟩, r5⟩ := store5p R1 (.string ⟨#[]⟩) (.string ⟨#[]⟩) (.string ⟨#[]⟩) (.string ⟨#[]⟩) (.int .i64 0)
      have R2 := hide r5
      have E2 := hide (below5p E1 (p := w.heap.size) (Nat.le_refl _) (.string ⟨#[]⟩) (.string ⟨#[]⟩) (.string ⟨#[]⟩) (.string ⟨#[]⟩) (.int .i64 0))
      clear r5 R1 E1 hb1
      go_wp2_with fail
      obtain ⟨d0, d1, d2, d3, d4⟩ := row5 R2.out
      refine bodyPost_ret (v := .tuple #[.agg #[.string ⟨#[]⟩, .string ⟨#[]⟩, .string ⟨#[]⟩, .string ⟨#[]⟩, .int .i64 0], .bool bb]) ?_ rfl ⟨_, _, _, _, _, _, rfl, ⟨HK.out.1.symm, HK.out.2.1.symm, HK.out.2.2.symm⟩, E2.out⟩
      rw [results_cell_tmp rfl]
      go_simp
def safeB (m : ByteArray) : Bool := (m.toList == [71, 69, 84]) || (m.toList == [72, 69, 65, 68])
theorem safe28 (m : ByteArray) (w : World) : Calls Tryd.prog 166 #[.string m] w fun e w' => e = .returned (.bool (safeB m)) ∧ w = w' := by
  obtain ⟨b, hb⟩ : ∃ b, b = (m.toList == [71, 69, 84]) := ⟨_, rfl⟩
  have H : Hid (safeB m = (b || (m.toList == [72, 69, 65, 68]))) := by show _ = _; unfold safeB; rw [hb]
  have hb' := hb.symm
  clear hb
  go_enter Tryd.func166, Tryd.ntmps166
  cases b
  all_goals
    go_wp2_with fail
    go_ret
    exact ⟨by rw [H.out]; rfl, rfl⟩
/-- What fields say, or the first rule that they break. -/
def ChkR (kind : Int) (F : Nat → Fd) (n : Nat) (m : ByteArray) (st N : Int) (T : Bool) (rule : Int) : Prop :=
  (anyB wrgB F n = true ∧ rule = 28 ∧ m = ⟨#[]⟩ ∧ st = 0 ∧ N = 0 ∧ T = false) ∨
  (anyB wrgB F n = false ∧ anyB brdB F n = true ∧ rule = 29 ∧ m = ⟨#[]⟩ ∧ st = 0 ∧ N = 0 ∧ T = false) ∨
  (anyB wrgB F n = false ∧ anyB brdB F n = false ∧ hdB kind F n = false ∧ rule = 30 ∧ m = ⟨#[]⟩ ∧ st = 0 ∧ N = 0 ∧ T = false) ∨
  (anyB wrgB F n = false ∧ anyB brdB F n = false ∧ hdB kind F n = true ∧ (∃ N' T', LenR F n N' T' false) ∧ rule = 31 ∧ m = ⟨#[]⟩ ∧ st = 0 ∧ N = 0 ∧ T = false) ∨
  (anyB wrgB F n = false ∧ anyB brdB F n = false ∧ hdB kind F n = true ∧ (∃ N' T', LenR F n N' T' true) ∧ (kind = 3 ∧ safeB (hdM kind F n) = false) ∧ rule = 34 ∧ m = ⟨#[]⟩ ∧ st = 0 ∧ N = 0 ∧ T = false) ∨
  (anyB wrgB F n = false ∧ anyB brdB F n = false ∧ hdB kind F n = true ∧ LenR F n N T true ∧ (kind = 3 → safeB (hdM kind F n) = true) ∧ rule = 0 ∧ m = hdM kind F n ∧ st = hdN kind F n)
theorem ChkR.same {kind : Int} {F : Nat → Fd} {n : Nat} {m m2 : ByteArray} {st N st2 N2 : Int} {T T2 : Bool} {rule rule2 : Int} (h : ChkR kind F n m st N T rule) (k : ChkR kind F n m2 st2 N2 T2 rule2) : m = m2 ∧ st = st2 ∧ N = N2 ∧ T = T2 ∧ rule = rule2 := by
  rcases h with ⟨a1, rfl, rfl, rfl, rfl, rfl⟩ | ⟨a1, a2, rfl, rfl, rfl, rfl, rfl⟩ | ⟨a1, a2, a3, rfl, rfl, rfl, rfl, rfl⟩ | ⟨a1, a2, a3, ⟨x, y, a4⟩, rfl, rfl, rfl, rfl, rfl⟩ | ⟨a1, a2, a3, ⟨x, y, a4⟩, ⟨a5, a6⟩, rfl, rfl, rfl, rfl, rfl⟩ | ⟨a1, a2, a3, a4, a5, rfl, rfl, rfl⟩
  all_goals
    rcases k with ⟨b1, rfl, rfl, rfl, rfl, rfl⟩ | ⟨b1, b2, rfl, rfl, rfl, rfl, rfl⟩ | ⟨b1, b2, b3, rfl, rfl, rfl, rfl, rfl⟩ | ⟨b1, b2, b3, ⟨x', y', b4⟩, rfl, rfl, rfl, rfl, rfl⟩ | ⟨b1, b2, b3, ⟨x', y', b4⟩, ⟨b5, b6⟩, rfl, rfl, rfl, rfl, rfl⟩ | ⟨b1, b2, b3, b4, b5, rfl, rfl, rfl⟩
    all_goals first
      | exact ⟨rfl, rfl, rfl, rfl, rfl⟩
      | (obtain ⟨h1, h2, _⟩ := a4.same b4; exact ⟨rfl, rfl, h1, h2, rfl⟩)
      | exact absurd (a4.same b4).2.2 (by decide)
      | exact absurd (a1.symm.trans b1) (by decide)
      | exact absurd (a2.symm.trans b2) (by decide)
      | exact absurd (a3.symm.trans b3) (by decide)
      | exact absurd ((a5 b5).symm.trans b6) (by decide)
      | exact absurd ((b5 a5).symm.trans a6) (by decide)
def ChkE (kind : Int) (F : Nat → Fd) (n : Nat) (w : World) (e : Ending) (w' : World) : Prop := ∃ (m : ByteArray) (st N : Int) (T : Bool) (rule : Int), e = .returned (.tuple #[.agg #[.string m, .int .i64 st, .int .i64 N, .bool T], .int .i64 rule]) ∧ ChkR kind F n m st N T rule ∧ Below w.heap.size w w'
set_option maxRecDepth 100000 in
set_option maxHeartbeats 3200000 in
theorem check28 (kind : Int) (A : Option Addr) (n c : Nat) (F : Nat → Fd) (w : World) (ha : RdFd w A n c F) (hs : Sm28 F n) (T : TypeId) (fr : Nat × Nat) (hg : w.heap[6]? = some (.cells barV T fr)) : Calls Tryd.prog 131 #[.int .i64 kind, .slice A n c] w (ChkE kind F n w) := by
  have R0 := hide (heap_alloc_new w (.cells #[.string ⟨#[]⟩, .int .i64 0, .int .i64 0, .bool false] 67))
  have E0 := (Below.refl w.heap.size w).alloc (Nat.le_refl _) (.cells #[.string ⟨#[]⟩, .int .i64 0, .int .i64 0, .bool false] 67)
  have A0 := hide (ha.below E0)
  have G0 := hide ((E0.block _ (rowLt hg)).trans hg)
  have HE0 := hide E0
  have Hs := hide hs
  clear ha hg E0 hs
  go_enter Tryd.func131, Tryd.ntmps131
  go_upto_region 1 with (fail)
  generalize w.alloc (.cells #[.string ⟨#[]⟩, .int .i64 0, .int .i64 0, .bool false] 67) = W0 at *
  go_wp2_with fail
  refine (contains_wrong28 A n c F _ A0.out Hs.out T fr G0.out).mono ?_
  obtain ⟨b1, hb1⟩ : ∃ b, b = anyB wrgB F n := ⟨_, rfl⟩
  rw [← hb1]
  have B1 := hide hb1
  clear hb1
  rintro e w1 ⟨rfl, hw1⟩
  have A1 := hide (A0.out.below hw1)
  have G1 := hide ((hw1.block _ (rowLt G0.out)).trans G0.out)
  have R1 := hide (keepRow R0.out hw1)
  have E1 := hide (HE0.out.of hw1)
  clear hw1 A0 G0 R0 HE0
  cases b1 with
  | true =>
    have HR : Hid (ChkR kind F n ⟨#[]⟩ 0 0 false 28) := .inl ⟨B1.out.symm, rfl, rfl, rfl, rfl, rfl⟩
    obtain ⟨⟨c0, f0⟩, ⟨c1, f1⟩, ⟨c2, f2⟩, ⟨c3, f3⟩, r5⟩ := store4m R1.out (.string ⟨#[]⟩) (.int .i64 0) (.int .i64 0) (.bool false)
    have RR := hide r5
    have EE := hide (below4m E1.out (p := w.heap.size) (Nat.le_refl _) (.string ⟨#[]⟩) (.int .i64 0) (.int .i64 0) (.bool false))
    clear r5
    go_wp2_with fail
    obtain ⟨d0, d1, d2, d3⟩ := row4m RR.out
    refine bodyPost_ret (v := .tuple #[.agg #[.string ⟨#[]⟩, .int .i64 0, .int .i64 0, .bool false], .int .i64 28]) ?_ rfl ⟨_, _, _, _, _, rfl, HR.out, EE.out⟩
    rw [results_cell_tmp rfl]
    go_simp
  | false =>
    go_wp2_with fail
    refine (contains_barred28 A n c F _ A1.out Hs.out T fr G1.out).mono ?_
    obtain ⟨b2, hb2⟩ : ∃ b, b = anyB brdB F n := ⟨_, rfl⟩
    rw [← hb2]
    have B2 := hide hb2
    clear hb2
    rintro e w2 ⟨rfl, hw2⟩
    have A2 := hide (A1.out.below hw2)
    have R2 := hide (keepRow R1.out hw2)
    have E2 := hide (E1.out.of hw2)
    clear hw2 A1 G1 R1 E1
    cases b2 with
    | true =>
      have HR : Hid (ChkR kind F n ⟨#[]⟩ 0 0 false 29) := .inr (.inl ⟨B1.out.symm, B2.out.symm, rfl, rfl, rfl, rfl, rfl⟩)
      obtain ⟨⟨c0, f0⟩, ⟨c1, f1⟩, ⟨c2, f2⟩, ⟨c3, f3⟩, r5⟩ := store4m R2.out (.string ⟨#[]⟩) (.int .i64 0) (.int .i64 0) (.bool false)
      have RR := hide r5
      have EE := hide (below4m E2.out (p := w.heap.size) (Nat.le_refl _) (.string ⟨#[]⟩) (.int .i64 0) (.int .i64 0) (.bool false))
      clear r5
      go_wp2_with fail
      obtain ⟨d0, d1, d2, d3⟩ := row4m RR.out
      refine bodyPost_ret (v := .tuple #[.agg #[.string ⟨#[]⟩, .int .i64 0, .int .i64 0, .bool false], .int .i64 29]) ?_ rfl ⟨_, _, _, _, _, rfl, HR.out, EE.out⟩
      rw [results_cell_tmp rfl]
      go_simp
    | false =>
      go_wp2_with fail
      refine (head28 kind A n c F _ A2.out).mono ?_
      rintro e w3 ⟨s0, s1, s2, s3, st, ok, rfl, ⟨hs0, hst, hok⟩, hw3⟩
      have HS0 := hide hs0
      have Hst := hide hst
      have Hok := hide hok
      have al := (Below.refl w3.heap.size w3).alloc (Nat.le_refl _) (.cells #[.string s0, .string s1, .string s2, .string s3, .int .i64 st] 160)
      have A3 := hide ((A2.out.below hw3).below al)
      have R3 := hide (keepRow (keepRow R2.out hw3) al)
      have E3 := hide ((E2.out.of hw3).of al)
      have H3 := hide (heap_alloc_new w3 (.cells #[.string s0, .string s1, .string s2, .string s3, .int .i64 st] 160))
      clear hs0 hst hok hw3 al A2 R2 E2
      cases ok with
      | false =>
        have HR : Hid (ChkR kind F n ⟨#[]⟩ 0 0 false 30) := .inr (.inr (.inl ⟨B1.out.symm, B2.out.symm, Hok.out.symm, rfl, rfl, rfl, rfl, rfl⟩))
        obtain ⟨⟨c0, f0⟩, ⟨c1, f1⟩, ⟨c2, f2⟩, ⟨c3, f3⟩, r5⟩ := store4m R3.out (.string ⟨#[]⟩) (.int .i64 0) (.int .i64 0) (.bool false)
        have RR := hide r5
        have EE := hide (below4m E3.out (p := w.heap.size) (Nat.le_refl _) (.string ⟨#[]⟩) (.int .i64 0) (.int .i64 0) (.bool false))
        clear r5
        go_wp2_with fail
        obtain ⟨d0, d1, d2, d3⟩ := row4m RR.out
        refine bodyPost_ret (v := .tuple #[.agg #[.string ⟨#[]⟩, .int .i64 0, .int .i64 0, .bool false], .int .i64 30]) ?_ rfl ⟨_, _, _, _, _, rfl, HR.out, EE.out⟩
        rw [results_cell_tmp rfl]
        go_simp
      | true =>
        go_wp2_with fail
        refine (lenof_any A n c F _ A3.out).mono ?_
        rintro e w4 ⟨N, T', ok, rfl, hl, hw4⟩
        have HL := hide hl
        have al := (Below.refl w4.heap.size w4).alloc (Nat.le_refl _) (.cells #[.int .i64 N, .bool T'] 65)
        have R4 := hide (keepRow (keepRow R3.out hw4) al)
        have E4 := hide ((E3.out.of hw4).of al)
        have H4 := hide (keepRow (keepRow H3.out hw4) al)
        have L4 := hide (heap_alloc_new w4 (.cells #[.int .i64 N, .bool T'] 65))
        clear hl hw4 al A3 R3 E3 H3
        cases ok with
        | false =>
          have HR : Hid (ChkR kind F n ⟨#[]⟩ 0 0 false 31) := .inr (.inr (.inr (.inl ⟨B1.out.symm, B2.out.symm, Hok.out.symm, ⟨_, _, HL.out⟩, rfl, rfl, rfl, rfl, rfl⟩)))
          obtain ⟨⟨c0, f0⟩, ⟨c1, f1⟩, ⟨c2, f2⟩, ⟨c3, f3⟩, r5⟩ := store4m R4.out (.string ⟨#[]⟩) (.int .i64 0) (.int .i64 0) (.bool false)
          have RR := hide r5
          have EE := hide (below4m E4.out (p := w.heap.size) (Nat.le_refl _) (.string ⟨#[]⟩) (.int .i64 0) (.int .i64 0) (.bool false))
          clear r5
          go_wp2_with fail
          obtain ⟨d0, d1, d2, d3⟩ := row4m RR.out
          refine bodyPost_ret (v := .tuple #[.agg #[.string ⟨#[]⟩, .int .i64 0, .int .i64 0, .bool false], .int .i64 31]) ?_ rfl ⟨_, _, _, _, _, rfl, HR.out, EE.out⟩
          rw [results_cell_tmp rfl]
          go_simp
        | true =>
          obtain ⟨h0, h1, h2, h3, h4⟩ := row5 H4.out
          obtain ⟨l0, l1⟩ := row2 L4.out
          by_cases hk : kind = 3
          · subst hk
            go_wp2_with fail
            refine (safe28 s0 _).mono ?_
            obtain ⟨sb, hsb⟩ : ∃ b, b = safeB s0 := ⟨_, rfl⟩
            rw [← hsb]
            have HSB := hide hsb
            clear hsb
            rintro e wl ⟨rfl, rfl⟩
            cases sb with
            | false =>
              have HR : Hid (ChkR 3 F n ⟨#[]⟩ 0 0 false 34) := .inr (.inr (.inr (.inr (.inl ⟨B1.out.symm, B2.out.symm, Hok.out.symm, ⟨_, _, HL.out⟩, ⟨rfl, by rw [← HS0.out]; exact HSB.out.symm⟩, rfl, rfl, rfl, rfl, rfl⟩))))
              clear h0 h1 h2 h3 h4 l0 l1
              obtain ⟨⟨c0, f0⟩, ⟨c1, f1⟩, ⟨c2, f2⟩, ⟨c3, f3⟩, r5⟩ := store4m R4.out (.string ⟨#[]⟩) (.int .i64 0) (.int .i64 0) (.bool false)
              have RR := hide r5
              have EE := hide (below4m E4.out (p := w.heap.size) (Nat.le_refl _) (.string ⟨#[]⟩) (.int .i64 0) (.int .i64 0) (.bool false))
              clear r5
              go_wp2_with fail
              obtain ⟨d0, d1, d2, d3⟩ := row4m RR.out
              refine bodyPost_ret (v := .tuple #[.agg #[.string ⟨#[]⟩, .int .i64 0, .int .i64 0, .bool false], .int .i64 34]) ?_ rfl ⟨_, _, _, _, _, rfl, HR.out, EE.out⟩
              rw [results_cell_tmp rfl]
              go_simp
            | true =>
              have HR : Hid (ChkR 3 F n s0 st N T' 0) := .inr (.inr (.inr (.inr (.inr ⟨B1.out.symm, B2.out.symm, Hok.out.symm, HL.out, fun _ => by rw [← HS0.out]; exact HSB.out.symm, rfl, HS0.out, Hst.out⟩))))
              obtain ⟨⟨c0, f0⟩, ⟨c1, f1⟩, ⟨c2, f2⟩, ⟨c3, f3⟩, r5⟩ := store4m R4.out (.string s0) (.int .i64 st) (.int .i64 N) (.bool T')
              have RR := hide r5
              have EE := hide (below4m E4.out (p := w.heap.size) (Nat.le_refl _) (.string s0) (.int .i64 st) (.int .i64 N) (.bool T'))
              clear r5
              go_wp2_with fail
              obtain ⟨d0, d1, d2, d3⟩ := row4m RR.out
              refine bodyPost_ret (v := .tuple #[.agg #[.string s0, .int .i64 st, .int .i64 N, .bool T'], .int .i64 0]) ?_ rfl ⟨_, _, _, _, _, rfl, HR.out, EE.out⟩
              rw [results_cell_tmp rfl]
              go_simp
          · have hk' : (kind == 3) = false := by simpa using hk
            have HR : Hid (ChkR kind F n s0 st N T' 0) := .inr (.inr (.inr (.inr (.inr ⟨B1.out.symm, B2.out.symm, Hok.out.symm, HL.out, fun h => absurd h hk, rfl, HS0.out, Hst.out⟩))))
            clear hk
            obtain ⟨⟨c0, f0⟩, ⟨c1, f1⟩, ⟨c2, f2⟩, ⟨c3, f3⟩, r5⟩ := store4m R4.out (.string s0) (.int .i64 st) (.int .i64 N) (.bool T')
            have RR := hide r5
            have EE := hide (below4m E4.out (p := w.heap.size) (Nat.le_refl _) (.string s0) (.int .i64 st) (.int .i64 N) (.bool T'))
            clear r5
            go_wp2_with fail
            obtain ⟨d0, d1, d2, d3⟩ := row4m RR.out
            refine bodyPost_ret (v := .tuple #[.agg #[.string s0, .int .i64 st, .int .i64 N, .bool T'], .int .i64 0]) ?_ rfl ⟨_, _, _, _, _, rfl, HR.out, EE.out⟩
            rw [results_cell_tmp rfl]
            go_simp
end Go.Proofs.YtpohgehojmeodaaDoor
