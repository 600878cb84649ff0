/- Ft1, Ft2, Ft3, Ft4, Ft5, Ft6 in one text. -/
import Derived.Test.YtbkdegjkjjdcdaaDoorFb4
import Derived.Test.YtbkdegjkjjdcdaaDoorFa8
import Derived.Test.YtbkdegjkjjdcdaaDoorShlq
import Derived.BigQuiet
import Derived.Deep.Cut
import Derived.Test.YtbkdegjkjjdcdaaDoorFb9
import Derived.Test.YtbkdegjkjjdcdaaDoorSq2
namespace Go.Proofs.YtbkdegjkjjdcdaaDoor
set_option linter.unusedVariables false
set_option linter.unusedSimpArgs false
section
open Go.RowKit Go.PlainAid

set_option maxRecDepth 20000 in
set_option maxHeartbeats 3200000 in
theorem rtext09 (s d : Int) (w : World) : Calls Tryd.prog 29 #[.agg #[.int .i64 s, .int .i64 d]] w fun e w' => e = .returned (.string (fltT (s, d))) ∧ Below w.heap.size w w' := by
  have R0 := heap_alloc_new w (.cells #[.int .i64 s, .int .i64 d] 31)
  have b0 : Below w.heap.size w (w.alloc (.cells #[.int .i64 s, .int .i64 d] 31)) := (Below.refl _ _).alloc (Nat.le_refl _) _
  have B0 := hide b0
  clear b0
  have R0' := R0
  obtain ⟨r0, r1⟩ := row2 R0'
  clear R0'
  go_enter Tryd.func29, Tryd.ntmps29
  go_wp2_with fail
  generalize w.alloc (.cells #[.int .i64 s, .int .i64 d] 31) = W0 at *
  refine (rright09 s d _).mono ?_
  rintro e w1 ⟨rfl, hb1⟩
  have R1 := keepRow R0 hb1
  have HB1 := hide (B0.out.of hb1)
  clear r0 r1
  obtain ⟨r0, r1⟩ := row2 R1
  clear hb1 R0 R1 B0
  cases hr : rightB s d with
  | false =>
    have hz : Hid (fltT (s, d) = ⟨#[]⟩) := by
      show _ = _
      unfold fltT rP
      rw [hr]
      rfl
    clear hr
    go_wp2_with fail
    go_ret
    exact ⟨by rw [hz.out]; rfl, HB1.out⟩
  | true =>
    by_cases h1 : s = 1
    · have e1 : (s == 1) = true := by simpa using h1
      obtain ⟨y, hy⟩ : ∃ y, (⟨#[115, 116, 114, 101, 97, 109, 58]⟩ : ByteArray) ++ codeT d = y := ⟨_, rfl⟩
      have hz : Hid (fltT (s, d) = y) := by
        show _ = _
        rw [← hy]
        unfold fltT rP
        rw [hr, if_pos rfl, if_pos h1]
      have u0 := catR (a := ⟨#[115, 116, 114, 101, 97, 109]⟩) (b := ⟨#[58]⟩) (y := ⟨#[115, 116, 114, 101, 97, 109, 58]⟩) rfl (by decide)
      have u1 := catR hy (by have h2 : (⟨#[115, 116, 114, 101, 97, 109, 58]⟩ : ByteArray).size = 7 := rfl; have := codeT_size d; omega)
      have u2 : ¬ ((⟨#[115, 116, 114, 101, 97, 109, 58]⟩ : ByteArray).size + (codeT d).size > 9223372036854775807) := by have h2 : (⟨#[115, 116, 114, 101, 97, 109, 58]⟩ : ByteArray).size = 7 := rfl; have := codeT_size d; omega
      obtain ⟨z, hzz⟩ : ∃ z, codeT d = z := ⟨_, rfl⟩
      have hk : ∀ W, Below w1.heap.size w1 W → Calls Tryd.prog 54 #[.int .i64 d] W fun e w' => e = .returned (.string z) ∧ Below W.heap.size W w' := fun W hb => by
        rw [← hzz]
        exact rcname09 d W
      have HK := hide hk
      rw [hzz] at u1 u2
      clear h1 hr hy hzz hk
      go_wp2_with fail
      refine (HK.out _ (Below.refl _ _)).mono ?_
      rintro e w2 ⟨rfl, hb2⟩
      have HB2 := hide (HB1.out.of hb2)
      clear hb2
      go_wp2_with fail
      go_ret
      exact ⟨by rw [hz.out]; rfl, HB2.out⟩
    · have e1 : (s == 1) = false := by simpa using h1
      obtain ⟨y, hy⟩ : ∃ y, (⟨#[99, 111, 110, 110, 101, 99, 116, 105, 111, 110, 58]⟩ : ByteArray) ++ codeT d = y := ⟨_, rfl⟩
      have hz : Hid (fltT (s, d) = y) := by
        show _ = _
        rw [← hy]
        unfold fltT rP
        rw [hr, if_pos rfl, if_neg h1]
      have u0 := catR (a := ⟨#[99, 111, 110, 110, 101, 99, 116, 105, 111, 110]⟩) (b := ⟨#[58]⟩) (y := ⟨#[99, 111, 110, 110, 101, 99, 116, 105, 111, 110, 58]⟩) rfl (by decide)
      have u1 := catR hy (by have h2 : (⟨#[99, 111, 110, 110, 101, 99, 116, 105, 111, 110, 58]⟩ : ByteArray).size = 11 := rfl; have := codeT_size d; omega)
      have u2 : ¬ ((⟨#[99, 111, 110, 110, 101, 99, 116, 105, 111, 110, 58]⟩ : ByteArray).size + (codeT d).size > 9223372036854775807) := by have h2 : (⟨#[99, 111, 110, 110, 101, 99, 116, 105, 111, 110, 58]⟩ : ByteArray).size = 11 := rfl; have := codeT_size d; omega
      obtain ⟨z, hzz⟩ : ∃ z, codeT d = z := ⟨_, rfl⟩
      have hk : ∀ W, Below w1.heap.size w1 W → Calls Tryd.prog 54 #[.int .i64 d] W fun e w' => e = .returned (.string z) ∧ Below W.heap.size W w' := fun W hb => by
        rw [← hzz]
        exact rcname09 d W
      have HK := hide hk
      rw [hzz] at u1 u2
      clear h1 hr hy hzz hk
      go_wp2_with fail
      refine (HK.out _ (Below.refl _ _)).mono ?_
      rintro e w2 ⟨rfl, hb2⟩
      have HB2 := hide (HB1.out.of hb2)
      clear hb2
      go_wp2_with fail
      go_ret
      exact ⟨by rw [hz.out]; rfl, HB2.out⟩

def STREAM : ByteArray := ⟨#[115, 116, 114, 101, 97, 109]⟩
def CONN : ByteArray := ⟨#[99, 111, 110, 110, 101, 99, 116, 105, 111, 110]⟩
def COLON : ByteArray := ⟨#[58]⟩
def scN (p : Int) : ByteArray := if p = 1 then STREAM else CONN
theorem scN_no (p : Int) : (58 : UInt8) ∉ (scN p).data.toList := by
  unfold scN
  split <;> decide
theorem scN_inj {p q : Int} (hp : p = 1 ∨ p = 2) (hq : q = 1 ∨ q = 2) (h : scN p = scN q) : p = q := by
  have hne : STREAM ≠ CONN := by decide
  rcases hp with rfl | rfl <;> rcases hq with rfl | rfl
  · rfl
  · exact absurd h hne
  · exact absurd h.symm hne
  · rfl
/-- A right fault's text: its scope, a colon, its code. -/
theorem flt_parts {p q : Int} (h : rP (p, q) = true) : fltT (p, q) = scN p ++ COLON ++ codeT q ∧ (p = 1 ∨ p = 2) ∧ 0 ≤ q ∧ q ≤ 4294967295 := by
  have h2 : (p = 1 ∨ p = 2) ∧ 0 ≤ q ∧ q ≤ 4294967295 := by
    unfold rP rightB at h
    simp only [Bool.and_eq_true, Bool.or_eq_true, decide_eq_true_eq, beq_iff_eq] at h
    omega
  refine ⟨?_, h2⟩
  unfold fltT scN
  rw [if_pos h]
  have e1 : STREAM ++ COLON = ⟨#[115, 116, 114, 101, 97, 109, 58]⟩ := rfl
  have e2 : CONN ++ COLON = ⟨#[99, 111, 110, 110, 101, 99, 116, 105, 111, 110, 58]⟩ := rfl
  by_cases h1 : p = 1
  · rw [if_pos h1, if_pos h1, e1]
  · rw [if_neg h1, if_neg h1, e2]
theorem right_of {p q : Int} (hp : p = 1 ∨ p = 2) (h0 : 0 ≤ q) (h1 : q ≤ 4294967295) : rP (p, q) = true := by
  unfold rP rightB
  simp only [Bool.and_eq_true, Bool.or_eq_true, decide_eq_true_eq, beq_iff_eq]
  omega
theorem cat_inj {c : UInt8} : ∀ {a a' b b' : List UInt8}, c ∉ a → c ∉ a' → a ++ c :: b = a' ++ c :: b' → a = a' ∧ b = b'
  | [], [], _, _, _, _, h => ⟨rfl, by simpa using h⟩
  | [], x :: a', b, b', _, h2, h => by
    simp only [List.nil_append, List.cons_append, List.cons.injEq] at h
    exact absurd (by rw [h.1]; simp) h2
  | x :: a, [], b, b', h1, _, h => by
    simp only [List.nil_append, List.cons_append, List.cons.injEq] at h
    exact absurd (by rw [← h.1]; simp) h1
  | x :: a, y :: a', b, b', h1, h2, h => by
    simp only [List.cons_append, List.cons.injEq] at h
    have := cat_inj (c := c) (fun k => h1 (by simp [k])) (fun k => h2 (by simp [k])) h.2
    exact ⟨by rw [h.1, this.1], this.2⟩
theorem data_eq2 {a b : ByteArray} (h : a.data.toList = b.data.toList) : a = b := by rw [← data_back a, h, data_back b]
theorem cut_inj {a a' b b' : ByteArray} (h1 : (58 : UInt8) ∉ a.data.toList) (h2 : (58 : UInt8) ∉ a'.data.toList) (h : a ++ COLON ++ b = a' ++ COLON ++ b') : a = a' ∧ b = b' := by
  have h3 := congrArg (fun x : ByteArray => x.data.toList) h
  simp only [ByteArray.data_append, Array.toList_append] at h3
  have e : COLON.data.toList = [58] := rfl
  rw [e, List.append_assoc, List.append_assoc] at h3
  obtain ⟨k1, k2⟩ := cat_inj h1 h2 h3
  exact ⟨data_eq2 k1, data_eq2 k2⟩
/-- What a text reads as: a right fault whose text it is, or none. -/
def FtR (s : ByteArray) (x y : Int) (ok : Bool) : Prop :=
  (ok = true ∧ rP (x, y) = true ∧ s = fltT (x, y)) ∨ (ok = false ∧ x = 0 ∧ y = 0 ∧ ∀ p q, rP (p, q) = true → s ≠ fltT (p, q))
theorem fltT_inj {p q x y : Int} (h : rP (p, q) = true) (k : rP (x, y) = true) (e : fltT (p, q) = fltT (x, y)) : p = x ∧ q = y := by
  obtain ⟨h1, h2, h3, h4⟩ := flt_parts h
  obtain ⟨k1, k2, k3, k4⟩ := flt_parts k
  rw [h1, k1] at e
  obtain ⟨e1, e2⟩ := cut_inj (scN_no p) (scN_no x) e
  refine ⟨scN_inj h2 k2 e1, ?_⟩
  have a := cd_own h3 h4
  have b := cd_own k3 k4
  rw [e2] at a
  exact (a.same b).1
theorem FtR.same {s : ByteArray} {x y p q : Int} {a b : Bool} (h : FtR s x y a) (k : FtR s p q b) : x = p ∧ y = q ∧ a = b := by
  rcases h with ⟨rfl, h1, h2⟩ | ⟨rfl, rfl, rfl, h1⟩ <;> rcases k with ⟨rfl, k1, k2⟩ | ⟨rfl, rfl, rfl, k1⟩
  · have := fltT_inj h1 k1 (h2.symm.trans k2)
    exact ⟨this.1, this.2, rfl⟩
  · exact absurd h2 (k1 _ _ h1)
  · exact absurd k2 (h1 _ _ k1)
  · exact ⟨rfl, rfl, rfl⟩
theorem ft_own {p q : Int} (h : rP (p, q) = true) : FtR (fltT (p, q)) p q true := .inl ⟨rfl, h, rfl⟩
/-- A text cut at its first colon, or one that has none. -/
def CutR (s a b : ByteArray) (ok : Bool) : Prop :=
  (ok = true ∧ s = a ++ COLON ++ b ∧ (58 : UInt8) ∉ a.data.toList) ∨ (ok = false ∧ a = s ∧ b = ⟨#[]⟩ ∧ (58 : UInt8) ∉ s.data.toList)
theorem ft_yes {s a b : ByteArray} {p x : Int} (hs : s = a ++ COLON ++ b) (hp : p = 1 ∨ p = 2) (ha : a = scN p) (hc : CdR b x true) : FtR s p x true := by
  rcases hc with ⟨_, h1, h2, h3, _⟩ | ⟨h, _⟩
  · have hr := right_of hp h1 h2
    exact .inl ⟨rfl, hr, by rw [(flt_parts hr).1, hs, ha, h3]⟩
  · cases h
theorem ft_no_code {s a b : ByteArray} {x : Int} (hs : s = a ++ COLON ++ b) (ha : (58 : UInt8) ∉ a.data.toList) (hc : CdR b x false) : FtR s 0 0 false := by
  refine .inr ⟨rfl, rfl, rfl, fun p q hr e => ?_⟩
  obtain ⟨h1, h2, h3, h4⟩ := flt_parts hr
  rw [h1, hs] at e
  obtain ⟨_, e2⟩ := cut_inj ha (scN_no p) e
  rcases hc with ⟨h, _⟩ | ⟨_, _, k⟩
  · cases h
  · exact k q h3 h4 e2.symm
theorem ft_no_scope {s a b : ByteArray} (hs : s = a ++ COLON ++ b) (ha : (58 : UInt8) ∉ a.data.toList) (h1 : a ≠ STREAM) (h2 : a ≠ CONN) : FtR s 0 0 false := by
  refine .inr ⟨rfl, rfl, rfl, fun p q hr e => ?_⟩
  obtain ⟨k1, k2, _, _⟩ := flt_parts hr
  rw [k1, hs] at e
  obtain ⟨e1, _⟩ := cut_inj ha (scN_no p) e
  unfold scN at e1
  split at e1
  · exact h1 e1
  · exact h2 e1
theorem ft_no_colon {s : ByteArray} (h : (58 : UInt8) ∉ s.data.toList) : FtR s 0 0 false := by
  refine .inr ⟨rfl, rfl, rfl, fun p q hr e => ?_⟩
  obtain ⟨k1, _, _, _⟩ := flt_parts hr
  apply h
  rw [e, k1]
  simp only [ByteArray.data_append, Array.toList_append, List.mem_append]
  exact .inl (.inr (by decide))
theorem no_bt {s : ByteArray} (h : ∀ k, k < s.size → bt s k ≠ 58) : (58 : UInt8) ∉ s.data.toList := fun hm => by
  obtain ⟨k, hk, e⟩ := List.mem_iff_getElem.1 hm
  refine h k (by rw [Lib.size_eq]; exact hk) ?_
  rw [bt_data s hk, e]
  rfl
theorem cut_at {s : ByteArray} {i : Nat} (hi : i < s.size) (h : bt s i = 58) : s = s.extract 0 i ++ COLON ++ s.extract (i + 1) s.size := by
  apply data_eq2
  rw [Lib.size_eq] at hi
  have hb := bt_data s hi
  rw [h] at hb
  have e : s.data.toList[i] = 58 := UInt8.toNat_inj.1 (by have : ((58 : UInt8).toNat : Int) = 58 := rfl; omega)
  rw [cat_data, cat_data]
  have e1 : (s.extract 0 i).data.toList = s.data.toList.take i := by rw [ByteArray.data_extract]; simp
  have e2 : (s.extract (i + 1) s.size).data.toList = s.data.toList.drop (i + 1) := by
    rw [ByteArray.data_extract, Array.toList_extract, List.extract_eq_take_drop]
    exact List.take_of_length_le (by rw [List.length_drop, Lib.size_eq]; exact Nat.le_refl _)
  have e3 : COLON.data.toList = [s.data.toList[i]] := by rw [e]; rfl
  rw [e1, e2, e3, List.append_assoc, List.singleton_append, ← List.drop_eq_getElem_cons hi, List.take_append_drop]
theorem no_before {s : ByteArray} {i : Nat} (hi : i ≤ s.size) (h : ∀ k, k < i → bt s k ≠ 58) : (58 : UInt8) ∉ (s.extract 0 i).data.toList := fun hm => by
  have e1 : (s.extract 0 i).data.toList = s.data.toList.take i := by rw [ByteArray.data_extract]; simp
  rw [e1] at hm
  obtain ⟨k, hk, e⟩ := List.mem_iff_getElem.1 hm
  rw [List.length_take] at hk
  rw [List.getElem_take] at e
  refine h k (by omega) ?_
  rw [bt_data s (by omega), e]
  rfl
end

section
open Go.RowKit Go.PlainAid

theorem ix_miss {s : ByteArray} (h : Lib.indexByte s.data.toList 58 = -1) : (58 : UInt8) ∉ s.data.toList := fun hm => by
  obtain ⟨k, hk, e⟩ := List.mem_iff_getElem.1 hm
  exact Lib.indexByte_none h k (by rw [List.getElem?_eq_getElem hk, e])
theorem ix_hit {s : ByteArray} {i : Nat} (h : Lib.indexByte s.data.toList 58 = (i : Int)) : i < s.size ∧ bt s i = 58 ∧ ∀ k, k < i → bt s k ≠ 58 := by
  obtain ⟨h1, h2⟩ := Lib.indexByte_some h
  obtain ⟨hi, e⟩ := List.getElem?_eq_some_iff.1 h1
  refine ⟨by rw [Lib.size_eq]; exact hi, ?_, fun k hk e2 => ?_⟩
  · rw [bt_data s hi, e]
    rfl
  · rw [bt_data s (by omega)] at e2
    refine h2 k hk ?_
    rw [List.getElem?_eq_getElem (by omega)]
    congr 1
    exact UInt8.toNat_inj.1 (by have : ((58 : UInt8).toNat : Int) = 58 := rfl; omega)
def CutE (s : ByteArray) (w : World) (e : Ending) (w' : World) : Prop := ∃ (a b : ByteArray) (ok : Bool), e = .returned (.tuple #[.string a, .string b, .bool ok]) ∧ CutR s a b ok ∧ a.size ≤ s.size ∧ b.size ≤ s.size ∧ Drawn w w'
set_option maxRecDepth 20000 in
set_option maxHeartbeats 1600000 in
theorem slcut58 (s : ByteArray) (w : World) (hs : s.size ≤ 1000000) : Calls Tryd.prog 72 #[.string s, .string ⟨#[58]⟩] w (CutE s w) := by
  have HI := hide (fun W => Tryd.stringslite_Index_one s 58 W)
  by_cases hi : Lib.indexByte s.data.toList 58 = -1
  · rw [hi] at HI
    have HN := hide (ix_miss hi)
    clear hi
    go_enter Tryd.func72, Tryd.ntmps72
    go_wp2_with fail
    refine (HI.out _).mono ?_
    rintro e w1 ⟨rfl, rfl⟩
    go_wp2_with fail
    go_ret3
    exact ⟨s, ⟨#[]⟩, false, rfl, .inr ⟨rfl, rfl, rfl, HN.out⟩, Nat.le_refl _, Nat.zero_le _, Drawn.refl _⟩
  · obtain ⟨i, hi2⟩ : ∃ i : Nat, Lib.indexByte s.data.toList 58 = (i : Int) := ⟨(Lib.indexByte s.data.toList 58).toNat, by have := Lib.indexByte_ge s.data.toList 58; omega⟩
    rw [hi2] at HI
    obtain ⟨h1, h2, h3⟩ := ix_hit hi2
    have HC := hide (cut_at h1 h2)
    have HB := hide (no_before (Nat.le_of_lt h1) h3)
    clear hi hi2 h2 h3
    have d0 : decide ((0 : Int) ≤ (i : Int)) = true := decide_eq_true (by omega)
    have d1 : (0 : Int) ≤ (i : Int) := by omega
    have d2 : (i : Int) ≤ (s.size : Int) := by omega
    have d3 : IntKind.i64.wrap ((i : Int) + 1) = (i : Int) + 1 := IntWalk.i64_in _ (by omega)
    have d4 : (0 : Int) ≤ (i : Int) + 1 := by omega
    have d5 : (i : Int) + 1 ≤ (s.size : Int) := by omega
    go_enter Tryd.func72, Tryd.ntmps72
    go_wp2_with fail
    refine (HI.out _).mono ?_
    rintro e w1 ⟨rfl, rfl⟩
    go_wp2_with fail
    go_quiet (fail)
    go_wp2
    go_ret3
    exact ⟨_, _, true, rfl, .inl ⟨rfl, HC.out, HB.out⟩, by simp [ByteArray.size_extract]; omega, by simp [ByteArray.size_extract], ⟨_, rfl⟩⟩
end

section
open Go.RowKit Go.PlainAid

theorem kcut58 (s : ByteArray) (w : World) (hs : s.size ≤ 1000000) : Calls Tryd.prog 51 #[.string s, .string ⟨#[58]⟩] w (CutE s w) := by
  have H1 := hide (slcut58 s w hs)
  go_enter Tryd.func51, Tryd.ntmps51
  go_wp2_with fail
  refine H1.out.mono ?_
  rintro e w1 ⟨a, b, ok, rfl, hR, h1, h2, hd⟩
  have HR := hide hR
  have HD := hide hd
  clear hR hd
  go_wp2_with fail
  go_ret3
  exact ⟨a, b, ok, rfl, HR.out, h1, h2, HD.out⟩
def ScR (a : ByteArray) (p : Int) (is : Bool) : Prop := (is = true ∧ (p = 1 ∨ p = 2) ∧ a = scN p) ∨ (is = false ∧ a ≠ STREAM ∧ a ≠ CONN)
theorem kscope09 (a : ByteArray) (w : World) : Calls Tryd.prog 52 #[.string a] w fun e w' => ∃ (p : Int) (is : Bool), e = .returned (.tuple #[.int .i64 p, .bool is]) ∧ ScR a p is ∧ w = w' := by
  by_cases h1 : a = STREAM
  · obtain ⟨t1, t2⟩ := lit_yes (l := [115, 116, 114, 101, 97, 109]) h1
    have H := hide h1
    clear h1
    go_enter Tryd.func52, Tryd.ntmps52
    go_wp2
    go_ret2
    exact ⟨1, true, rfl, .inl ⟨rfl, .inl rfl, H.out⟩, rfl⟩
  · obtain ⟨t1, t2⟩ := lit_no (l := [115, 116, 114, 101, 97, 109]) h1
    have H := hide h1
    clear h1
    by_cases h2 : a = CONN
    · obtain ⟨u1, u2⟩ := lit_yes (l := [99, 111, 110, 110, 101, 99, 116, 105, 111, 110]) h2
      have H2 := hide h2
      clear h2
      go_enter Tryd.func52, Tryd.ntmps52
      go_wp2
      go_ret2
      exact ⟨2, true, rfl, .inl ⟨rfl, .inr rfl, H2.out⟩, rfl⟩
    · obtain ⟨u1, u2⟩ := lit_no (l := [99, 111, 110, 110, 101, 99, 116, 105, 111, 110]) h2
      have H2 := hide h2
      clear h2
      go_enter Tryd.func52, Tryd.ntmps52
      go_wp2
      go_ret2
      exact ⟨0, false, rfl, .inr ⟨rfl, H.out, H2.out⟩, rfl⟩
theorem cd_empty {x : Int} (h : CdR ⟨#[]⟩ x true) : False := by
  rcases h with ⟨_, h1, h2, h3, _⟩ | ⟨h, _⟩
  · exact codeT_pos h1 h2 h3
  · cases h
theorem read_yes {s a b : ByteArray} {ok : Bool} {p x : Int} (hc : CutR s a b ok) (hs : ScR a p true) (hx : CdR b x true) : FtR s p x true := by
  rcases hs with ⟨_, hp, ha⟩ | ⟨h, _⟩
  · rcases hc with ⟨_, h1, h2⟩ | ⟨_, _, h2, _⟩
    · exact ft_yes h1 hp ha hx
    · rw [h2] at hx
      exact absurd hx (fun h => cd_empty h)
  · cases h
theorem read_no1 {s a b : ByteArray} {ok : Bool} {p : Int} (hc : CutR s a b ok) (hs : ScR a p false) : FtR s 0 0 false := by
  rcases hs with ⟨h, _⟩ | ⟨_, h1, h2⟩
  · cases h
  · rcases hc with ⟨_, k1, k2⟩ | ⟨_, _, _, k3⟩
    · exact ft_no_scope k1 k2 h1 h2
    · exact ft_no_colon k3
theorem read_no2 {s a b : ByteArray} {ok : Bool} {x : Int} (hc : CutR s a b ok) (hx : CdR b x false) : FtR s 0 0 false := by
  rcases hc with ⟨_, k1, k2⟩ | ⟨_, _, _, k3⟩
  · exact ft_no_code k1 k2 hx
  · exact ft_no_colon k3
def FtE (s : ByteArray) (w : World) (e : Ending) (w' : World) : Prop := ∃ (x y : Int) (ok : Bool), e = .returned (.tuple #[.agg #[.int .i64 x, .int .i64 y], .bool ok]) ∧ FtR s x y ok ∧ Below w.heap.size w w'
theorem store2q {w : World} {p : Nat} {T : TypeId} {a0 a1 : Value} (h : w.heap[p]? = some (.cells #[a0, a1] T (0, 0))) (b0 b1 : Value) :
    (w.cell? ⟨p, 0, none⟩ = some a0 ∧ w.frozen? ⟨p, 0, none⟩ = false) ∧
    ((w.setCell ⟨p, 0, none⟩ b0).cell? ⟨p, 1, none⟩ = some a1 ∧ (w.setCell ⟨p, 0, none⟩ b0).frozen? ⟨p, 1, none⟩ = false) ∧
    ((w.setCell ⟨p, 0, none⟩ b0).setCell ⟨p, 1, none⟩ b1).heap[p]? = some (.cells #[b0, b1] T (0, 0)) := by
  have h1 := setRow w p 0 b0 h
  have h2 := setRow _ p 1 b1 h1
  simp only [List.setIfInBounds_toArray, List.set_cons_zero, List.set_cons_succ] at h1 h2
  exact ⟨⟨(row2 h).1, frozenRow h 0⟩, ⟨(row2 h1).2, frozenRow h1 1⟩, h2⟩
theorem below2q {B : Nat} {w w' : World} {p : Nat} (h : Below B w w') (hp : B ≤ p) (b0 b1 : Value) : Below B w ((w'.setCell ⟨p, 0, none⟩ b0).setCell ⟨p, 1, none⟩ b1) := (h.setCell hp _).setCell hp _
set_option maxRecDepth 20000 in
set_option maxHeartbeats 3200000 in
theorem kread09 (s : ByteArray) (w : World) (hs : s.size ≤ 1000000) (hN : CdW w) : Calls Tryd.prog 28 #[.string s] w (FtE s w) := by
  have R0 := hide (heap_alloc_new w (.cells #[.int .i64 0, .int .i64 0] 31))
  have B0 : Hid (Below w.heap.size w (w.alloc (.cells #[.int .i64 0, .int .i64 0] 31))) := (Below.refl _ _).alloc (Nat.le_refl _) _
  have HN := hide (hN.below B0.out)
  clear hN
  go_enter Tryd.func28, Tryd.ntmps28
  go_wp2_with fail
  generalize w.alloc (.cells #[.int .i64 0, .int .i64 0] 31) = W0 at *
  refine (kcut58 s _ hs).mono ?_
  rintro e w1 ⟨a, b, ok, rfl, hR, h1, h2, hd⟩
  have HC := hide hR
  have HB1 := hide (B0.out.trans (drawn_below hd _))
  have R1 := hide (keepRow R0.out (drawn_below hd _))
  have HN1 := hide (HN.out.below (drawn_below hd _))
  clear hR hd
  go_wp2_with fail
  refine (kscope09 a _).mono ?_
  rintro e w2 ⟨p, isS, rfl, hS, rfl⟩
  have HS := hide hS
  clear hS
  go_wp2_with fail
  refine (kcode09 b _ (by omega) HN1.out).mono ?_
  rintro e w3 ⟨x, is, rfl, hx, hb3⟩
  have HX := hide hx
  have HB3 := hide (HB1.out.of hb3)
  have R3 := keepRow R1.out hb3
  clear hx hb3 R1 R0
  cases isS
  · have HF := hide (read_no1 HC.out HS.out)
    clear HC HS HX
    obtain ⟨⟨s0, s1⟩, ⟨s2, s3⟩, hrow⟩ := store2q R3 (.int .i64 0) (.int .i64 0)
    have HROW := hide hrow
    have HBE := hide (below2q HB3.out (p := w.heap.size) (Nat.le_refl _) (.int .i64 0) (.int .i64 0))
    clear hrow
    go_wp2_with fail
    obtain ⟨d0, d1⟩ := row2 HROW.out
    refine bodyPost_ret (v := .tuple #[.agg #[.int .i64 0, .int .i64 0], .bool false]) ?_ rfl ⟨0, 0, false, rfl, HF.out, HBE.out⟩
    rw [results_cell_tmp rfl]
    go_simp
  · cases is
    · have HF := hide (read_no2 HC.out HX.out)
      clear HC HS HX
      obtain ⟨⟨s0, s1⟩, ⟨s2, s3⟩, hrow⟩ := store2q R3 (.int .i64 0) (.int .i64 0)
      have HROW := hide hrow
      have HBE := hide (below2q HB3.out (p := w.heap.size) (Nat.le_refl _) (.int .i64 0) (.int .i64 0))
      clear hrow
      go_wp2_with fail
      obtain ⟨d0, d1⟩ := row2 HROW.out
      refine bodyPost_ret (v := .tuple #[.agg #[.int .i64 0, .int .i64 0], .bool false]) ?_ rfl ⟨0, 0, false, rfl, HF.out, HBE.out⟩
      rw [results_cell_tmp rfl]
      go_simp
    · have HF := hide (read_yes HC.out HS.out HX.out)
      clear HC HS HX
      obtain ⟨⟨s0, s1⟩, ⟨s2, s3⟩, hrow⟩ := store2q R3 (.int .i64 p) (.int .i64 x)
      have HROW := hide hrow
      have HBE := hide (below2q HB3.out (p := w.heap.size) (Nat.le_refl _) (.int .i64 p) (.int .i64 x))
      clear hrow
      go_wp2_with fail
      obtain ⟨d0, d1⟩ := row2 HROW.out
      refine bodyPost_ret (v := .tuple #[.agg #[.int .i64 p, .int .i64 x], .bool true]) ?_ rfl ⟨p, x, true, rfl, HF.out, HBE.out⟩
      rw [results_cell_tmp rfl]
      go_simp
end

section
open Go.RowKit Go.PlainAid

theorem ft_text {s : ByteArray} {p x : Int} (h : FtR s p x true) : fltT (p, x) = s := by
  rcases h with ⟨_, _, h⟩ | ⟨h, _⟩
  · exact h.symm
  · cases h
theorem ft_other {s a b : ByteArray} {x : Int} (hs : s = a ++ COLON ++ b) (ha : (58 : UInt8) ∉ a.data.toList) (hc : CdR b x true) (h : a ≠ STREAM) : fltT (1, x) ≠ s := fun e => by
  rcases hc with ⟨_, h1, h2, _, _⟩ | ⟨k, _⟩
  · have hr := right_of (p := 1) (.inl rfl) h1 h2
    rw [(flt_parts hr).1, hs] at e
    exact h (cut_inj (scN_no 1) ha e).1.symm
  · cases k
set_option maxRecDepth 20000 in
set_option maxHeartbeats 6400000 in
theorem rread09 (s : ByteArray) (w : World) (hs : s.size ≤ 1000000) : Calls Tryd.prog 30 #[.string s] w (FtE s w) := by
  have R0 := hide (heap_alloc_new w (.cells #[.int .i64 0, .int .i64 0] 31))
  have B0 : Hid (Below w.heap.size w (w.alloc (.cells #[.int .i64 0, .int .i64 0] 31))) := (Below.refl _ _).alloc (Nat.le_refl _) _
  go_enter Tryd.func30, Tryd.ntmps30
  go_wp2_with fail
  generalize w.alloc (.cells #[.int .i64 0, .int .i64 0] 31) = W0 at *
  go_loopw [4] (fun i wr => ∃ j : Nat, j ≤ s.size ∧ i = .int .i64 j ∧ (∀ k, k < j → bt s k ≠ 58) ∧ wr = W0) (fun i _ => s.size - (intOf i).toNat)
  case atStart => exact ⟨0, Nat.zero_le _, rfl, fun k hk => absurd hk (by omega), rfl⟩
  case round =>
    obtain ⟨j, hj, rfl, hno, rfl⟩ := hrel
    have HNO := hide hno
    clear hno
    by_cases hlt : j < s.size
    · have e1 : decide ((j : Int) < (s.size : Int)) = true := decide_eq_true (by omega)
      have e2 : decide (j < s.size) = true := decide_eq_true hlt
      have hb := get_bt s j hlt
      obtain ⟨c, hc⟩ : ∃ c, bt s j = c := ⟨_, rfl⟩
      rw [hc] at hb
      have HC := hide hc
      clear hc
      by_cases h58 : c = 58
      · subst h58
        have HCUT := hide (cut_at hlt HC.out)
        have HNA := hide (no_before hj HNO.out)
        have hbs : (s.extract (j + 1) s.size).size ≤ 9223372036854775807 := by rw [ByteArray.size_extract]; omega
        have d3 : IntKind.i64.wrap ((j : Int) + 1) = (j : Int) + 1 := IntWalk.i64_in _ (by omega)
        have d4 : (0 : Int) ≤ (j : Int) + 1 := by omega
        have d5 : (j : Int) + 1 ≤ (s.size : Int) := by omega
        have d6 : (0 : Int) ≤ (j : Int) := by omega
        have d7 : (j : Int) ≤ (s.size : Int) := by omega
        have q0 : ((58 : Int) != 58) = false := by decide
        obtain ⟨b, hbx⟩ : ∃ b, s.extract (j + 1) s.size = b := ⟨_, rfl⟩
        obtain ⟨a, hax⟩ : ∃ a, s.extract 0 j = a := ⟨_, rfl⟩
        rw [hbx] at HCUT hbs
        rw [hax] at HCUT HNA
        have HBX := hide hbx
        have HAX := hide hax
        clear hbx hax HC
        go_wp2_with fail
        rw [HBX.out]
        refine (rcode09 b _ hbs).mono ?_
        rintro e w3 ⟨x, is, rfl, hx, hb3⟩
        have HX := hide hx
        have HB3 := hide (B0.out.of hb3)
        have R3 := hide (keepRow R0.out hb3)
        have hs3 := HB3.out.size
        have hq3 := rowLt R3.out
        clear hx hb3
        have F3 := heap_alloc_new w3 (.cells #[.int .i64 1, .int .i64 x] 31)
        have B3 : Below w3.heap.size w3 (w3.alloc (.cells #[.int .i64 1, .int .i64 x] 31)) := (Below.refl _ _).alloc (Nat.le_refl _) _
        have R4 := hide (keepRow R3.out B3)
        have HB4 := hide (HB3.out.trans (B3.mono hs3))
        by_cases h2 : a = CONN
        · obtain ⟨u1, u2⟩ := lit_yes (l := [99, 111, 110, 110, 101, 99, 116, 105, 111, 110]) h2
          have H2 := hide h2
          rw [← HAX.out] at u1 u2
          have F4 := heap_alloc_new w3 (.cells #[.int .i64 2, .int .i64 x] 31)
          have B5 : Below w3.heap.size w3 (w3.alloc (.cells #[.int .i64 2, .int .i64 x] 31)) := (Below.refl _ _).alloc (Nat.le_refl _) _
          have R5 := hide (keepRow R3.out B5)
          have HB5 := hide (HB3.out.trans (B5.mono hs3))
          obtain ⟨f0, f1⟩ := row2 F4
          have HF4 := hide F4
          clear h2 F4
          cases is
          · have HF := hide (ft_no_code HCUT.out HNA.out HX.out)
            clear HX HCUT HNA
            go_upto_region 11 with (fail)
            generalize w3.alloc (.cells #[.int .i64 2, .int .i64 x] 31) = W5 at *
            obtain ⟨⟨s0, s1⟩, ⟨s2, s3⟩, hrow⟩ := store2q R5.out (.int .i64 0) (.int .i64 0)
            have HROW := hide hrow
            have HBE := hide (below2q HB5.out (p := w.heap.size) (Nat.le_refl _) (.int .i64 0) (.int .i64 0))
            clear hrow
            go_wp2_with fail
            obtain ⟨d0, d1⟩ := row2 HROW.out
            refine bodyPost_ret (v := .tuple #[.agg #[.int .i64 0, .int .i64 0], .bool false]) ?_ rfl ⟨0, 0, false, rfl, HF.out, HBE.out⟩
            rw [results_cell_tmp rfl]
            go_simp
          · have HF := hide (ft_yes (p := 2) HCUT.out (.inr rfl) (H2.out.trans rfl) HX.out)
            have HT := hide (ft_text HF.out)
            have HK : Hid (∀ W, Calls Tryd.prog 29 #[.agg #[.int .i64 2, .int .i64 x]] W fun e w' => e = .returned (.string s) ∧ Below W.heap.size W w') := fun W => by
              rw [← HT.out]
              exact rtext09 2 x W
            have qs : (s.toList == s.toList) = true := beq_self_eq_true _
            clear HX HCUT HNA HT
            go_wp2_with fail
            refine (HK.out _).mono ?_
            rintro e w5 ⟨rfl, hb5⟩
            have HB6 := hide ((HB5.out).of hb5)
            have R6 := keepRow R5.out hb5
            have F6 := keepRow HF4.out hb5
            obtain ⟨g0, g1⟩ := row2 F6
            clear hb5 F6
            obtain ⟨⟨s0, s1⟩, ⟨s2, s3⟩, hrow⟩ := store2q R6 (.int .i64 2) (.int .i64 x)
            have HROW := hide hrow
            have HBE := hide (below2q HB6.out (p := w.heap.size) (Nat.le_refl _) (.int .i64 2) (.int .i64 x))
            clear hrow
            go_wp2_with fail
            obtain ⟨d0, d1⟩ := row2 HROW.out
            refine bodyPost_ret (v := .tuple #[.agg #[.int .i64 2, .int .i64 x], .bool true]) ?_ rfl ⟨2, x, true, rfl, HF.out, HBE.out⟩
            rw [results_cell_tmp rfl]
            go_simp
        · obtain ⟨u1, u2⟩ := lit_no (l := [99, 111, 110, 110, 101, 99, 116, 105, 111, 110]) h2
          have H2 := hide h2
          rw [← HAX.out] at u1 u2
          have HF3 := hide F3
          obtain ⟨f0, f1⟩ := row2 F3
          clear h2 F3
          cases is
          · have HF := hide (ft_no_code HCUT.out HNA.out HX.out)
            clear HX HCUT HNA
            go_upto_region 11 with (fail)
            generalize w3.alloc (.cells #[.int .i64 1, .int .i64 x] 31) = W5 at *
            obtain ⟨⟨s0, s1⟩, ⟨s2, s3⟩, hrow⟩ := store2q R4.out (.int .i64 0) (.int .i64 0)
            have HROW := hide hrow
            have HBE := hide (below2q HB4.out (p := w.heap.size) (Nat.le_refl _) (.int .i64 0) (.int .i64 0))
            clear hrow
            go_wp2_with fail
            obtain ⟨d0, d1⟩ := row2 HROW.out
            refine bodyPost_ret (v := .tuple #[.agg #[.int .i64 0, .int .i64 0], .bool false]) ?_ rfl ⟨0, 0, false, rfl, HF.out, HBE.out⟩
            rw [results_cell_tmp rfl]
            go_simp
          · by_cases h1 : a = STREAM
            · have HF := hide (ft_yes (p := 1) HCUT.out (.inl rfl) (h1.trans rfl) HX.out)
              have HT := hide (ft_text HF.out)
              have HK : Hid (∀ W, Calls Tryd.prog 29 #[.agg #[.int .i64 1, .int .i64 x]] W fun e w' => e = .returned (.string s) ∧ Below W.heap.size W w') := fun W => by
                rw [← HT.out]
                exact rtext09 1 x W
              have qs : (s.toList == s.toList) = true := beq_self_eq_true _
              clear HX HCUT HNA HT h1
              go_wp2_with fail
              refine (HK.out _).mono ?_
              rintro e w5 ⟨rfl, hb5⟩
              have HB6 := hide ((HB4.out).of hb5)
              have R6 := keepRow R4.out hb5
              have F6 := keepRow HF3.out hb5
              obtain ⟨g0, g1⟩ := row2 F6
              clear hb5 F6
              obtain ⟨⟨s0, s1⟩, ⟨s2, s3⟩, hrow⟩ := store2q R6 (.int .i64 1) (.int .i64 x)
              have HROW := hide hrow
              have HBE := hide (below2q HB6.out (p := w.heap.size) (Nat.le_refl _) (.int .i64 1) (.int .i64 x))
              clear hrow
              go_wp2_with fail
              obtain ⟨d0, d1⟩ := row2 HROW.out
              refine bodyPost_ret (v := .tuple #[.agg #[.int .i64 1, .int .i64 x], .bool true]) ?_ rfl ⟨1, x, true, rfl, HF.out, HBE.out⟩
              rw [results_cell_tmp rfl]
              go_simp
            · have HF := hide (ft_no_scope HCUT.out HNA.out h1 H2.out)
              have hne := ft_other HCUT.out HNA.out HX.out h1
              obtain ⟨y, hy⟩ : ∃ y, fltT (1, x) = y := ⟨_, rfl⟩
              have HT := hide hy
              rw [hy] at hne
              have qs := str_neq hne
              have HK : Hid (∀ W, Calls Tryd.prog 29 #[.agg #[.int .i64 1, .int .i64 x]] W fun e w' => e = .returned (.string y) ∧ Below W.heap.size W w') := fun W => by
                rw [← HT.out]
                exact rtext09 1 x W
              clear HX HCUT HNA HT h1 hy hne
              go_wp2_with fail
              refine (HK.out _).mono ?_
              rintro e w5 ⟨rfl, hb5⟩
              have HB6 := hide ((HB4.out).of hb5)
              have R6 := keepRow R4.out hb5
              have F6 := keepRow HF3.out hb5
              obtain ⟨g0, g1⟩ := row2 F6
              clear hb5 F6
              obtain ⟨⟨s0, s1⟩, ⟨s2, s3⟩, hrow⟩ := store2q R6 (.int .i64 0) (.int .i64 0)
              have HROW := hide hrow
              have HBE := hide (below2q HB6.out (p := w.heap.size) (Nat.le_refl _) (.int .i64 0) (.int .i64 0))
              clear hrow
              go_wp2_with fail
              obtain ⟨d0, d1⟩ := row2 HROW.out
              refine bodyPost_ret (v := .tuple #[.agg #[.int .i64 0, .int .i64 0], .bool false]) ?_ rfl ⟨0, 0, false, rfl, HF.out, HBE.out⟩
              rw [results_cell_tmp rfl]
              go_simp
      · have q1 : (c != 58) = true := by simpa using h58
        have HNX : Hid (∀ k, k < j + 1 → bt s k ≠ 58) := fun k hk => by
          by_cases e : k < j
          · exact HNO.out k e
          · obtain rfl : k = j := by omega
            rw [HC.out]
            exact h58
        clear HC h58
        go_wp2_with fail
        exact ⟨⟨j + 1, by omega, by go_num, HNX.out, by first | rfl | trivial⟩, by simp [intOf]; omega⟩
    · obtain rfl : j = s.size := by omega
      have e1 : decide ((s.size : Int) < (s.size : Int)) = false := decide_eq_false (by omega)
      have e2 : decide (s.size < s.size) = false := decide_eq_false hlt
      have HF := hide (ft_no_colon (no_bt HNO.out))
      have R3 := R0.out
      obtain ⟨⟨s0, s1⟩, ⟨s2, s3⟩, hrow⟩ := store2q R3 (.int .i64 0) (.int .i64 0)
      have HROW := hide hrow
      have HBE := hide (below2q B0.out (p := w.heap.size) (Nat.le_refl _) (.int .i64 0) (.int .i64 0))
      clear hrow
      go_wp2_with fail
      obtain ⟨d0, d1⟩ := row2 HROW.out
      refine bodyPost_ret (v := .tuple #[.agg #[.int .i64 0, .int .i64 0], .bool false]) ?_ rfl ⟨0, 0, false, rfl, HF.out, HBE.out⟩
      rw [results_cell_tmp rfl]
      go_simp
end

section
open Go.RowKit Go.PlainAid

set_option maxRecDepth 20000 in
set_option maxHeartbeats 3200000 in
theorem kshow09 (A : Option Addr) (n c : Nat) (f g : Nat → Int) (w : World) (h : Rd2 w A n c f g) (hn : n ≤ 100000) (hN : CdW w) (hP : PowW w) :
    Calls Tryd.prog 31 #[.slice A n c] w fun e w' => e = .returned (.string (shT (setL (lsF n f g)))) ∧ Below w.heap.size w w' := by
  obtain ⟨i0, hi, hz0, hz1, hz2⟩ := info_parts str_info
  have H1 := hide (ofG09 A n c f g w h hn)
  have HN := hide hN
  have HP := hide hP
  clear h hN hP
  go_enter Tryd.func31, Tryd.ntmps31
  go_wp2_with fail
  refine H1.out.mono ?_
  rintro e w1 ⟨A', m, c', f', g', rfl, hr1, hl1, _, hb1⟩
  have hm : m ≤ 100000 := by
    have h3 := setL_len (lsF n f g)
    rw [← hl1, lsF_len, lsF_len] at h3
    omega
  have HR := hide hr1
  have HQ := hide hl1
  have HB := hide hb1
  have hsz := hb1.size
  clear hr1 hl1 hb1
  go_wp2_with fail
  go_loopw [3, 9] (fun v i wr => ∃ k : Nat, k ≤ m ∧ i = .int .i64 k ∧ OwnV 1 9 w1.heap.size wr v k (fun i => .string (fltT (f' i, g' i))) ∧ Below w.heap.size w wr ∧ Below w1.heap.size w1 wr) (fun _ i _ => m - (intOf i).toNat)
  case atStart => exact ⟨0, Nat.zero_le _, rfl, OwnV.nil _ _ _ _ _, HB.out, Below.refl _ _⟩
  case round =>
    obtain ⟨k, hk, rfl, hown, hB2, hB3⟩ := hrel
    have HO := hide hown
    have HB2 := hide hB2
    have HB3 := hide hB3
    have hs2 := hB2.size
    have hs3 := hB3.size
    clear hown hB2 hB3
    by_cases hlt : k < m
    · obtain ⟨b, off, rfl, hc0, hc1⟩ := (HR.out.below HB3.out).at_ hlt
      have d1 : decide ((k : Int) < (m : Int)) = true := decide_eq_true (by omega)
      obtain ⟨x, hx⟩ : ∃ x, f' k = x := ⟨_, rfl⟩
      obtain ⟨y, hy⟩ : ∃ y, g' k = y := ⟨_, rfl⟩
      rw [hx] at hc0
      rw [hy] at hc1
      have HX := hide hx
      have HY := hide hy
      clear hx hy
      go_wp2_with fail
      have B0 := hide (HB2.out.alloc hs2 (.cells #[.int .i64 x, .int .i64 y] 31))
      have B1 := hide (HB3.out.alloc hs3 (.cells #[.int .i64 x, .int .i64 y] 31))
      have Ho0 := hide (HO.out.alloc (.cells #[.int .i64 x, .int .i64 y] 31))
      generalize wr.alloc (.cells #[.int .i64 x, .int .i64 y] 31) = W0 at *
      refine (text09 x y _ (HN.out.below B0.out) (HP.out.below B0.out)).mono ?_
      rintro e w2 ⟨rfl, hb2⟩
      obtain ⟨z, hz⟩ : ∃ z, fltT (x, y) = z := ⟨_, rfl⟩
      rw [hz]
      have HZ := hide hz
      have HB4 := hide (B0.out.of hb2)
      have HB5 := hide (B1.out.of hb2)
      have HO4 := hide (Ho0.out.below hb2)
      have hs4 := HB4.out.size
      have hs5 := HB5.out.size
      clear hb2 B0 B1 Ho0 HO HB2 HB3 hz
      go_wp2_with (at_builtin; refine wp_appV rfl (.tmp 13) (.tmp 16) _ rfl 1 i0 _ 16 Tryd.underlying26 hi hz0 hz1 hz2 rfl (by omega) w1.heap.size _ k _ rfl (HO4.out.alloc _) _ 1 1 _ rfl (litS9 _ z) (fun _ _ => rfl) (by simp only [maxLen]; omega) (by omega) (by simp; omega) ?_; intro v3 w3 hown3 hg3 _)
      have HB6 := hide ((HB4.out.alloc hs4 _).grown hg3 (by simp; omega) (fun j hj => Nat.le_trans hsz (ownB09 HO4.out j hj)))
      have HB7 := hide ((HB5.out.alloc hs5 _).grown hg3 (by simp; omega) (ownB09 HO4.out))
      have HO7 := hide (hown3.congr (G := fun i => .string (fltT (f' i, g' i))) (fun i hi => by
        unfold catV
        by_cases e : i < k * 1
        · rw [if_pos e]
        · rw [if_neg e]
          obtain rfl : i = k := by omega
          rw [HX.out, HY.out, HZ.out]))
      clear hown3 hg3
      go_wp2_with fail
      exact ⟨⟨k + 1, by omega, by simp, HO7.out, HB6.out, HB7.out⟩, by simp [intOf]; omega⟩
    · obtain rfl : k = m := by omega
      obtain ⟨A0, c0, rfl, hr0, ha0⟩ := HO.out.rd
      by_cases h0 : k = 0
      · subst h0
        go_wp2_with fail
        go_ret
        exact ⟨by rw [← HQ.out]; rfl, HB2.out⟩
      · obtain ⟨b, off, rfl, hc⟩ := hr0.2.2.2 (by omega)
        have hb := (ha0 _ rfl).2.1
        have d0 : ((k : Int) == 0) = false := by simp; omega
        have hj := hide (Tryd.strings_Join b off c0 ((lsF k f' g').map fltT) ⟨#[44]⟩ wr (fun j x hx => by
          have hj : j < k := by
            have := (List.getElem?_eq_some_iff.1 hx).1
            rwa [List.length_map, lsF_len] at this
          rw [List.getElem?_map, lsF_get _ _ _ _ hj] at hx
          cases hx
          exact hc j (by omega)) hb (by rw [List.length_map, lsF_len]; omega) (by rw [List.length_map, lsF_len]; exact hr0.1) (shT_len k f' g' hm))
        rw [List.length_map, lsF_len] at hj
        have hsh : Hid (shT (lsF k f' g') = jnS ⟨#[44]⟩ ((lsF k f' g').map fltT)) := by
          show _ = _
          unfold shT
          rw [if_neg (fun e => by have := congrArg List.length e; rw [lsF_len] at this; simp at this; omega)]
        have hj2 : Hid (Calls Tryd.prog 56 #[.slice (some ⟨b, off, none⟩) k c0, .string ⟨#[44]⟩] wr fun e w' => e = .returned (.string (jnS ⟨#[44]⟩ ((lsF k f' g').map fltT))) ∧ Below wr.heap.size wr w') := hj
        clear hj hc hr0 ha0 hb h0
        obtain ⟨y, hy⟩ : ∃ y, jnS ⟨#[44]⟩ ((lsF k f' g').map fltT) = y := ⟨_, rfl⟩
        rw [hy] at hj2 hsh
        clear hy
        go_wp2_with fail
        refine hj2.out.mono ?_
        rintro e w3 ⟨rfl, hb3⟩
        go_wp2_with fail
        go_ret
        exact ⟨by rw [← HQ.out, hsh.out]; rfl, HB2.out.of hb3⟩

theorem jn9_one (f g : Nat → Int) : jnS ⟨#[44]⟩ ((lsF 1 f g).map fltT) = fltT (f 0, g 0) := by
  show jnS _ [fltT (f 0, g 0)] = _
  rw [jnS_one]
theorem jn9_next {f g : Nat → Int} {k : Nat} (h : 0 < k) : jnS ⟨#[44]⟩ ((lsF (k + 1) f g).map fltT) = jnS ⟨#[44]⟩ ((lsF k f g).map fltT) ++ ⟨#[44]⟩ ++ fltT (f k, g k) := by
  rw [lsF_succ, List.map_append, List.map_cons, List.map_nil, jnS_snoc _ (fun e => by have := congrArg List.length e; rw [List.length_map, lsF_len] at this; simp at this; omega)]
theorem jn9_size (k : Nat) (f g : Nat → Int) (hk : k ≤ 100000) : (jnS ⟨#[44]⟩ ((lsF k f g).map fltT)).size ≤ 140737488355328 := by
  have := shT_len k f g hk
  rw [Lib.size_eq]
  exact this
theorem sh9_some {m : Nat} {f g : Nat → Int} (h : m ≠ 0) : shT (lsF m f g) = jnS ⟨#[44]⟩ ((lsF m f g).map fltT) := by
  unfold shT
  rw [if_neg (fun e => by have := congrArg List.length e; rw [lsF_len] at this; simp at this; omega)]
set_option maxRecDepth 20000 in
set_option maxHeartbeats 3200000 in
theorem rshow09 (A : Option Addr) (n c : Nat) (f g : Nat → Int) (w : World) (h : Rd2 w A n c f g) (hn : n ≤ 100000) :
    Calls Tryd.prog 34 #[.slice A n c] w fun e w' => e = .returned (.string (shT (setL (lsF n f g)))) ∧ Below w.heap.size w w' := by
  have H1 := hide (rof09 A n c f g w h hn)
  clear h
  go_enter Tryd.func34, Tryd.ntmps34
  go_wp2_with fail
  refine H1.out.mono ?_
  rintro e w1 ⟨A', m, c', f', g', rfl, hr1, hl1, _, hb1⟩
  have hm : m ≤ 100000 := by
    have h3 := setL_len (lsF n f g)
    rw [← hl1, lsF_len, lsF_len] at h3
    omega
  have HR := hide hr1
  have HQ := hide hl1
  have HB := hide hb1
  clear hr1 hl1 hb1
  by_cases h0 : m = 0
  · subst h0
    go_wp2_with fail
    go_ret
    exact ⟨by rw [← HQ.out]; rfl, HB.out⟩
  · obtain ⟨b, off, rfl, c0a, c1a⟩ := HR.out.at_ (i := 0) (by omega)
    have d0 : ((m : Int) == 0) = false := by simp; omega
    have d1 : decide ((0 : Int) < (m : Int)) = true := decide_eq_true (by omega)
    have d2 : decide (0 < m) = true := decide_eq_true (by omega)
    obtain ⟨x, hx⟩ : ∃ x, f' 0 = x := ⟨_, rfl⟩
    obtain ⟨y, hy⟩ : ∃ y, g' 0 = y := ⟨_, rfl⟩
    rw [hx] at c0a
    rw [hy] at c1a
    rw [Nat.zero_mul, Nat.add_zero] at c0a c1a
    have HY0 : Hid (jnS ⟨#[44]⟩ ((lsF 1 f' g').map fltT) = fltT (x, y)) := by
      unfold Hid
      rw [jn9_one, hx, hy]
    clear hx hy
    go_wp2_with fail
    refine (rtext09 x y _).mono ?_
    rintro e w2 ⟨rfl, hb2⟩
    obtain ⟨z0, hz0⟩ : ∃ z, fltT (x, y) = z := ⟨_, rfl⟩
    rw [hz0] at HY0 ⊢
    have HB2 := hide (HB.out.of hb2)
    have HB2' := hide hb2
    clear hb2 hz0 c0a c1a
    go_wp2_with fail
    go_loopw [4, 5] (fun s i wr => ∃ (k : Nat) (y : ByteArray), 1 ≤ k ∧ k ≤ m ∧ i = .int .i64 k ∧ s = .string y ∧ jnS ⟨#[44]⟩ ((lsF k f' g').map fltT) = y ∧ Below w.heap.size w wr ∧ Below w1.heap.size w1 wr) (fun _ i _ => m - (intOf i).toNat)
    case atStart => exact ⟨1, z0, Nat.le_refl _, by omega, rfl, rfl, HY0.out, HB2.out, HB2'.out⟩
    case round =>
      obtain ⟨k, y, hk1, hk, rfl, rfl, hy, hB, hB'⟩ := hrel
      have HBk := hide hB
      have HBk' := hide hB'
      have HY := hide hy
      clear hB hy hB'
      by_cases hlt : k < m
      · obtain ⟨b, off, eb, hc0, hc1⟩ := (HR.out.below HBk'.out).at_ hlt
        obtain ⟨rfl, rfl⟩ : _ = _ ∧ _ = _ := by injection eb with e; injection e with e1 e2; exact ⟨e1, e2⟩
        obtain ⟨u, hu⟩ : ∃ u, f' k = u := ⟨_, rfl⟩
        obtain ⟨v, hv⟩ : ∃ v, g' k = v := ⟨_, rfl⟩
        have Hu := hide hu
        have Hv := hide hv
        rw [hu] at hc0
        rw [hv] at hc1
        clear hu hv eb
        obtain ⟨z, hz⟩ : ∃ z, fltT (u, v) = z := ⟨_, rfl⟩
        have HT2 : Hid (∀ W, Calls Tryd.prog 29 #[.agg #[.int .i64 u, .int .i64 v]] W fun e w' => e = .returned (.string z) ∧ Below W.heap.size W w') := fun W => by
          rw [← hz]
          exact rtext09 u v W
        have y0 : y.size ≤ 140737488355328 := by
          rw [← HY.out]
          exact jn9_size k f' g' (by omega)
        have z2 : z.size ≤ 31 := by
          rw [← hz]
          exact fltT_size _
        have e1 : decide ((k : Int) < (m : Int)) = true := decide_eq_true (by omega)
        have e2 : decide (k < m) = true := decide_eq_true hlt
        obtain ⟨y1, hy1⟩ : ∃ y1, y ++ ⟨#[44]⟩ = y1 := ⟨_, rfl⟩
        obtain ⟨y2, hy2⟩ : ∃ y2, y1 ++ z = y2 := ⟨_, rfl⟩
        have hcat : Hid (jnS ⟨#[44]⟩ ((lsF (k + 1) f' g').map fltT) = y2) := by
          unfold Hid
          rw [jn9_next (by omega), HY.out, Hu.out, Hv.out, hz, hy1, hy2]
        have z1 : y1.size = y.size + 1 := by rw [← hy1]; simp; rfl
        have u1 := catR hy1 (by have h1 : (⟨#[44]⟩ : ByteArray).size = 1 := rfl; omega)
        have u2 := catR hy2 (by omega)
        have u3 : ¬ (y.size + 1 > 9223372036854775807) := by omega
        have u4 : ¬ (y1.size + z.size > 9223372036854775807) := by omega
        clear hy1 hy2 z1 hz
        go_wp2_with fail
        refine (HT2.out _).mono ?_
        rintro e w3 ⟨rfl, hb3⟩
        have HB3 := hide (HBk.out.of hb3)
        have HB3' := hide (HBk'.out.trans (hb3.mono HBk'.out.size))
        clear hb3
        go_wp2_with fail
        exact ⟨⟨k + 1, y2, by omega, by omega, rfl, rfl, hcat.out, HB3.out, HB3'.out⟩, by simp [intOf]; omega⟩
      · obtain rfl : k = m := by omega
        have e1 : decide ((k : Int) < (k : Int)) = false := decide_eq_false (by omega)
        have HZ : Hid (shT (setL (lsF n f g)) = y) := by
          unfold Hid
          rw [← HQ.out, sh9_some h0, HY.out]
        go_wp2_with fail
        go_ret
        exact ⟨by rw [HZ.out]; rfl, HBk.out⟩
end

section
open Go.RowKit Go.PlainAid

theorem pcF_run9 (c : UInt8) : ∀ (x cur rest : List UInt8), c ∉ x → pcF c cur (x ++ rest) = pcF c (cur ++ x) rest
  | [], cur, rest, _ => by simp
  | b :: x, cur, rest, h => by
    have h1 : b ≠ c := fun e => h (by simp [e])
    have h2 : c ∉ x := fun e => h (by simp [e])
    rw [List.cons_append, pcF_more h1, pcF_run9 c x _ _ h2]
    simp
theorem pcF_tail9 (c : UInt8) : ∀ (r : List (List UInt8)) (x : List UInt8), c ∉ x → (∀ y ∈ r, c ∉ y) → pcF c [] (x ++ Lib.joinTail [c] r) = x :: r
  | [], x, hx, _ => by
    rw [pcF_run9 c x [] _ hx]
    rfl
  | y :: r, x, hx, hr => by
    have e : Lib.joinTail [c] (y :: r) = c :: (y ++ Lib.joinTail [c] r) := by simp [Lib.joinTail]
    rw [pcF_run9 c x [] _ hx, e, List.nil_append, pcF_sep, pcF_tail9 c r y (hr y (by simp)) (fun z hz => hr z (by simp [hz]))]
theorem pcB_join9 {c : UInt8} {xs : List ByteArray} (h : xs ≠ []) (hc : ∀ x ∈ xs, c ∉ x.data.toList) : pcB c (jnS ⟨#[c]⟩ xs) = xs := by
  unfold pcB jnS
  show (pcF c [] (Lib.join (xs.map (·.data.toList)) [c])).map _ = xs
  cases xs with
  | nil => exact absurd rfl h
  | cons x r =>
    rw [List.map_cons, Lib.join_cons, pcF_tail9 c _ _ (hc x (by simp)) (fun y hy => by
      obtain ⟨z, hz, rfl⟩ := List.mem_map.1 hy
      exact hc z (by simp [hz])), List.map_cons, data_back, List.map_map]
    refine congrArg (x :: ·) ?_
    calc r.map ((fun l => (⟨l.toArray⟩ : ByteArray)) ∘ fun x => x.data.toList) = r.map id := List.map_congr_left fun y _ => data_back y
      _ = r := List.map_id r
theorem join_two9 (x y : List UInt8) (r : List (List UInt8)) (sep : List UInt8) : Lib.join (x :: y :: r) sep = x ++ sep ++ Lib.join (y :: r) sep := by
  rw [Lib.join_cons, Lib.join_cons]
  simp [Lib.joinTail]
theorem pcF_ne9 (c : UInt8) : ∀ (l cur : List UInt8), pcF c cur l ≠ []
  | [], cur => by simp [pcF]
  | b :: l, cur => by
    by_cases e : b = c
    · subst e; rw [pcF_sep]; simp
    · rw [pcF_more e]; exact pcF_ne9 c l _
theorem join_pcF9 (c : UInt8) : ∀ (l cur : List UInt8), Lib.join (pcF c cur l) [c] = cur ++ l
  | [], cur => by rw [pcF_nil, Lib.join_one]; simp
  | b :: l, cur => by
    by_cases e : b = c
    · subst e
      rw [pcF_sep]
      have ih := join_pcF9 b l []
      cases hp : pcF b [] l with
      | nil => exact absurd hp (pcF_ne9 b l [])
      | cons y r =>
        rw [hp] at ih
        rw [join_two9, ih]
        simp
    · rw [pcF_more e, join_pcF9 c l _]
      simp
theorem jnS_pcB9 (c : UInt8) (s : ByteArray) : jnS ⟨#[c]⟩ (pcB c s) = s := by
  unfold jnS pcB
  rw [List.map_map]
  have : ((fun x : ByteArray => x.data.toList) ∘ fun l => (⟨l.toArray⟩ : ByteArray)) = id := rfl
  rw [this, List.map_id]
  show (⟨(Lib.join (pcF c [] s.data.toList) [c]).toArray⟩ : ByteArray) = s
  rw [join_pcF9, List.nil_append, data_back]

def DASH : ByteArray := ⟨#[45]⟩
/-- These texts are those of a set, in order. -/
def SetTxt (ps : List ByteArray) (L : List (Int × Int)) : Prop := ps = L.map fltT ∧ (∀ p ∈ L, rP p = true) ∧ L.Pairwise LtP
def FsR (s : ByteArray) (L : List (Int × Int)) (ok : Bool) : Prop :=
  (ok = true ∧ ((s = DASH ∧ L = []) ∨ (s ≠ DASH ∧ SetTxt (pcB 44 s) L))) ∨ (ok = false ∧ L = [] ∧ s ≠ DASH ∧ ∀ M, ¬ SetTxt (pcB 44 s) M)
theorem flt_map_inj : ∀ {L M : List (Int × Int)}, L.map fltT = M.map fltT → (∀ p ∈ L, rP p = true) → (∀ p ∈ M, rP p = true) → L = M
  | [], [], _, _, _ => rfl
  | [], _ :: _, h, _, _ => by simp at h
  | _ :: _, [], h, _, _ => by simp at h
  | (a, b) :: L, (c, d) :: M, h, hL, hM => by
    simp only [List.map_cons, List.cons.injEq] at h
    have e := fltT_inj (hL _ (by simp)) (hM _ (by simp)) h.1
    rw [e.1, e.2, flt_map_inj h.2 (fun p hp => hL p (by simp [hp])) (fun p hp => hM p (by simp [hp]))]
theorem SetTxt.same {ps : List ByteArray} {L M : List (Int × Int)} (h : SetTxt ps L) (k : SetTxt ps M) : L = M := flt_map_inj (h.1.symm.trans k.1) h.2.1 k.2.1
theorem FsR.same {s : ByteArray} {L M : List (Int × Int)} {a b : Bool} (h : FsR s L a) (k : FsR s M b) : L = M ∧ a = b := by
  rcases h with ⟨rfl, ⟨h1, rfl⟩ | ⟨h1, h2⟩⟩ | ⟨rfl, rfl, h1, h2⟩ <;> rcases k with ⟨rfl, ⟨k1, rfl⟩ | ⟨k1, k2⟩⟩ | ⟨rfl, rfl, k1, k2⟩
  · exact ⟨rfl, rfl⟩
  · exact absurd h1 k1
  · exact absurd h1 k1
  · exact absurd k1 h1
  · exact ⟨h2.same k2, rfl⟩
  · exact absurd h2 (k2 _)
  · exact absurd k1 h1
  · exact absurd k2 (h2 _)
  · exact ⟨rfl, rfl⟩
theorem SetTxt.prefix_ {pre rest : List ByteArray} {M : List (Int × Int)} (h : SetTxt (pre ++ rest) M) : SetTxt pre (M.take pre.length) := by
  obtain ⟨h1, h2, h3⟩ := h
  refine ⟨?_, fun p hp => h2 p (List.mem_of_mem_take hp), h3.sublist (List.take_sublist _ _)⟩
  rw [List.map_take, ← h1, List.take_left']
  rfl
theorem bad_prefix {pre ps : List ByteArray} (h : ∀ M, ¬ SetTxt pre M) (hp : pre <+: ps) : ∀ M, ¬ SetTxt ps M := fun M hM => by
  obtain ⟨rest, rfl⟩ := hp
  exact h _ hM.prefix_
theorem bad_text {pre : List ByteArray} {x : ByteArray} (hx : ∀ p q, rP (p, q) = true → x ≠ fltT (p, q)) : ∀ M, ¬ SetTxt (pre ++ [x]) M := fun M h => by
  have hm : x ∈ M.map fltT := by rw [← h.1]; simp
  obtain ⟨⟨p, q⟩, hp, e⟩ := List.mem_map.1 hm
  exact hx p q (h.2.1 _ hp) e.symm
/-- So far these are the texts of right faults, each ahead of the next. -/
def SoF (pre : List ByteArray) (f g : Nat → Int) : Prop :=
  pre = (lsF pre.length f g).map fltT ∧ (∀ i, i < pre.length → rP (f i, g i) = true) ∧ (∀ i j, i < j → j < pre.length → LtP (f i, g i) (f j, g j))
theorem SoF.nil (f g : Nat → Int) : SoF [] f g := ⟨rfl, fun i hi => absurd hi (by simp), fun i j _ hj => absurd hj (by simp)⟩
theorem SoF.txt {pre : List ByteArray} {f g : Nat → Int} (h : SoF pre f g) : SetTxt pre (lsF pre.length f g) := by
  refine ⟨h.1, fun p hp => ?_, lsF_up h.2.2⟩
  obtain ⟨i, hi, rfl⟩ := lsF_mem.1 hp
  exact h.2.1 i hi
theorem SoF.next {pre : List ByteArray} {f g : Nat → Int} {x : ByteArray} {p q : Int} (h : SoF pre f g) (hr : rP (p, q) = true) (hx : x = fltT (p, q)) (hl : pre.length = 0 ∨ LtP (f (pre.length - 1), g (pre.length - 1)) (p, q)) :
    SoF (pre ++ [x]) (catF pre.length f (oneF p)) (catF pre.length g (oneF q)) := by
  have hlen : (pre ++ [x]).length = pre.length + 1 := by simp
  have at_lt : ∀ i, i < pre.length → catF pre.length f (oneF p) i = f i ∧ catF pre.length g (oneF q) i = g i := fun i hi => by
    unfold catF
    rw [if_pos hi, if_pos hi]
    exact ⟨rfl, rfl⟩
  have at_eq : catF pre.length f (oneF p) pre.length = p ∧ catF pre.length g (oneF q) pre.length = q := by
    unfold catF
    rw [if_neg (by omega), if_neg (by omega)]
    exact ⟨rfl, rfl⟩
  refine ⟨?_, fun i hi => ?_, fun i j hij hj => ?_⟩
  · rw [hlen, lsF_app, List.map_append, ← h.1, hx]
    rfl
  · rw [hlen] at hi
    by_cases e : i < pre.length
    · rw [(at_lt i e).1, (at_lt i e).2]
      exact h.2.1 i e
    · obtain rfl : i = pre.length := by omega
      rw [at_eq.1, at_eq.2]
      exact hr
  · rw [hlen] at hj
    rw [(at_lt i (by omega)).1, (at_lt i (by omega)).2]
    by_cases e : j < pre.length
    · rw [(at_lt j e).1, (at_lt j e).2]
      exact h.2.2 i j hij e
    · obtain rfl : j = pre.length := by omega
      rw [at_eq.1, at_eq.2]
      rcases hl with hl | hl
      · omega
      · by_cases e2 : i = pre.length - 1
        · rw [e2]
          exact hl
        · exact LtP.trans (h.2.2 i (pre.length - 1) (by omega) (by omega)) hl
theorem SoF.bad_next {pre : List ByteArray} {f g : Nat → Int} {x : ByteArray} {p q : Int} (h : SoF pre f g) (hr : rP (p, q) = true) (hx : x = fltT (p, q)) (h0 : 0 < pre.length) (hl : ¬ LtP (f (pre.length - 1), g (pre.length - 1)) (p, q)) : ∀ M, ¬ SetTxt (pre ++ [x]) M := fun M hM => by
  have e1 : M = lsF pre.length f g ++ [(p, q)] := by
    refine flt_map_inj ?_ hM.2.1 (fun u hu => ?_)
    · rw [← hM.1, List.map_append, ← h.1, hx]
      rfl
    · rcases List.mem_append.1 hu with a | a
      · exact h.txt.2.1 u a
      · rw [List.mem_singleton.1 a]
        exact hr
  have h3 := hM.2.2
  rw [e1, List.pairwise_append] at h3
  refine hl (h3.2.2 _ ?_ (p, q) (by simp))
  exact lsF_mem.2 ⟨pre.length - 1, by omega, rfl⟩
theorem flt_no_comma (p q : Int) : (44 : UInt8) ∉ (fltT (p, q)).data.toList := by
  by_cases hr : rP (p, q) = true
  · obtain ⟨h1, _, h3, h4⟩ := flt_parts hr
    rw [h1, cat_data, cat_data]
    have a : (44 : UInt8) ∉ (scN p).data.toList := by unfold scN; split <;> decide
    have b : (44 : UInt8) ∉ COLON.data.toList := by decide
    have c : (44 : UInt8) ∉ (codeT q).data.toList := by
      by_cases hk : q < 14
      · rw [codeT_known h3 hk]
        have : ∀ d, d < 14 → (44 : UInt8) ∉ (cdL.getD d ⟨#[]⟩).data.toList := by decide
        exact this _ (by omega)
      · rw [codeT_more (by omega) h4]
        intro hn
        have := (decL_dig q.toNat 44 hn).1
        exact absurd this (by decide)
    intro hm
    rcases List.mem_append.1 hm with hm | hm
    · rcases List.mem_append.1 hm with hm | hm
      · exact a hm
      · exact b hm
    · exact c hm
  · unfold fltT
    rw [if_neg hr]
    decide
theorem sh_parts {L : List (Int × Int)} (h : L ≠ []) : pcB 44 (shT L) = L.map fltT := by
  unfold shT
  rw [if_neg h]
  exact pcB_join9 (by simpa using h) (fun x hx => by
    obtain ⟨⟨p, q⟩, _, rfl⟩ := List.mem_map.1 hx
    exact flt_no_comma p q)
theorem dash_no {p q : Int} (hr : rP (p, q) = true) : fltT (p, q) ≠ DASH := fun e => by
  obtain ⟨h1, _, _, _⟩ := flt_parts hr
  have h2 := congrArg ByteArray.size e
  rw [h1, ByteArray.size_append, ByteArray.size_append] at h2
  have h3 : 6 ≤ (scN p).size := by unfold scN; split <;> decide
  have h4 : DASH.size = 1 := rfl
  omega
theorem dash_parts : pcB 44 DASH = [DASH] := by decide
/-- A set's text reads as the set. -/
theorem sh_read {L : List (Int × Int)} (h : ∀ p ∈ L, rP p = true) (hu : L.Pairwise LtP) : FsR (shT L) L true := by
  by_cases e : L = []
  · subst e
    exact .inl ⟨rfl, .inl ⟨rfl, rfl⟩⟩
  · have hp := sh_parts e
    refine .inl ⟨rfl, .inr ⟨fun ed => ?_, hp, h, hu⟩⟩
    rw [ed, dash_parts] at hp
    cases L with
    | nil => exact e rfl
    | cons a L =>
      obtain ⟨p, q⟩ := a
      simp only [List.map_cons, List.cons.injEq] at hp
      exact dash_no (h _ (by simp)) hp.1.symm
theorem setL_same {L : List (Int × Int)} (h : ∀ p ∈ L, rP p = true) (hu : L.Pairwise LtP) : setL L = L :=
  strict_ext _ _ (setL_up L) hu (fun p => by rw [setL_mem]; exact ⟨fun k => k.1, fun k => ⟨k, h p k⟩⟩)
/-- The document's last test: what was read is shown as the text. -/
theorem show_back {s : ByteArray} {L : List (Int × Int)} (hs : s ≠ DASH) (hp : pcB 44 s = L.map fltT) (h : ∀ p ∈ L, rP p = true) : shT (setL L) = s ↔ L.Pairwise LtP := by
  have hne : L ≠ [] := fun e => by
    rw [e] at hp
    have := pcF_ne9 44 s.data.toList []
    unfold pcB at hp
    rw [List.map_nil, List.map_eq_nil_iff] at hp
    exact this hp
  constructor
  · intro e
    have hS : setL L ≠ [] := fun e2 => by
      obtain ⟨a, ha⟩ := List.exists_mem_of_ne_nil L hne
      have := (setL_mem L a).2 ⟨ha, h a ha⟩
      rw [e2] at this
      exact absurd this (by simp)
    have h1 := sh_parts hS
    rw [e, hp] at h1
    have h2 := flt_map_inj h1 h (fun p hp => ((setL_mem L p).1 hp).2)
    rw [h2]
    exact setL_up L
  · intro hu
    rw [setL_same h hu]
    unfold shT
    rw [if_neg hne, ← hp]
    exact jnS_pcB9 44 s
end
end Go.Proofs.YtbkdegjkjjdcdaaDoor
