/- Layer 14: what any frame says, or how it is wrong: one answer for all. -/
import Derived.Test.YtpnjamomkpkkeaaFr6
import Derived.Test.YtpnjamomkpkkeaaFr7
import Derived.Test.YtpnjamomkpkkeaaFr8
import Derived.Test.YtpnjamomkpkkeaaFr9
import Derived.Test.YtpnjamomkpkkeaaFrb
import Derived.Test.YtpnjamomkpkkeaaFrc
namespace Go.Proofs.Ytpnjamomkpkkeaa
set_option linter.unusedVariables false
set_option linter.unusedSimpArgs false
open Go.RowKit

instance (l t f s : Int) : Decidable (HdR l t f s) := by unfold HdR; infer_instance
def fdOf (T fl : Int) (n : Nat) (f : Nat → Int) : FD :=
  if T = 0 then (if hsB 0 fl 3 = true then { pad := nbV f n 0 1, off := (nbT n 0 1), ms := (false || (nbM n 0 1)) } else { off := 0 })
  else if T = 1 then
    (if hsB 1 fl 3 = true then
      (if hsB 1 fl 5 = true then { pad := nbV f n 0 1, pa := lowN (nbV f n (nbT n 0 1) 4), al := lowB (nbV f n (nbT n 0 1) 4), wt := nbV f n (nbT n (nbT n 0 1) 4) 1, off := (nbT n (nbT n (nbT n 0 1) 4) 1), ms := (((false || (nbM n 0 1)) || nbM n (nbT n 0 1) 4) || nbM n (nbT n (nbT n 0 1) 4) 1) }
       else { pad := nbV f n 0 1, off := (nbT n 0 1), ms := (false || (nbM n 0 1)) })
     else
      (if hsB 1 fl 5 = true then { pa := lowN (nbV f n 0 4), al := lowB (nbV f n 0 4), wt := nbV f n (nbT n 0 4) 1, off := (nbT n (nbT n 0 4) 1), ms := ((false || nbM n 0 4) || nbM n (nbT n 0 4) 1) } else { off := 0 }))
  else if T = 2 then { pa := lowN (nbV f n 0 4), al := lowB (nbV f n 0 4), wt := nbV f n (nbT n 0 4) 1, off := (nbT n (nbT n 0 4) 1), ms := ((false || nbM n 0 4) || nbM n (nbT n 0 4) 1) }
  else if T = 3 then { co := nbV f n 0 4, off := (nbT n 0 4), ms := (false || nbM n 0 4) }
  else if T = 4 then { sn := nsN (n - 0), off := n, ms := (false || decide ((n - 0) % 6 ≠ 0)) }
  else if T = 5 then (if hsB 5 fl 3 = true then { pad := nbV f n 0 1, pm := lowN (nbV f n (nbT n 0 1) 4), off := (nbT n (nbT n 0 1) 4), ms := ((false || (nbM n 0 1)) || nbM n (nbT n 0 1) 4) } else { pm := lowN (nbV f n 0 4), off := (nbT n 0 4), ms := (false || nbM n 0 4) })
  else if T = 7 then { la := lowN (nbV f n 0 4), co := nbV f n (nbT n 0 4) 4, off := (nbT n (nbT n 0 4) 4), ms := ((false || nbM n 0 4) || nbM n (nbT n 0 4) 4) }
  else if T = 8 then { sp := lowN (nbV f n 0 4), off := (nbT n 0 4), ms := (false || nbM n 0 4) }
  else { off := 0 }
theorem hsB3_no {T fl : Int} (h : T ≠ 0 ∧ T ≠ 1 ∧ T ≠ 5) : hsB T fl 3 = false := by
  unfold hsB usedN
  rw [if_neg h.1, if_neg h.2.1]
  by_cases h4 : T = 4 ∨ T = 6
  · rw [if_pos h4]; simp [Nat.testBit]
  · rw [if_neg h4, if_neg h.2.2]
    by_cases h9 : T = 9
    · rw [if_pos h9]; simp [Nat.testBit]
    · rw [if_neg h9]; simp
theorem frame_all (fm T fl st : Int) (rs : Bool) (bd : Value) (n : Nat) (f : Nat → Int) (hf : Byt n f) (hn : n ≤ 100000) (hfl : fl ≤ 9223372036854775807) :
    ∀ (q p c' : Nat) (A' : Option Addr) (B : Nat) (W : World), B ≤ q → B ≤ p → (∀ a, A' = some a → a.block < W.heap.size) → Rdr W q p A' c' n f 0 false false → Calls Try.prog 70 #[.pointer (some ⟨q, 0, none⟩), .agg #[.int .i64 fm, .int .i64 T, .int .i64 fl, .int .i64 st, .bool rs, bd]] W (FPost T fl st (fdOf T fl n f) q p n f B W) := by
  intro q p c' A' B W hB hBp hA h
  unfold fdOf
  by_cases h0 : T = 0
  · subst h0
    rw [if_pos rfl]
    by_cases hp : hsB 0 fl 3 = true
    · rw [if_pos hp]; exact frame_d1 fm fl st rs bd q p c' n A' f hf hn hfl hp B hB hBp W hA h
    · rw [if_neg hp]; exact frame_d0 fm fl st rs bd q p c' n A' f hf hn hfl (by simpa using hp) B hB hBp W hA h
  rw [if_neg h0]
  by_cases h1 : T = 1
  · subst h1
    rw [if_pos rfl]
    by_cases hp : hsB 1 fl 3 = true
    · rw [if_pos hp]
      by_cases hw : hsB 1 fl 5 = true
      · rw [if_pos hw]; exact frame_h11 fm fl st rs bd q p c' n A' f hf hn hfl hp hw B hB hBp W hA h
      · rw [if_neg hw]; exact frame_h10 fm fl st rs bd q p c' n A' f hf hn hfl hp (by simpa using hw) B hB hBp W hA h
    · rw [if_neg hp]
      by_cases hw : hsB 1 fl 5 = true
      · rw [if_pos hw]; exact frame_h01 fm fl st rs bd q p c' n A' f hf hn hfl (by simpa using hp) hw B hB hBp W hA h
      · rw [if_neg hw]; exact frame_h00 fm fl st rs bd q p c' n A' f hf hn hfl (by simpa using hp) (by simpa using hw) B hB hBp W hA h
  rw [if_neg h1]
  by_cases h2 : T = 2
  · subst h2
    rw [if_pos rfl]; exact frame_p fm fl st rs bd q p c' n A' f hf hn hfl (hsB3_no (by decide)) B hB hBp W hA h
  rw [if_neg h2]
  by_cases h3 : T = 3
  · subst h3
    rw [if_pos rfl]; exact frame_r fm fl st rs bd q p c' n A' f hf hn hfl (hsB3_no (by decide)) B hB hBp W hA h
  rw [if_neg h3]
  by_cases h4 : T = 4
  · subst h4
    rw [if_pos rfl]; exact frame_s fm fl st rs bd q p c' n A' f hf hn hfl (hsB3_no (by decide)) B hB hBp W hA h
  rw [if_neg h4]
  by_cases h5 : T = 5
  · subst h5
    rw [if_pos rfl]
    by_cases hp : hsB 5 fl 3 = true
    · rw [if_pos hp]; exact frame_u1 fm fl st rs bd q p c' n A' f hf hn hfl hp B hB hBp W hA h
    · rw [if_neg hp]; exact frame_u0 fm fl st rs bd q p c' n A' f hf hn hfl (by simpa using hp) B hB hBp W hA h
  rw [if_neg h5]
  by_cases h7 : T = 7
  · subst h7
    rw [if_pos rfl]; exact frame_g fm fl st rs bd q p c' n A' f hf hn hfl (hsB3_no (by decide)) B hB hBp W hA h
  rw [if_neg h7]
  by_cases h8 : T = 8
  · subst h8
    rw [if_pos rfl]; exact frame_w fm fl st rs bd q p c' n A' f hf hn hfl (hsB3_no (by decide)) B hB hBp W hA h
  rw [if_neg h8]
  exact frame_o fm fl st rs bd T (by omega) q p c' n A' f hf hn hfl (hsB3_no ⟨h0, h1, h5⟩) B hB hBp W hA h

/-- What is said of a frame: its cells, where its data begin and how many there are, how many settings; the fault; the error's number. -/
structure FR where
  T : Int := 0
  fl : Int := 0
  st : Int := 0
  pad : Int := 0
  N : Nat := 0
  off : Nat := 0
  sn : Nat := 0
  wt : Int := 0
  pa : Int := 0
  al : Bool := false
  pm : Int := 0
  la : Int := 0
  co : Int := 0
  sp : Int := 0
  fs : Int := 0
  fc : Int := 0
  en : Int := 0
def ovB (D : FD) (n : Nat) : Bool := decide (((n - D.off : Nat) : Int) < m0 D.pad)
def goodR (T fl st : Int) (n : Nat) (D : FD) : FR := { T := T, fl := fl, st := st, pad := D.pad, N := upN n D.off (m0 D.pad), off := D.off, sn := D.sn, wt := D.wt, pa := D.pa, al := D.al, pm := D.pm, la := D.la, co := D.co, sp := D.sp }
def frR (T fl st : Int) (n : Nat) (f : Nat → Int) : FR :=
  if HdR n T fl st then
    if misB T st = true then { fs := 2, fc := 1 }
    else if wrsB T fl n = true then { fs := szS T, fc := 6 }
    else if (fdOf T fl n f).ms = true then { fs := szS T, fc := 6 }
    else if ovB (fdOf T fl n f) n = true then { fs := 2, fc := 1 }
    else goodR T fl st n (fdOf T fl n f)
  else { en := 1 }
theorem nbT_le {n t s : Nat} (h : t ≤ n) : nbT n t s ≤ n := by
  unfold nbT
  split <;> omega
theorem fd_off (T fl : Int) (n : Nat) (f : Nat → Int) : (fdOf T fl n f).off ≤ n := by
  unfold fdOf
  (repeat' split) <;> (dsimp only; first | omega | exact nbT_le (by omega) | exact nbT_le (nbT_le (by omega)) | exact nbT_le (nbT_le (nbT_le (by omega))))
theorem upN_le (n t : Nat) (pad : Int) (h : t ≤ n) : t + upN n t pad ≤ n := by
  unfold upN
  split <;> omega
theorem frR_le (T fl st : Int) (n : Nat) (f : Nat → Int) : (frR T fl st n f).off + (frR T fl st n f).N ≤ n := by
  unfold frR
  (repeat' split) <;> first | (dsimp only; omega) | exact upN_le _ _ _ (fd_off ..)
theorem frR_en (T fl st : Int) (n : Nat) (f : Nat → Int) : (frR T fl st n f).en = if HdR n T fl st then 0 else 1 := by
  unfold frR
  by_cases h : HdR n T fl st
  · rw [if_pos h, if_pos h]
    (repeat' split) <;> rfl
  · rw [if_neg h, if_neg h]
def PsR (G : FR) (f : Nat → Int) (w : World) (e : Ending) (w' : World) : Prop :=
  ∃ A2 c2 A3 c3, e = .returned (.tuple #[.agg #[.int .i64 G.T, .int .i64 G.fl, .int .i64 G.st, .int .i64 G.pad, .slice A2 G.N c2, .slice A3 G.sn c3, .int .i64 G.wt, .int .i64 G.pa, .bool G.al, .int .i64 G.pm, .int .i64 G.la, .int .i64 G.co, .int .i64 G.sp], .agg #[.int .i64 G.fs, .int .i64 G.fc], .int .i64 G.en]) ∧ Rd .u8 w' A2 G.N c2 (fun i => f (G.off + i)) ∧ Rd2 w' A3 G.sn c3 (sF f) (sG f) ∧ Below w.heap.size w w'
theorem PsR.zero (s c n : Int) (f : Nat → Int) {w w' : World} (hb : Below w.heap.size w w') : PsR { fs := s, fc := c, en := n } f w (.returned (.tuple #[.agg #[.int .i64 0, .int .i64 0, .int .i64 0, .int .i64 0, .slice none 0 0, .slice none 0 0, .int .i64 0, .int .i64 0, .bool false, .int .i64 0, .int .i64 0, .int .i64 0, .int .i64 0], .agg #[.int .i64 s, .int .i64 c], .int .i64 n])) w' :=
  ⟨none, 0, none, 0, rfl, Rd.nil _ _ _, Rd2.nil _ _ _, hb⟩
theorem parse14 (fm T fl st : Int) (rs : Bool) (A : Option Addr) (n c : Nat) (f : Nat → Int) (w : World) (ha : Rd .u8 w A n c f) (hf : Byt n f) (hn : n ≤ 100000) : Calls Try.prog 19 #[.agg #[.int .i64 fm, .int .i64 T, .int .i64 fl, .int .i64 st, .bool rs, .slice A n c]] w (PsR (frR T fl st n f) f w) := by
  unfold frR
  by_cases hr : HdR n T fl st
  · rw [if_pos hr]
    have hfl : fl ≤ 9223372036854775807 := by have := hr.2.2.1; omega
    cases hm : misB T st with
    | true =>
      rw [if_pos rfl]
      exact (parse_mis fm T fl st rs A n c w hr hm).mono fun e w' ⟨h1, h2⟩ => by subst h1; exact PsR.zero 2 1 0 f h2
    | false =>
      rw [if_neg (by decide)]
      cases hs : wrsB T fl n with
      | true =>
        rw [if_pos rfl]
        exact (parse_size fm T fl st rs A n c w hr hm hs).mono fun e w' ⟨h1, h2⟩ => by subst h1; exact PsR.zero (szS T) 6 0 f h2
      | false =>
        rw [if_neg (by decide)]
        have HF := frame_all fm T fl st rs (.slice A n c) n f hf hn hfl
        generalize fdOf T fl n f = D at *
        cases hms : D.ms with
        | true =>
          rw [if_pos rfl]
          exact (parse_ms fm T fl st rs A n c f D w hr hm hs ha hf hn HF hms).mono fun e w' ⟨h1, h2⟩ => by subst h1; exact PsR.zero (szS T) 6 0 f h2
        | false =>
          rw [if_neg (by decide)]
          cases hov : ovB D n with
          | true =>
            rw [if_pos rfl]
            exact (parse_ov fm T fl st rs A n c f D w hr hm hs ha hf hn HF hms hov).mono fun e w' ⟨h1, h2⟩ => by subst h1; exact PsR.zero 2 1 0 f h2
          | false =>
            rw [if_neg (by decide)]
            exact parse_ok fm T fl st rs A n c f D w hr hm hs ha hf hn HF hms hov
  · rw [if_neg hr]
    exact (parse_arg fm T fl st rs A n c w hr).mono fun e w' ⟨h1, h2⟩ => by subst h1; exact PsR.zero 0 0 1 f h2
end Go.Proofs.Ytpnjamomkpkkeaa
