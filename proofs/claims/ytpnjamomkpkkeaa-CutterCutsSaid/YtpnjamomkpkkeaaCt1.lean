/- Layer 12, with no memory in it: what bytes of a side say, told by lists. -/
import Derived.Test.YtpnjamomkpkkeaaM3
namespace Go.Proofs.Ytpnjamomkpkkeaa
set_option linter.unusedVariables false
set_option linter.unusedSimpArgs false
open Go.RowKit

def lyF (l : List Int) : Nat → Int := fun i => l.getD i 0
theorem lyF_left {a b : List Int} {i : Nat} (h : i < a.length) : lyF (a ++ b) i = lyF a i := by
  simp [lyF, List.getD_eq_getElem?_getD, List.getElem?_append_left h]
theorem lyF_right {a b : List Int} {i : Nat} : lyF (a ++ b) (a.length + i) = lyF b i := by
  unfold lyF
  rw [List.getD_eq_getElem?_getD, List.getD_eq_getElem?_getD, List.getElem?_append_right (by omega), Nat.add_sub_cancel_left]
theorem lyF_cat {a b : List Int} (i : Nat) : catF a.length (lyF a) (lyF b) i = lyF (a ++ b) i := by
  unfold catF
  split
  · rename_i h; exact (lyF_left h).symm
  · rename_i h
    have e : i = a.length + (i - a.length) := by omega
    conv => rhs; rw [e]
    exact lyF_right.symm
theorem lyF_drop (l : List Int) (n i : Nat) : lyF (l.drop n) i = lyF l (n + i) := by
  simp [lyF, List.getD_eq_getElem?_getD]
theorem lyF_take (l : List Int) {n i : Nat} (h : i < n) : lyF (l.take n) i = lyF l i := by
  simp [lyF, List.getD_eq_getElem?_getD, List.getElem?_take, h]
theorem lyF_map {n i : Nat} {f : Nat → Int} (h : i < n) : lyF ((List.range n).map f) i = f i := by
  simp [lyF, List.getD_eq_getElem?_getD, h]
theorem map_ly (l : List Int) : (List.range l.length).map (lyF l) = l := by
  apply List.ext_getElem
  · simp
  · intro i h1 h2
    simp [lyF, List.getD_eq_getElem?_getD, h2]
def ByL (l : List Int) : Prop := ∀ x ∈ l, 0 ≤ x ∧ x ≤ 255
theorem ByL.byt {l : List Int} (h : ByL l) : Byt l.length (lyF l) := fun i hi => by
  have e : lyF l i = l[i] := by simp [lyF, List.getD_eq_getElem?_getD, hi]
  rw [e]
  exact h _ (List.getElem_mem hi)
theorem byl_of {n : Nat} {f : Nat → Int} (h : Byt n f) : ByL ((List.range n).map f) := fun x hx => by
  obtain ⟨i, hi, rfl⟩ := List.mem_map.1 hx
  exact h i (List.mem_range.1 hi)
theorem ByL.app {a b : List Int} (h : ByL a) (k : ByL b) : ByL (a ++ b) := fun x hx => by
  rcases List.mem_append.1 hx with hx | hx
  · exact h x hx
  · exact k x hx
theorem ByL.left {a b : List Int} (h : ByL (a ++ b)) : ByL a := fun x hx => h x (List.mem_append_left _ hx)
theorem ByL.right {a b : List Int} (h : ByL (a ++ b)) : ByL b := fun x hx => h x (List.mem_append_right _ hx)
theorem ByL.take {a : List Int} (h : ByL a) (n : Nat) : ByL (a.take n) := fun x hx => h x (List.mem_of_mem_take hx)
theorem ByL.drop {a : List Int} (h : ByL a) (n : Nat) : ByL (a.drop n) := fun x hx => h x (List.mem_of_mem_drop hx)
/-- A raw frame, told by numbers. -/
structure Rl where
  fm : Int
  T : Int
  fl : Int
  st : Int
  rs : Bool
  b : List Int
def Rl.hd (x : Rl) : List Int := (List.range 9).map (hdF x.b.length x.T x.fl (hdX x.st x.rs))
def Rl.enc (x : Rl) : List Int := if x.T = -1 then x.b else x.hd ++ x.b
def encL : List Rl → List Int
  | [] => []
  | x :: l => x.enc ++ encL l
theorem encL_app : ∀ a b : List Rl, encL (a ++ b) = encL a ++ encL b
  | [], _ => rfl
  | x :: a, b => by
    show x.enc ++ encL (a ++ b) = (x.enc ++ encL a) ++ encL b
    rw [encL_app a b, List.append_assoc]
def Rl.Ok (sd : Int) (x : Rl) : Prop := x.fm = sd ∧ HdR x.b.length x.T x.fl x.st
def Rl.Pre (x : Rl) : Prop := x.fm = 0 ∧ x.T = -1 ∧ x.fl = 0 ∧ x.st = 0 ∧ x.rs = false ∧ x.b.length = 24
def FsOk (sd : Int) (fs : List Rl) : Prop := if sd = 0 then fs = [] ∨ ∃ x l, fs = x :: l ∧ x.Pre ∧ ∀ y ∈ l, y.Ok 0 else ∀ y ∈ fs, y.Ok sd
/-- What is left is no whole frame. -/
def IncH (r : List Int) : Prop := r.length < 9 ∨ (r.length : Int) < 9 + gL (lyF r)
def Inc (sd : Int) (fs : List Rl) (r : List Int) : Prop := if sd = 0 ∧ fs = [] then r.length < 24 else IncH r
theorem Rl.hd_len (x : Rl) : x.hd.length = 9 := by simp [Rl.hd]
theorem Rl.Ok.enc {sd : Int} {x : Rl} (h : x.Ok sd) : x.enc = x.hd ++ x.b := by
  unfold Rl.enc
  rw [if_neg (by have := h.2.2.1.1; omega)]
theorem Rl.Ok.hd_F {x : Rl} : ∀ i, i < 9 → lyF x.hd i = hdF x.b.length x.T x.fl (hdX x.st x.rs) i := fun i hi => lyF_map hi
theorem gL_congr {f g : Nat → Int} (h : ∀ i, i < 9 → f i = g i) : gL f = gL g := num_congr fun i hi => h i (by omega)
theorem gX_congr {f g : Nat → Int} (h : ∀ i, i < 9 → f i = g i) : gX f = gX g := num_congr fun i hi => h (5 + i) (by omega)
theorem Rl.Ok.vals {sd : Int} {x : Rl} (h : x.Ok sd) {f : Nat → Int} (hf : ∀ i, i < 9 → f i = lyF x.hd i) : gL f = x.b.length ∧ f 3 = x.T ∧ f 4 = x.fl ∧ lowN (gX f) = x.st ∧ lowB (gX f) = x.rs := by
  have hf' : ∀ i, i < 9 → f i = hdF x.b.length x.T x.fl (hdX x.st x.rs) i := fun i hi => (hf i hi).trans (Rl.Ok.hd_F i hi)
  obtain ⟨_, ⟨h0, h1⟩, ⟨h2, h3⟩, ⟨h4, h5⟩, h6, h7⟩ := h
  obtain ⟨b0, b1⟩ := hdX_bd x.rs h6 h7
  have l1 := low_hd x.st x.rs h6 h7
  refine ⟨(gL_congr hf').trans (gL_hd _ _ _ _ h0 h1), ?_, ?_, ?_, ?_⟩
  · rw [hf' 3 (by omega), hdF_3]; omega
  · rw [hf' 4 (by omega), hdF_4]; omega
  · rw [gX_congr hf', gX_hd _ _ _ _ b0 b1]; exact l1.1
  · rw [gX_congr hf', gX_hd _ _ _ _ b0 b1]; exact l1.2
theorem enc_split {sd : Int} {x y : Rl} (hx : x.Ok sd) (hy : y.Ok sd) {r r' : List Int} (h : x.enc ++ r = y.enc ++ r') : x = y ∧ r = r' := by
  rw [hx.enc, hy.enc, List.append_assoc, List.append_assoc] at h
  obtain ⟨h1, h2⟩ := List.append_inj h (by rw [x.hd_len, y.hd_len])
  have vx := hx.vals (f := lyF x.hd) fun _ _ => rfl
  have vy := hy.vals (f := lyF x.hd) fun _ _ => by rw [h1]
  have hl : x.b.length = y.b.length := by have := vx.1.symm.trans vy.1; omega
  obtain ⟨h3, h4⟩ := List.append_inj h2 hl
  refine ⟨?_, h4⟩
  have e1 := vx.2.1.symm.trans vy.2.1
  have e2 := vx.2.2.1.symm.trans vy.2.2.1
  have e3 := vx.2.2.2.1.symm.trans vy.2.2.2.1
  have e4 := vx.2.2.2.2.symm.trans vy.2.2.2.2
  have e0 := hx.1.trans hy.1.symm
  cases x; cases y
  simp only at e0 e1 e2 e3 e4 h3
  subst e0 e1 e2 e3 e4 h3
  rfl
theorem not_inc {sd : Int} {x : Rl} (hx : x.Ok sd) (r : List Int) : ¬ IncH (x.enc ++ r) := by
  rw [hx.enc, List.append_assoc]
  have v := hx.vals (f := lyF (x.hd ++ (x.b ++ r))) fun i hi => lyF_left (by rw [x.hd_len]; exact hi)
  rintro (h | h)
  · rw [List.length_append, x.hd_len] at h; omega
  · rw [v.1, List.length_append, List.length_append, x.hd_len] at h; omega
theorem uniqH {sd : Int} : ∀ (fs gs : List Rl) (r r' : List Int), (∀ y ∈ fs, y.Ok sd) → (∀ y ∈ gs, y.Ok sd) → IncH r → IncH r' → encL fs ++ r = encL gs ++ r' → fs = gs ∧ r = r'
  | [], [], _, _, _, _, _, _, h => ⟨rfl, h⟩
  | [], y :: gs, r, r', _, hy, hr, _, h => by
    have h' : r = y.enc ++ (encL gs ++ r') := by rw [← List.append_assoc]; exact h
    rw [h'] at hr
    exact absurd hr (not_inc (hy y (List.mem_cons_self ..)) _)
  | x :: fs, [], r, r', hx, _, _, hr, h => by
    have h' : x.enc ++ (encL fs ++ r) = r' := by rw [← List.append_assoc]; exact h
    rw [← h'] at hr
    exact absurd hr (not_inc (hx x (List.mem_cons_self ..)) _)
  | x :: fs, y :: gs, r, r', hx, hy, hr, hr', h => by
    have h' : x.enc ++ (encL fs ++ r) = y.enc ++ (encL gs ++ r') := by rw [← List.append_assoc, ← List.append_assoc]; exact h
    obtain ⟨e, e2⟩ := enc_split (hx x (List.mem_cons_self ..)) (hy y (List.mem_cons_self ..)) h'
    obtain ⟨e3, e4⟩ := uniqH fs gs r r' (fun z hz => hx z (List.mem_cons_of_mem _ hz)) (fun z hz => hy z (List.mem_cons_of_mem _ hz)) hr hr' e2
    rw [e, e3]
    exact ⟨rfl, e4⟩
theorem Rl.Pre.enc {x : Rl} (h : x.Pre) : x.enc = x.b := by
  unfold Rl.enc
  rw [if_pos h.2.1]
theorem Rl.Pre.eq {x y : Rl} (h : x.Pre) (k : y.Pre) (e : x.b = y.b) : x = y := by
  obtain ⟨h0, h1, h2, h3, h4, _⟩ := h
  obtain ⟨k0, k1, k2, k3, k4, _⟩ := k
  cases x; cases y
  simp only at h0 h1 h2 h3 h4 k0 k1 k2 k3 k4 e
  subst h0 h1 h2 h3 h4 k0 k1 k2 k3 k4 e
  rfl
/-- Bytes say one row of frames, and one rest. -/
theorem uniq {sd : Int} {fs gs : List Rl} {r r' : List Int} (hf : FsOk sd fs) (hg : FsOk sd gs) (hr : Inc sd fs r) (hr' : Inc sd gs r') (h : encL fs ++ r = encL gs ++ r') : fs = gs ∧ r = r' := by
  unfold FsOk at hf hg
  unfold Inc at hr hr'
  by_cases hs : sd = 0
  · subst hs
    rw [if_pos rfl] at hf hg
    rcases hf with rfl | ⟨x, l, rfl, hx, hl⟩ <;> rcases hg with rfl | ⟨y, m, rfl, hy, hm⟩
    · exact ⟨rfl, h⟩
    · rw [if_pos ⟨rfl, rfl⟩] at hr
      have := congrArg List.length h
      rw [List.length_append, List.length_append] at this
      have e : (encL (y :: m)).length = 24 + (encL m).length := by show (y.enc ++ encL m).length = _; rw [List.length_append, hy.enc, hy.2.2.2.2.2]
      have e0 : (encL []).length = 0 := rfl
      omega
    · rw [if_pos ⟨rfl, rfl⟩] at hr'
      have := congrArg List.length h
      rw [List.length_append, List.length_append] at this
      have e : (encL (x :: l)).length = 24 + (encL l).length := by show (x.enc ++ encL l).length = _; rw [List.length_append, hx.enc, hx.2.2.2.2.2]
      have e0 : (encL []).length = 0 := rfl
      omega
    · rw [if_neg (by simp)] at hr hr'
      have h' : x.b ++ (encL l ++ r) = y.b ++ (encL m ++ r') := by rw [← List.append_assoc, ← List.append_assoc, ← hx.enc, ← hy.enc]; exact h
      obtain ⟨e1, e2⟩ := List.append_inj h' (by rw [hx.2.2.2.2.2, hy.2.2.2.2.2])
      obtain ⟨e3, e4⟩ := uniqH l m r r' hl hm hr hr' e2
      exact ⟨by rw [hx.eq hy e1, e3], e4⟩
  · rw [if_neg hs] at hf hg
    rw [if_neg (fun h => hs h.1)] at hr hr'
    exact uniqH fs gs r r' hf hg hr hr' h
/-- A side's part: what it waits for, the nine bytes of the head, what it has of what it waits for. -/
structure Pt where
  k : Nat
  h : List Int
  g : List Int
def Pt.pend (s : Pt) : List Int := if s.k = 2 then s.h ++ s.g else s.g
def Pt.want (sd : Int) (s : Pt) : Int := if s.k = 2 then gL (lyF s.h) else if s.k = 0 ∧ sd = 0 then 24 else 9
structure Hw (sd : Int) (L : List Int) (fs : List Rl) (s : Pt) : Prop where
  eq : L = encL fs ++ s.pend
  ok : FsOk sd fs
  byt : ByL L
  st : (s.k = 2 ∧ s.h.length = 9 ∧ (sd = 0 → fs ≠ [])) ∨ (s.k = 1 ∧ (sd = 0 → fs ≠ [])) ∨ (s.k = 0 ∧ fs = [])
  le : (s.g.length : Int) ≤ s.want sd
  lt : s.k ≠ 2 → (s.g.length : Int) < s.want sd
theorem Pt.want_le {sd : Int} {s : Pt} {L : List Int} {fs : List Rl} (h : Hw sd L fs s) : 0 ≤ s.want sd ∧ s.want sd ≤ 16777215 := by
  have hl := h.le
  unfold Pt.want at *
  split
  · rename_i hk
    rcases h.st with ⟨_, h9, _⟩ | ⟨h1, _⟩ | ⟨h1, _⟩
    · have hb : ByL (s.h ++ s.g) := by
        have := h.byt
        rw [h.eq, Pt.pend, if_pos hk] at this
        exact this.right
      have := hdR_get (f := lyF s.h) (n := s.h.length) hb.left.byt (by omega)
      exact this.1
    · omega
    · omega
  · split <;> omega
theorem Hw.new (sd : Int) (h : List Int) : Hw sd [] [] ⟨0, h, []⟩ where
  eq := rfl
  ok := by unfold FsOk; split; exact .inl rfl; exact fun y hy => absurd hy (by simp)
  byt := fun x hx => absurd hx (by simp)
  st := .inr (.inr ⟨rfl, rfl⟩)
  le := by unfold Pt.want; simp; split <;> omega
  lt := fun _ => by unfold Pt.want; simp; split <;> omega
/-- The part is not whole: what is left is no frame. -/
theorem Hw.inc {sd : Int} {L : List Int} {fs : List Rl} {s : Pt} (h : Hw sd L fs s) (hlt : (s.g.length : Int) < s.want sd) : Inc sd fs s.pend := by
  unfold Inc
  rcases h.st with ⟨hk, h9, h0⟩ | ⟨hk, h0⟩ | ⟨hk, h0⟩
  · rw [if_neg (fun e => h0 e.1 e.2)]
    unfold Pt.pend Pt.want at *
    rw [if_pos hk] at *
    right
    have e : gL (lyF (s.h ++ s.g)) = gL (lyF s.h) := gL_congr fun i hi => lyF_left (by omega)
    rw [e, List.length_append]
    omega
  · rw [if_neg (fun e => h0 e.1 e.2)]
    unfold Pt.pend Pt.want at *
    rw [if_neg (by omega), if_neg (by omega)] at hlt
    rw [if_neg (by omega)]
    left
    omega
  · have e1 : s.pend = s.g := by unfold Pt.pend; rw [if_neg (by omega)]
    have e2 : s.want sd = if s.k = 0 ∧ sd = 0 then 24 else 9 := by unfold Pt.want; rw [if_neg (by omega)]
    rw [e1]
    rw [e2] at hlt
    by_cases hs : sd = 0
    · rw [if_pos ⟨hk, hs⟩] at hlt
      rw [if_pos ⟨hs, h0⟩]
      omega
    · rw [if_neg (fun e => hs e.2)] at hlt
      rw [if_neg (fun e => hs e.1)]
      left
      omega
/-- More bytes, at most as many as are wanted. -/
theorem Hw.more {sd : Int} {L M : List Int} {fs : List Rl} {s : Pt} (h : Hw sd L fs s) (hM : ByL M) (hle : ((s.g ++ M).length : Int) ≤ s.want sd) :
    L ++ M = encL fs ++ (⟨s.k, s.h, s.g ++ M⟩ : Pt).pend ∧ ByL (L ++ M) := by
  refine ⟨?_, h.byt.app hM⟩
  rw [h.eq, List.append_assoc]
  unfold Pt.pend
  dsimp only
  split
  · rw [List.append_assoc]
  · rfl
theorem Hw.stay {sd : Int} {L M : List Int} {fs : List Rl} {s : Pt} (h : Hw sd L fs s) (hM : ByL M) (hlt : ((s.g ++ M).length : Int) < s.want sd) : Hw sd (L ++ M) fs ⟨s.k, s.h, s.g ++ M⟩ :=
  ⟨(h.more hM (by omega)).1, h.ok, (h.more hM (by omega)).2, h.st, Int.le_of_lt hlt, fun _ => hlt⟩
theorem FsOk.snoc {sd : Int} {fs : List Rl} {x : Rl} (h : FsOk sd fs) (hx : x.Ok sd) (h0 : sd = 0 → fs ≠ []) : FsOk sd (fs ++ [x]) := by
  unfold FsOk at *
  by_cases hs : sd = 0
  · subst hs
    rw [if_pos rfl] at *
    rcases h with rfl | ⟨y, l, rfl, hy, hl⟩
    · exact absurd rfl (h0 rfl)
    · refine .inr ⟨y, l ++ [x], rfl, hy, fun z hz => ?_⟩
      rcases List.mem_append.1 hz with hz | hz
      · exact hl z hz
      · rw [List.mem_singleton.1 hz]; exact hx
  · rw [if_neg hs] at *
    intro z hz
    rcases List.mem_append.1 hz with hz | hz
    · exact h z hz
    · rw [List.mem_singleton.1 hz]; exact hx
/-- The frame of a head and a body. -/
def rlOf (sd : Int) (h g : List Int) : Rl := ⟨sd, lyF h 3, lyF h 4, lowN (gX (lyF h)), lowB (gX (lyF h)), g⟩
theorem rlOf_ok {sd : Int} {h g : List Int} (hb : ByL h) (h9 : h.length = 9) (hg : (g.length : Int) = gL (lyF h)) : (rlOf sd h g).Ok sd ∧ (rlOf sd h g).enc = h ++ g := by
  have hB := hb.byt
  rw [h9] at hB
  have hr := hdR_get hB (Nat.le_refl _)
  have hx := gX_bd hB (Nat.le_refl _)
  have hok : (rlOf sd h g).Ok sd := ⟨rfl, by show HdR (g.length : Int) _ _ _; rw [hg]; exact hr⟩
  refine ⟨hok, ?_⟩
  rw [hok.enc]
  have e : (rlOf sd h g).hd = h := by
    unfold Rl.hd
    show (List.range 9).map (hdF (g.length : Int) (lyF h 3) (lyF h 4) (hdX (lowN (gX (lyF h))) (lowB (gX (lyF h))))) = h
    rw [hg, hdX_low hx.1 hx.2]
    conv => rhs; rw [← map_ly h, h9]
    exact List.map_congr_left fun i hi => hd_back hB (Nat.le_refl _) i (List.mem_range.1 hi)
  rw [e]
  rfl
def preOf (g : List Int) : Rl := ⟨0, -1, 0, 0, false, g⟩
/-- A body is whole: a frame ends with it. -/
theorem Hw.body {sd : Int} {L M : List Int} {fs : List Rl} {s : Pt} (h : Hw sd L fs s) (hM : ByL M) (hk : s.k = 2) (he : ((s.g ++ M).length : Int) = s.want sd) : Hw sd (L ++ M) (fs ++ [rlOf sd s.h (s.g ++ M)]) ⟨1, s.h, []⟩ := by
  obtain ⟨h1, h2⟩ := h.more hM (Int.le_of_eq he)
  rcases h.st with ⟨_, h9, h0⟩ | ⟨hk', _⟩ | ⟨hk', _⟩
  · have hp : (⟨s.k, s.h, s.g ++ M⟩ : Pt).pend = s.h ++ (s.g ++ M) := by unfold Pt.pend; rw [if_pos hk]
    rw [hp] at h1
    have hbh : ByL s.h := by rw [h1] at h2; exact h2.right.left
    have hw : s.want sd = gL (lyF s.h) := by unfold Pt.want; rw [if_pos hk]
    rw [hw] at he
    obtain ⟨hok, henc⟩ := rlOf_ok (sd := sd) hbh h9 he
    refine ⟨?_, h.ok.snoc hok h0, h2, .inr (.inl ⟨rfl, fun _ => by simp⟩), ?_, fun _ => ?_⟩
    · rw [h1, encL_app]
      show _ = (encL fs ++ ((rlOf sd s.h (s.g ++ M)).enc ++ [])) ++ []
      rw [henc, List.append_nil, List.append_nil]
    · unfold Pt.want; simp
    · unfold Pt.want; simp
  · omega
  · omega
/-- The preface is whole. -/
theorem Hw.pre {L M : List Int} {fs : List Rl} {s : Pt} (h : Hw 0 L fs s) (hM : ByL M) (hk : s.k = 0) (he : ((s.g ++ M).length : Int) = s.want 0) : Hw 0 (L ++ M) (fs ++ [preOf (s.g ++ M)]) ⟨1, s.h, []⟩ := by
  obtain ⟨h1, h2⟩ := h.more hM (Int.le_of_eq he)
  rcases h.st with ⟨hk', _⟩ | ⟨hk', _⟩ | ⟨_, h0⟩
  · omega
  · omega
  · subst h0
    have hp : (⟨s.k, s.h, s.g ++ M⟩ : Pt).pend = s.g ++ M := by unfold Pt.pend; rw [if_neg (by show ¬ s.k = 2; omega)]
    rw [hp] at h1
    have hw : s.want 0 = 24 := by unfold Pt.want; rw [if_neg (by omega), if_pos ⟨hk, rfl⟩]
    rw [hw] at he
    refine ⟨?_, ?_, h2, .inr (.inl ⟨rfl, fun _ => by simp⟩), by unfold Pt.want; simp, fun _ => by unfold Pt.want; simp⟩
    · rw [h1]
      show [] ++ (s.g ++ M) = ((if (-1 : Int) = -1 then (s.g ++ M) else _) ++ []) ++ []
      rw [if_pos rfl]
      simp
    · unfold FsOk
      rw [if_pos rfl]
      exact .inr ⟨preOf (s.g ++ M), [], rfl, ⟨rfl, rfl, rfl, rfl, rfl, by show (s.g ++ M).length = 24; omega⟩, fun y hy => absurd hy (by simp)⟩
/-- A head is whole: its body is waited for. -/
theorem Hw.head {sd : Int} {L M : List Int} {fs : List Rl} {s : Pt} (h : Hw sd L fs s) (hM : ByL M) (hk : s.k ≠ 2) (hn : ¬ (s.k = 0 ∧ sd = 0)) (he : ((s.g ++ M).length : Int) = s.want sd) : Hw sd (L ++ M) fs ⟨2, s.g ++ M, []⟩ ∧ (s.g ++ M).length = 9 := by
  obtain ⟨h1, h2⟩ := h.more hM (Int.le_of_eq he)
  have hw : s.want sd = 9 := by unfold Pt.want; rw [if_neg hk, if_neg hn]
  rw [hw] at he
  have h9 : (s.g ++ M).length = 9 := by omega
  have hp : (⟨s.k, s.h, s.g ++ M⟩ : Pt).pend = s.g ++ M := by unfold Pt.pend; rw [if_neg hk]
  rw [hp] at h1
  have hbg : ByL (s.g ++ M) := by rw [h1] at h2; exact h2.right
  have hB := hbg.byt
  rw [h9] at hB
  refine ⟨⟨?_, h.ok, h2, .inl ⟨rfl, h9, fun e => ?_⟩, ?_, fun e => absurd rfl e⟩, h9⟩
  · rw [h1]
    unfold Pt.pend
    rw [if_pos rfl, List.append_nil]
  · rcases h.st with ⟨hk', _⟩ | ⟨_, h0⟩ | ⟨hk', _⟩
    · exact absurd hk' hk
    · exact h0 e
    · exact absurd ⟨hk', e⟩ hn
  · unfold Pt.want
    rw [if_pos rfl]
    exact (hdR_get hB (Nat.le_refl _)).1.1
theorem encL_many : ∀ {sd : Int} {fs : List Rl}, (∀ y ∈ fs, y.Ok sd) → 9 * fs.length ≤ (encL fs).length
  | _, [], _ => Nat.zero_le _
  | sd, x :: l, h => by
    have h1 := encL_many (fs := l) fun y hy => h y (List.mem_cons_of_mem _ hy)
    have h2 := (h x (List.mem_cons_self ..)).enc
    show _ ≤ (x.enc ++ encL l).length
    rw [List.length_append, h2, List.length_append, x.hd_len, List.length_cons]
    omega
theorem FsOk.many {sd : Int} {fs : List Rl} (h : FsOk sd fs) : 9 * fs.length ≤ (encL fs).length := by
  unfold FsOk at h
  split at h
  · rcases h with rfl | ⟨x, l, rfl, hx, hl⟩
    · exact Nat.zero_le _
    · have h1 := encL_many hl
      show _ ≤ (x.enc ++ encL l).length
      rw [List.length_append, hx.enc, hx.2.2.2.2.2, List.length_cons]
      omega
  · exact encL_many h
end Go.Proofs.Ytpnjamomkpkkeaa
