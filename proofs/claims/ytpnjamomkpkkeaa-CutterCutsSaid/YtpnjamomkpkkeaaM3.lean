/- Hea2, Hea3, HeaW, HeaG, HeaB in one text. -/
import Derived.Test.YtpnjamomkpkkeaaHea1
import Derived.RegionTactic
import Derived.ChangeAlike
import Derived.Deep.RegionHeld3
namespace Go.Proofs.Ytpnjamomkpkkeaa
set_option linter.unusedVariables false
set_option linter.unusedSimpArgs false
section
open Go.RowKit

theorem putL (A : Option Addr) (n c s m : Nat) (size v : Int) (hs : size = (s : Int)) (hm : m = n + s) (f : Nat → Int) (w : World) (ha : Rd .u8 w A n c f) (hn : n ≤ 140737488350000) (h1 : 1 ≤ s) (h2 : s ≤ 4) (h3 : 0 ≤ v) (h4 : v < pw s) :
    Calls Try.prog 156 #[.slice A n c, .int .i64 v, .int .i64 size] w (GaveO w m (putF n f s v)) := by
  subst hs
  subst hm
  exact put_own A n c s v f w ha hn h1 h2 h3 h4
theorem rputL (A : Option Addr) (n c s m : Nat) (size v : Int) (hs : size = (s : Int)) (hm : m = n + s) (f : Nat → Int) (w : World) (ha : Rd .u8 w A n c f) (hn : n ≤ 140737488350000) (h1 : 1 ≤ s) (h2 : s ≤ 4) (h3 : 0 ≤ v) (h4 : v < pw s) :
    Calls Try.prog 105 #[.slice A n c, .int .i64 v, .int .i64 size] w (GaveO w m (putF n f s v)) := by
  subst hs
  subst hm
  exact rput_own A n c s v f w ha hn h1 h2 h3 h4
/-- A head's nine bytes; x: the stream's number with its highest bit. -/
def hdF (l t f x : Int) : Nat → Int := putF 5 (putF 4 (putF 3 (putF 0 (oneF 0) 3 l) 1 t) 1 f) 4 x
def hdX (s : Int) (r : Bool) : Int := if r = true then s + 2147483648 else s
theorem hdX_bd {s : Int} (r : Bool) (h0 : 0 ≤ s) (h1 : s ≤ 2147483647) : 0 ≤ hdX s r ∧ hdX s r < pw 4 := by
  have : pw 4 = 4294967296 := by decide
  unfold hdX
  split <;> omega

set_option maxHeartbeats 800000 in
theorem hput_no (l t f s : Int) (r : Bool) (w : World) (h : ¬ HdR l t f s) : Calls Try.prog 119 #[.agg #[.int .i64 l, .int .i64 t, .int .i64 f, .int .i64 s, .bool r]] w fun e w' =>
    e = .returned (.tuple #[.slice none 0 0, .int .i64 5]) ∧ Below w.heap.size w w' := by
  have H := hide h
  clear h
  go_enter Try.func119, Try.ntmps119
  go_wp2_with fail
  refine (hright_no l t f s r _ H.out).mono ?_
  rintro e w1 ⟨rfl, hb1⟩
  go_wp2_with fail
  go_ret2
  exact ⟨rfl, ((Below.refl _ _).alloc (Nat.le_refl _) _).of hb1⟩
set_option maxHeartbeats 1600000 in
theorem hput_yes (l t f s : Int) (r : Bool) (w : World) (h : HdR l t f s) : Calls Try.prog 119 #[.agg #[.int .i64 l, .int .i64 t, .int .i64 f, .int .i64 s, .bool r]] w (GaveO w 9 (hdF l t f (hdX s r))) := by
  have H := hide h
  obtain ⟨⟨a0, a1⟩, ⟨b0, b1⟩, ⟨c0, c1⟩, ⟨d0, d1⟩⟩ := h
  have Hx := hide (hdX_bd r d0 d1)
  have R0 := hide (heap_alloc_new w (.cells #[.int .i64 l, .int .i64 t, .int .i64 f, .int .i64 s, .bool r] 55))
  have p3 : pw 3 = 16777216 := by decide
  have p1 : pw 1 = 256 := by decide
  have P3 : Hid (l < pw (3 : Nat)) := by show l < pw 3; omega
  have P1 : Hid (t < pw (1 : Nat)) := by show t < pw 1; omega
  have P2 : Hid (f < pw (1 : Nat)) := by show f < pw 1; omega
  clear p3 p1
  go_enter Try.func119, Try.ntmps119
  go_wp2_with fail
  refine (hright_yes l t f s r _ H.out).mono ?_
  rintro e w1 ⟨rfl, hb1⟩
  have R1 := hide (keepRow R0.out hb1)
  have hB1 := hide (((Below.refl w.heap.size w).alloc (Nat.le_refl _) _).of hb1)
  clear hb1 R0
  obtain ⟨q0, q1, q2, q3, q4⟩ := row5 R1.out
  go_wp2_with fail
  refine (with_ok _ _ _ d0 (by omega)).mono ?_
  rintro e w2 ⟨rfl, rfl⟩
  generalize hX : (if r = true then s + 2147483648 else s) = X
  have HX : Hid (hdX s r = X) := hX
  clear hX
  go_wp2_with fail
  refine (putL none 0 0 3 3 _ l rfl rfl (oneF 0) _ (Rd.nil _ _ _) (by omega) (by omega) (by omega) a0 P3.out).mono ?_
  rintro e w2 ⟨A1, k1, rfl, ho1, hb2⟩
  have R2 := hide (keepRow R1.out hb2)
  have hB2 := hide (hB1.out.of hb2)
  have Ho1 := hide ho1.rdS
  clear hb2 ho1 R1 hB1 q0 q1 q2 q3 q4
  obtain ⟨q0, q1, q2, q3, q4⟩ := row5 R2.out
  go_wp2_with fail
  refine (putL A1 3 k1 1 4 _ t rfl rfl _ _ Ho1.out (by omega) (by omega) (by omega) b0 P1.out).mono ?_
  rintro e w3 ⟨A2, k2, rfl, ho2, hb3⟩
  have R3 := hide (keepRow R2.out hb3)
  have hB3 := hide (hB2.out.of hb3)
  have Ho2 := hide ho2.rdS
  clear hb3 ho2 R2 hB2 q0 q1 q2 q3 q4
  obtain ⟨q0, q1, q2, q3, q4⟩ := row5 R3.out
  go_wp2_with fail
  refine (putL A2 4 k2 1 5 _ f rfl rfl _ _ Ho2.out (by omega) (by omega) (by omega) c0 P2.out).mono ?_
  rintro e w4 ⟨A3, k3, rfl, ho3, hb4⟩
  have hB4 := hide (hB3.out.of hb4)
  have Ho3 := hide ho3.rdS
  clear hb4 ho3 R3 hB3 q0 q1 q2 q3 q4
  go_wp2_with fail
  refine (putL A3 5 k3 4 9 _ X rfl rfl _ _ Ho3.out (by omega) (by omega) (by omega) (by rw [← HX.out]; exact Hx.out.1) (by rw [← HX.out]; exact Hx.out.2)).mono ?_
  rintro e w5 ⟨A4, k4, rfl, ho4, hb5⟩
  have hB5 := hide (hB4.out.of hb5)
  have Ho4 := hide (ho4.baseB hB4.out.size)
  clear hb5 ho4
  go_wp2_with fail
  go_ret2
  exact ⟨A4, k4, rfl, by rw [HX.out]; exact Ho4.out, hB5.out⟩

/-! ### the reference -/
def twoF (x y : Int) : Nat → Int := fun i => if i = 0 then x else y
theorem Rd.pairL (k : IntKind) (e : TypeId) (w : World) (x y : Int) : Rd k (w.alloc (.cells #[.int k x, .int k y] e)) (some ⟨w.heap.size, 0, none⟩) 2 2 (twoF x y) := by
  obtain ⟨A, c, e1, h, _⟩ := (Own.lit k e 0 w (twoF x y) #[.int k x, .int k y] 2 (Nat.zero_le _) (by simp [maxLen]) rfl).rd
  injection e1 with e1 _ e2
  subst e1
  subst e2
  exact h
theorem hdF_ref (l t f x : Int) (ht0 : 0 ≤ t) (ht1 : t ≤ 255) (hf0 : 0 ≤ f) (hf1 : f ≤ 255) : ∀ i, i < 9 → putF 5 (catF 3 (putF 0 (oneF 0) 3 l) (twoF t f)) 4 x i = hdF l t f x i := by
  intro i hi
  unfold hdF
  by_cases h5 : i < 5
  · have e : ∀ g : Nat → Int, putF 5 g 4 x i = g i := fun g => by simp [putF, catF, h5]
    rw [e, e]
    by_cases h3 : i < 3
    · have h4 : i < 4 := by omega
      simp [putF, catF, h3, h4]
    · have : i = 3 ∨ i = 4 := by omega
      rcases this with rfl | rfl
      · simp [putF, catF, twoF, byteAt]; omega
      · simp [putF, catF, twoF, byteAt]; omega
  · simp [putF, catF, h5]
set_option maxHeartbeats 1600000 in
theorem hrput (l t f s : Int) (r : Bool) (w : World) (h : HdR l t f s) : Calls Try.prog 76 #[.agg #[.int .i64 l, .int .i64 t, .int .i64 f, .int .i64 s, .bool r]] w fun e w' =>
    ∃ A c, e = .returned (.slice A 9 c) ∧ Own .u8 5 w.heap.size w' (.slice A 9 c) 9 (hdF l t f (hdX s r)) ∧ Below w.heap.size w w' := by
  obtain ⟨i0, hi, hz0, hz1, hz2⟩ := info_parts u8_info
  obtain ⟨⟨a0, a1⟩, ⟨b0, b1⟩, ⟨c0, c1⟩, ⟨d0, d1⟩⟩ := h
  have Hx := hide (hdX_bd r d0 d1)
  have Href := hide (hdF_ref l t f (hdX s r) b0 b1 c0 c1)
  have R0 := hide (heap_alloc_new w (.cells #[.int .i64 l, .int .i64 t, .int .i64 f, .int .i64 s, .bool r] 154))
  have p3 : pw 3 = 16777216 := by decide
  have P3 : Hid (l < pw (3 : Nat)) := by show l < pw 3; omega
  have wt : IntKind.u8.wrap t = t := IntWalk.u8_in _ (by omega)
  have wf : IntKind.u8.wrap f = f := IntWalk.u8_in _ (by omega)
  clear p3
  go_enter Try.func76, Try.ntmps76
  go_wp2_with fail
  refine (rputL none 0 0 3 3 _ l rfl rfl (oneF 0) _ (Rd.nil _ _ _) (by omega) (by omega) (by omega) a0 P3.out).mono ?_
  rintro e w1 ⟨A1, k1, rfl, ho1, hb1⟩
  have R1 := hide (keepRow R0.out hb1)
  have hB1 := hide (((Below.refl w.heap.size w).alloc (Nat.le_refl _) _).of hb1)
  have Ho1 : Hid (Own .u8 5 (w.heap.size + 1) w1 (.slice A1 3 k1) 3 (putF 0 (oneF 0) 3 l)) := ho1.baseB (by simp)
  clear hb1 ho1 R0
  obtain ⟨q0, q1, q2, q3, q4⟩ := row5 R1.out
  have hsz := hB1.out.size
  have hlt := rowLt R1.out
  cases r with
  | false =>
    set_option maxRecDepth 20000 in
    go_wp2_with (at_builtin; refine wp_app rfl (.tmp 12) (.tmp 19) _ rfl i0 0 1 Try.underlying22 hi hz0 hz1 hz2 (w.heap.size + 1) (.slice A1 3 k1) 3 _ rfl (Ho1.out.alloc _) _ 2 2 _ rfl (Rd.pairL .u8 5 _ _ _) (by simp only [maxLen]; omega) (by omega) (by simp; omega) ?_; intro v2 w2 hown2 hg2; have R2 := hide (keepGrown (keepRow R1.out ((Below.refl _ _).alloc (Nat.le_refl _) (.cells #[.int .u8 t, .int .u8 f] 5))) hg2 (Ho1.out.ne (Nat.lt_succ_self _))); have hB2 := hide ((hB1.out.alloc hsz (.cells #[.int .u8 t, .int .u8 f] 5)).grown hg2 (by simp; omega) (fun j e => by have := (World.ownsRow.lt Ho1.out j e).1; omega)); have Ho2 := hide hown2; clear hown2 hg2 q0 q1 q2 q3 q4; obtain ⟨q0, q1, q2, q3, q4⟩ := row5 R2.out)
    obtain ⟨A2, k2, rfl, hr2, _⟩ := Ho2.out.rd
    have Hr2 := hide hr2
    clear hr2
    go_wp2_with fail
    refine (rputL A2 (3 + 2) k2 4 9 _ s rfl rfl _ _ Hr2.out (by omega) (by omega) (by omega) d0 (by have := Hx.out.2; simpa [hdX] using this)).mono ?_
    rintro e w3 ⟨A3, k3, rfl, ho3, hb3⟩
    have hB3 := hide (hB2.out.of hb3)
    have Ho3 := hide ((ho3.baseB hB2.out.size).congr Href.out)
    clear hb3 ho3
    go_wp2_with fail
    go_ret
    exact ⟨A3, k3, rfl, Ho3.out, hB3.out⟩
  | true =>
    set_option maxRecDepth 20000 in
    go_wp2_with (at_builtin; refine wp_app rfl (.tmp 12) (.tmp 19) _ rfl i0 0 1 Try.underlying22 hi hz0 hz1 hz2 (w.heap.size + 1) (.slice A1 3 k1) 3 _ rfl (Ho1.out.alloc _) _ 2 2 _ rfl (Rd.pairL .u8 5 _ _ _) (by simp only [maxLen]; omega) (by omega) (by simp; omega) ?_; intro v2 w2 hown2 hg2; have R2 := hide (keepGrown (keepRow R1.out ((Below.refl _ _).alloc (Nat.le_refl _) (.cells #[.int .u8 t, .int .u8 f] 5))) hg2 (Ho1.out.ne (Nat.lt_succ_self _))); have hB2 := hide ((hB1.out.alloc hsz (.cells #[.int .u8 t, .int .u8 f] 5)).grown hg2 (by simp; omega) (fun j e => by have := (World.ownsRow.lt Ho1.out j e).1; omega)); have Ho2 := hide hown2; clear hown2 hg2 q0 q1 q2 q3 q4; obtain ⟨q0, q1, q2, q3, q4⟩ := row5 R2.out)
    obtain ⟨A2, k2, rfl, hr2, _⟩ := Ho2.out.rd
    have Hr2 := hide hr2
    clear hr2
    go_wp2_with fail
    refine (rputL A2 (3 + 2) k2 4 9 _ (s + 2147483648) rfl rfl _ _ Hr2.out (by omega) (by omega) (by omega) (by omega) (by have := Hx.out.2; simpa [hdX] using this)).mono ?_
    rintro e w3 ⟨A3, k3, rfl, ho3, hb3⟩
    have hB3 := hide (hB2.out.of hb3)
    have Ho3 := hide ((ho3.baseB hB2.out.size).congr Href.out)
    clear hb3 ho3
    go_wp2_with fail
    go_ret
    exact ⟨A3, k3, rfl, Ho3.out, hB3.out⟩
end

section
open Go.RowKit

/-- The numbers of a head's nine bytes. -/
def gL (f : Nat → Int) : Int := num f 3
def gT (f : Nat → Int) : Int := num (fun i => f (3 + i)) 1
def gF (f : Nat → Int) : Int := num (fun i => f (4 + i)) 1
def gX (f : Nat → Int) : Int := num (fun i => f (5 + i)) 4

set_option maxHeartbeats 400000 in
theorem hget_short (A : Option Addr) (n c : Nat) (w : World) (h : n < 9) : Calls Try.prog 157 #[.slice A n c] w fun e w' =>
    e = .returned (.tuple #[.agg #[.int .i64 0, .int .i64 0, .int .i64 0, .int .i64 0, .bool false], .int .i64 3]) ∧ Below w.heap.size w w' := by
  have hd : decide ((n : Int) < 9) = true := by simp; omega
  go_enter Try.func157, Try.ntmps157
  go_wp2_with fail
  refine bodyPost_ret (v := .tuple #[.agg #[.int .i64 0, .int .i64 0, .int .i64 0, .int .i64 0, .bool false], .int .i64 3]) ?_ rfl ⟨rfl, ?_⟩
  · rw [results_cell_tmp rfl]
    go_simp
  · repeat (first | exact (Below.refl _ _).alloc (Nat.le_refl _) _ | refine Below.setCell ?_ (by simp) _)

set_option maxHeartbeats 3200000 in
theorem hget_ok (A : Option Addr) (n c : Nat) (f : Nat → Int) (w : World) (ha : Rd .u8 w A n c f) (hb : Byt n f) (h : 9 ≤ n) : Calls Try.prog 157 #[.slice A n c] w fun e w' =>
    e = .returned (.tuple #[.agg #[.int .i64 (gL f), .int .i64 (gT f), .int .i64 (gF f), .int .i64 (lowN (gX f)), .bool (lowB (gX f))], .int .i64 0]) ∧ Below w.heap.size w w' := by
  have hd : decide ((n : Int) < 9) = false := by simp; omega
  have hnc := ha.1
  have hcut : ∀ W, (Instr.slice 22 (.slice A n c) none (some (.int .i64 9)) none).run Try.prog W = .ok (.slice (cutA A c 0) 9 c) W := fun W => bytes_cut_h A n c 9 (by omega) W
  have Hr : Hid (Rd .u8 w (cutA A c 0) 9 c f) := ha.front h
  have Hb : Hid (Byt 9 f) := fun i hi => hb i (by omega)
  have R0 := hide (heap_alloc_new w (.cells #[.int .i64 0, .int .i64 0, .int .i64 0, .int .i64 0, .bool false] 55))
  clear ha hb
  go_enter Try.func157, Try.ntmps157
  go_wp2_with fail
  refine (cnewA _ 9 c f _ (Hr.out.alloc _) (by omega)).mono ?_
  rintro e w1 ⟨p, A1, c1, rfl, hp, hcur, hA1, hb1⟩
  have R1 := hide (keepRow R0.out hb1)
  have hB1 := hide (((Below.refl w.heap.size w).alloc (Nat.le_refl _) _).of hb1)
  have Hcur := hide hcur
  have HA1 := hide hA1
  have hsz := hB1.out.size
  have hp1 := hcur.lt
  have hlt := rowLt R1.out
  simp at hp
  clear hb1 hcur hA1 R0 hcut
  have G0 := hide (heap_alloc_new w1 (.cells #[.int .i64 0, .int .i64 0, .int .i64 0, .int .i64 0, .bool false] 55))
  have Hc0 := hide (Hcur.out.below ((Below.refl w1.heap.size w1).alloc (Nat.le_refl _) (.cells #[.int .i64 0, .int .i64 0, .int .i64 0, .int .i64 0, .bool false] 55)))
  have hB0 := hide (hB1.out.alloc hsz (.cells #[.int .i64 0, .int .i64 0, .int .i64 0, .int .i64 0, .bool false] 55))
  have S0 := hide (keepRow R1.out ((Below.refl w1.heap.size w1).alloc (Nat.le_refl _) (.cells #[.int .i64 0, .int .i64 0, .int .i64 0, .int .i64 0, .bool false] 55)))
  clear R1 hB1
  go_wp2_with fail
  refine (numberA p 9 0 3 c1 A1 _ rfl f _ Hc0.out Hb.out (by omega) (by omega) (by omega)).mono ?_
  rintro e w2 ⟨rfl, hc, hg⟩
  generalize hX : num (fun i => f (0 + i)) 3 = x0
  have HX0 := hide hX
  have G0' := hide (keepOne G0.out hg (by omega))
  have S0' := hide (keepOne S0.out hg (by omega))
  have hB0' := hide (hB0.out.grown hg (by simp; omega) (fun j e => by have := Option.some.inj e; omega))
  have Hc' := hide hc
  have hs0 := hg.size
  simp at hs0
  clear hX hc hg G0 S0 hB0 Hc0
  obtain ⟨q0, q1, q2, q3, q4⟩ := row5 G0'.out
  have fz := frozenRow G0'.out 0
  have G1 : Hid ((w2.setCell ⟨w1.heap.size, 0, none⟩ (.int .i64 x0)).heap[w1.heap.size]? = some (.cells #[.int .i64 x0, .int .i64 0, .int .i64 0, .int .i64 0, .bool false] 55 (0, 0))) := setRow w2 w1.heap.size 0 (.int .i64 x0) G0'.out
  have S1 := hide (keepOne S0'.out (grown_set w2 w1.heap.size 0 (.int .i64 x0)) (by omega))
  have hB1 := hide (hB0'.out.setCell (p := ⟨w1.heap.size, 0, none⟩) hsz (.int .i64 x0))
  have Hc1 := hide (Hc'.out.other (grown_set w2 w1.heap.size 0 (.int .i64 x0)) (by omega) (fun a e => by have := (HA1.out a e).2; omega))
  clear G0' S0' hB0' Hc'
  go_wp2_with fail
  refine (numberA p 9 3 1 c1 A1 _ rfl f _ Hc1.out Hb.out (by omega) (by omega) (by omega)).mono ?_
  rintro e w3 ⟨rfl, hc, hg⟩
  generalize hX : num (fun i => f (3 + i)) 1 = x1
  have HX1 := hide hX
  have G1' := hide (keepOne G1.out hg (by omega))
  have S1' := hide (keepOne S1.out hg (by omega))
  have hB1' := hide (hB1.out.grown hg (by simp; omega) (fun j e => by have := Option.some.inj e; omega))
  have Hc' := hide hc
  have hs1 := hg.size
  simp at hs1
  clear hX hc hg G1 S1 hB1 Hc1
  obtain ⟨q0, q1, q2, q3, q4⟩ := row5 G1'.out
  have fz := frozenRow G1'.out 1
  have G2 : Hid ((w3.setCell ⟨w1.heap.size, 1, none⟩ (.int .i64 x1)).heap[w1.heap.size]? = some (.cells #[.int .i64 x0, .int .i64 x1, .int .i64 0, .int .i64 0, .bool false] 55 (0, 0))) := setRow w3 w1.heap.size 1 (.int .i64 x1) G1'.out
  have S2 := hide (keepOne S1'.out (grown_set w3 w1.heap.size 1 (.int .i64 x1)) (by omega))
  have hB2 := hide (hB1'.out.setCell (p := ⟨w1.heap.size, 1, none⟩) hsz (.int .i64 x1))
  have Hc2 := hide (Hc'.out.other (grown_set w3 w1.heap.size 1 (.int .i64 x1)) (by omega) (fun a e => by have := (HA1.out a e).2; omega))
  clear G1' S1' hB1' Hc'
  go_wp2_with fail
  refine (numberA p 9 4 1 c1 A1 _ rfl f _ Hc2.out Hb.out (by omega) (by omega) (by omega)).mono ?_
  rintro e w4 ⟨rfl, hc, hg⟩
  generalize hX : num (fun i => f (4 + i)) 1 = x2
  have HX2 := hide hX
  have G2' := hide (keepOne G2.out hg (by omega))
  have S2' := hide (keepOne S2.out hg (by omega))
  have hB2' := hide (hB2.out.grown hg (by simp; omega) (fun j e => by have := Option.some.inj e; omega))
  have Hc' := hide hc
  have hs2 := hg.size
  simp at hs2
  clear hX hc hg G2 S2 hB2 Hc2
  obtain ⟨q0, q1, q2, q3, q4⟩ := row5 G2'.out
  have fz := frozenRow G2'.out 2
  have G3 : Hid ((w4.setCell ⟨w1.heap.size, 2, none⟩ (.int .i64 x2)).heap[w1.heap.size]? = some (.cells #[.int .i64 x0, .int .i64 x1, .int .i64 x2, .int .i64 0, .bool false] 55 (0, 0))) := setRow w4 w1.heap.size 2 (.int .i64 x2) G2'.out
  have S3 := hide (keepOne S2'.out (grown_set w4 w1.heap.size 2 (.int .i64 x2)) (by omega))
  have hB3 := hide (hB2'.out.setCell (p := ⟨w1.heap.size, 2, none⟩) hsz (.int .i64 x2))
  have Hc3 := hide (Hc'.out.other (grown_set w4 w1.heap.size 2 (.int .i64 x2)) (by omega) (fun a e => by have := (HA1.out a e).2; omega))
  clear G2' S2' hB2' Hc'
  go_wp2_with fail
  refine (numberA p 9 5 4 c1 A1 _ rfl f _ Hc3.out Hb.out (by omega) (by omega) (by omega)).mono ?_
  rintro e w5 ⟨rfl, hc, hg⟩
  generalize hX : num (fun i => f (5 + i)) 4 = x3
  have HX3 := hide hX
  have G3' := hide (keepOne G3.out hg (by omega))
  have S3' := hide (keepOne S3.out hg (by omega))
  have hB3' := hide (hB3.out.grown hg (by simp; omega) (fun j e => by have := Option.some.inj e; omega))
  have Hc' := hide hc
  have hs3 := hg.size
  simp at hs3
  clear hX hc hg G3 S3 hB3 Hc3
  obtain ⟨q0, q1, q2, q3, q4⟩ := row5 G3'.out
  have fz := frozenRow G3'.out 3
  have fz4 := frozenRow G3'.out 4
  obtain ⟨s0, s1, s2, s3, s4⟩ := row5 S3'.out
  have z0 := frozenRow S3'.out 0
  have z1 := frozenRow S3'.out 1
  have z2 := frozenRow S3'.out 2
  have z3 := frozenRow S3'.out 3
  have z4 := frozenRow S3'.out 4
  have hne : w.heap.size ≠ w1.heap.size := by omega
  go_wp2_with fail
  refine (low_any x3 _).mono ?_
  rintro e w6 ⟨rfl, rfl⟩
  go_wp2_with fail
  refine bodyPost_ret (v := .tuple #[.agg #[.int .i64 (gL f), .int .i64 (gT f), .int .i64 (gF f), .int .i64 (lowN (gX f)), .bool (lowB (gX f))], .int .i64 0]) ?_ rfl ⟨rfl, ?_⟩
  · have e0 : gL f = x0 := by rw [← HX0.out]; unfold gL; simp
    have e1 : gT f = x1 := HX1.out
    have e2 : gF f = x2 := HX2.out
    have e3 : gX f = x3 := HX3.out
    rw [results_cell_tmp rfl, e0, e1, e2, e3]
    go_simp
  · exact ((((((((hB3'.out.setCell (by simp; omega) _).setCell (by simp; omega) _).setCell (by simp) _).setCell (by simp) _).setCell (by simp) _).setCell (by simp) _).setCell (by simp) _))

/-! ### the reference -/
theorem gT_eq (f : Nat → Int) : gT f = f 3 := by simp [gT, num]
theorem gF_eq (f : Nat → Int) : gF f = f 4 := by simp [gF, num]
set_option maxHeartbeats 400000 in
theorem rhget_short (A : Option Addr) (n c : Nat) (w : World) (h : n < 9) : Calls Try.prog 122 #[.slice A n c] w fun e w' =>
    e = .returned (.tuple #[.agg #[.int .i64 0, .int .i64 0, .int .i64 0, .int .i64 0, .bool false], .bool false]) ∧ Below w.heap.size w w' := by
  have hd : decide ((n : Int) < 9) = true := by simp; omega
  go_enter Try.func122, Try.ntmps122
  go_wp2_with fail
  refine bodyPost_ret (v := .tuple #[.agg #[.int .i64 0, .int .i64 0, .int .i64 0, .int .i64 0, .bool false], .bool false]) ?_ rfl ⟨rfl, ?_⟩
  · rw [results_cell_tmp rfl]
    go_simp
  · repeat (first | exact (Below.refl _ _).alloc (Nat.le_refl _) _ | refine Below.setCell ?_ (by simp) _)
theorem rgetL (A : Option Addr) (n c s : Nat) (size : Int) (hs : size = (s : Int)) (f : Nat → Int) (w : World) (ha : Rd .u8 w A n c f) (hb : Byt n f) (h1 : 1 ≤ s) (h2 : s ≤ 4) (h3 : s ≤ n) :
    Calls Try.prog 146 #[.slice A n c, .int .i64 size] w fun e w' => e = .returned (.tuple #[.int .i64 (num f s), .int .i64 0]) ∧ Drawn w w' := by
  subst hs
  exact rget_ok A n c s f w ha hb h1 h2 h3
set_option maxHeartbeats 3200000 in
theorem rhget_ok (A : Option Addr) (n c : Nat) (f : Nat → Int) (w : World) (ha : Rd .u8 w A n c f) (hb : Byt n f) (h : 9 ≤ n) : Calls Try.prog 122 #[.slice A n c] w fun e w' =>
    e = .returned (.tuple #[.agg #[.int .i64 (gL f), .int .i64 (f 3), .int .i64 (f 4), .int .i64 (lowN (gX f)), .bool (lowB (gX f))], .bool true]) ∧ Below w.heap.size w w' := by
  have hd : decide ((n : Int) < 9) = false := by simp; omega
  have hnc := ha.1
  have hcm := ha.2.1
  simp only [maxLen] at hcm
  have hcut : ∀ W, (Instr.slice 22 (.slice A n c) (some (.int .i64 5)) none none).run Try.prog W = .ok (.slice (cutA A c 5) (n - 5) (c - 5)) W := fun W => bytes_cut A n c 5 (by omega) W
  have Ha := hide ha
  have Hb := hide hb
  have Hb5 : Hid (Byt (n - 5) (fun i => f (5 + i))) := fun i hi => hb (5 + i) (by omega)
  have R0 := hide (heap_alloc_new w (.cells #[.int .i64 0, .int .i64 0, .int .i64 0, .int .i64 0, .bool false] 154))
  clear ha hb
  go_enter Try.func122, Try.ntmps122
  go_wp2_with fail
  refine (rgetL A n c 3 _ rfl f _ (Ha.out.alloc _) Hb.out (by omega) (by omega) (by omega)).mono ?_
  rintro e w1 ⟨rfl, hd1⟩
  have hb1 := drawn_below hd1 (w.alloc (.cells #[.int .i64 0, .int .i64 0, .int .i64 0, .int .i64 0, .bool false] 154)).heap.size
  have R1 := hide (keepRow R0.out hb1)
  have hB1 := hide (((Below.refl w.heap.size w).alloc (Nat.le_refl _) _).of hb1)
  generalize hX : num f 3 = x0
  have HX0 : Hid (gL f = x0) := hX
  clear hb1 hd1 R0 hX
  have Ha1 := hide ((Ha.out.below hB1.out).cutR (lo := 5) (hi := n) (by omega) (Nat.le_refl _))
  go_wp2_with fail
  refine (rgetL _ _ _ 4 _ rfl _ _ Ha1.out Hb5.out (by omega) (by omega) (by omega)).mono ?_
  rintro e w2 ⟨rfl, hd2⟩
  have hb2 := drawn_below hd2 w1.heap.size
  have R2 := hide (keepRow R1.out hb2)
  have hB2 := hide (hB1.out.of hb2)
  generalize hX : num (fun i => f (5 + i)) 4 = x3
  have HX3 : Hid (gX f = x3) := hX
  obtain ⟨b, off, rfl, hcell3⟩ := (Ha.out.below hB2.out).at_ (i := 3) (by omega)
  obtain ⟨b', off', hA, hcell4⟩ := (Ha.out.below hB2.out).at_ (i := 4) (by omega)
  obtain ⟨rfl, rfl⟩ : b = b' ∧ off = off' := by simpa using hA
  obtain ⟨u0, u1⟩ := Hb.out 3 (by omega)
  obtain ⟨u2, u3⟩ := Hb.out 4 (by omega)
  have hw3 : IntKind.i64.wrap (f 3) = f 3 := IntWalk.i64_in _ (by omega)
  have hw4 : IntKind.i64.wrap (f 4) = f 4 := IntWalk.i64_in _ (by omega)
  have k3 : (3 : Int) < (n : Int) := by omega
  have k4 : (4 : Int) < (n : Int) := by omega
  have hsz := hB2.out.size
  have hlt := rowLt R2.out
  clear hb2 hd2 R1 hX hcut Ha1 hB1 hA
  go_wp2_with fail
  have n3 := World.new_ne w2 _ hcell3
  have n4 := World.new_ne w2 _ hcell4
  go_region_held3 (fun w' : World => w'.cell? ⟨b, off + 3, none⟩ = some (.int .u8 (f 3)) ∧ w'.cell? ⟨b, off + 4, none⟩ = some (.int .u8 (f 4))) (go_keep) (fail)
  obtain ⟨s0, s1, s2, s3, s4⟩ := row5 R2.out
  have z0 := frozenRow R2.out 0
  have z1 := frozenRow R2.out 1
  have z2 := frozenRow R2.out 2
  have z3 := frozenRow R2.out 3
  have z4 := frozenRow R2.out 4
  have hne : w.heap.size ≠ w2.heap.size := by omega
  go_wp2_with fail
  refine (rlow_any x3 _).mono ?_
  rintro e w6 ⟨rfl, rfl⟩
  go_wp2_with fail
  refine bodyPost_ret (v := .tuple #[.agg #[.int .i64 (gL f), .int .i64 (f 3), .int .i64 (f 4), .int .i64 (lowN (gX f)), .bool (lowB (gX f))], .bool true]) ?_ rfl ⟨rfl, ?_⟩
  · rw [results_cell_tmp rfl, HX0.out, HX3.out]
    go_simp
  · refine Below.drew ?_
    refine Below.alloc ?_ (by simp; omega) _
    exact (((((hB2.out.setCell (by simp) _).setCell (by simp) _).setCell (by simp) _).setCell (by simp) _).setCell (by simp) _)
theorem results_cell1 {fn : Func} {p : Tmp} {ty : TypeId} (h : fn.results = #[.cell p ty]) (tmps : Array Value) (P : Program) (w : World) :
    (results fn tmps).run P w = ((asAddr (tmps.getD p undef)).run P w).andThen fun a w' => (loadVar ty a).run P w' := by
  simp [results, h]
/-! ### alive -/
def lit9 : Nat → Int := fun i => if i = 2 then 4 else if i = 3 then 8 else if i = 5 then 128 else if i = 8 then 1 else 0
theorem lit9_byt : Byt 9 lit9 := by intro i _; unfold lit9; repeat' split <;> omega
theorem Rd.litB (w : World) (cs : Array Value) (n : Nat) (f : Nat → Int) (hn : n ≤ maxLen) (h : cs.toList = row .u8 n f) {b : Nat} (hb : b = w.heap.size) : Rd .u8 (w.alloc (.cells cs 5)) (some ⟨b, 0, none⟩) n n f := by
  subst hb
  exact (Own.lit .u8 5 0 w f cs n (Nat.zero_le _) hn h).rdS
end

section
open Go.RowKit

/-! ### numbers there and back -/
theorem num_congr {f g : Nat → Int} {k : Nat} (h : ∀ i, i < k → f i = g i) : num f k = num g k := by
  induction k with
  | zero => rfl
  | succ k ih => simp only [num]; rw [ih (fun i hi => h i (by omega)), h k (by omega)]
theorem hdF_lo (l t f x : Int) (i : Nat) (h : i < 3) : hdF l t f x i = putF 0 (oneF 0) 3 l i := by
  have h4 : i < 4 := by omega
  have h5 : i < 5 := by omega
  simp [hdF, putF, catF, h, h4, h5]
theorem hdF_3 (l t f x : Int) : hdF l t f x 3 = t % 256 := by simp [hdF, putF, catF, byteAt]
theorem hdF_4 (l t f x : Int) : hdF l t f x 4 = f % 256 := by simp [hdF, putF, catF, byteAt]
theorem hdF_hi (l t f x : Int) (i : Nat) : hdF l t f x (5 + i) = putF 0 (oneF 0) 4 x i := by
  have h : ¬ (5 + i < 5) := by omega
  have e : 5 + i - 5 = i := by omega
  simp [hdF, putF, catF, h, e]
theorem hdF_byt (l t f x : Int) : Byt 9 (hdF l t f x) := by
  intro i hi
  have : i < 3 ∨ i = 3 ∨ i = 4 ∨ ∃ j, i = 5 + j := by
    by_cases h : i < 3
    · exact .inl h
    · by_cases h3 : i = 3
      · exact .inr (.inl h3)
      · by_cases h4 : i = 4
        · exact .inr (.inr (.inl h4))
        · exact .inr (.inr (.inr ⟨i - 5, by omega⟩))
  rcases this with h | rfl | rfl | ⟨j, rfl⟩
  · rw [hdF_lo _ _ _ _ _ h]; exact byteAt_byt l 3 0 (oneF 0) i (by omega)
  · rw [hdF_3]; omega
  · rw [hdF_4]; omega
  · rw [hdF_hi]; exact byteAt_byt x 4 0 (oneF 0) j (by omega)
theorem gL_hd (l t f x : Int) (h0 : 0 ≤ l) (h1 : l ≤ 16777215) : gL (hdF l t f x) = l := by
  unfold gL
  rw [num_congr (g := putF 0 (oneF 0) 3 l) (fun i hi => hdF_lo _ _ _ _ _ hi)]
  exact num_putN l 3 _ (by omega) (by omega) h0 (by have : pw (3 : Nat) = 16777216 := by decide
                                                    omega)
theorem gT_hd (l t f x : Int) (h0 : 0 ≤ t) (h1 : t ≤ 255) : gT (hdF l t f x) = t := by rw [gT_eq, hdF_3]; omega
theorem gF_hd (l t f x : Int) (h0 : 0 ≤ f) (h1 : f ≤ 255) : gF (hdF l t f x) = f := by rw [gF_eq, hdF_4]; omega
theorem gX_hd (l t f x : Int) (h0 : 0 ≤ x) (h1 : x < pw 4) : gX (hdF l t f x) = x := by
  unfold gX
  rw [num_congr (g := putF 0 (oneF 0) 4 x) (fun i _ => hdF_hi _ _ _ _ i)]
  exact num_putN x 4 _ (by omega) (by omega) h0 h1
theorem low_hd (s : Int) (r : Bool) (h0 : 0 ≤ s) (h1 : s ≤ 2147483647) : lowN (hdX s r) = s ∧ lowB (hdX s r) = r := by
  unfold hdX lowN lowB
  cases r
  · simp; omega
  · simp; omega
theorem hd_back {n : Nat} {f : Nat → Int} (hb : Byt n f) (h : 9 ≤ n) : ∀ i, i < 9 → hdF (gL f) (f 3) (f 4) (gX f) i = f i := by
  intro i hi
  have : i < 3 ∨ i = 3 ∨ i = 4 ∨ ∃ j, i = 5 + j := by
    by_cases h : i < 3
    · exact .inl h
    · by_cases h3 : i = 3
      · exact .inr (.inl h3)
      · by_cases h4 : i = 4
        · exact .inr (.inr (.inl h4))
        · exact .inr (.inr (.inr ⟨i - 5, by omega⟩))
  rcases this with h | rfl | rfl | ⟨j, rfl⟩
  · rw [hdF_lo _ _ _ _ _ h]
    exact put_num 3 n f (oneF 0) hb (by omega) (by omega) (by omega) i (by simpa using h)
  · rw [hdF_3]; have := hb 3 (by omega); omega
  · rw [hdF_4]; have := hb 4 (by omega); omega
  · rw [hdF_hi]
    have hb5 : Byt (n - 5) (fun i => f (5 + i)) := fun i hi => hb (5 + i) (by omega)
    exact put_num 4 (n - 5) (fun i => f (5 + i)) (oneF 0) hb5 (by omega) (by omega) (by omega) j (by simp; omega)
theorem gX_bd {n : Nat} {f : Nat → Int} (hb : Byt n f) (h : 9 ≤ n) : 0 ≤ gX f ∧ gX f < 4294967296 := by
  have hb5 : Byt (n - 5) (fun i => f (5 + i)) := fun i hi => hb (5 + i) (by omega)
  have := num_bd hb5 4 (by omega) (by omega)
  exact ⟨this.1, by have := this.2; simpa [gX] using this⟩
theorem hdR_get {n : Nat} {f : Nat → Int} (hb : Byt n f) (h : 9 ≤ n) : HdR (gL f) (f 3) (f 4) (lowN (gX f)) := by
  have h3 := num_bd hb 3 (by omega) (by omega)
  have e3 := hb 3 (by omega)
  have e4 := hb 4 (by omega)
  have l := low_bd (gX f)
  have h32 := h3.2
  simp at h32
  refine ⟨⟨h3.1, ?_⟩, e3, e4, l.1, by omega⟩
  show num f 3 ≤ 16777215
  omega
theorem hdX_low {x : Int} (h0 : 0 ≤ x) (h1 : x < 4294967296) : hdX (lowN x) (lowB x) = x := low_back x h0 h1

abbrev cs5 (l t f s : Int) (r : Bool) : Array Value := #[.int .i64 l, .int .i64 t, .int .i64 f, .int .i64 s, .bool r]

end

section
open Go.RowKit

end

section
open Go.RowKit

theorem cellKeep {w w' : World} (hb : Below w.heap.size w w') {a : Addr} {v : Value} (h : w.cell? a = some v) : w'.cell? a = some v := (hb.cell (World.block_lt_of_cell? w _ h)).trans h
section
variable {P : Program} {k : IntKind} {e : TypeId} {w : World} {ops : Array Oper} {o : Oper} {a : Act} {K : Act → World → Prop} {Q : Exit → Act → World → Prop} {E : Prop}
theorem step_app (hgd : o.guard = none) (s x : Operand) (t : TypeId) (ho : o.op = .call { callee := .builtin .append, args := #[s, x], argTypes := #[t, t] })
    (i : TypeInfo) (z : Int) (bytes : Nat) (ht : P.underlying t = some (.slice e)) (hi : P.info? e = some i) (hz : i.zero = some (.int k z)) (hsize : i.size = 1) (hby : i.bytes = bytes)
    (B : Nat) (v : Value) (n : Nat) (f : Nat → Int) (hs : a.eval s = v) (hown : Own k e B w v n f) (A : Option Addr) (m c : Nat) (g : Nat → Int) (hx : a.eval x = .slice A m c) (hr : Rd k w A m c g)
    (h63 : n + m ≤ maxLen) (hbytes : (n + m) * bytes ≤ 140737488355328) (hbase : B ≤ w.heap.size)
    (h : ∀ v' w', Own k e B w' v' (n + m) (catF n f g) → w.grownBy w' v.ownBlock → K (a.put o.dst v') w') :
    if Region.wanted o (yielded ops a.tmps) = true then Oper.wp P o a w K Q else E := by
  have hw : Region.wanted o (yielded ops a.tmps) = true := by simp [Region.wanted, hgd]
  rw [if_pos hw]
  obtain ⟨v', w', hrun, h2, h3⟩ := run_app (P := P) t o.type i z bytes ht hi hz hsize hby B v n f hown A m c g hr h63 hbytes hbase
  unfold Oper.wp execOp
  simp only [ho, resolve, invoke, builtin, Sem.run_bind, Sem.run_pure, Result.andThen_ok, List.map_toArray, List.map_cons, List.map_nil, hs, hx, hrun]
  exact h v' w' h2 h3
end

abbrev rawB (fr t f s : Int) (r : Bool) (A : Option Addr) (n c : Nat) : Obj := .cells #[.int .i64 fr, .int .i64 t, .int .i64 f, .int .i64 s, .bool r, .slice A n c] 29
theorem hof (fr t f s : Int) (r : Bool) (A : Option Addr) (n c : Nat) (w : World) : Calls Try.prog 65 #[.agg #[.int .i64 fr, .int .i64 t, .int .i64 f, .int .i64 s, .bool r, .slice A n c]] w fun e w' =>
    e = .returned (.agg #[.int .i64 n, .int .i64 t, .int .i64 f, .int .i64 s, .bool r]) ∧ (w.alloc (.cells #[.int .i64 fr, .int .i64 t, .int .i64 f, .int .i64 s, .bool r, .slice A n c] 29)).alloc (.cells #[.int .i64 n, .int .i64 t, .int .i64 f, .int .i64 s, .bool r] 55) = w' := by
  go_enter Try.func65, Try.ntmps65
  go_wp2_with fail
  refine bodyPost_ret (v := .agg #[.int .i64 n, .int .i64 t, .int .i64 f, .int .i64 s, .bool r]) ?_ rfl ⟨rfl, rfl⟩
  rw [results_cell1 rfl]
  go_simp

/-- What 'head.Bytes' gives where a frame has bytes. -/
def BytesAre (w : World) (n : Nat) (f : Nat → Int) (e : Ending) (w' : World) : Prop := Gave w n f e w'
set_option maxHeartbeats 800000 in
theorem hbytes_pre (fr f s : Int) (r : Bool) (A : Option Addr) (n c : Nat) (g : Nat → Int) (w : World) (ha : Rd .u8 w A n c g) (hn : n ≤ 100000) : Calls Try.prog 72 #[.agg #[.int .i64 fr, .int .i64 (-1), .int .i64 f, .int .i64 s, .bool r, .slice A n c]] w (Gave w n g) := by
  have Ha := hide ha
  clear ha
  go_enter Try.func72, Try.ntmps72
  go_wp2_with fail
  refine (clone_any A n c g _ (Ha.out.alloc _) (by omega)).mono ?_
  rintro e w1 ⟨v, rfl, hown, hb1⟩
  obtain ⟨A1, c1, rfl, hr1, _⟩ := hown.rd
  have Hr1 := hide hr1
  have hB1 := hide (((Below.refl w.heap.size w).alloc (Nat.le_refl _) _).of hb1)
  clear hown hr1 hb1
  go_wp2_with fail
  go_ret2
  exact ⟨A1, c1, rfl, Hr1.out, hB1.out⟩
set_option maxHeartbeats 800000 in
theorem hbytes_bad (fr t f s : Int) (r : Bool) (A : Option Addr) (n c : Nat) (w : World) (ht : t ≠ -1) (h : ¬ HdR n t f s) : Calls Try.prog 72 #[.agg #[.int .i64 fr, .int .i64 t, .int .i64 f, .int .i64 s, .bool r, .slice A n c]] w fun e w' => e = .returned (.tuple #[.slice none 0 0, .int .i64 5]) ∧ Below w.heap.size w w' := by
  have hd : (t == -1) = false := by simpa using ht
  have H := hide h
  clear h ht
  go_enter Try.func72, Try.ntmps72
  go_wp2_with fail
  refine (hof fr t f s r A n c _).mono ?_
  rintro e w1 ⟨rfl, rfl⟩
  go_wp2_with fail
  refine (hput_no n t f s r _ H.out).mono ?_
  rintro e w1 ⟨rfl, hb1⟩
  have hB1 := hide (((((Below.refl w.heap.size w).alloc (Nat.le_refl _) _).alloc (by simp) _).alloc (by simp; omega) _).of hb1)
  clear hb1
  go_wp2_with fail
  go_ret2
  exact ⟨rfl, hB1.out⟩
set_option maxHeartbeats 1600000 in
theorem hbytes_ok (fr t f s : Int) (r : Bool) (A : Option Addr) (n c : Nat) (g : Nat → Int) (w : World) (ha : Rd .u8 w A n c g) (hn : n ≤ 100000) (h : HdR n t f s) : Calls Try.prog 72 #[.agg #[.int .i64 fr, .int .i64 t, .int .i64 f, .int .i64 s, .bool r, .slice A n c]] w (Gave w (9 + n) (catF 9 (hdF n t f (hdX s r)) g)) := by
  obtain ⟨i0, hi, hz0, hz1, hz2⟩ := info_parts u8_info
  have hd : (t == -1) = false := by have := h.2.1.1; simp; omega
  have H := hide h
  have Ha := hide ha
  clear h ha
  have R0 := hide (keepRow (keepRow (heap_alloc_new w (.cells #[.int .i64 fr, .int .i64 t, .int .i64 f, .int .i64 s, .bool r, .slice A n c] 29)) ((Below.refl _ _).alloc (Nat.le_refl _) (.cells #[.int .i64 fr, .int .i64 t, .int .i64 f, .int .i64 s, .bool r, .slice A n c] 29))) ((Below.refl _ _).alloc (Nat.le_refl _) (.cells #[.int .i64 n, .int .i64 t, .int .i64 f, .int .i64 s, .bool r] 55)))
  go_enter Try.func72, Try.ntmps72
  go_wp2_with fail
  refine (hof fr t f s r A n c _).mono ?_
  rintro e w1 ⟨rfl, rfl⟩
  go_wp2_with fail
  refine (hput_yes n t f s r _ H.out).mono ?_
  rintro e w1 ⟨A1, k1, rfl, ho1, hb1⟩
  have R1 := hide (keepRow R0.out hb1)
  have hB1 := hide (((((Below.refl w.heap.size w).alloc (Nat.le_refl _) _).alloc (by simp) _).alloc (by simp; omega) _).of hb1)
  have Ho1 := hide ho1
  have hs := hB1.out.size
  have hlt := rowLt R1.out
  have hba := ho1.baseB (B' := w.heap.size) (by simp; omega)
  have Hba := hide hba
  have Ha1 := hide (Ha.out.below hB1.out)
  obtain ⟨q0, q1, q2, q3, q4, q5⟩ := row6 R1.out
  clear hb1 ho1 R0 hba
  go_wp2_with (at_builtin; refine wp_app rfl (.tmp 21) (.tmp 23) _ rfl i0 0 1 Try.underlying22 hi hz0 hz1 hz2 w.heap.size (.slice A1 9 k1) 9 _ rfl Hba.out A n c g rfl Ha1.out (by simp only [maxLen]; omega) (by omega) (by omega) ?_; intro v2 w2 hown2 hg2)
  have hB2 := hide (hB1.out.grown hg2 hs (fun j e => (World.ownsRow.lt Hba.out j e).1))
  obtain ⟨A2, k2, rfl, hr2, _⟩ := hown2.rd
  have Hr2 := hide hr2
  clear hown2 hg2 hr2
  go_wp2_with fail
  go_ret2
  exact ⟨A2, k2, rfl, Hr2.out, hB2.out⟩

/-! ### the reference -/
theorem rhbytes_pre (fr f s : Int) (r : Bool) (A : Option Addr) (n c : Nat) (w : World) : Calls Try.prog 30 #[.agg #[.int .i64 fr, .int .i64 (-1), .int .i64 f, .int .i64 s, .bool r, .slice A n c]] w fun e w' => e = .returned (.tuple #[.slice A n c, .bool true]) ∧ Below w.heap.size w w' := by
  go_enter Try.func30, Try.ntmps30
  go_wp2_with fail
  go_ret2
  exact ⟨rfl, (Below.refl _ _).alloc (Nat.le_refl _) _⟩
set_option maxHeartbeats 800000 in
theorem rhbytes_bad (fr t f s : Int) (r : Bool) (A : Option Addr) (n c : Nat) (w : World) (ht : t ≠ -1) (h : ¬ HdR n t f s) : Calls Try.prog 30 #[.agg #[.int .i64 fr, .int .i64 t, .int .i64 f, .int .i64 s, .bool r, .slice A n c]] w fun e w' => e = .returned (.tuple #[.slice none 0 0, .bool false]) ∧ Below w.heap.size w w' := by
  have hd : (t == -1) = false := by simpa using ht
  have H := hide h
  clear h ht
  go_enter Try.func30, Try.ntmps30
  go_wp2_with fail
  refine (rright_noX n t f s r _ H.out).mono ?_
  rintro e w1 ⟨rfl, rfl⟩
  go_wp2_with fail
  go_ret2
  exact ⟨rfl, (((Below.refl w.heap.size w).alloc (Nat.le_refl _) _).alloc (by simp) _).alloc (by simp; omega) _⟩
end
end Go.Proofs.Ytpnjamomkpkkeaa
