/- Layer 7: the contracts of 'head.Put' and of its reference. -/
import Derived.Test.YtfgifdgbhikegaaHea1
namespace Go.Proofs.Ytfgifdgbhikegaa
open Go.RowKit

theorem putL (A : Option Addr) (n c s m : Nat) (size v : Int) (hs : size = (s : Int)) (hm : m = n + s) (f : Nat → Int) (w : World) (ha : Rd .u8 w A n c f) (hn : n ≤ 140737488350000) (h1 : 1 ≤ s) (h2 : s ≤ 4) (h3 : 0 ≤ v) (h4 : v < pw s) :
    Calls Try.prog 62 #[.slice A n c, .int .i64 v, .int .i64 size] w (GaveO w m (putF n f s v)) := by
  subst hs
  subst hm
  exact put_own A n c s v f w ha hn h1 h2 h3 h4
theorem rputL (A : Option Addr) (n c s m : Nat) (size v : Int) (hs : size = (s : Int)) (hm : m = n + s) (f : Nat → Int) (w : World) (ha : Rd .u8 w A n c f) (hn : n ≤ 140737488350000) (h1 : 1 ≤ s) (h2 : s ≤ 4) (h3 : 0 ≤ v) (h4 : v < pw s) :
    Calls Try.prog 67 #[.slice A n c, .int .i64 v, .int .i64 size] w (GaveO w m (putF n f s v)) := by
  subst hs
  subst hm
  exact rput_own A n c s v f w ha hn h1 h2 h3 h4
/-- A head's nine bytes; x: the stream's number with its highest bit. -/
def hdF (l t f x : Int) : Nat → Int := putF 5 (putF 4 (putF 3 (putF 0 (oneF 0) 3 l) 1 t) 1 f) 4 x
def hdX (s : Int) (r : Bool) : Int := if r = true then s + 2147483648 else s
theorem hdX_bd {s : Int} (r : Bool) (h0 : 0 ≤ s) (h1 : s ≤ 2147483647) : 0 ≤ hdX s r ∧ hdX s r < pw 4 := by
  have : pw 4 = 4294967296 := by decide
  unfold hdX
  split <;> omega

set_option maxHeartbeats 800000 in
theorem hput_no (l t f s : Int) (r : Bool) (w : World) (h : ¬ HdR l t f s) : Calls Try.prog 24 #[.agg #[.int .i64 l, .int .i64 t, .int .i64 f, .int .i64 s, .bool r]] w fun e w' =>
    e = .returned (.tuple #[.slice none 0 0, .int .i64 5]) ∧ Below w.heap.size w w' := by
  have H := hide h
  clear h
  go_enter Try.func24, Try.ntmps24
  go_wp2_with fail
  refine (hright_no l t f s r _ H.out).mono ?_
  rintro e w1 ⟨rfl, hb1⟩
  go_wp2_with fail
  go_ret2
  exact ⟨rfl, ((Below.refl _ _).alloc (Nat.le_refl _) _).of hb1⟩
set_option maxHeartbeats 1600000 in
theorem hput_yes (l t f s : Int) (r : Bool) (w : World) (h : HdR l t f s) : Calls Try.prog 24 #[.agg #[.int .i64 l, .int .i64 t, .int .i64 f, .int .i64 s, .bool r]] w (GaveO w 9 (hdF l t f (hdX s r))) := by
  have H := hide h
  obtain ⟨⟨a0, a1⟩, ⟨b0, b1⟩, ⟨c0, c1⟩, ⟨d0, d1⟩⟩ := h
  have Hx := hide (hdX_bd r d0 d1)
  have R0 := hide (heap_alloc_new w (.cells #[.int .i64 l, .int .i64 t, .int .i64 f, .int .i64 s, .bool r] 48))
  have p3 : pw 3 = 16777216 := by decide
  have p1 : pw 1 = 256 := by decide
  have P3 : Hid (l < pw (3 : Nat)) := by show l < pw 3; omega
  have P1 : Hid (t < pw (1 : Nat)) := by show t < pw 1; omega
  have P2 : Hid (f < pw (1 : Nat)) := by show f < pw 1; omega
  clear p3 p1
  go_enter Try.func24, Try.ntmps24
  go_wp2_with fail
  refine (hright_yes l t f s r _ H.out).mono ?_
  rintro e w1 ⟨rfl, hb1⟩
  have R1 := hide (keepRow R0.out hb1)
  have hB1 := hide (((Below.refl w.heap.size w).alloc (Nat.le_refl _) _).of hb1)
  clear hb1 R0
  obtain ⟨q0, q1, q2, q3, q4⟩ := row5 R1.out
  go_wp2_with fail
  refine (with_ok _ _ _ d0 (by omega)).mono ?_
  rintro e w2 ⟨rfl, rfl⟩
  generalize hX : (if r = true then s + 2147483648 else s) = X
  have HX : Hid (hdX s r = X) := hX
  clear hX
  go_wp2_with fail
  refine (putL none 0 0 3 3 _ l rfl rfl (oneF 0) _ (Rd.nil _ _ _) (by omega) (by omega) (by omega) a0 P3.out).mono ?_
  rintro e w2 ⟨A1, k1, rfl, ho1, hb2⟩
  have R2 := hide (keepRow R1.out hb2)
  have hB2 := hide (hB1.out.of hb2)
  have Ho1 := hide ho1.rdS
  clear hb2 ho1 R1 hB1 q0 q1 q2 q3 q4
  obtain ⟨q0, q1, q2, q3, q4⟩ := row5 R2.out
  go_wp2_with fail
  refine (putL A1 3 k1 1 4 _ t rfl rfl _ _ Ho1.out (by omega) (by omega) (by omega) b0 P1.out).mono ?_
  rintro e w3 ⟨A2, k2, rfl, ho2, hb3⟩
  have R3 := hide (keepRow R2.out hb3)
  have hB3 := hide (hB2.out.of hb3)
  have Ho2 := hide ho2.rdS
  clear hb3 ho2 R2 hB2 q0 q1 q2 q3 q4
  obtain ⟨q0, q1, q2, q3, q4⟩ := row5 R3.out
  go_wp2_with fail
  refine (putL A2 4 k2 1 5 _ f rfl rfl _ _ Ho2.out (by omega) (by omega) (by omega) c0 P2.out).mono ?_
  rintro e w4 ⟨A3, k3, rfl, ho3, hb4⟩
  have hB4 := hide (hB3.out.of hb4)
  have Ho3 := hide ho3.rdS
  clear hb4 ho3 R3 hB3 q0 q1 q2 q3 q4
  go_wp2_with fail
  refine (putL A3 5 k3 4 9 _ X rfl rfl _ _ Ho3.out (by omega) (by omega) (by omega) (by rw [← HX.out]; exact Hx.out.1) (by rw [← HX.out]; exact Hx.out.2)).mono ?_
  rintro e w5 ⟨A4, k4, rfl, ho4, hb5⟩
  have hB5 := hide (hB4.out.of hb5)
  have Ho4 := hide (ho4.baseB hB4.out.size)
  clear hb5 ho4
  go_wp2_with fail
  go_ret2
  exact ⟨A4, k4, rfl, by rw [HX.out]; exact Ho4.out, hB5.out⟩

/-! ### the reference -/
def twoF (x y : Int) : Nat → Int := fun i => if i = 0 then x else y
theorem Rd.pairL (k : IntKind) (e : TypeId) (w : World) (x y : Int) : Rd k (w.alloc (.cells #[.int k x, .int k y] e)) (some ⟨w.heap.size, 0, none⟩) 2 2 (twoF x y) := by
  obtain ⟨A, c, e1, h, _⟩ := (Own.lit k e 0 w (twoF x y) #[.int k x, .int k y] 2 (Nat.zero_le _) (by simp [maxLen]) rfl).rd
  injection e1 with e1 _ e2
  subst e1
  subst e2
  exact h
theorem hdF_ref (l t f x : Int) (ht0 : 0 ≤ t) (ht1 : t ≤ 255) (hf0 : 0 ≤ f) (hf1 : f ≤ 255) : ∀ i, i < 9 → putF 5 (catF 3 (putF 0 (oneF 0) 3 l) (twoF t f)) 4 x i = hdF l t f x i := by
  intro i hi
  unfold hdF
  by_cases h5 : i < 5
  · have e : ∀ g : Nat → Int, putF 5 g 4 x i = g i := fun g => by simp [putF, catF, h5]
    rw [e, e]
    by_cases h3 : i < 3
    · have h4 : i < 4 := by omega
      simp [putF, catF, h3, h4]
    · have : i = 3 ∨ i = 4 := by omega
      rcases this with rfl | rfl
      · simp [putF, catF, twoF, byteAt]; omega
      · simp [putF, catF, twoF, byteAt]; omega
  · simp [putF, catF, h5]
set_option maxHeartbeats 1600000 in
theorem hrput (l t f s : Int) (r : Bool) (w : World) (h : HdR l t f s) : Calls Try.prog 30 #[.agg #[.int .i64 l, .int .i64 t, .int .i64 f, .int .i64 s, .bool r]] w fun e w' =>
    ∃ A c, e = .returned (.slice A 9 c) ∧ Own .u8 5 w.heap.size w' (.slice A 9 c) 9 (hdF l t f (hdX s r)) ∧ Below w.heap.size w w' := by
  obtain ⟨i0, hi, hz0, hz1, hz2⟩ := info_parts u8_info
  obtain ⟨⟨a0, a1⟩, ⟨b0, b1⟩, ⟨c0, c1⟩, ⟨d0, d1⟩⟩ := h
  have Hx := hide (hdX_bd r d0 d1)
  have Href := hide (hdF_ref l t f (hdX s r) b0 b1 c0 c1)
  have R0 := hide (heap_alloc_new w (.cells #[.int .i64 l, .int .i64 t, .int .i64 f, .int .i64 s, .bool r] 47))
  have p3 : pw 3 = 16777216 := by decide
  have P3 : Hid (l < pw (3 : Nat)) := by show l < pw 3; omega
  have wt : IntKind.u8.wrap t = t := IntWalk.u8_in _ (by omega)
  have wf : IntKind.u8.wrap f = f := IntWalk.u8_in _ (by omega)
  clear p3
  go_enter Try.func30, Try.ntmps30
  go_wp2_with fail
  refine (rputL none 0 0 3 3 _ l rfl rfl (oneF 0) _ (Rd.nil _ _ _) (by omega) (by omega) (by omega) a0 P3.out).mono ?_
  rintro e w1 ⟨A1, k1, rfl, ho1, hb1⟩
  have R1 := hide (keepRow R0.out hb1)
  have hB1 := hide (((Below.refl w.heap.size w).alloc (Nat.le_refl _) _).of hb1)
  have Ho1 : Hid (Own .u8 5 (w.heap.size + 1) w1 (.slice A1 3 k1) 3 (putF 0 (oneF 0) 3 l)) := ho1.baseB (by simp)
  clear hb1 ho1 R0
  obtain ⟨q0, q1, q2, q3, q4⟩ := row5 R1.out
  have hsz := hB1.out.size
  have hlt := rowLt R1.out
  cases r with
  | false =>
    set_option maxRecDepth 20000 in
    go_wp2_with (at_builtin; refine wp_app rfl (.tmp 12) (.tmp 19) _ rfl i0 0 1 Try.underlying49 hi hz0 hz1 hz2 (w.heap.size + 1) (.slice A1 3 k1) 3 _ rfl (Ho1.out.alloc _) _ 2 2 _ rfl (Rd.pairL .u8 5 _ _ _) (by simp only [maxLen]; omega) (by omega) (by simp; omega) ?_; intro v2 w2 hown2 hg2; have R2 := hide (keepGrown (keepRow R1.out ((Below.refl _ _).alloc (Nat.le_refl _) (.cells #[.int .u8 t, .int .u8 f] 5))) hg2 (Ho1.out.ne (Nat.lt_succ_self _))); have hB2 := hide ((hB1.out.alloc hsz (.cells #[.int .u8 t, .int .u8 f] 5)).grown hg2 (by simp; omega) (fun j e => by have := (World.ownsRow.lt Ho1.out j e).1; omega)); have Ho2 := hide hown2; clear hown2 hg2 q0 q1 q2 q3 q4; obtain ⟨q0, q1, q2, q3, q4⟩ := row5 R2.out)
    obtain ⟨A2, k2, rfl, hr2, _⟩ := Ho2.out.rd
    have Hr2 := hide hr2
    clear hr2
    go_wp2_with fail
    refine (rputL A2 (3 + 2) k2 4 9 _ s rfl rfl _ _ Hr2.out (by omega) (by omega) (by omega) d0 (by have := Hx.out.2; simpa [hdX] using this)).mono ?_
    rintro e w3 ⟨A3, k3, rfl, ho3, hb3⟩
    have hB3 := hide (hB2.out.of hb3)
    have Ho3 := hide ((ho3.baseB hB2.out.size).congr Href.out)
    clear hb3 ho3
    go_wp2_with fail
    go_ret
    exact ⟨A3, k3, rfl, Ho3.out, hB3.out⟩
  | true =>
    set_option maxRecDepth 20000 in
    go_wp2_with (at_builtin; refine wp_app rfl (.tmp 12) (.tmp 19) _ rfl i0 0 1 Try.underlying49 hi hz0 hz1 hz2 (w.heap.size + 1) (.slice A1 3 k1) 3 _ rfl (Ho1.out.alloc _) _ 2 2 _ rfl (Rd.pairL .u8 5 _ _ _) (by simp only [maxLen]; omega) (by omega) (by simp; omega) ?_; intro v2 w2 hown2 hg2; have R2 := hide (keepGrown (keepRow R1.out ((Below.refl _ _).alloc (Nat.le_refl _) (.cells #[.int .u8 t, .int .u8 f] 5))) hg2 (Ho1.out.ne (Nat.lt_succ_self _))); have hB2 := hide ((hB1.out.alloc hsz (.cells #[.int .u8 t, .int .u8 f] 5)).grown hg2 (by simp; omega) (fun j e => by have := (World.ownsRow.lt Ho1.out j e).1; omega)); have Ho2 := hide hown2; clear hown2 hg2 q0 q1 q2 q3 q4; obtain ⟨q0, q1, q2, q3, q4⟩ := row5 R2.out)
    obtain ⟨A2, k2, rfl, hr2, _⟩ := Ho2.out.rd
    have Hr2 := hide hr2
    clear hr2
    go_wp2_with fail
    refine (rputL A2 (3 + 2) k2 4 9 _ (s + 2147483648) rfl rfl _ _ Hr2.out (by omega) (by omega) (by omega) (by omega) (by have := Hx.out.2; simpa [hdX] using this)).mono ?_
    rintro e w3 ⟨A3, k3, rfl, ho3, hb3⟩
    have hB3 := hide (hB2.out.of hb3)
    have Ho3 := hide ((ho3.baseB hB2.out.size).congr Href.out)
    clear hb3 ho3
    go_wp2_with fail
    go_ret
    exact ⟨A3, k3, rfl, Ho3.out, hB3.out⟩
end Go.Proofs.Ytfgifdgbhikegaa
