/- Layer 15: the bytes of all frames, both sides. -/
import Derived.Test.YtpnjamomkpkkeaaEmd
import Derived.Test.YtpnjamomkpkkeaaRw2
import Derived.Test.YtpnjamomkpkkeaaHeaC
namespace Go.Proofs.Ytpnjamomkpkkeaa
set_option linter.unusedVariables false
set_option linter.unusedSimpArgs false
open Go.RowKit

def Fm.x (X : Fm) : Fm5 := ⟨X.T, X.fl, X.st, X.pd, X.n, X.f, X.n2, X.s, X.t, X.wt, X.pa, X.al, X.pm, X.la, X.co, X.sp⟩
def Fm.agg (X : Fm) : Value := .agg #[.int .i64 X.T, .int .i64 X.fl, .int .i64 X.st, .int .i64 X.pd, .slice X.A X.n X.c, .slice X.A2 X.n2 X.c2, .int .i64 X.wt, .int .i64 X.pa, .bool X.al, .int .i64 X.pm, .int .i64 X.la, .int .i64 X.co, .int .i64 X.sp]
def Fm.row (X : Fm) : Obj := .cells #[.int .i64 X.T, .int .i64 X.fl, .int .i64 X.st, .int .i64 X.pd, .slice X.A X.n X.c, .slice X.A2 X.n2 X.c2, .int .i64 X.wt, .int .i64 X.pa, .bool X.al, .int .i64 X.pm, .int .i64 X.la, .int .i64 X.co, .int .i64 X.sp] 25
def Fm.Sml (X : Fm) : Prop := X.n ≤ 2000 ∧ X.n2 ≤ 100
/-- A frame's bytes, its head among them. -/
def ebL (X : Fm5) : List Int := (List.range (9 + X.emL.length)).map (catF 9 (hdF X.emL.length X.T X.fl (hdX X.st false)) (lF X.emL))
theorem ebL_len (X : Fm5) : (ebL X).length = 9 + X.emL.length := by simp [ebL]
theorem ebL_rd {w : World} {X : Fm5} {A : Option Addr} {c : Nat} (h : Rd .u8 w A (9 + X.emL.length) c (catF 9 (hdF X.emL.length X.T X.fl (hdX X.st false)) (lF X.emL))) : Rd .u8 w A (ebL X).length c (lF (ebL X)) := by
  rw [ebL_len]
  exact rd_list h
theorem fbytes15 (X : Fm) (w : World) (h : FmO w X) (hs : X.Sml) : Calls Try.prog 24 #[X.agg] w fun e w' => Below w.heap.size w w' ∧ ((X.x.Ok ∧ ∃ A c, e = .returned (.tuple #[.slice A (ebL X.x).length c, .int .i64 0]) ∧ Rd .u8 w' A (ebL X.x).length c (lF (ebL X.x))) ∨ (¬ X.x.Ok ∧ e = .returned (.tuple #[.slice none 0 0, .int .i64 1]))) := by
  have hI : X.fl ≤ 9223372036854775807 := by have := h.2.2.2.2.1; unfold I64 at this; omega
  refine (ebytes15 X.T X.fl X.st X.pd X.A X.n X.c X.f X.A2 X.n2 X.c2 X.s X.t X.wt X.pa X.al X.pm X.la X.co X.sp hI hs.1 (by have := hs.2; omega) w h.1 h.2.1 h.2.2.1).mono ?_
  rintro e w' ⟨hb, ⟨hok, A, c, rfl, hr⟩ | ⟨hno, rfl⟩⟩
  · exact ⟨hb, .inl ⟨hok, A, c, by rw [ebL_len]; rfl, ebL_rd hr⟩⟩
  · exact ⟨hb, .inr ⟨hno, rfl⟩⟩
theorem fraw15 (X : Fm) (w : World) (h : FmO w X) (hs : X.Sml) : Calls Try.prog 16 #[X.agg, .int .i64 0] w fun e w' => Below w.heap.size w w' ∧ ((X.x.Ok ∧ X.x.emL.length ≤ 9000 ∧ HdR X.x.emL.length X.T X.fl X.st ∧ ∃ A c, e = .returned (.tuple #[.agg #[.int .i64 0, .int .i64 X.T, .int .i64 X.fl, .int .i64 X.st, .bool false, .slice A X.x.emL.length c], .bool true]) ∧ Rd .u8 w' A X.x.emL.length c (lF X.x.emL)) ∨ (¬ X.x.Ok ∧ e = .returned (.tuple #[.agg #[.int .i64 0, .int .i64 0, .int .i64 0, .int .i64 0, .bool false, .slice none 0 0], .bool false]))) := by
  have hI : X.fl ≤ 9223372036854775807 := by have := h.2.2.2.2.1; unfold I64 at this; omega
  refine (rraw15 0 X.T X.fl X.st X.pd X.A X.n X.c X.f X.A2 X.n2 X.c2 X.s X.t X.wt X.pa X.al X.pm X.la X.co X.sp hI hs.1 (by have := hs.2; omega) w h.1 h.2.1 h.2.2.1).mono ?_
  rintro e w' ⟨hb, ⟨⟨_, hok⟩, A, c, rfl, hr⟩ | ⟨hno, rfl⟩⟩
  · exact ⟨hb, .inl ⟨hok, emL_top hok hs.1 (Nat.le_trans hs.2 (by decide)), (frR_good (T := X.T) (fl := X.fl) (st := X.st) hok.2.2.1 hok.2.1).2, A, c, rfl, hr⟩⟩
  · exact ⟨hb, .inr ⟨fun hk => hno ⟨.inl rfl, hk⟩, rfl⟩⟩
/-- The bytes of the first k. -/
def allL (F : Nat → Fm) : Nat → List Int
  | 0 => []
  | k + 1 => allL F k ++ ebL (F k).x
def All5 (F : Nat → Fm) (n : Nat) (yes no : Value) (w : World) (e : Ending) (w' : World) : Prop :=
  Below w.heap.size w w' ∧ (((∀ i, i < n → (F i).x.Ok) ∧ ∃ A c, e = .returned (.tuple #[.slice A (allL F n).length c, yes]) ∧ Rd .u8 w' A (allL F n).length c (lF (allL F n))) ∨ ((¬ ∀ i, i < n → (F i).x.Ok) ∧ e = .returned (.tuple #[.slice none 0 0, no])))
theorem ebL_top {X : Fm} (h : X.x.Ok) (hs : X.Sml) : (ebL X.x).length ≤ 9100 := by
  rw [ebL_len]
  have := emL_top h hs.1 (Nat.le_trans hs.2 (by decide))
  omega
theorem allL_top (F : Nat → Fm) : ∀ k, (∀ i, i < k → (F i).x.Ok) → (∀ i, i < k → (F i).Sml) → (allL F k).length ≤ 9100 * k
  | 0, _, _ => Nat.le_refl _
  | k + 1, h, hs => by
    have h1 := allL_top F k (fun i hi => h i (by omega)) (fun i hi => hs i (by omega))
    have h2 := ebL_top (h k (by omega)) (hs k (by omega))
    show (allL F k ++ ebL (F k).x).length ≤ _
    rw [List.length_append]
    omega
/-- A round's bytes put behind. -/
theorem app_all {e : TypeId} {B : Nat} {w w' : World} {v' : Value} {L M : List Int} {n m : Nat} (ho : Own .u8 e B w' v' (n + m) (catF n (lF L) (lF M))) (hn : n = L.length) (hm : m = M.length) : Own .u8 e B w' v' (L ++ M).length (lF (L ++ M)) := by
  subst hn hm
  rw [List.length_append]
  exact Own.congr ho fun i hi => (lF_app hi).symm
set_option maxRecDepth 20000 in
set_option maxHeartbeats 3200000 in
theorem pall15 (A : Option Addr) (n c : Nat) (F : Nat → Fm) (w : World) (ha : RdFm w A n c F) (hn : n ≤ 30) (hs : ∀ i, i < n → (F i).Sml) : Calls Try.prog 21 #[.slice A n c] w (All5 F n (.int .i64 0) (.int .i64 1) w) := by
  obtain ⟨i0, hi, hz0, hz1, hz2⟩ := info_parts u8_info
  have Ha := hide ha
  have HS := hide hs
  clear ha hs
  go_enter Try.func21, Try.ntmps21
  go_wp2_with fail
  go_loopw [4, 11] (fun v i wr => ∃ k : Nat, k ≤ n ∧ i = .int .i64 k ∧ Own .u8 5 w.heap.size wr v (allL F k).length (lF (allL F k)) ∧ (∀ j, j < k → (F j).x.Ok) ∧ Below w.heap.size w wr) (fun _ i _ => n - (intOf i).toNat)
  case atStart => exact ⟨0, Nat.zero_le _, rfl, Own.nil _ _ _ _ _, fun j hj => absurd hj (by omega), Below.refl _ _⟩
  case round =>
    obtain ⟨k, hk, rfl, ho, hall, hb⟩ := hrel
    obtain ⟨Av, cv, hv, _, _⟩ := ho.rd
    subst hv
    have HO := hide ho
    have HALL := hide hall
    have HB := hide hb
    clear ho hall hb
    by_cases hlt : k < n
    rotate_left
    · obtain rfl : n = k := by omega
      go_wp2_with fail
      go_ret2
      exact ⟨HB.out, .inl ⟨HALL.out, Av, cv, rfl, HO.out.rdS⟩⟩
    have hkn : (k : Int) < (n : Int) := by omega
    have Hw := hide (Ha.out.below HB.out)
    obtain ⟨b, off, rfl, hc⟩ := Hw.out.at_ hlt
    have HX := hide (Hw.out.2.2.2.2 k hlt)
    have hsm := HS.out k hlt
    have hpl := allL_top F k HALL.out fun i hi => HS.out i (by omega)
    have hLk : allL F (k + 1) = allL F k ++ ebL (F k).x := rfl
    have HLk := hide hLk
    have HNX : Hid (∀ j, j < k + 1 → ((F k).x.Ok → (F j).x.Ok)) := fun j hj h => by
      by_cases e : j = k
      · rw [e]; exact h
      · exact HALL.out j (by omega)
    have HNO : Hid (¬ (F k).x.Ok → ¬ ∀ i, i < n → (F i).x.Ok) := fun h hh => h (hh k hlt)
    clear hLk Hw
    generalize allL F k = L at *
    generalize F k = X at *
    obtain ⟨h0, h1, h2, h3, h4, h5, h6, h7, h8, h9, h10, h11, h12⟩ := hc
    have a3 := (Below.refl wr.heap.size wr).alloc (Nat.le_refl _) X.row
    have RX := hide (heap_alloc_new wr X.row)
    have E1 := hide (HB.out.of a3)
    have O1 := hide (HO.out.below a3)
    have X1 := hide (HX.out.below a3)
    have C := hide (fun W (h : FmO W X) => fbytes15 X W h hsm)
    have htop : X.x.Ok → (ebL X.x).length ≤ 9100 := fun h => ebL_top h hsm
    clear a3 HO HX
    obtain ⟨T, fl, st, pd, XA, xn, xc, xf, XA2, xn2, xc2, xs, xt, wt, pa, al, pm, la, co, sp⟩ := X
    simp only [Fm.row] at RX E1 O1 X1
    simp only [Fm.agg] at C
    simp only at h0 h1 h2 h3 h4 h5 h6 h7 h8 h9 h10 h11 h12
    go_upto_region 5 with (fail)
    clear h0 h1 h2 h3 h4 h5 h6 h7 h8 h9 h10 h11 h12
    generalize hW : wr.alloc (.cells #[.int .i64 T, .int .i64 fl, .int .i64 st, .int .i64 pd, .slice XA xn xc, .slice XA2 xn2 xc2, .int .i64 wt, .int .i64 pa, .bool al, .int .i64 pm, .int .i64 la, .int .i64 co, .int .i64 sp] 25) = W1 at *
    generalize hQ : wr.heap.size = q at *
    clear hW hQ
    obtain ⟨x0, x1, x2, x3, x4, x5, x6, x7, x8, x9, x10, x11, x12⟩ := row13 RX.out
    go_wp2_with fail
    refine (C.out _ X1.out).mono ?_
    rintro e W2 ⟨hb2, ⟨hok, A2, c2, rfl, hr2⟩ | ⟨hno, rfl⟩⟩
    rotate_left
    · have E2 := hide (E1.out.of hb2)
      have HN := hide (HNO.out hno)
      clear hb2 hno x0 x1 x2 x3 x4 x5 x6 x7 x8 x9 x10 x11 x12
      go_wp2_with fail
      go_ret2
      exact ⟨E2.out, .inr ⟨HN.out, rfl⟩⟩
    have E2 := hide (E1.out.of hb2)
    have O2 := hide (O1.out.below hb2)
    have R2 := hide hr2
    have HOK := hide (fun j hj => HNX.out j hj hok)
    have hm2 := htop hok
    clear hb2 hok hr2 htop x0 x1 x2 x3 x4 x5 x6 x7 x8 x9 x10 x11 x12
    generalize ebL _ = M at *
    go_wp2_with (first | (at_builtin; refine wp_app rfl (.tmp 23) (.tmp 24) _ rfl i0 0 1 Try.underlying22 hi hz0 hz1 hz2 w.heap.size _ L.length (lF L) rfl O2.out A2 M.length c2 (lF M) rfl R2.out (by simp only [maxLen]; omega) (by omega) E2.out.size ?_; intro v3 w3 ho3 hg3; have O3 := hide (app_all (w := W2) ho3 rfl rfl); have E3 := hide (E2.out.grown hg3 E2.out.size (fun kk e => (World.ownsRow.lt O2.out kk e).1)); clear ho3 hg3))
    go_roundw
    case rel => exact ⟨k + 1, by omega, by go_num, by rw [HLk.out]; exact O3.out, HOK.out, E3.out⟩
    case measure => simp [intOf]; omega
set_option maxRecDepth 20000 in
set_option maxHeartbeats 3200000 in
theorem rall15 (A : Option Addr) (n c : Nat) (F : Nat → Fm) (w : World) (ha : RdFm w A n c F) (hn : n ≤ 30) (hs : ∀ i, i < n → (F i).Sml) : Calls Try.prog 22 #[.slice A n c] w (All5 F n (.bool true) (.bool false) w) := by
  obtain ⟨i0, hi, hz0, hz1, hz2⟩ := info_parts u8_info
  have Ha := hide ha
  have HS := hide hs
  clear ha hs
  go_enter Try.func22, Try.ntmps22
  go_wp2_with fail
  go_loopw [4, 5] (fun v i wr => ∃ k : Nat, k ≤ n ∧ i = .int .i64 k ∧ Own .u8 5 w.heap.size wr v (allL F k).length (lF (allL F k)) ∧ (∀ j, j < k → (F j).x.Ok) ∧ Below w.heap.size w wr) (fun _ i _ => n - (intOf i).toNat)
  case atStart => exact ⟨0, Nat.zero_le _, rfl, Own.nil _ _ _ _ _, fun j hj => absurd hj (by omega), Below.refl _ _⟩
  case round =>
    obtain ⟨k, hk, rfl, ho, hall, hb⟩ := hrel
    obtain ⟨Av, cv, hv, _, _⟩ := ho.rd
    subst hv
    have HO := hide ho
    have HALL := hide hall
    have HB := hide hb
    clear ho hall hb
    by_cases hlt : k < n
    rotate_left
    · obtain rfl : n = k := by omega
      go_wp2_with fail
      go_ret2
      exact ⟨HB.out, .inl ⟨HALL.out, Av, cv, rfl, HO.out.rdS⟩⟩
    have hkn : (k : Int) < (n : Int) := by omega
    have Hw := hide (Ha.out.below HB.out)
    obtain ⟨b, off, rfl, hc⟩ := Hw.out.at_ hlt
    have HX := hide (Hw.out.2.2.2.2 k hlt)
    have hsm := HS.out k hlt
    have hpl := allL_top F k HALL.out fun i hi => HS.out i (by omega)
    have hLk : allL F (k + 1) = allL F k ++ ebL (F k).x := rfl
    have HLk := hide hLk
    have HNX : Hid (∀ j, j < k + 1 → ((F k).x.Ok → (F j).x.Ok)) := fun j hj h => by
      by_cases e : j = k
      · rw [e]; exact h
      · exact HALL.out j (by omega)
    have HNO : Hid (¬ (F k).x.Ok → ¬ ∀ i, i < n → (F i).x.Ok) := fun h hh => h (hh k hlt)
    clear hLk Hw
    generalize allL F k = L at *
    generalize F k = X at *
    obtain ⟨h0, h1, h2, h3, h4, h5, h6, h7, h8, h9, h10, h11, h12⟩ := hc
    have C := hide (fun W (h : FmO W X) => fraw15 X W h hsm)
    have htop : X.x.Ok → (ebL X.x).length ≤ 9100 := fun h => ebL_top h hsm
    obtain ⟨T, fl, st, pd, XA, xn, xc, xf, XA2, xn2, xc2, xs, xt, wt, pa, al, pm, la, co, sp⟩ := X
    simp only [Fm.agg] at C
    simp only at h0 h1 h2 h3 h4 h5 h6 h7 h8 h9 h10 h11 h12
    go_wp2_with fail
    refine (C.out _ HX.out).mono ?_
    rintro e W1 ⟨hb1, ⟨hok, hle, hhd, A1, c1, rfl, hr1⟩ | ⟨hno, rfl⟩⟩
    rotate_left
    · have E2 := hide ((HB.out.of hb1).of ((Below.refl W1.heap.size W1).alloc (Nat.le_refl _) (.cells #[.int .i64 0, .int .i64 0, .int .i64 0, .int .i64 0, .bool false, .slice none 0 0] 29)))
      have HN := hide (HNO.out hno)
      clear hb1 hno h0 h1 h2 h3 h4 h5 h6 h7 h8 h9 h10 h11 h12
      go_wp2_with fail
      go_ret2
      exact ⟨E2.out, .inr ⟨HN.out, rfl⟩⟩
    obtain ⟨Y, hY⟩ : ∃ Y : Fm5, Y = (Fm.x ⟨T, fl, st, pd, XA, xn, xc, xf, XA2, xn2, xc2, xs, xt, wt, pa, al, pm, la, co, sp⟩) := ⟨_, rfl⟩
    have hYT : Y.T = T ∧ Y.fl = fl ∧ Y.st = st := by rw [hY]; exact ⟨rfl, rfl, rfl⟩
    rw [← hY] at hle hr1 hok HLk HNX HNO htop ⊢
    try simp only at hhd
    rw [← hY] at hhd
    have a3 := (Below.refl W1.heap.size W1).alloc (Nat.le_refl _) (.cells #[.int .i64 0, .int .i64 T, .int .i64 fl, .int .i64 st, .bool false, .slice A1 Y.emL.length c1] 29)
    have G3 := hide (heap_alloc_new W1 (.cells #[.int .i64 0, .int .i64 T, .int .i64 fl, .int .i64 st, .bool false, .slice A1 Y.emL.length c1] 29))
    have E3 := hide ((HB.out.of hb1).of a3)
    have O3 := hide ((HO.out.below hb1).below a3)
    have D3 := hide (hr1.below a3)
    have HOK := hide (fun j hj => HNX.out j hj hok)
    have HHD := hide hhd
    have hm2 := htop hok
    have HYT := hide hYT
    clear hb1 a3 hr1 hY HX HO h0 h1 h2 h3 h4 h5 h6 h7 h8 h9 h10 h11 h12 C hhd hok htop hYT
    go_upto_region 8 with (fail)
    generalize hW : W1.alloc (.cells #[.int .i64 0, .int .i64 T, .int .i64 fl, .int .i64 st, .bool false, .slice A1 Y.emL.length c1] 29) = W2 at *
    generalize hQ : W1.heap.size = q at *
    clear hW hQ
    obtain ⟨y0, y1, y2, y3, y4, y5⟩ := row6 G3.out
    go_wp2_with fail
    refine (rhbytes_ok 0 T fl st false A1 Y.emL.length c1 (lF Y.emL) W2 D3.out (by omega) HHD.out).mono ?_
    rintro e W3 ⟨A4, c4, rfl, hr4, hb4⟩
    have hel : 9 + Y.emL.length = (ebL Y).length := (ebL_len Y).symm
    have hr4' : Rd .u8 W3 A4 (ebL Y).length c4 (lF (ebL Y)) := ebL_rd (by rw [HYT.out.1, HYT.out.2.1, HYT.out.2.2]; exact hr4)
    rw [hel]
    have E4 := hide (E3.out.of hb4)
    have O4 := hide (O3.out.below hb4)
    have R4 := hide hr4'
    clear hb4 hr4 hr4' hel y0 y1 y2 y3 y4 y5 D3 HHD HYT
    generalize ebL Y = M at *
    go_wp2_with (first | (at_builtin; refine wp_app rfl (.tmp 31) (.tmp 32) _ rfl i0 0 1 Try.underlying22 hi hz0 hz1 hz2 w.heap.size _ L.length (lF L) rfl O4.out A4 M.length c4 (lF M) rfl R4.out (by simp only [maxLen]; omega) (by omega) E4.out.size ?_; intro v5 w5 ho5 hg5; have O5 := hide (app_all (w := W3) ho5 rfl rfl); have E5 := hide (E4.out.grown hg5 E4.out.size (fun kk e => (World.ownsRow.lt O4.out kk e).1)); clear ho5 hg5))
    go_roundw
    case rel => exact ⟨k + 1, by omega, by go_num, by rw [HLk.out]; exact O5.out, HOK.out, E5.out⟩
    case measure => simp [intOf]; omega
end Go.Proofs.Ytpnjamomkpkkeaa
