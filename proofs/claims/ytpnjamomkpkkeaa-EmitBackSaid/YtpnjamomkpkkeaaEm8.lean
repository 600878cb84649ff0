/- Layer 15: a frame's raw form, as the program writes it. -/
import Derived.Test.YtpnjamomkpkkeaaEm7
import Derived.Test.YtpnjamomkpkkeaaFre
import Derived.Laws.ResultCell
namespace Go.Proofs.Ytpnjamomkpkkeaa
set_option linter.unusedVariables false
set_option linter.unusedSimpArgs false
open Go.RowKit

theorem store6 {w : World} {p : Nat} {T : TypeId} {a0 a1 a2 a3 a4 a5 : Value} (h : w.heap[p]? = some (.cells #[a0, a1, a2, a3, a4, a5] T (0, 0))) (b0 b1 b2 b3 b4 b5 : Value) :
    (w.cell? ⟨p, 0, none⟩ = some a0 ∧ w.frozen? ⟨p, 0, none⟩ = false) ∧ ((w.setCell ⟨p, 0, none⟩ b0).cell? ⟨p, 1, none⟩ = some a1 ∧ (w.setCell ⟨p, 0, none⟩ b0).frozen? ⟨p, 1, none⟩ = false) ∧ (((w.setCell ⟨p, 0, none⟩ b0).setCell ⟨p, 1, none⟩ b1).cell? ⟨p, 2, none⟩ = some a2 ∧ ((w.setCell ⟨p, 0, none⟩ b0).setCell ⟨p, 1, none⟩ b1).frozen? ⟨p, 2, none⟩ = false) ∧ ((((w.setCell ⟨p, 0, none⟩ b0).setCell ⟨p, 1, none⟩ b1).setCell ⟨p, 2, none⟩ b2).cell? ⟨p, 3, none⟩ = some a3 ∧ (((w.setCell ⟨p, 0, none⟩ b0).setCell ⟨p, 1, none⟩ b1).setCell ⟨p, 2, none⟩ b2).frozen? ⟨p, 3, none⟩ = false) ∧ (((((w.setCell ⟨p, 0, none⟩ b0).setCell ⟨p, 1, none⟩ b1).setCell ⟨p, 2, none⟩ b2).setCell ⟨p, 3, none⟩ b3).cell? ⟨p, 4, none⟩ = some a4 ∧ ((((w.setCell ⟨p, 0, none⟩ b0).setCell ⟨p, 1, none⟩ b1).setCell ⟨p, 2, none⟩ b2).setCell ⟨p, 3, none⟩ b3).frozen? ⟨p, 4, none⟩ = false) ∧ ((((((w.setCell ⟨p, 0, none⟩ b0).setCell ⟨p, 1, none⟩ b1).setCell ⟨p, 2, none⟩ b2).setCell ⟨p, 3, none⟩ b3).setCell ⟨p, 4, none⟩ b4).cell? ⟨p, 5, none⟩ = some a5 ∧ (((((w.setCell ⟨p, 0, none⟩ b0).setCell ⟨p, 1, none⟩ b1).setCell ⟨p, 2, none⟩ b2).setCell ⟨p, 3, none⟩ b3).setCell ⟨p, 4, none⟩ b4).frozen? ⟨p, 5, none⟩ = false) ∧ ((((((w.setCell ⟨p, 0, none⟩ b0).setCell ⟨p, 1, none⟩ b1).setCell ⟨p, 2, none⟩ b2).setCell ⟨p, 3, none⟩ b3).setCell ⟨p, 4, none⟩ b4).setCell ⟨p, 5, none⟩ b5).heap[p]? = some (.cells #[b0, b1, b2, b3, b4, b5] T (0, 0)) ∧ (∀ q, q ≠ p → ((((((w.setCell ⟨p, 0, none⟩ b0).setCell ⟨p, 1, none⟩ b1).setCell ⟨p, 2, none⟩ b2).setCell ⟨p, 3, none⟩ b3).setCell ⟨p, 4, none⟩ b4).setCell ⟨p, 5, none⟩ b5).heap[q]? = w.heap[q]?) ∧ ∀ B w0, B ≤ p → Below B w0 w → Below B w0 ((((((w.setCell ⟨p, 0, none⟩ b0).setCell ⟨p, 1, none⟩ b1).setCell ⟨p, 2, none⟩ b2).setCell ⟨p, 3, none⟩ b3).setCell ⟨p, 4, none⟩ b4).setCell ⟨p, 5, none⟩ b5) := by
  have h1 := setRow w p 0 b0 h
  have h2 := setRow _ p 1 b1 h1
  have h3 := setRow _ p 2 b2 h2
  have h4 := setRow _ p 3 b3 h3
  have h5 := setRow _ p 4 b4 h4
  have h6 := setRow _ p 5 b5 h5
  simp only [List.setIfInBounds_toArray, List.set_cons_zero, List.set_cons_succ] at h1 h2 h3 h4 h5 h6
  refine ⟨⟨(row6 h).1, frozenRow h 0⟩, ⟨(row6 h1).2.1, frozenRow h1 1⟩, ⟨(row6 h2).2.2.1, frozenRow h2 2⟩, ⟨(row6 h3).2.2.2.1, frozenRow h3 3⟩, ⟨(row6 h4).2.2.2.2.1, frozenRow h4 4⟩, ⟨(row6 h5).2.2.2.2.2, frozenRow h5 5⟩, h6, fun q hq => ?_, fun B w0 hB hb => ?_⟩
  · have hne : ∀ (W : World) (j : Nat) (u : Value), (W.setCell ⟨p, j, none⟩ u).heap[q]? = W.heap[q]? := fun W j u => by
      obtain ⟨_, _, _, hsz, hk⟩ := grown_set W p j u
      by_cases hl : q < W.heap.size
      · exact hk q hl (fun e => hq (Option.some.inj e))
      · have hz : (W.setCell ⟨p, j, none⟩ u).heap.size = W.heap.size := by simp [World.setCell]
        rw [Array.getElem?_eq_none (by omega), Array.getElem?_eq_none (by omega)]
    rw [hne, hne, hne, hne, hne, hne]
  · exact (((((hb.setCell (p := ⟨p, 0, none⟩) hB _).setCell (p := ⟨p, 1, none⟩) hB _).setCell (p := ⟨p, 2, none⟩) hB _).setCell (p := ⟨p, 3, none⟩) hB _).setCell (p := ⟨p, 4, none⟩) hB _).setCell (p := ⟨p, 5, none⟩) hB _
theorem body15 (T fl st pad : Int) (A2 : Option Addr) (nd c2 : Nat) (d : Nat → Int) (A3 : Option Addr) (ns c3 : Nat) (s g : Nat → Int) (wt pa : Int) (al : Bool) (pm la co sp : Int) (hfl : fl ≤ 9223372036854775807) (hnd : nd ≤ 100000) (hns : ns ≤ 1000) (w : World) (hd : Rd .u8 w A2 nd c2 d) (hs2 : Rd2 w A3 ns c3 s g) :
    Calls Try.prog 101 #[.agg #[.int .i64 T, .int .i64 fl, .int .i64 st, .int .i64 pad, .slice A2 nd c2, .slice A3 ns c3, .int .i64 wt, .int .i64 pa, .bool al, .int .i64 pm, .int .i64 la, .int .i64 co, .int .i64 sp]] w (Bd5 (⟨T, fl, st, pad, nd, d, ns, s, g, wt, pa, al, pm, la, co, sp⟩ : Fm5) w) := by
  by_cases hp : (⟨T, fl, st, pad, nd, d, ns, s, g, wt, pa, al, pm, la, co, sp⟩ : Fm5).POk
  · by_cases h0 : T = 0
    · subst h0
      cases e3 : hsB 0 fl 3
      · exact body_d0_y fl st pad A2 nd c2 d A3 ns c3 s g wt pa al pm la co sp hfl hnd hns e3 hp w hd hs2
      · exact body_d1_y fl st pad A2 nd c2 d A3 ns c3 s g wt pa al pm la co sp hfl hnd hns e3 hp w hd hs2
    by_cases h1 : T = 1
    · subst h1
      cases e3 : hsB 1 fl 3 <;> cases e5 : hsB 1 fl 5
      · exact body_h00_y fl st pad A2 nd c2 d A3 ns c3 s g wt pa al pm la co sp hfl hnd hns e3 e5 hp w hd hs2
      · exact body_h01_y fl st pad A2 nd c2 d A3 ns c3 s g wt pa al pm la co sp hfl hnd hns e3 e5 hp w hd hs2
      · exact body_h10_y fl st pad A2 nd c2 d A3 ns c3 s g wt pa al pm la co sp hfl hnd hns e3 e5 hp w hd hs2
      · exact body_h11_y fl st pad A2 nd c2 d A3 ns c3 s g wt pa al pm la co sp hfl hnd hns e3 e5 hp w hd hs2
    by_cases h2 : T = 2
    · subst h2
      exact body_p_y fl st pad A2 nd c2 d A3 ns c3 s g wt pa al pm la co sp hfl hnd hns hp w hd hs2
    by_cases h3 : T = 3
    · subst h3
      exact body_r_y fl st pad A2 nd c2 d A3 ns c3 s g wt pa al pm la co sp hfl hnd hns hp w hd hs2
    by_cases h4 : T = 4
    · subst h4
      exact body_s_y fl st pad A2 nd c2 d A3 ns c3 s g wt pa al pm la co sp hfl hnd hns hp w hd hs2
    by_cases h5 : T = 5
    · subst h5
      cases e3 : hsB 5 fl 3
      · exact body_u0_y fl st pad A2 nd c2 d A3 ns c3 s g wt pa al pm la co sp hfl hnd hns e3 hp w hd hs2
      · exact body_u1_y fl st pad A2 nd c2 d A3 ns c3 s g wt pa al pm la co sp hfl hnd hns e3 hp w hd hs2
    by_cases h7 : T = 7
    · subst h7
      exact body_g_y fl st pad A2 nd c2 d A3 ns c3 s g wt pa al pm la co sp hfl hnd hns hp w hd hs2
    by_cases h8 : T = 8
    · subst h8
      exact body_w_y fl st pad A2 nd c2 d A3 ns c3 s g wt pa al pm la co sp hfl hnd hns hp w hd hs2
    exact body_o_y T fl st pad A2 nd c2 d A3 ns c3 s g wt pa al pm la co sp hfl hnd hns (by omega) hp w hd hs2
  · by_cases h0 : T = 0
    · subst h0
      cases e3 : hsB 0 fl 3
      · exact body_d0_n fl st pad A2 nd c2 d A3 ns c3 s g wt pa al pm la co sp hfl hnd hns e3 hp w hd hs2
      · exact body_d1_n fl st pad A2 nd c2 d A3 ns c3 s g wt pa al pm la co sp hfl hnd hns e3 hp w hd hs2
    by_cases h1 : T = 1
    · subst h1
      cases e3 : hsB 1 fl 3 <;> cases e5 : hsB 1 fl 5
      · exact body_h00_n fl st pad A2 nd c2 d A3 ns c3 s g wt pa al pm la co sp hfl hnd hns e3 e5 hp w hd hs2
      · exact body_h01_n fl st pad A2 nd c2 d A3 ns c3 s g wt pa al pm la co sp hfl hnd hns e3 e5 hp w hd hs2
      · exact body_h10_n fl st pad A2 nd c2 d A3 ns c3 s g wt pa al pm la co sp hfl hnd hns e3 e5 hp w hd hs2
      · exact body_h11_n fl st pad A2 nd c2 d A3 ns c3 s g wt pa al pm la co sp hfl hnd hns e3 e5 hp w hd hs2
    by_cases h2 : T = 2
    · subst h2
      exact body_p_n fl st pad A2 nd c2 d A3 ns c3 s g wt pa al pm la co sp hfl hnd hns hp w hd hs2
    by_cases h3 : T = 3
    · subst h3
      exact body_r_n fl st pad A2 nd c2 d A3 ns c3 s g wt pa al pm la co sp hfl hnd hns hp w hd hs2
    by_cases h4 : T = 4
    · subst h4
      exact body_s_n fl st pad A2 nd c2 d A3 ns c3 s g wt pa al pm la co sp hfl hnd hns hp w hd hs2
    by_cases h5 : T = 5
    · subst h5
      cases e3 : hsB 5 fl 3
      · exact body_u0_n fl st pad A2 nd c2 d A3 ns c3 s g wt pa al pm la co sp hfl hnd hns e3 hp w hd hs2
      · exact body_u1_n fl st pad A2 nd c2 d A3 ns c3 s g wt pa al pm la co sp hfl hnd hns e3 hp w hd hs2
    by_cases h7 : T = 7
    · subst h7
      exact body_g_n fl st pad A2 nd c2 d A3 ns c3 s g wt pa al pm la co sp hfl hnd hns hp w hd hs2
    by_cases h8 : T = 8
    · subst h8
      exact body_w_n fl st pad A2 nd c2 d A3 ns c3 s g wt pa al pm la co sp hfl hnd hns hp w hd hs2
    exact body_o_n T fl st pad A2 nd c2 d A3 ns c3 s g wt pa al pm la co sp hfl hnd hns (by omega) hp w hd hs2
theorem Rd.set6 {w : World} {A : Option Addr} {n c : Nat} {f : Nat → Int} (h : Rd .u8 w A n c f) {p : Nat} (hq : 0 < n → ∀ a, A = some a → a.block ≠ p) (j : Nat) (u : Value) : Rd .u8 (w.setCell ⟨p, j, none⟩ u) A n c f := rd_set5 h hq j u
theorem u8_apart6 {w : World} {A : Option Addr} {n c : Nat} {f : Nat → Int} (h : Rd .u8 w A n c f) {p : Nat} {T : TypeId} {a b d e : Int} {x : Bool} {v : Value} (hv : ∀ y, v ≠ .int .u8 y) (hr : w.heap[p]? = some (.cells #[.int .i64 a, .int .i64 b, .int .i64 d, .int .i64 e, .bool x, v] T (0, 0))) : 0 < n → ∀ a, A = some a → a.block ≠ p := fun hn a ha e => by
  obtain ⟨b, off, hA, hc⟩ := h.2.2.2 hn
  obtain rfl := Option.some.inj (ha.symm.trans hA)
  have h0 := hc 0 hn
  simp only at e
  subst e
  unfold World.cell? at h0
  simp only [hr] at h0
  match off, h0 with
  | 0, h0 => simp at h0
  | 1, h0 => simp at h0
  | 2, h0 => simp at h0
  | 3, h0 => simp at h0
  | 4, h0 => simp at h0
  | 5, h0 => simp at h0; exact hv _ h0
  | off + 6, h0 => simp at h0
/-- What 'written' gives. -/
def Wr5 (X : Fm5) (w : World) (e : Ending) (w' : World) : Prop :=
  Below w.heap.size w w' ∧ ((X.Ok ∧ ∃ A c, e = .returned (.tuple #[.agg #[.int .i64 0, .int .i64 X.T, .int .i64 X.fl, .int .i64 X.st, .bool false, .slice A X.emL.length c], .bool true]) ∧ Rd .u8 w' A X.emL.length c (lF X.emL)) ∨
    (¬ X.Ok ∧ e = .returned (.tuple #[.agg #[.int .i64 0, .int .i64 0, .int .i64 0, .int .i64 0, .bool false, .slice none 0 0], .bool false])))
theorem emL_le {X : Fm5} (h : X.POk) (hn : X.nd ≤ 2000) (hs : X.ns ≤ 1000) : X.emL.length ≤ 9000 := by
  have h1 : X.padL.length ≤ 1 := by unfold Fm5.padL; split <;> simp [numL_len]
  have h2 : X.prL.length ≤ 5 := by unfold Fm5.prL; split <;> simp [numL_len]
  have h3 : X.tyL.length ≤ 6000 := by
    unfold Fm5.tyL Fm5.setL
    (repeat' split) <;> simp [numL_len] <;> omega
  have h4 : X.dL.length ≤ 2000 := by simpa [Fm5.dL] using hn
  have h5 : X.zL.length ≤ 255 := by
    unfold Fm5.zL
    split
    · have := h.1 (by assumption); rw [List.length_replicate]; omega
    · simp
  unfold Fm5.emL
  simp only [List.length_append]
  omega
set_option maxRecDepth 20000 in
set_option maxHeartbeats 3200000 in
theorem written15 (T fl st pad : Int) (A2 : Option Addr) (nd c2 : Nat) (d : Nat → Int) (A3 : Option Addr) (ns c3 : Nat) (s g : Nat → Int) (wt pa : Int) (al : Bool) (pm la co sp : Int) (hfl : fl ≤ 9223372036854775807) (hnd : nd ≤ 2000) (hns : ns ≤ 1000) (w : World) (hd : Rd .u8 w A2 nd c2 d) (hby : Byt nd d) (hs2 : Rd2 w A3 ns c3 s g) :
    Calls Try.prog 60 #[.agg #[.int .i64 T, .int .i64 fl, .int .i64 st, .int .i64 pad, .slice A2 nd c2, .slice A3 ns c3, .int .i64 wt, .int .i64 pa, .bool al, .int .i64 pm, .int .i64 la, .int .i64 co, .int .i64 sp]] w (Wr5 (⟨T, fl, st, pad, nd, d, ns, s, g, wt, pa, al, pm, la, co, sp⟩ : Fm5) w) := by
  have a1 := (Below.refl w.heap.size w).alloc (Nat.le_refl _) (.cells #[.int .i64 T, .int .i64 fl, .int .i64 st, .int .i64 pad, .slice A2 nd c2, .slice A3 ns c3, .int .i64 wt, .int .i64 pa, .bool al, .int .i64 pm, .int .i64 la, .int .i64 co, .int .i64 sp] 25)
  have a2 := a1.alloc (by simp) (.cells #[.int .i64 0, .int .i64 0, .int .i64 0, .int .i64 0, .bool false, .slice none 0 0] 29)
  have hs1 : (w.alloc (.cells #[.int .i64 T, .int .i64 fl, .int .i64 st, .int .i64 pad, .slice A2 nd c2, .slice A3 ns c3, .int .i64 wt, .int .i64 pa, .bool al, .int .i64 pm, .int .i64 la, .int .i64 co, .int .i64 sp] 25)).heap.size = w.heap.size + 1 := by simp
  have RF := hide (keepRow (heap_alloc_new w (.cells #[.int .i64 T, .int .i64 fl, .int .i64 st, .int .i64 pad, .slice A2 nd c2, .slice A3 ns c3, .int .i64 wt, .int .i64 pa, .bool al, .int .i64 pm, .int .i64 la, .int .i64 co, .int .i64 sp] 25)) ((Below.refl (w.alloc (.cells #[.int .i64 T, .int .i64 fl, .int .i64 st, .int .i64 pad, .slice A2 nd c2, .slice A3 ns c3, .int .i64 wt, .int .i64 pa, .bool al, .int .i64 pm, .int .i64 la, .int .i64 co, .int .i64 sp] 25)).heap.size _).alloc (Nat.le_refl _) (.cells #[.int .i64 0, .int .i64 0, .int .i64 0, .int .i64 0, .bool false, .slice none 0 0] 29)))
  have rz0 := heap_alloc_new (w.alloc (.cells #[.int .i64 T, .int .i64 fl, .int .i64 st, .int .i64 pad, .slice A2 nd c2, .slice A3 ns c3, .int .i64 wt, .int .i64 pa, .bool al, .int .i64 pm, .int .i64 la, .int .i64 co, .int .i64 sp] 25)) (.cells #[.int .i64 0, .int .i64 0, .int .i64 0, .int .i64 0, .bool false, .slice none 0 0] 29)
  rw [hs1] at rz0
  have RZ := hide rz0
  have E0 := hide a2
  have HD := hide hd
  have HS2 := hide hs2
  have HB := hide hby
  obtain ⟨X, hX⟩ : ∃ X : Fm5, X = (⟨T, fl, st, pad, nd, d, ns, s, g, wt, pa, al, pm, la, co, sp⟩ : Fm5) := ⟨_, rfl⟩
  have HX := hide hX
  have C := hide (fun W (h1 : Rd .u8 W A2 nd c2 d) (h2 : Rd2 W A3 ns c3 s g) => body15 T fl st pad A2 nd c2 d A3 ns c3 s g wt pa al pm la co sp hfl (by omega) (by omega) W h1 h2)
  rw [← hX] at C ⊢
  obtain ⟨x0, x1, x2, x3, x4, x5, x6, x7, x8, x9, x10, x11, x12⟩ := row13 RF.out
  clear a1 a2 hs1 rz0 hd hs2 hby hX
  go_enter Try.func60, Try.ntmps60
  go_upto_region 1 with (fail)
  generalize hW : (w.alloc (.cells #[.int .i64 T, .int .i64 fl, .int .i64 st, .int .i64 pad, .slice A2 nd c2, .slice A3 ns c3, .int .i64 wt, .int .i64 pa, .bool al, .int .i64 pm, .int .i64 la, .int .i64 co, .int .i64 sp] 25)).alloc (.cells #[.int .i64 0, .int .i64 0, .int .i64 0, .int .i64 0, .bool false, .slice none 0 0] 29) = U0 at *
  clear hW
  go_wp2_with fail
  refine (C.out _ (HD.out.below E0.out) (HS2.out.below E0.out)).mono ?_
  rintro e U1 ⟨hb1, ⟨hp, A1, c1, rfl, hr1⟩ | ⟨hp, rfl⟩⟩
  rotate_left
  · have RZ1 := hide (keepRow RZ.out hb1)
    have E1 := hide (E0.out.of hb1)
    have HP := hide hp
    clear hb1 hp
    obtain ⟨⟨l0, m0_⟩, ⟨l1, m1_⟩, ⟨l2, m2_⟩, ⟨l3, m3_⟩, ⟨l4, m4_⟩, ⟨l5, m5_⟩, rz, -, hbz⟩ := store6 RZ1.out (.int .i64 0) (.int .i64 0) (.int .i64 0) (.int .i64 0) (.bool false) (.slice none 0 0)
    obtain ⟨n0, n1, n2, n3, n4, n5⟩ := row6 rz
    have HBZ := hide (hbz w.heap.size w (by omega) E1.out)
    clear rz hbz
    go_wp2_with fail
    refine bodyPost_ret (v := .tuple #[.agg #[.int .i64 0, .int .i64 0, .int .i64 0, .int .i64 0, .bool false, .slice none 0 0], .bool false]) ?_ rfl ?_
    · rw [results_cell_tmp rfl]
      go_simp
    · exact ⟨HBZ.out, .inr ⟨fun h => HP.out h.1, rfl⟩⟩
  have HP := hide hp
  have hl3 := emL_le hp (by rw [HX.out]; exact hnd) (by rw [HX.out]; exact hns)
  have byl : Byt X.emL.length (lF X.emL) := (Fm5.bytL (by rw [HX.out]; exact HB.out)).byt
  have HBy := hide byl
  have E1 := hide (E0.out.of hb1)
  have RF1 := hide (keepRow RF.out hb1)
  have RZ1 := hide (keepRow RZ.out hb1)
  have a3 := (Below.refl U1.heap.size U1).alloc (Nat.le_refl _) (.cells #[.int .i64 0, .int .i64 T, .int .i64 fl, .int .i64 st, .bool false, .slice A1 X.emL.length c1] 29)
  have RR := hide (heap_alloc_new U1 (.cells #[.int .i64 0, .int .i64 T, .int .i64 fl, .int .i64 st, .bool false, .slice A1 X.emL.length c1] 29))
  have RF2 := hide (keepRow RF1.out a3)
  have RZ2 := hide (keepRow RZ1.out a3)
  have E2 := hide (E1.out.of a3)
  have R2 := hide (hr1.below a3)
  have hu1 : Hid (w.heap.size + 1 < U1.heap.size) := rowLt RZ1.out
  clear hb1 hp byl hr1 a3 x0 x1 x2 x3 x4 x5 x6 x7 x8 x9 x10 x11 x12
  obtain ⟨x0, x1, x2, x3, x4, x5, x6, x7, x8, x9, x10, x11, x12⟩ := row13 RF1.out
  go_upto_region 5 with (fail)
  clear x0 x1 x2 x3 x4 x5 x6 x7 x8 x9 x10 x11 x12
  generalize hW : U1.alloc (.cells #[.int .i64 0, .int .i64 T, .int .i64 fl, .int .i64 st, .bool false, .slice A1 X.emL.length c1] 29) = U2 at *
  generalize hQ : U1.heap.size = q at *
  clear hW hQ
  obtain ⟨y0, y1, y2, y3, y4, y5⟩ := row6 RR.out
  go_wp2_with fail
  refine (parse14 0 T fl st false A1 X.emL.length c1 (lF X.emL) U2 R2.out HBy.out (by omega)).mono ?_
  rintro e U3 ⟨A4, c4, A5, c5, rfl, hr4, hr5, hb3⟩
  have hG : frR T fl st X.emL.length (lF X.emL) = X.gR := by rw [HX.out]; rfl
  rw [hG] at hr4 hr5
  obtain ⟨G, hGG⟩ : ∃ G, G = X.gR := ⟨_, rfl⟩
  have HG := hide hGG
  rw [hG, ← hGG]
  rw [← hGG] at hr4 hr5
  have hN : G.off + G.N ≤ X.emL.length := by rw [hGG, ← hG]; exact frR_le _ _ _ _ _
  have a4 := (Below.refl U3.heap.size U3).alloc (Nat.le_refl _) (.cells #[.int .i64 G.T, .int .i64 G.fl, .int .i64 G.st, .int .i64 G.pad, .slice A4 G.N c4, .slice A5 G.sn c5, .int .i64 G.wt, .int .i64 G.pa, .bool G.al, .int .i64 G.pm, .int .i64 G.la, .int .i64 G.co, .int .i64 G.sp] 25)
  have a5 := a4.alloc (by simp) (.cells #[.int .i64 G.fs, .int .i64 G.fc] 38)
  have hs3 : (U3.alloc (.cells #[.int .i64 G.T, .int .i64 G.fl, .int .i64 G.st, .int .i64 G.pad, .slice A4 G.N c4, .slice A5 G.sn c5, .int .i64 G.wt, .int .i64 G.pa, .bool G.al, .int .i64 G.pm, .int .i64 G.la, .int .i64 G.co, .int .i64 G.sp] 25)).heap.size = U3.heap.size + 1 := by simp
  have RG := hide (keepRow (heap_alloc_new U3 (.cells #[.int .i64 G.T, .int .i64 G.fl, .int .i64 G.st, .int .i64 G.pad, .slice A4 G.N c4, .slice A5 G.sn c5, .int .i64 G.wt, .int .i64 G.pa, .bool G.al, .int .i64 G.pm, .int .i64 G.la, .int .i64 G.co, .int .i64 G.sp] 25)) ((Below.refl (U3.alloc (.cells #[.int .i64 G.T, .int .i64 G.fl, .int .i64 G.st, .int .i64 G.pad, .slice A4 G.N c4, .slice A5 G.sn c5, .int .i64 G.wt, .int .i64 G.pa, .bool G.al, .int .i64 G.pm, .int .i64 G.la, .int .i64 G.co, .int .i64 G.sp] 25)).heap.size _).alloc (Nat.le_refl _) (.cells #[.int .i64 G.fs, .int .i64 G.fc] 38)))
  have rl0 := heap_alloc_new (U3.alloc (.cells #[.int .i64 G.T, .int .i64 G.fl, .int .i64 G.st, .int .i64 G.pad, .slice A4 G.N c4, .slice A5 G.sn c5, .int .i64 G.wt, .int .i64 G.pa, .bool G.al, .int .i64 G.pm, .int .i64 G.la, .int .i64 G.co, .int .i64 G.sp] 25)) (.cells #[.int .i64 G.fs, .int .i64 G.fc] 38)
  rw [hs3] at rl0
  have RL := hide rl0
  have b35 := hb3.of a5
  have RF4 := hide (keepRow RF2.out b35)
  have RZ4 := hide (keepRow RZ2.out b35)
  have RR4 := hide (keepRow RR.out b35)
  have E4 := hide (E2.out.of b35)
  have R4 := hide (R2.out.below b35)
  have K4 := hide (hr4.below a5)
  have K5 := hide (hr5.below a5)
  have hu3 : Hid (q < U3.heap.size) := Nat.lt_of_lt_of_le (rowLt RR.out) hb3.size
  clear hGG hG hb3 a4 a5 hs3 rl0 b35 hr4 hr5 y0 y1 y2 y3 y4 y5
  go_upto_region 6 with (fail)
  generalize hW : (U3.alloc (.cells #[.int .i64 G.T, .int .i64 G.fl, .int .i64 G.st, .int .i64 G.pad, .slice A4 G.N c4, .slice A5 G.sn c5, .int .i64 G.wt, .int .i64 G.pa, .bool G.al, .int .i64 G.pm, .int .i64 G.la, .int .i64 G.co, .int .i64 G.sp] 25)).alloc (.cells #[.int .i64 G.fs, .int .i64 G.fc] 38) = U4 at *
  generalize hQ : U3.heap.size = r at *
  clear hW hQ
  obtain ⟨x0, x1, x2, x3, x4, x5, x6, x7, x8, x9, x10, x11, x12⟩ := row13 RF4.out
  obtain ⟨z0, z1, z2, z3, z4, z5, z6, z7, z8, z9, z10, z11, z12⟩ := row13 RG.out
  obtain ⟨y0, y1, y2, y3, y4, y5⟩ := row6 RR4.out
  obtain ⟨v0, v1⟩ := row2 RL.out
  have hKb : Byt G.N (fun i => lF X.emL (G.off + i)) := fun i hi => HBy.out (G.off + i) (by omega)
  have HKb := hide hKb
  clear hKb hN
  by_cases hen : G.en = 0
  rotate_left
  · have den : (G.en != 0) = true := by simpa using hen
    have hno : Hid (¬ X.Ok) := fun h => hen (by rw [HG.out]; exact h.2.1)
    clear hen
    obtain ⟨⟨l0, m0_⟩, ⟨l1, m1_⟩, ⟨l2, m2_⟩, ⟨l3, m3_⟩, ⟨l4, m4_⟩, ⟨l5, m5_⟩, rz, -, hbz⟩ := store6 RZ4.out (.int .i64 0) (.int .i64 0) (.int .i64 0) (.int .i64 0) (.bool false) (.slice none 0 0)
    obtain ⟨n0, n1, n2, n3, n4, n5⟩ := row6 rz
    have HBZ := hide (hbz w.heap.size w (by omega) E4.out)
    clear rz hbz
    go_wp2_with fail
    refine bodyPost_ret (v := .tuple #[.agg #[.int .i64 0, .int .i64 0, .int .i64 0, .int .i64 0, .bool false, .slice none 0 0], .bool false]) ?_ rfl ?_
    · rw [results_cell_tmp rfl]
      go_simp
    · exact ⟨HBZ.out, .inr ⟨hno.out, rfl⟩⟩
  have den : (G.en != 0) = false := by simpa using hen
  by_cases hfs : G.fs = 0
  rotate_left
  · have dfs : (G.fs != 0) = true := by simpa using hfs
    have dfe : (G.fs == 0) = false := by simpa using hfs
    have hno : Hid (¬ X.Ok) := fun h => hfs (by rw [HG.out]; exact h.2.2.1)
    clear hfs hen
    obtain ⟨⟨l0, m0_⟩, ⟨l1, m1_⟩, ⟨l2, m2_⟩, ⟨l3, m3_⟩, ⟨l4, m4_⟩, ⟨l5, m5_⟩, rz, -, hbz⟩ := store6 RZ4.out (.int .i64 0) (.int .i64 0) (.int .i64 0) (.int .i64 0) (.bool false) (.slice none 0 0)
    obtain ⟨n0, n1, n2, n3, n4, n5⟩ := row6 rz
    have HBZ := hide (hbz w.heap.size w (by omega) E4.out)
    clear rz hbz
    go_wp2_with fail
    refine bodyPost_ret (v := .tuple #[.agg #[.int .i64 0, .int .i64 0, .int .i64 0, .int .i64 0, .bool false, .slice none 0 0], .bool false]) ?_ rfl ?_
    · rw [results_cell_tmp rfl]
      go_simp
    · exact ⟨HBZ.out, .inr ⟨hno.out, rfl⟩⟩
  have hfc : G.fc = 0 := by
    have h1 := (frR_good (T := X.T) (fl := X.fl) (st := X.st) (n := X.emL.length) (f := lF X.emL) (by rw [← hfs, HG.out]; rfl) (by rw [← hen, HG.out]; rfl)).1
    rw [HG.out]
    show (frR _ _ _ _ _).fc = 0
    rw [h1]
    rfl
  have dfs : (G.fs == 0) = true := by simpa using hfs
  have dfc : (G.fc == 0) = true := by simpa using hfc
  have Hen := hide hen
  have Hfs := hide hfs
  clear hfs hfc hen
  go_wp2_with fail
  refine (fsame14 G.T G.fl G.st G.pad T fl st pad A4 A2 G.N c4 nd c2 (fun i => lF X.emL (G.off + i)) d A5 A3 G.sn c5 ns c3 (sF (lF X.emL)) (sG (lF X.emL)) s g G.wt G.pa G.pm G.la G.co G.sp wt pa pm la co sp G.al al U4 K4.out (HD.out.below E4.out) HKb.out HB.out K5.out (HS2.out.below E4.out)).mono ?_
  rintro e U5 ⟨rfl, hb5⟩
  have RZ5 := hide (keepRow RZ4.out hb5)
  have RR5 := hide (keepRow RR4.out hb5)
  have E5 := hide (E4.out.of hb5)
  have R5 := hide (R4.out.below hb5)
  obtain ⟨sm, hsm⟩ : ∃ sm, sm = smB G.T G.fl G.st G.pad T fl st pad G.N nd (fun i => lF X.emL (G.off + i)) d G.sn ns (sF (lF X.emL)) (sG (lF X.emL)) s g G.wt G.pa G.pm G.la G.co G.sp wt pa pm la co sp G.al al := ⟨_, rfl⟩
  rw [← hsm]
  have hiff : sm = true ↔ X.Sm := by
    have h1 := Fm5.sm_iff X
    rw [hsm, ← h1, HG.out, HX.out]
  clear hb5 hsm x0 x1 x2 x3 x4 x5 x6 x7 x8 x9 x10 x11 x12 z0 z1 z2 z3 z4 z5 z6 z7 z8 z9 z10 z11 z12 y0 y1 y2 y3 y4 y5 v0 v1
  cases sm
  · have hno : Hid (¬ X.Ok) := fun h => by have := hiff.2 h.2.2.2; cases this
    clear hiff
    obtain ⟨⟨l0, m0_⟩, ⟨l1, m1_⟩, ⟨l2, m2_⟩, ⟨l3, m3_⟩, ⟨l4, m4_⟩, ⟨l5, m5_⟩, rz, -, hbz⟩ := store6 RZ5.out (.int .i64 0) (.int .i64 0) (.int .i64 0) (.int .i64 0) (.bool false) (.slice none 0 0)
    obtain ⟨n0, n1, n2, n3, n4, n5⟩ := row6 rz
    have HBZ := hide (hbz w.heap.size w (by omega) E5.out)
    clear rz hbz
    go_wp2_with fail
    refine bodyPost_ret (v := .tuple #[.agg #[.int .i64 0, .int .i64 0, .int .i64 0, .int .i64 0, .bool false, .slice none 0 0], .bool false]) ?_ rfl ?_
    · rw [results_cell_tmp rfl]
      go_simp
    · exact ⟨HBZ.out, .inr ⟨hno.out, rfl⟩⟩
  have hyes : Hid X.Ok := ⟨HP.out, by rw [← HG.out]; exact Hen.out, by rw [← HG.out]; exact Hfs.out, hiff.1 rfl⟩
  clear hiff
  obtain ⟨y0, y1, y2, y3, y4, y5⟩ := row6 RR5.out
  obtain ⟨⟨l0, m0_⟩, ⟨l1, m1_⟩, ⟨l2, m2_⟩, ⟨l3, m3_⟩, ⟨l4, m4_⟩, ⟨l5, m5_⟩, rz, -, hbz⟩ := store6 RZ5.out (.int .i64 0) (.int .i64 T) (.int .i64 fl) (.int .i64 st) (.bool false) (.slice A1 X.emL.length c1)
  obtain ⟨n0, n1, n2, n3, n4, n5⟩ := row6 rz
  have HBZ := hide (hbz w.heap.size w (by omega) E5.out)
  clear rz hbz
  go_wp2_with fail
  refine bodyPost_ret (v := .tuple #[.agg #[.int .i64 0, .int .i64 T, .int .i64 fl, .int .i64 st, .bool false, .slice A1 X.emL.length c1], .bool true]) ?_ rfl ?_
  · rw [results_cell_tmp rfl]
    go_simp
  · refine ⟨HBZ.out, .inl ⟨hyes.out, A1, c1, by rw [HX.out], ?_⟩⟩
    exact ((((((rd_set5 R5.out (u8_apart6 R5.out (fun y e => by cases e) RZ5.out) 0 _)).set6 (u8_apart6 R5.out (fun y e => by cases e) RZ5.out) 1 _).set6 (u8_apart6 R5.out (fun y e => by cases e) RZ5.out) 2 _).set6 (u8_apart6 R5.out (fun y e => by cases e) RZ5.out) 3 _).set6 (u8_apart6 R5.out (fun y e => by cases e) RZ5.out) 4 _).set6 (u8_apart6 R5.out (fun y e => by cases e) RZ5.out) 5 _
end Go.Proofs.Ytpnjamomkpkkeaa
