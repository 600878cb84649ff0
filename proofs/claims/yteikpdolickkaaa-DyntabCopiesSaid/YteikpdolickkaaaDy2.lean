/- Layer 21: the oldest fields go. -/
import Derived.Test.YteikpdolickkaaaDy1
namespace Go.Proofs.Yteikpdolickkaaa
open Go.RowKit Go.Deep

theorem absD {p : World → Prop} (W0 : World) (R : World → Prop) (h0 : R W0) (h : ∀ W, R W → p W) : p W0 := h W0 h0
theorem TOk.cutD {B : Nat} {w : World} {p : Nat} {g : Option Nat} {N max s : Nat} {v u : Value} {F : Nat → Fd} {F2 : Nat → Value} (hr : w.heap[p]? = some (.cells #[u, .int .i64 (s : Int), .int .i64 (max : Int)] 68 (0, 0))) (hg : v.ownBlock = g) (hne : g ≠ some p) (hp : B ≤ p) (hm : max ≤ 2147483647)
    (ho : OwnO 3 52 B w v (N - 1) F2) (hF : ∀ i, F2 i = fdV (shF 1 F) i) (hs : s = sumW (shF 1 F) (N - 1)) (hw : ∀ i, i < N → wt (F i) ≤ 500) :
    TOk B (w.setCell ⟨p, 0, none⟩ v) p g (N - 1) max (shF 1 F) := by
  subst hs
  refine ⟨⟨v, ?_, hg, (ho.congr fun i _ => hF i).setCell (hg ▸ hne) 0 v⟩, hp, hne, hm, fun i hi => hw (1 + i) (by omega)⟩
  have h1 := setRow w p 0 v hr
  simp only [List.setIfInBounds_toArray, List.set_cons_zero, List.set_cons_succ] at h1
  exact h1
set_option maxRecDepth 20000 in
set_option maxHeartbeats 3200000 in
theorem shrink21 {B : Nat} {w : World} {p : Nat} {g : Option Nat} {n max : Nat} {F : Nat → Fd} (h : TOk B w p g n max F) (hB : B ≤ w.heap.size) (most : Int) (hn : n ≤ 100) :
    Calls Try.prog 97 #[.pointer (some ⟨p, 0, none⟩), .int .i64 most] w fun e w' => ∃ j, e = .returned (.tuple #[]) ∧ j ≤ n ∧ (∀ i, i < j → most < (sumW (shF i F) (n - i) : Int)) ∧ (j = n ∨ (sumW (shF j F) (n - j) : Int) ≤ most) ∧ TOk B w' p g (n - j) max (shF j F) ∧ FrO B (tfp p g) w w' := by
  have H := hide h
  have HB := hide hB
  clear h hB
  go_enter Try.func97, Try.ntmps97
  go_wp2_with fail
  go_loopg [] n (fun gk wr => ∃ j, j + gk = n ∧ (∀ i, i < j → most < (sumW (shF i F) (n - i) : Int)) ∧ TOk B wr p g (n - j) max (shF j F) ∧ FrO B (tfp p g) w wr)
  case atStart => exact ⟨0, by omega, fun i hi => absurd hi (by omega), by rw [shF_zero]; exact H.out, FrO.of (Below.refl _ _) HB.out⟩
  case round =>
    obtain ⟨j, hj, hmo, ht, hf⟩ := hrel
    obtain ⟨N, hN⟩ : ∃ N, N = n - j := ⟨_, rfl⟩
    rw [← hN] at ht
    obtain ⟨A, c, h1, h2, h3⟩ := ht.row
    have HT := hide ht
    have HF := hide hf
    have HM := hide hmo
    have HN := hide hN
    have hsum := ht.sum
    obtain ⟨c0, c1, c2⟩ := rowT h1
    clear ht hf hmo hN
    by_cases hN0 : N = 0
    · subst hN0
      have e0 : j = n := by have := HN.out; omega
      go_wp2_with fail
      first | go_end0 | (refine bodyPost_ret (results_none rfl _ _ _) rfl ?_)
      exact ⟨j, rfl, by omega, HM.out, .inl e0, by rw [← HN.out]; exact HT.out, HF.out⟩
    · have hd : decide ((0 : Int) < (N : Int)) = true := decide_eq_true (by omega)
      have hd' : decide (0 < N) = true := decide_eq_true (by omega)
      obtain ⟨S, hS⟩ : ∃ S, S = sumW (shF j F) N := ⟨_, rfl⟩
      rw [← hS] at h1 c1 hsum
      have HS := hide hS
      clear hS
      by_cases hbig : most < (S : Int)
      · have hd2 : decide (most < (S : Int)) = true := decide_eq_true hbig
        have Hbig := hide hbig
        clear hbig
        rcases h3 with ⟨_, h0⟩ | ⟨b, off, cap, cur, e1, k1, k2, k3, k4, k5, k6⟩
        · exact absurd h0 hN0
        cases e1
        have ho : Hid (OwnO 3 52 B wr (.slice (some ⟨b, off, none⟩) N c) N (fdV (shF j F))) := .inr ⟨b, off, c, cur, rfl, k1, k2, k3, k4, k5, k6⟩
        obtain ⟨b', o', e', hc⟩ := ho.out.rdS.2.2.2 (by omega)
        cases e'
        have q0 := hc 0 (by omega)
        have q1 := hc 1 (by omega)
        have q2 := hc 2 (by omega)
        rw [Nat.add_zero] at q0
        have hbp : b ≠ p := fun e => HT.out.ne (by rw [← h2, e]; rfl)
        have hw0 := HT.out.wl 0 (by omega)
        have hf0 : fdV (shF j F) 0 = .string (shF j F 0).name := fdV_0 (shF j F) 0
        have hf1 : fdV (shF j F) 1 = .string (shF j F 0).val := fdV_1 (shF j F) 0
        have hf2 : fdV (shF j F) 2 = .bool (shF j F 0).nev := fdV_2 (shF j F) 0
        rw [hf0] at q0
        rw [hf1] at q1
        rw [hf2] at q2
        obtain ⟨M, rfl⟩ : ∃ M, N = M + 1 := ⟨N - 1, by omega⟩
        have hfirst := sumW_first (shF j F) M
        obtain ⟨S1, hS1⟩ : ∃ S1, S1 = sumW (shF 1 (shF j F)) M := ⟨_, rfl⟩
        rw [← hS1, ← HS.out] at hfirst
        have HS1 := hide hS1
        clear hS1 hc hf0 hf1 hf2
        unfold wt at hw0 hfirst
        generalize (shF j F 0).name = nm at *
        generalize (shF j F 0).val = vl at *
        generalize (shF j F 0).nev = nv at *
        obtain ⟨xw, hxw⟩ : ∃ xw : Int, xw = ((nm.size + vl.size + 32 : Nat) : Int) := ⟨_, rfl⟩
        have hwr : IntKind.i64.wrap ((S : Int) - xw) = (S1 : Int) := by
          have hNM := HN.out
          rw [IntWalk.i64_in _ (by omega)]; omega
        have Hxw := hide hxw
        have hn1 : nm.size ≤ 1000 := by omega
        have hv1 : vl.size ≤ 1000 := by omega
        have alx := (Below.refl wr.heap.size wr).alloc (Nat.le_refl _) (.cells #[.string nm, .string vl, .bool nv] 52)
        have r1 := keepRow h1 alx
        obtain ⟨d0, d1, d2⟩ := rowT r1
        have f1 := frozenRow r1 1
        have H1 := hide r1
        have Halx := hide alx
        have hb0 := rowLt k2
        have kk2 := keepRow k2 alx
        have y0 := (alx.cell (World.block_lt_of_cell? wr _ q0)).trans q0
        have y1 := (alx.cell (World.block_lt_of_cell? wr _ q1)).trans q1
        have y2 := (alx.cell (World.block_lt_of_cell? wr _ q2)).trans q2
        have hpos1 : (0 : Int) < ((M + 1 : Nat) : Int) := by omega
        clear k5 k6 hxw hfirst hsum alx r1
        go_wp2_with fail
        go_region_law (first | (go_simp; go_at_call 30; refine (weight21 nm vl nv hn1 hv1 _).mono ?_; rintro e wx ⟨rfl, rfl⟩; rw [← Hxw.out]))
        all_goals
          have rowW := setRow _ p 1 (.int .i64 (S1 : Int)) H1.out
          simp only [List.setIfInBounds_toArray, List.set_cons_zero, List.set_cons_succ] at rowW
          have RW : Hid (((wr.alloc (.cells #[.string nm, .string vl, .bool nv] 52)).setCell ⟨p, 1, none⟩ (.int .i64 (S1 : Int))).drew.heap[p]? = some (.cells #[.slice (some ⟨b, off, none⟩) (M + 1) c, .int .i64 (S1 : Int), .int .i64 (max : Int)] 68 (0, 0))) := rowW
          have OW : Hid (OwnO 3 52 B ((wr.alloc (.cells #[.string nm, .string vl, .bool nv] 52)).setCell ⟨p, 1, none⟩ (.int .i64 (S1 : Int))).drew (.slice (some ⟨b, off, none⟩) (M + 1) c) (M + 1) (fdV (shF j F))) := ((ho.out.alloc _).setCell (show Value.ownBlock (.slice (some ⟨b, off, none⟩) (M + 1) c) ≠ some p by rw [h2]; exact HT.out.ne) 1 _).at_ (fun _ _ => rfl)
          have FW : Hid (FrO B (tfp p g) wr ((wr.alloc (.cells #[.string nm, .string vl, .bool nv] 52)).setCell ⟨p, 1, none⟩ (.int .i64 (S1 : Int))).drew) := ((FrO.of Halx.out (Nat.le_trans HB.out HF.out.below.size)).step (FrO.set (S := fun i => i = p) _ p 1 _ HT.out.hp rfl) (fun i hi => .inl (.inl hi))).drew
          clear rowW H1 Halx d0 d1 d2 f1 y0 y1 y2 c0 c1 c2 q0 q1 q2 kk2 k1 k2 k3 k4 h1 hwr
          generalize ((wr.alloc (.cells #[.string nm, .string vl, .bool nv] 52)).setCell ⟨p, 1, none⟩ (.int .i64 (S1 : Int))).drew = W1 at *
          obtain ⟨c0, c1, c2⟩ := rowT RW.out
          obtain ⟨b2, o2, e2, hc⟩ := OW.out.rdS.2.2.2 (by omega)
          cases e2
          have q0 := hc 0 (by omega)
          have q1 := hc 1 (by omega)
          have q2 := hc 2 (by omega)
          rw [Nat.add_zero] at q0
          have z : ∀ x, W1.frozen? ⟨b, x, none⟩ = false := fun x => by
            rcases OW.out with ⟨e, _⟩ | ⟨b3, o3, cap3, cur3, e3, _, m2, _⟩
            · cases e
            · cases e3
              exact frozenRow m2 x
          have z0 := z off
          have z1 := z (off + 1)
          have z2 := z (off + 2)
          have O2 := ((OW.out.set 0 (.string ⟨#[]⟩)).set 1 (.string ⟨#[]⟩)).set 2 (.bool false)
          rw [Nat.add_zero] at O2
          have OW2 := hide O2
          have RW2 : Hid ((((W1.setCell ⟨b, off, none⟩ (.string ⟨#[]⟩)).setCell ⟨b, off + 1, none⟩ (.string ⟨#[]⟩)).setCell ⟨b, off + 2, none⟩ (.bool false)).heap[p]? = some (.cells #[.slice (some ⟨b, off, none⟩) (M + 1) c, .int .i64 (S1 : Int), .int .i64 (max : Int)] 68 (0, 0))) := by
            show _ = _
            rw [Below.heap_setCell _ ⟨b, off + 2, none⟩ _ _ (Ne.symm hbp), Below.heap_setCell _ ⟨b, off + 1, none⟩ _ _ (Ne.symm hbp), Below.heap_setCell _ ⟨b, off, none⟩ _ _ (Ne.symm hbp)]
            exact RW.out
          have hBb : B ≤ b := (OW.out.lt b rfl).1
          have FW2 : Hid (FrO B (tfp p g) wr (((W1.setCell ⟨b, off, none⟩ (.string ⟨#[]⟩)).setCell ⟨b, off + 1, none⟩ (.string ⟨#[]⟩)).setCell ⟨b, off + 2, none⟩ (.bool false))) :=
            ((FW.out.step (FrO.set (S := fun i => i = b) _ b off _ hBb rfl) (fun i hi => .inl (.inr (by rw [← h2, hi]; rfl)))).step (FrO.set (S := fun i => i = b) _ b (off + 1) _ hBb rfl) (fun i hi => .inl (.inr (by rw [← h2, hi]; rfl)))).step (FrO.set (S := fun i => i = b) _ b (off + 2) _ hBb rfl) (fun i hi => .inl (.inr (by rw [← h2, hi]; rfl)))
          obtain ⟨x0, x1, x2⟩ := rowT RW2.out
          have fz := frozenRow RW2.out 0
          have hcm := OW.out.rdS.1
          have hb1 : (1 : Int) ≤ (M : Int) + 1 := by omega
          have hb2 : ((M + 1 : Nat) : Int) ≤ (c : Int) := by omega
          clear O2 z hc
          go_wp2_with fail
          all_goals
            go_roundg (gk - 1)
            case rel =>
              have hcut := OW2.out.cut (lo := 1) (by omega)
              have hF2 : ∀ i, (fun i => setV (setV (setV (fdV (shF j F)) 0 (.string ⟨#[]⟩)) 1 (.string ⟨#[]⟩)) 2 (.bool false) (1 * 3 + i)) i = fdV (shF 1 (shF j F)) i := fun i => by
                show setV _ 2 _ (1 * 3 + i) = _
                unfold setV
                rw [if_neg (by omega), if_neg (by omega), if_neg (by omega)]
                unfold fdV shF
                rw [show (1 * 3 + i) / 3 = 1 + i / 3 by omega, show (1 * 3 + i) % 3 = i % 3 by omega]
              have hNM := HN.out
              have hpick : n - (j + 1) = M := by omega
              have key : ∀ v : Value, v.ownBlock = g → OwnO 3 52 B (((W1.setCell ⟨b, off, none⟩ (.string ⟨#[]⟩)).setCell ⟨b, off + 1, none⟩ (.string ⟨#[]⟩)).setCell ⟨b, off + 2, none⟩ (.bool false)) v (M + 1 - 1) (fun i => setV (setV (setV (fdV (shF j F)) 0 (.string ⟨#[]⟩)) 1 (.string ⟨#[]⟩)) 2 (.bool false) (1 * 3 + i)) →
                  (∃ j', j' + (gk - 1) = n ∧ (∀ i, i < j' → most < (sumW (shF i F) (n - i) : Int)) ∧ TOk B ((((W1.setCell ⟨b, off, none⟩ (.string ⟨#[]⟩)).setCell ⟨b, off + 1, none⟩ (.string ⟨#[]⟩)).setCell ⟨b, off + 2, none⟩ (.bool false)).setCell ⟨p, 0, none⟩ v) p g (n - j') max (shF j' F) ∧ FrO B (tfp p g) w ((((W1.setCell ⟨b, off, none⟩ (.string ⟨#[]⟩)).setCell ⟨b, off + 1, none⟩ (.string ⟨#[]⟩)).setCell ⟨b, off + 2, none⟩ (.bool false)).setCell ⟨p, 0, none⟩ v)) := fun v hv hov => by
                have ht := TOk.cutD (F := shF j F) (N := M + 1) RW2.out hv HT.out.ne HT.out.hp HT.out.mx hov hF2 HS1.out HT.out.wl
                rw [shF_shF, Nat.add_sub_cancel] at ht
                refine ⟨j + 1, by omega, fun i hi => ?_, by rw [hpick]; exact ht, (HF.out.step FW2.out fun i hi => .inl hi).step (FrO.set (S := fun i => i = p) _ p 0 _ HT.out.hp rfl) fun i hi => .inl (.inl hi)⟩
                rcases Nat.lt_or_ge i j with h | h
                · exact HM.out i h
                · obtain rfl : i = j := by omega
                  rw [← hNM, ← HS.out]
                  exact Hbig.out
              first
                | (rw [if_pos ‹c = 1›] at hcut
                   refine key _ ?_ (by simpa [‹c = 1›] using hcut)
                   rw [← h2]
                   rfl)
                | (rw [if_neg ‹¬ c = 1›] at hcut
                   refine key _ ?_ hcut
                   rw [← h2]
                   rfl)
            case measure => have := HN.out; omega
      · have hd2 : decide (most < (S : Int)) = false := decide_eq_false hbig
        have Hbig : Hid ((S : Int) ≤ most) := by show _ ≤ _; omega
        clear hbig
        go_wp2_with fail
        first | go_end0 | (refine bodyPost_ret (results_none rfl _ _ _) rfl ?_)
        exact ⟨j, rfl, by omega, HM.out, .inr (by rw [← HN.out, ← HS.out]; exact Hbig.out), by rw [← HN.out]; exact HT.out, HF.out⟩
end Go.Proofs.Yteikpdolickkaaa
