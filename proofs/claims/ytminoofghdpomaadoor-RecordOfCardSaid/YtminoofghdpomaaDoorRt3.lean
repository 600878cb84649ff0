/- Layer 41: a record's line, by the program. -/
import Derived.Test.YtminoofghdpomaaDoorRt2
import Derived.Test.YtminoofghdpomaaDoorN7
import Derived.Test.YtminoofghdpomaaDoorKn7
import Derived.Deep.RegionHeld3
namespace Go.Proofs.YtminoofghdpomaaDoor
set_option linter.unusedVariables false
set_option linter.unusedSimpArgs false
open Go.RowKit Go.PlainAid

def TxS (T : TypeId) (q : Nat) (cs : Array Value) (w W : World) : Prop := W.heap[q]? = some (.cells cs T (0, 0)) ∧ Below q w W
theorem TxS.next {T : TypeId} {q : Nat} {cs : Array Value} {w W v : World} (h : TxS T q cs w W) (hv : Below W.heap.size W v) : TxS T q cs w v :=
  ⟨keepRow h.1 hv, h.2.trans (hv.mono (Nat.le_of_lt (rowLt h.1)))⟩
theorem TxS.drew {T : TypeId} {q : Nat} {cs : Array Value} {w W : World} (h : TxS T q cs w W) : TxS T q cs w W.drew := ⟨h.1, h.2.drew⟩
theorem line_yes {ps : List ByteArray} {t : ByteArray} {ok : Bool} (h : LiR ps t ok) (hw : ∀ x ∈ ps, wdB x = true) : t = jnS ⟨#[32]⟩ ps ∧ ok = true := by
  rcases h with ⟨rfl, _, rfl⟩ | ⟨rfl, _, x, hx, e⟩
  · exact ⟨rfl, rfl⟩
  · rw [hw x hx] at e
    cases e
theorem ktext41_no (a t fl st le k : Int) (w : World) (h : rcB a t fl st le k = false) : Calls Tryd.prog 6 #[.agg #[.int .i64 a, .int .i64 t, .int .i64 fl, .int .i64 st, .int .i64 le, .int .i64 k]] w fun e w' => e = .returned (.tuple #[.string ⟨#[]⟩, .int .i64 1]) ∧ Below w.heap.size w w' := by
  have R0 := heap_alloc_new w (.cells #[.int .i64 a, .int .i64 t, .int .i64 fl, .int .i64 st, .int .i64 le, .int .i64 k] 23)
  have B0 : Hid (Below w.heap.size w (w.alloc (.cells #[.int .i64 a, .int .i64 t, .int .i64 fl, .int .i64 st, .int .i64 le, .int .i64 k] 23))) := (Below.refl _ _).alloc (Nat.le_refl _) _
  obtain ⟨c0, c1, c2, c3, c4, c5⟩ := row6R R0
  have KR := hide (fun W => kright41 a t fl st le k W)
  rw [h] at KR
  clear h
  go_enter Tryd.func6, Tryd.ntmps6
  go_wp2_with fail
  refine (KR.out _).mono ?_
  rintro e w1 ⟨rfl, hb⟩
  have HB := hide (B0.out.of hb)
  clear hb
  go_wp2_with fail
  go_ret2
  exact ⟨rfl, HB.out⟩
set_option maxRecDepth 20000 in
set_option maxHeartbeats 6400000 in
theorem ktext41_yes (a t fl st le k : Int) (w : World) (h : RcP a t fl st le k) (hN : NmW w) (hP : PowW w) : Calls Tryd.prog 6 #[.agg #[.int .i64 a, .int .i64 t, .int .i64 fl, .int .i64 st, .int .i64 le, .int .i64 k]] w fun e w' => e = .returned (.tuple #[.string (rcT a t fl st le k), .int .i64 0]) ∧ Below w.heap.size w w' := by
  have R0 := heap_alloc_new w (.cells #[.int .i64 a, .int .i64 t, .int .i64 fl, .int .i64 st, .int .i64 le, .int .i64 k] 23)
  have B0 : Hid (Below w.heap.size w (w.alloc (.cells #[.int .i64 a, .int .i64 t, .int .i64 fl, .int .i64 st, .int .i64 le, .int .i64 k] 23))) := (Below.refl _ _).alloc (Nat.le_refl _) _
  have HN := hide hN
  have HP := hide hP
  have T0 : Hid (TxS 23 w.heap.size #[.int .i64 a, .int .i64 t, .int .i64 fl, .int .i64 st, .int .i64 le, .int .i64 k] w (w.alloc (.cells #[.int .i64 a, .int .i64 t, .int .i64 fl, .int .i64 st, .int .i64 le, .int .i64 k] 23))) := ⟨R0, B0.out⟩
  obtain ⟨c0, c1, c2, c3, c4, c5⟩ := row6R R0
  have KR := hide (fun W => kright41 a t fl st le k W)
  rw [show rcB a t fl st le k = true from decide_eq_true h] at KR
  obtain ⟨_, _, ⟨t0, t1⟩, ⟨x0, x1⟩, ⟨y0, y1⟩, z0, z1⟩ := h.bd
  have HW := hide (rc_words h)
  obtain ⟨ys, hys⟩ : ∃ y, sideS a = y := ⟨_, rfl⟩
  obtain ⟨yk, hyk⟩ : ∃ y, kindS k = y := ⟨_, rfl⟩
  obtain ⟨yn, hyn⟩ : ∃ y, nameT t = y := ⟨_, rfl⟩
  obtain ⟨yf, hyf⟩ : ∃ y, intS fl = y := ⟨_, rfl⟩
  obtain ⟨yt, hyt⟩ : ∃ y, intS st = y := ⟨_, rfl⟩
  obtain ⟨yl, hyl⟩ : ∃ y, intS le = y := ⟨_, rfl⟩
  obtain ⟨ps, hps⟩ : ∃ ps, rcW a t fl st le k = ps := ⟨_, rfl⟩
  have HT : Hid (rcT a t fl st le k = jnS ⟨#[32]⟩ ps) := by unfold Hid; rw [← hps]; rfl
  have HPS : Hid (ps = [FRM, ys, yn, yf, yt, yl, yk]) := by unfold Hid; rw [← hps, ← hys, ← hyk, ← hyn, ← hyf, ← hyt, ← hyl]; rfl
  rw [hps] at HW
  have KS := hide (fun W => side41 a W)
  have KK := hide (fun W => kind41 k W)
  have KN := hide (fun W hN hP => kname08 t W hN hP)
  have KF := hide (fun W hP => dtextI fl (by omega) (by omega) W hP)
  have KT := hide (fun W hP => dtextI st (by omega) (by omega) W hP)
  have KL := hide (fun W hP => dtextI le (by omega) (by omega) W hP)
  rw [hys] at KS
  rw [hyk] at KK
  rw [hyn] at KN
  rw [hyf] at KF
  rw [hyt] at KT
  rw [hyl] at KL
  clear h hys hyk hyn hyf hyt hyl hps hN hP R0 t0 t1 x0 x1 y0 y1 z0 z1
  go_enter Tryd.func6, Tryd.ntmps6
  go_wp2_with fail
  refine (KR.out _).mono ?_
  rintro e w1 ⟨rfl, hb⟩
  have T1 := hide (T0.out.next hb)
  clear hb c0 c1 c2 c3 c4 c5 T0
  go_wp2_with fail
  refine wp_region_held_drew (S := TxS 23 w.heap.size #[.int .i64 a, .int .i64 t, .int .i64 fl, .int .i64 st, .int .i64 le, .int .i64 k] w) (by kernel_rfl) T1.out.drew (fun hHeld => ?_)
  refine wpAnyH_take (i := 0) (oi := ⟨some 10, .fieldAddr _ (.tmp 1) 0, _, _, _, _⟩) (v := ?vv1) rfl (by kernel_rfl) (by kernel_rfl) (by kernel_rfl) (fun _ _ _ h => h) (Or.inl ⟨by rfl, ?hy1⟩) (by assumption) ?_
  case hy1 =>
    intro w' hSw
    obtain ⟨s0, s1, s2, s3, s4, s5⟩ := row6R hSw.1
    go_simp
    try with_reducible rfl
  try simp only [Act.put, List.setIfInBounds_toArray, List.set_cons_zero, List.set_cons_succ]
  refine wpAnyH_take (i := 1) (oi := ⟨some 11, .load _ (.tmp 10), _, _, _, _⟩) (v := ?vv2) rfl (by kernel_rfl) (by kernel_rfl) (by kernel_rfl) (fun _ _ _ h => h) (Or.inl ⟨by rfl, ?hy2⟩) (by assumption) ?_
  case hy2 =>
    intro w' hSw
    obtain ⟨s0, s1, s2, s3, s4, s5⟩ := row6R hSw.1
    go_simp
    try with_reducible rfl
  try simp only [Act.put, List.setIfInBounds_toArray, List.set_cons_zero, List.set_cons_succ]
  refine wpAnyH_take (i := 3) (oi := ⟨some 13, .fieldAddr _ (.tmp 1) 1, _, _, _, _⟩) (v := ?vv3) rfl (by kernel_rfl) (by kernel_rfl) (by kernel_rfl) (fun _ _ _ h => h) (Or.inl ⟨by rfl, ?hy3⟩) (by assumption) ?_
  case hy3 =>
    intro w' hSw
    obtain ⟨s0, s1, s2, s3, s4, s5⟩ := row6R hSw.1
    go_simp
    try with_reducible rfl
  try simp only [Act.put, List.setIfInBounds_toArray, List.set_cons_zero, List.set_cons_succ]
  refine wpAnyH_take (i := 4) (oi := ⟨some 14, .load _ (.tmp 13), _, _, _, _⟩) (v := ?vv4) rfl (by kernel_rfl) (by kernel_rfl) (by kernel_rfl) (fun _ _ _ h => h) (Or.inl ⟨by rfl, ?hy4⟩) (by assumption) ?_
  case hy4 =>
    intro w' hSw
    obtain ⟨s0, s1, s2, s3, s4, s5⟩ := row6R hSw.1
    go_simp
    try with_reducible rfl
  try simp only [Act.put, List.setIfInBounds_toArray, List.set_cons_zero, List.set_cons_succ]
  refine wpAnyH_take (i := 6) (oi := ⟨some 16, .fieldAddr _ (.tmp 1) 2, _, _, _, _⟩) (v := ?vv5) rfl (by kernel_rfl) (by kernel_rfl) (by kernel_rfl) (fun _ _ _ h => h) (Or.inl ⟨by rfl, ?hy5⟩) (by assumption) ?_
  case hy5 =>
    intro w' hSw
    obtain ⟨s0, s1, s2, s3, s4, s5⟩ := row6R hSw.1
    go_simp
    try with_reducible rfl
  try simp only [Act.put, List.setIfInBounds_toArray, List.set_cons_zero, List.set_cons_succ]
  refine wpAnyH_take (i := 7) (oi := ⟨some 17, .load _ (.tmp 16), _, _, _, _⟩) (v := ?vv6) rfl (by kernel_rfl) (by kernel_rfl) (by kernel_rfl) (fun _ _ _ h => h) (Or.inl ⟨by rfl, ?hy6⟩) (by assumption) ?_
  case hy6 =>
    intro w' hSw
    obtain ⟨s0, s1, s2, s3, s4, s5⟩ := row6R hSw.1
    go_simp
    try with_reducible rfl
  try simp only [Act.put, List.setIfInBounds_toArray, List.set_cons_zero, List.set_cons_succ]
  refine wpAnyH_take (i := 9) (oi := ⟨some 19, .fieldAddr _ (.tmp 1) 3, _, _, _, _⟩) (v := ?vv7) rfl (by kernel_rfl) (by kernel_rfl) (by kernel_rfl) (fun _ _ _ h => h) (Or.inl ⟨by rfl, ?hy7⟩) (by assumption) ?_
  case hy7 =>
    intro w' hSw
    obtain ⟨s0, s1, s2, s3, s4, s5⟩ := row6R hSw.1
    go_simp
    try with_reducible rfl
  try simp only [Act.put, List.setIfInBounds_toArray, List.set_cons_zero, List.set_cons_succ]
  refine wpAnyH_take (i := 10) (oi := ⟨some 20, .load _ (.tmp 19), _, _, _, _⟩) (v := ?vv8) rfl (by kernel_rfl) (by kernel_rfl) (by kernel_rfl) (fun _ _ _ h => h) (Or.inl ⟨by rfl, ?hy8⟩) (by assumption) ?_
  case hy8 =>
    intro w' hSw
    obtain ⟨s0, s1, s2, s3, s4, s5⟩ := row6R hSw.1
    go_simp
    try with_reducible rfl
  try simp only [Act.put, List.setIfInBounds_toArray, List.set_cons_zero, List.set_cons_succ]
  refine wpAnyH_take (i := 12) (oi := ⟨some 22, .fieldAddr _ (.tmp 1) 4, _, _, _, _⟩) (v := ?vv9) rfl (by kernel_rfl) (by kernel_rfl) (by kernel_rfl) (fun _ _ _ h => h) (Or.inl ⟨by rfl, ?hy9⟩) (by assumption) ?_
  case hy9 =>
    intro w' hSw
    obtain ⟨s0, s1, s2, s3, s4, s5⟩ := row6R hSw.1
    go_simp
    try with_reducible rfl
  try simp only [Act.put, List.setIfInBounds_toArray, List.set_cons_zero, List.set_cons_succ]
  refine wpAnyH_take (i := 13) (oi := ⟨some 23, .load _ (.tmp 22), _, _, _, _⟩) (v := ?vv10) rfl (by kernel_rfl) (by kernel_rfl) (by kernel_rfl) (fun _ _ _ h => h) (Or.inl ⟨by rfl, ?hy10⟩) (by assumption) ?_
  case hy10 =>
    intro w' hSw
    obtain ⟨s0, s1, s2, s3, s4, s5⟩ := row6R hSw.1
    go_simp
    try with_reducible rfl
  try simp only [Act.put, List.setIfInBounds_toArray, List.set_cons_zero, List.set_cons_succ]
  refine wpAnyH_take (i := 15) (oi := ⟨some 25, .fieldAddr _ (.tmp 1) 5, _, _, _, _⟩) (v := ?vv11) rfl (by kernel_rfl) (by kernel_rfl) (by kernel_rfl) (fun _ _ _ h => h) (Or.inl ⟨by rfl, ?hy11⟩) (by assumption) ?_
  case hy11 =>
    intro w' hSw
    obtain ⟨s0, s1, s2, s3, s4, s5⟩ := row6R hSw.1
    go_simp
    try with_reducible rfl
  try simp only [Act.put, List.setIfInBounds_toArray, List.set_cons_zero, List.set_cons_succ]
  refine wpAnyH_take (i := 16) (oi := ⟨some 26, .load _ (.tmp 25), _, _, _, _⟩) (v := ?vv12) rfl (by kernel_rfl) (by kernel_rfl) (by kernel_rfl) (fun _ _ _ h => h) (Or.inl ⟨by rfl, ?hy12⟩) (by assumption) ?_
  case hy12 =>
    intro w' hSw
    obtain ⟨s0, s1, s2, s3, s4, s5⟩ := row6R hSw.1
    go_simp
    try with_reducible rfl
  try simp only [Act.put, List.setIfInBounds_toArray, List.set_cons_zero, List.set_cons_succ]
  refine wpAnyH_ready (rs := [2]) (by kernel_rfl) (by simp) ?_
  refine AllReadyH.cons (o := ⟨some 12, _, _, _, _, _⟩) rfl (fun K hK => ?_) AllReadyH.nil
  go_simp
  refine (KS.out _).mono ?_
  rintro e v1 ⟨rfl, rfl⟩
  refine hK.out _ _ (by assumption) (fun hHeld2 => ?_)
  clear hK K hHeld
  have hHeld := hHeld2
  clear hHeld2
  try simp only [Act.put, List.setIfInBounds_toArray, List.set_cons_zero, List.set_cons_succ]
  refine wpAnyH_ready (rs := [5]) (by kernel_rfl) (by simp) ?_
  refine AllReadyH.cons (o := ⟨some 15, _, _, _, _, _⟩) rfl (fun K hK => ?_) AllReadyH.nil
  go_simp
  refine (KN.out _ (HN.out.below hHeld.2) (HP.out.below hHeld.2)).mono ?_
  rintro e v2 ⟨rfl, hv⟩
  refine hK.out _ _ (TxS.next (by assumption) hv) (fun hHeld2 => ?_)
  clear hK K hHeld
  have hHeld := hHeld2
  clear hHeld2
  clear hv
  try simp only [Act.put, List.setIfInBounds_toArray, List.set_cons_zero, List.set_cons_succ]
  refine wpAnyH_ready (rs := [8]) (by kernel_rfl) (by simp) ?_
  refine AllReadyH.cons (o := ⟨some 18, _, _, _, _, _⟩) rfl (fun K hK => ?_) AllReadyH.nil
  go_simp
  refine (KF.out _ (HP.out.below hHeld.2)).mono ?_
  rintro e v3 ⟨rfl, hv⟩
  refine hK.out _ _ (TxS.next (by assumption) hv) (fun hHeld2 => ?_)
  clear hK K hHeld
  have hHeld := hHeld2
  clear hHeld2
  clear hv
  try simp only [Act.put, List.setIfInBounds_toArray, List.set_cons_zero, List.set_cons_succ]
  refine wpAnyH_ready (rs := [11]) (by kernel_rfl) (by simp) ?_
  refine AllReadyH.cons (o := ⟨some 21, _, _, _, _, _⟩) rfl (fun K hK => ?_) AllReadyH.nil
  go_simp
  refine (KT.out _ (HP.out.below hHeld.2)).mono ?_
  rintro e v4 ⟨rfl, hv⟩
  refine hK.out _ _ (TxS.next (by assumption) hv) (fun hHeld2 => ?_)
  clear hK K hHeld
  have hHeld := hHeld2
  clear hHeld2
  clear hv
  try simp only [Act.put, List.setIfInBounds_toArray, List.set_cons_zero, List.set_cons_succ]
  refine wpAnyH_ready (rs := [14]) (by kernel_rfl) (by simp) ?_
  refine AllReadyH.cons (o := ⟨some 24, _, _, _, _, _⟩) rfl (fun K hK => ?_) AllReadyH.nil
  go_simp
  refine (KL.out _ (HP.out.below hHeld.2)).mono ?_
  rintro e v5 ⟨rfl, hv⟩
  refine hK.out _ _ (TxS.next (by assumption) hv) (fun hHeld2 => ?_)
  clear hK K hHeld
  have hHeld := hHeld2
  clear hHeld2
  clear hv
  try simp only [Act.put, List.setIfInBounds_toArray, List.set_cons_zero, List.set_cons_succ]
  refine wpAnyH_ready (rs := [17]) (by kernel_rfl) (by simp) ?_
  refine AllReadyH.cons (o := ⟨some 27, _, _, _, _, _⟩) rfl (fun K hK => ?_) AllReadyH.nil
  go_simp
  refine (KK.out _).mono ?_
  rintro e v6 ⟨rfl, rfl⟩
  refine hK.out _ _ (by assumption) (fun hHeld2 => ?_)
  clear hK K hHeld
  have hHeld := hHeld2
  clear hHeld2
  try simp only [Act.put, List.setIfInBounds_toArray, List.set_cons_zero, List.set_cons_succ]
  refine wpAnyH_ready (rs := [18]) (by kernel_rfl) (by simp) ?_
  refine AllReadyH.cons (o := ⟨some 28, _, _, _, _, _⟩) rfl (fun K hK => ?_) AllReadyH.nil
  go_simp
  have hv : Below v5.heap.size v5 (v5.alloc (.cells #[.string FRM, .string ys, .string yn, .string yf, .string yt, .string yl, .string yk] 9)) := (Below.refl _ _).alloc (Nat.le_refl _) _
  refine hK.out _ _ (TxS.next (by assumption) hv) (fun hHeld2 => ?_)
  clear hK K hHeld
  have hHeld := hHeld2
  clear hHeld2
  have HRD : Hid (RdV 1 (v5.alloc (.cells #[.string FRM, .string ys, .string yn, .string yf, .string yt, .string yl, .string yk] 9)) (some ⟨v5.heap.size, 0, none⟩) 7 7 (stL ps)) := by
    unfold Hid
    rw [HPS.out]
    exact (OwnV.lit 1 9 0 v5 (stL [FRM, ys, yn, yf, yt, yl, yk]) #[.string FRM, .string ys, .string yn, .string yf, .string yt, .string yl, .string yk] 7 (Nat.zero_le _) (by simp [maxLen]) rfl).rdS2
  clear hv
  try simp only [Act.put, List.setIfInBounds_toArray, List.set_cons_zero, List.set_cons_succ]
  refine wpAnyH_ready (rs := [19]) (by kernel_rfl) (by simp) ?_
  refine AllReadyH.cons (o := ⟨some 29, _, _, _, _, _⟩) rfl (fun K hK => ?_) AllReadyH.nil
  go_simp
  refine (line04 _ 7 7 ps _ HRD.out (by rw [HPS.out]; rfl) (fun x hx => (HW.out x hx).2) (by omega)).mono ?_
  rintro e v8 ⟨tt, ok, rfl, hli, hv⟩
  obtain ⟨htt, rfl⟩ := line_yes hli (fun x hx => (HW.out x hx).1)
  refine hK.out _ _ (TxS.next (by assumption) hv) (fun hHeld2 => ?_)
  clear hK K hHeld
  have hHeld := hHeld2
  clear hHeld2
  have HTT : Hid (tt = rcT a t fl st le k) := htt.trans HT.out.symm
  clear htt hli HRD
  clear hv
  try simp only [Act.put, List.setIfInBounds_toArray, List.set_cons_zero, List.set_cons_succ]
  refine wpAnyH_take (i := 20) (oi := ⟨some 9, .move (.tmp 29), _, _, _, _⟩) (v := ?vv13) rfl (by kernel_rfl) (by kernel_rfl) (by kernel_rfl) (fun _ _ _ h => h) (Or.inl ⟨by rfl, ?hy13⟩) (by assumption) ?_
  case hy13 =>
    intro w' hSw
    skip
    go_simp
    try with_reducible rfl
  try simp only [Act.put, List.setIfInBounds_toArray, List.set_cons_zero, List.set_cons_succ]
  refine wpAnyH_take (i := 21) (oi := ⟨some 30, .extract (.tmp 9) 0, _, _, _, _⟩) (v := ?vv14) rfl (by kernel_rfl) (by kernel_rfl) (by kernel_rfl) (fun _ _ _ h => h) (Or.inl ⟨by rfl, ?hy14⟩) (by assumption) ?_
  case hy14 =>
    intro w' hSw
    skip
    go_simp
    try with_reducible rfl
  try simp only [Act.put, List.setIfInBounds_toArray, List.set_cons_zero, List.set_cons_succ]
  refine wpAnyH_take (i := 22) (oi := ⟨some 31, .extract (.tmp 9) 1, _, _, _, _⟩) (v := ?vv15) rfl (by kernel_rfl) (by kernel_rfl) (by kernel_rfl) (fun _ _ _ h => h) (Or.inl ⟨by rfl, ?hy15⟩) (by assumption) ?_
  case hy15 =>
    intro w' hSw
    skip
    go_simp
    try with_reducible rfl
  try simp only [Act.put, List.setIfInBounds_toArray, List.set_cons_zero, List.set_cons_succ]
  refine wpAnyH_take (i := 23) (oi := ⟨some 4, .assign (.tmp 30), _, _, _, _⟩) (v := ?vv16) rfl (by kernel_rfl) (by kernel_rfl) (by kernel_rfl) (fun _ _ _ h => h) (Or.inl ⟨by rfl, ?hy16⟩) (by assumption) ?_
  case hy16 =>
    intro w' hSw
    skip
    go_simp
    try with_reducible rfl
  try simp only [Act.put, List.setIfInBounds_toArray, List.set_cons_zero, List.set_cons_succ]
  refine wpAnyH_take (i := 24) (oi := ⟨some 5, .assign (.tmp 31), _, _, _, _⟩) (v := ?vv17) rfl (by kernel_rfl) (by kernel_rfl) (by kernel_rfl) (fun _ _ _ h => h) (Or.inl ⟨by rfl, ?hy17⟩) (by assumption) ?_
  case hy17 =>
    intro w' hSw
    skip
    go_simp
    try with_reducible rfl
  try simp only [Act.put, List.setIfInBounds_toArray, List.set_cons_zero, List.set_cons_succ]
  refine wpAnyH_done (by kernel_rfl) ?_ _
  have HF := hide hHeld.2
  clear hHeld
  go_wp2_with fail
  go_ret2
  exact ⟨by rw [← HTT.out]; rfl, HF.out⟩
end Go.Proofs.YtminoofghdpomaaDoor
