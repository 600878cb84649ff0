/- Rt6, Rt7, Rt8, Rt9 in one text. -/
import Derived.Test.YtminoofghdpomaaDoorN10
import Derived.Test.YtminoofghdpomaaDoorN7
import Derived.Test.YtminoofghdpomaaDoorWdL
import Derived.ChangeKeysEq
import Derived.Deep.Cut
namespace Go.Proofs.YtminoofghdpomaaDoor
set_option linter.unusedVariables false
set_option linter.unusedSimpArgs false
section
open Go.RowKit Go.PlainAid

theorem wpAnyH_strong {P : Program} {md : Region.Mode} {ops : Array Oper} {Q : Exit → Act → World → Prop} {S S' : World → Prop} (h : ∀ w, S' w → S w) : ∀ (fuel : Nat) (listed : Array Bool) (a : Act) (w : World), wpAnyH P md ops Q S' fuel listed a w → wpAnyH P md ops Q S fuel listed a w
  | 0, _, _, _, k => k
  | fuel + 1, _, _, _, k => ⟨k.1, fun i hi => wpOp_mono (fun a' w' h' => ⟨h w' h'.1, wpAnyH_strong h fuel _ a' w' h'.2⟩) (k.2 i hi)⟩
def TxS2 (T : TypeId) (q : Nat) (cs : Array Value) (w : World) (c : Addr) (v : Value) (W : World) : Prop := TxS T q cs w W ∧ W.cell? c = some v
theorem TxS2.next {T : TypeId} {q : Nat} {cs : Array Value} {w W x : World} {c : Addr} {v : Value} (h : TxS2 T q cs w c v W) (hv : Below W.heap.size W x) : TxS2 T q cs w c v x :=
  ⟨h.1.next hv, (hv.cell (World.block_lt_of_cell? W _ h.2)).trans h.2⟩
def TxS3 (T : TypeId) (q : Nat) (cs : Array Value) (w : World) (c : Addr) (v : Value) (c' : Addr) (v' : Value) (W : World) : Prop := TxS2 T q cs w c v W ∧ W.cell? c' = some v'
theorem TxS3.next {T : TypeId} {q : Nat} {cs : Array Value} {w W x : World} {c c' : Addr} {v v' : Value} (h : TxS3 T q cs w c v c' v' W) (hv : Below W.heap.size W x) : TxS3 T q cs w c v c' v' x :=
  ⟨h.1.next hv, (hv.cell (World.block_lt_of_cell? W _ h.2)).trans h.2⟩
theorem side_at {a : Int} (h : a = 0 ∨ a = 1) (W : World) (q : Nat) (hr : W.heap[q]? = some (.cells #[.string ⟨#[99, 108, 105, 101, 110, 116]⟩, .string ⟨#[115, 101, 114, 118, 101, 114]⟩] 9 (0, 0))) : W.cell? ⟨q, a.toNat, none⟩ = some (.string (sideS a)) := by
  rcases h with rfl | rfl
  · exact (row2 hr).1
  · exact (row2 hr).2
theorem kind_at {k : Int} (h : k = 1 ∨ k = 2 ∨ k = 3 ∨ k = 4) (W : World) (q : Nat) (hr : W.heap[q]? = some (.cells #[.string ⟨#[97, 108, 108, 111, 119, 101, 100]⟩, .string ⟨#[105, 103, 110, 111, 114, 101, 100]⟩, .string ⟨#[114, 101, 106, 101, 99, 116, 101, 100]⟩, .string ⟨#[108, 105, 109, 105, 116, 101, 100]⟩] 9 (0, 0))) : W.cell? ⟨q, k.toNat - 1, none⟩ = some (.string (kindS k)) := by
  obtain ⟨g0, g1, g2, g3⟩ := row4R hr
  rcases h with rfl | rfl | rfl | rfl
  · exact g0
  · exact g1
  · exact g2
  · exact g3
set_option maxRecDepth 20000 in
set_option maxHeartbeats 6400000 in
theorem rtext41 (a t fl st le k : Int) (w : World) (h : RcP a t fl st le k) : Calls Tryd.prog 11 #[.agg #[.int .i64 a, .int .i64 t, .int .i64 fl, .int .i64 st, .int .i64 le, .int .i64 k]] w fun e w' => e = .returned (.string (rcT a t fl st le k)) ∧ Below w.heap.size w w' := by
  have T0 : Hid (TxS 23 w.heap.size #[.int .i64 a, .int .i64 t, .int .i64 fl, .int .i64 st, .int .i64 le, .int .i64 k] w (w.alloc (.cells #[.int .i64 a, .int .i64 t, .int .i64 fl, .int .i64 st, .int .i64 le, .int .i64 k] 23))) := ⟨heap_alloc_new w (.cells #[.int .i64 a, .int .i64 t, .int .i64 fl, .int .i64 st, .int .i64 le, .int .i64 k] 23), (Below.refl _ _).alloc (Nat.le_refl _) _⟩
  obtain ⟨hs, hk, ⟨t0, t1⟩, ⟨x0, x1⟩, ⟨y0, y1⟩, z0, z1⟩ := h.bd
  have HW := hide (rc_words h)
  obtain ⟨ys, hys⟩ : ∃ y, sideS a = y := ⟨_, rfl⟩
  obtain ⟨yk, hyk⟩ : ∃ y, kindS k = y := ⟨_, rfl⟩
  obtain ⟨yn, hyn⟩ : ∃ y, nameT t = y := ⟨_, rfl⟩
  obtain ⟨yf, hyf⟩ : ∃ y, intS fl = y := ⟨_, rfl⟩
  obtain ⟨yt, hyt⟩ : ∃ y, intS st = y := ⟨_, rfl⟩
  obtain ⟨yl, hyl⟩ : ∃ y, intS le = y := ⟨_, rfl⟩
  obtain ⟨ps, hps⟩ : ∃ ps, rcW a t fl st le k = ps := ⟨_, rfl⟩
  have HT : Hid (rcT a t fl st le k = jnS ⟨#[32]⟩ ps) := by unfold Hid; rw [← hps]; rfl
  have HPS : Hid (ps = [FRM, ys, yn, yf, yt, yl, yk]) := by unfold Hid; rw [← hps, ← hys, ← hyk, ← hyn, ← hyf, ← hyt, ← hyl]; rfl
  rw [hps] at HW
  have KN := hide (fun W => rname08 t W)
  have KF := hide (fun W => rtextI fl (by omega) (by omega) W)
  have KT := hide (fun W => rtextI st (by omega) (by omega) W)
  have KL := hide (fun W => rtextI le (by omega) (by omega) W)
  have SA := hide (fun W q hr => side_at hs W q hr)
  have KA := hide (fun W q hr => kind_at hk W q hr)
  rw [hys] at SA
  rw [hyk] at KA
  rw [hyn] at KN
  rw [hyf] at KF
  rw [hyt] at KT
  rw [hyl] at KL
  have d0 : (0 : Int) ≤ a := by omega
  have d1 : a < 2 := by omega
  have d2 : IntKind.i64.wrap (k - 1) = k - 1 := IntWalk.i64_in _ (by omega)
  have d3 : (0 : Int) ≤ k - 1 := by omega
  have d4 : k - 1 < 4 := by omega
  have d5 : (1 : Int) ≤ k := by omega
  have d6 : k < 5 := by omega
  have d7 : k ≤ 4 := by omega
  have d8 : a ≤ 1 := by omega
  clear h hys hyk hyn hyf hyt hyl hps t0 t1 x0 x1 y0 y1 z0 z1 hs hk
  go_enter Tryd.func11, Tryd.ntmps11
  go_wp2_with fail
  refine wp_region_held_drew (S := TxS 23 w.heap.size #[.int .i64 a, .int .i64 t, .int .i64 fl, .int .i64 st, .int .i64 le, .int .i64 k] w) (by kernel_rfl) T0.out.drew (fun hHeld => ?_)
  refine wpAnyH_take (i := 1) (oi := ⟨some 7, .fieldAddr _ (.tmp 1) 0, _, _, _, _⟩) (v := ?vv1) rfl (by kernel_rfl) (by kernel_rfl) (by kernel_rfl) (fun _ _ _ h => h) (Or.inl ⟨by rfl, ?hy1⟩) (by assumption) ?_
  case hy1 =>
    intro w' hSw
    obtain ⟨s0, s1, s2, s3, s4, s5⟩ := row6R hSw.1
    go_simp
    try with_reducible rfl
  try simp only [Act.put, List.setIfInBounds_toArray, List.set_cons_zero, List.set_cons_succ]
  refine wpAnyH_take (i := 2) (oi := ⟨some 8, .load _ (.tmp 7), _, _, _, _⟩) (v := ?vv2) rfl (by kernel_rfl) (by kernel_rfl) (by kernel_rfl) (fun _ _ _ h => h) (Or.inl ⟨by rfl, ?hy2⟩) (by assumption) ?_
  case hy2 =>
    intro w' hSw
    obtain ⟨s0, s1, s2, s3, s4, s5⟩ := row6R hSw.1
    go_simp
    try with_reducible rfl
  try simp only [Act.put, List.setIfInBounds_toArray, List.set_cons_zero, List.set_cons_succ]
  refine wpAnyH_take (i := 5) (oi := ⟨some 11, .fieldAddr _ (.tmp 1) 1, _, _, _, _⟩) (v := ?vv3) rfl (by kernel_rfl) (by kernel_rfl) (by kernel_rfl) (fun _ _ _ h => h) (Or.inl ⟨by rfl, ?hy3⟩) (by assumption) ?_
  case hy3 =>
    intro w' hSw
    obtain ⟨s0, s1, s2, s3, s4, s5⟩ := row6R hSw.1
    go_simp
    try with_reducible rfl
  try simp only [Act.put, List.setIfInBounds_toArray, List.set_cons_zero, List.set_cons_succ]
  refine wpAnyH_take (i := 6) (oi := ⟨some 12, .load _ (.tmp 11), _, _, _, _⟩) (v := ?vv4) rfl (by kernel_rfl) (by kernel_rfl) (by kernel_rfl) (fun _ _ _ h => h) (Or.inl ⟨by rfl, ?hy4⟩) (by assumption) ?_
  case hy4 =>
    intro w' hSw
    obtain ⟨s0, s1, s2, s3, s4, s5⟩ := row6R hSw.1
    go_simp
    try with_reducible rfl
  try simp only [Act.put, List.setIfInBounds_toArray, List.set_cons_zero, List.set_cons_succ]
  refine wpAnyH_take (i := 8) (oi := ⟨some 14, .fieldAddr _ (.tmp 1) 2, _, _, _, _⟩) (v := ?vv5) rfl (by kernel_rfl) (by kernel_rfl) (by kernel_rfl) (fun _ _ _ h => h) (Or.inl ⟨by rfl, ?hy5⟩) (by assumption) ?_
  case hy5 =>
    intro w' hSw
    obtain ⟨s0, s1, s2, s3, s4, s5⟩ := row6R hSw.1
    go_simp
    try with_reducible rfl
  try simp only [Act.put, List.setIfInBounds_toArray, List.set_cons_zero, List.set_cons_succ]
  refine wpAnyH_take (i := 9) (oi := ⟨some 15, .load _ (.tmp 14), _, _, _, _⟩) (v := ?vv6) rfl (by kernel_rfl) (by kernel_rfl) (by kernel_rfl) (fun _ _ _ h => h) (Or.inl ⟨by rfl, ?hy6⟩) (by assumption) ?_
  case hy6 =>
    intro w' hSw
    obtain ⟨s0, s1, s2, s3, s4, s5⟩ := row6R hSw.1
    go_simp
    try with_reducible rfl
  try simp only [Act.put, List.setIfInBounds_toArray, List.set_cons_zero, List.set_cons_succ]
  refine wpAnyH_take (i := 11) (oi := ⟨some 17, .fieldAddr _ (.tmp 1) 3, _, _, _, _⟩) (v := ?vv7) rfl (by kernel_rfl) (by kernel_rfl) (by kernel_rfl) (fun _ _ _ h => h) (Or.inl ⟨by rfl, ?hy7⟩) (by assumption) ?_
  case hy7 =>
    intro w' hSw
    obtain ⟨s0, s1, s2, s3, s4, s5⟩ := row6R hSw.1
    go_simp
    try with_reducible rfl
  try simp only [Act.put, List.setIfInBounds_toArray, List.set_cons_zero, List.set_cons_succ]
  refine wpAnyH_take (i := 12) (oi := ⟨some 18, .load _ (.tmp 17), _, _, _, _⟩) (v := ?vv8) rfl (by kernel_rfl) (by kernel_rfl) (by kernel_rfl) (fun _ _ _ h => h) (Or.inl ⟨by rfl, ?hy8⟩) (by assumption) ?_
  case hy8 =>
    intro w' hSw
    obtain ⟨s0, s1, s2, s3, s4, s5⟩ := row6R hSw.1
    go_simp
    try with_reducible rfl
  try simp only [Act.put, List.setIfInBounds_toArray, List.set_cons_zero, List.set_cons_succ]
  refine wpAnyH_take (i := 14) (oi := ⟨some 20, .fieldAddr _ (.tmp 1) 4, _, _, _, _⟩) (v := ?vv9) rfl (by kernel_rfl) (by kernel_rfl) (by kernel_rfl) (fun _ _ _ h => h) (Or.inl ⟨by rfl, ?hy9⟩) (by assumption) ?_
  case hy9 =>
    intro w' hSw
    obtain ⟨s0, s1, s2, s3, s4, s5⟩ := row6R hSw.1
    go_simp
    try with_reducible rfl
  try simp only [Act.put, List.setIfInBounds_toArray, List.set_cons_zero, List.set_cons_succ]
  refine wpAnyH_take (i := 15) (oi := ⟨some 21, .load _ (.tmp 20), _, _, _, _⟩) (v := ?vv10) rfl (by kernel_rfl) (by kernel_rfl) (by kernel_rfl) (fun _ _ _ h => h) (Or.inl ⟨by rfl, ?hy10⟩) (by assumption) ?_
  case hy10 =>
    intro w' hSw
    obtain ⟨s0, s1, s2, s3, s4, s5⟩ := row6R hSw.1
    go_simp
    try with_reducible rfl
  try simp only [Act.put, List.setIfInBounds_toArray, List.set_cons_zero, List.set_cons_succ]
  refine wpAnyH_take (i := 18) (oi := ⟨some 24, .fieldAddr _ (.tmp 1) 5, _, _, _, _⟩) (v := ?vv11) rfl (by kernel_rfl) (by kernel_rfl) (by kernel_rfl) (fun _ _ _ h => h) (Or.inl ⟨by rfl, ?hy11⟩) (by assumption) ?_
  case hy11 =>
    intro w' hSw
    obtain ⟨s0, s1, s2, s3, s4, s5⟩ := row6R hSw.1
    go_simp
    try with_reducible rfl
  try simp only [Act.put, List.setIfInBounds_toArray, List.set_cons_zero, List.set_cons_succ]
  refine wpAnyH_take (i := 19) (oi := ⟨some 25, .load _ (.tmp 24), _, _, _, _⟩) (v := ?vv12) rfl (by kernel_rfl) (by kernel_rfl) (by kernel_rfl) (fun _ _ _ h => h) (Or.inl ⟨by rfl, ?hy12⟩) (by assumption) ?_
  case hy12 =>
    intro w' hSw
    obtain ⟨s0, s1, s2, s3, s4, s5⟩ := row6R hSw.1
    go_simp
    try with_reducible rfl
  try simp only [Act.put, List.setIfInBounds_toArray, List.set_cons_zero, List.set_cons_succ]
  refine wpAnyH_take (i := 20) (oi := ⟨some 26, .binOp .sub _ (.tmp 25) (.const (.int .i64 1)) _, _, _, _, _⟩) (v := ?vv13) rfl (by kernel_rfl) (by kernel_rfl) (by kernel_rfl) (fun _ _ _ h => h) (Or.inl ⟨by rfl, ?hy13⟩) (by assumption) ?_
  case hy13 =>
    intro w' hSw
    skip
    go_simp
    try with_reducible rfl
  try simp only [Act.put, List.setIfInBounds_toArray, List.set_cons_zero, List.set_cons_succ]
  generalize (w.alloc (.cells #[.int .i64 a, .int .i64 t, .int .i64 fl, .int .i64 st, .int .i64 le, .int .i64 k] 23)).drew = W1 at *
  refine wpAnyH_ready (rs := [0]) (by kernel_rfl) (by simp) ?_
  refine AllReadyH.cons (o := ⟨some 6, _, _, _, _, _⟩) rfl (fun K hK => ?_) AllReadyH.nil
  go_simp
  refine (rsides41 _).mono ?_
  rintro e v1 ⟨rfl, rfl⟩
  have hv : Below W1.heap.size W1 (W1.alloc (.cells #[.string ⟨#[99, 108, 105, 101, 110, 116]⟩, .string ⟨#[115, 101, 114, 118, 101, 114]⟩] 9)) := (Below.refl _ _).alloc (Nat.le_refl _) _
  have RS := heap_alloc_new W1 (.cells #[.string ⟨#[99, 108, 105, 101, 110, 116]⟩, .string ⟨#[115, 101, 114, 118, 101, 114]⟩] 9)
  refine hK.out _ _ (TxS.next (by assumption) hv) (fun hHeld2 => ?_)
  clear hK K hHeld
  have hHeld := hHeld2
  clear hHeld2
  generalize (W1.alloc (.cells #[.string ⟨#[99, 108, 105, 101, 110, 116]⟩, .string ⟨#[115, 101, 114, 118, 101, 114]⟩] 9)) = W2 at *
  generalize W1.heap.size = sq at *
  have SC0 := SA.out W2 sq RS
  clear hv
  try simp only [Act.put, List.setIfInBounds_toArray, List.set_cons_zero, List.set_cons_succ]
  refine wpAnyH_take (i := 3) (oi := ⟨some 9, .indexAddr _ (.tmp 6) (.tmp 8), _, _, _, _⟩) (v := ?vv14) rfl (by kernel_rfl) (by kernel_rfl) (by kernel_rfl) (fun _ _ _ h => h) (Or.inl ⟨by rfl, ?hy14⟩) (by assumption) ?_
  case hy14 =>
    intro w' hSw
    skip
    go_simp
    try with_reducible rfl
  try simp only [Act.put, List.setIfInBounds_toArray, List.set_cons_zero, List.set_cons_succ]
  refine wpAnyH_strong (S' := TxS2 23 w.heap.size #[.int .i64 a, .int .i64 t, .int .i64 fl, .int .i64 st, .int .i64 le, .int .i64 k] w ⟨sq, a.toNat, none⟩ (.string ys)) (fun _ h => h.1) _ _ _ _ ?_
  have hHeld3 : TxS2 23 w.heap.size #[.int .i64 a, .int .i64 t, .int .i64 fl, .int .i64 st, .int .i64 le, .int .i64 k] w ⟨sq, a.toNat, none⟩ (.string ys) W2 := ⟨hHeld, SC0⟩
  clear hHeld SC0 RS
  have hHeld := hHeld3
  clear hHeld3
  refine wpAnyH_take (i := 4) (oi := ⟨some 10, .load _ (.tmp 9), _, _, _, _⟩) (v := ?vv15) rfl (by kernel_rfl) (by kernel_rfl) (by kernel_rfl) (fun _ _ _ h => h) (Or.inl ⟨by rfl, ?hy15⟩) (by assumption) ?_
  case hy15 =>
    intro w' hSw
    obtain ⟨_, s1⟩ := hSw
    go_simp
    try with_reducible rfl
  try simp only [Act.put, List.setIfInBounds_toArray, List.set_cons_zero, List.set_cons_succ]
  refine wpAnyH_ready (rs := [7]) (by kernel_rfl) (by simp) ?_
  refine AllReadyH.cons (o := ⟨some 13, _, _, _, _, _⟩) rfl (fun K hK => ?_) AllReadyH.nil
  go_simp
  refine (KN.out _).mono ?_
  rintro e v2 ⟨rfl, hv⟩
  refine hK.out _ _ (TxS2.next (by assumption) hv) (fun hHeld2 => ?_)
  clear hK K hHeld
  have hHeld := hHeld2
  clear hHeld2
  clear hv
  try simp only [Act.put, List.setIfInBounds_toArray, List.set_cons_zero, List.set_cons_succ]
  refine wpAnyH_ready (rs := [10]) (by kernel_rfl) (by simp) ?_
  refine AllReadyH.cons (o := ⟨some 16, _, _, _, _, _⟩) rfl (fun K hK => ?_) AllReadyH.nil
  go_simp
  refine (KF.out _).mono ?_
  rintro e v3 ⟨rfl, hd⟩
  have hv := drawn_below hd v2.heap.size
  refine hK.out _ _ (TxS2.next (by assumption) hv) (fun hHeld2 => ?_)
  clear hK K hHeld
  have hHeld := hHeld2
  clear hHeld2
  clear hv hd
  try simp only [Act.put, List.setIfInBounds_toArray, List.set_cons_zero, List.set_cons_succ]
  refine wpAnyH_ready (rs := [13]) (by kernel_rfl) (by simp) ?_
  refine AllReadyH.cons (o := ⟨some 19, _, _, _, _, _⟩) rfl (fun K hK => ?_) AllReadyH.nil
  go_simp
  refine (KT.out _).mono ?_
  rintro e v4 ⟨rfl, hd⟩
  have hv := drawn_below hd v3.heap.size
  refine hK.out _ _ (TxS2.next (by assumption) hv) (fun hHeld2 => ?_)
  clear hK K hHeld
  have hHeld := hHeld2
  clear hHeld2
  clear hv hd
  try simp only [Act.put, List.setIfInBounds_toArray, List.set_cons_zero, List.set_cons_succ]
  refine wpAnyH_ready (rs := [16]) (by kernel_rfl) (by simp) ?_
  refine AllReadyH.cons (o := ⟨some 22, _, _, _, _, _⟩) rfl (fun K hK => ?_) AllReadyH.nil
  go_simp
  refine (KL.out _).mono ?_
  rintro e v5 ⟨rfl, hd⟩
  have hv := drawn_below hd v4.heap.size
  refine hK.out _ _ (TxS2.next (by assumption) hv) (fun hHeld2 => ?_)
  clear hK K hHeld
  have hHeld := hHeld2
  clear hHeld2
  clear hv hd
  try simp only [Act.put, List.setIfInBounds_toArray, List.set_cons_zero, List.set_cons_succ]
  refine wpAnyH_ready (rs := [17]) (by kernel_rfl) (by simp) ?_
  refine AllReadyH.cons (o := ⟨some 23, _, _, _, _, _⟩) rfl (fun K hK => ?_) AllReadyH.nil
  go_simp
  refine (rkinds41 _).mono ?_
  rintro e v6 ⟨rfl, rfl⟩
  have hv : Below v5.heap.size v5 (v5.alloc (.cells #[.string ⟨#[97, 108, 108, 111, 119, 101, 100]⟩, .string ⟨#[105, 103, 110, 111, 114, 101, 100]⟩, .string ⟨#[114, 101, 106, 101, 99, 116, 101, 100]⟩, .string ⟨#[108, 105, 109, 105, 116, 101, 100]⟩] 9)) := (Below.refl _ _).alloc (Nat.le_refl _) _
  have RK := heap_alloc_new v5 (.cells #[.string ⟨#[97, 108, 108, 111, 119, 101, 100]⟩, .string ⟨#[105, 103, 110, 111, 114, 101, 100]⟩, .string ⟨#[114, 101, 106, 101, 99, 116, 101, 100]⟩, .string ⟨#[108, 105, 109, 105, 116, 101, 100]⟩] 9)
  refine hK.out _ _ (TxS2.next (by assumption) hv) (fun hHeld2 => ?_)
  clear hK K hHeld
  have hHeld := hHeld2
  clear hHeld2
  generalize (v5.alloc (.cells #[.string ⟨#[97, 108, 108, 111, 119, 101, 100]⟩, .string ⟨#[105, 103, 110, 111, 114, 101, 100]⟩, .string ⟨#[114, 101, 106, 101, 99, 116, 101, 100]⟩, .string ⟨#[108, 105, 109, 105, 116, 101, 100]⟩] 9)) = W6 at *
  generalize v5.heap.size = kq at *
  have KC0 := KA.out W6 kq RK
  clear hv
  try simp only [Act.put, List.setIfInBounds_toArray, List.set_cons_zero, List.set_cons_succ]
  refine wpAnyH_take (i := 21) (oi := ⟨some 27, .indexAddr _ (.tmp 23) (.tmp 26), _, _, _, _⟩) (v := ?vv16) rfl (by kernel_rfl) (by kernel_rfl) (by kernel_rfl) (fun _ _ _ h => h) (Or.inl ⟨by rfl, ?hy16⟩) (by assumption) ?_
  case hy16 =>
    intro w' hSw
    skip
    go_simp
    try with_reducible rfl
  try simp only [Act.put, List.setIfInBounds_toArray, List.set_cons_zero, List.set_cons_succ]
  refine wpAnyH_strong (S' := TxS3 23 w.heap.size #[.int .i64 a, .int .i64 t, .int .i64 fl, .int .i64 st, .int .i64 le, .int .i64 k] w ⟨sq, a.toNat, none⟩ (.string ys) ⟨kq, k.toNat - 1, none⟩ (.string yk)) (fun _ h => h.1) _ _ _ _ ?_
  have hHeld3 : TxS3 23 w.heap.size #[.int .i64 a, .int .i64 t, .int .i64 fl, .int .i64 st, .int .i64 le, .int .i64 k] w ⟨sq, a.toNat, none⟩ (.string ys) ⟨kq, k.toNat - 1, none⟩ (.string yk) W6 := ⟨hHeld, KC0⟩
  clear hHeld KC0 RK
  have hHeld := hHeld3
  clear hHeld3
  refine wpAnyH_take (i := 22) (oi := ⟨some 28, .load _ (.tmp 27), _, _, _, _⟩) (v := ?vv17) rfl (by kernel_rfl) (by kernel_rfl) (by kernel_rfl) (fun _ _ _ h => h) (Or.inl ⟨by rfl, ?hy17⟩) (by assumption) ?_
  case hy17 =>
    intro w' hSw
    obtain ⟨_, s1⟩ := hSw
    go_simp
    try with_reducible rfl
  try simp only [Act.put, List.setIfInBounds_toArray, List.set_cons_zero, List.set_cons_succ]
  refine wpAnyH_ready (rs := [23]) (by kernel_rfl) (by simp) ?_
  refine AllReadyH.cons (o := ⟨some 29, _, _, _, _, _⟩) rfl (fun K hK => ?_) AllReadyH.nil
  go_simp
  have hv : Below W6.heap.size W6 (W6.alloc (.cells #[.string FRM, .string ys, .string yn, .string yf, .string yt, .string yl, .string yk] 9)) := (Below.refl _ _).alloc (Nat.le_refl _) _
  refine hK.out _ _ (TxS3.next (by assumption) hv) (fun hHeld2 => ?_)
  clear hK K hHeld
  have hHeld := hHeld2
  clear hHeld2
  have HRD : Hid (RdV 1 (W6.alloc (.cells #[.string FRM, .string ys, .string yn, .string yf, .string yt, .string yl, .string yk] 9)) (some ⟨W6.heap.size, 0, none⟩) 7 7 (stL ps)) := by
    unfold Hid
    rw [HPS.out]
    exact (OwnV.lit 1 9 0 W6 (stL [FRM, ys, yn, yf, yt, yl, yk]) #[.string FRM, .string ys, .string yn, .string yf, .string yt, .string yl, .string yk] 7 (Nat.zero_le _) (by simp [maxLen]) rfl).rdS2
  clear hv
  try simp only [Act.put, List.setIfInBounds_toArray, List.set_cons_zero, List.set_cons_succ]
  refine wpAnyH_ready (rs := [24]) (by kernel_rfl) (by simp) ?_
  refine AllReadyH.cons (o := ⟨some 30, _, _, _, _, _⟩) rfl (fun K hK => ?_) AllReadyH.nil
  go_simp
  refine (rline04 _ 7 7 ps _ HRD.out (by rw [HPS.out]; rfl) (fun x hx => (HW.out x hx).2) (by omega)).mono ?_
  rintro e v8 ⟨tt, ok, rfl, hli, hv⟩
  obtain ⟨htt, rfl⟩ := line_yes hli (fun x hx => (HW.out x hx).1)
  refine hK.out _ _ (TxS3.next (by assumption) hv) (fun hHeld2 => ?_)
  clear hK K hHeld
  have hHeld := hHeld2
  clear hHeld2
  have HTT : Hid (tt = rcT a t fl st le k) := htt.trans HT.out.symm
  clear htt hli HRD hv
  try simp only [Act.put, List.setIfInBounds_toArray, List.set_cons_zero, List.set_cons_succ]
  refine wpAnyH_take (i := 25) (oi := ⟨some 5, .move (.tmp 30), _, _, _, _⟩) (v := ?vv18) rfl (by kernel_rfl) (by kernel_rfl) (by kernel_rfl) (fun _ _ _ h => h) (Or.inl ⟨by rfl, ?hy18⟩) (by assumption) ?_
  case hy18 =>
    intro w' hSw
    skip
    go_simp
    try with_reducible rfl
  try simp only [Act.put, List.setIfInBounds_toArray, List.set_cons_zero, List.set_cons_succ]
  refine wpAnyH_take (i := 26) (oi := ⟨some 31, .extract (.tmp 5) 0, _, _, _, _⟩) (v := ?vv19) rfl (by kernel_rfl) (by kernel_rfl) (by kernel_rfl) (fun _ _ _ h => h) (Or.inl ⟨by rfl, ?hy19⟩) (by assumption) ?_
  case hy19 =>
    intro w' hSw
    skip
    go_simp
    try with_reducible rfl
  try simp only [Act.put, List.setIfInBounds_toArray, List.set_cons_zero, List.set_cons_succ]
  refine wpAnyH_take (i := 27) (oi := ⟨some 32, .extract (.tmp 5) 1, _, _, _, _⟩) (v := ?vv20) rfl (by kernel_rfl) (by kernel_rfl) (by kernel_rfl) (fun _ _ _ h => h) (Or.inl ⟨by rfl, ?hy20⟩) (by assumption) ?_
  case hy20 =>
    intro w' hSw
    skip
    go_simp
    try with_reducible rfl
  try simp only [Act.put, List.setIfInBounds_toArray, List.set_cons_zero, List.set_cons_succ]
  refine wpAnyH_take (i := 28) (oi := ⟨some 3, .assign (.tmp 31), _, _, _, _⟩) (v := ?vv21) rfl (by kernel_rfl) (by kernel_rfl) (by kernel_rfl) (fun _ _ _ h => h) (Or.inl ⟨by rfl, ?hy21⟩) (by assumption) ?_
  case hy21 =>
    intro w' hSw
    skip
    go_simp
    try with_reducible rfl
  try simp only [Act.put, List.setIfInBounds_toArray, List.set_cons_zero, List.set_cons_succ]
  refine wpAnyH_take (i := 29) (oi := ⟨some 4, .assign (.tmp 32), _, _, _, _⟩) (v := ?vv22) rfl (by kernel_rfl) (by kernel_rfl) (by kernel_rfl) (fun _ _ _ h => h) (Or.inl ⟨by rfl, ?hy22⟩) (by assumption) ?_
  case hy22 =>
    intro w' hSw
    skip
    go_simp
    try with_reducible rfl
  try simp only [Act.put, List.setIfInBounds_toArray, List.set_cons_zero, List.set_cons_succ]
  refine wpAnyH_done (by kernel_rfl) ?_ _
  have HF := hide hHeld.1.1.2
  clear hHeld
  go_wp2_with fail
  go_ret
  exact ⟨by rw [← HTT.out]; rfl, HF.out⟩
end

section
open Go.RowKit Go.PlainAid

theorem eqBool6 (b : Bool) (d : Nat) (w : World) : Sem.run Tryd.prog (Op.equalIn (d + 1) 4 (.bool b) (.bool true)) w = .ok b w := by
  have hu := Tryd.underlying4
  cases b <;> simp [Op.equalIn, run_underlying hu]
set_option maxRecDepth 20000 in
set_option maxHeartbeats 3200000 in
theorem eqSixG (d : Nat) (b0 b1 b2 b3 b4 b5 : Bool) (w : World) : Sem.run Tryd.prog (Op.equalIn (d + 1 + 1) 55 (.agg #[.bool b0, .bool b1, .bool b2, .bool b3, .bool b4, .bool b5]) (.agg #[.bool true, .bool true, .bool true, .bool true, .bool true, .bool true])) w = .ok (b0 && (b1 && (b2 && (b3 && (b4 && b5))))) w := by
  obtain ⟨i, hi⟩ := Option.isSome_iff_exists.1 (show (Tryd.prog.info? 4).isSome = true by kernel_rfl)
  have hc : Tryd.prog.cellsOf 4 = 1 := by kernel_rfl
  rw [run_equalIn_array w (d + 1) _ _ Tryd.underlying55 hi, hc]
  show Sem.run Tryd.prog (Op.eqItems (d + 1) 4 1 _ _ [0, 1, 2, 3, 4, 5]) w = _
  have hp : Tryd.prog.plainKey 4 = true := by kernel_rfl
  have l0 : Sem.run Tryd.prog (part 4 #[.bool b0, .bool b1, .bool b2, .bool b3, .bool b4, .bool b5] (0 * 1)) w = .ok (.bool b0) w := run_part_plain w hp rfl
  have r0 : Sem.run Tryd.prog (part 4 #[.bool true, .bool true, .bool true, .bool true, .bool true, .bool true] (0 * 1)) w = .ok (.bool true) w := run_part_plain w hp rfl
  have l1 : Sem.run Tryd.prog (part 4 #[.bool b0, .bool b1, .bool b2, .bool b3, .bool b4, .bool b5] (1 * 1)) w = .ok (.bool b1) w := run_part_plain w hp rfl
  have r1 : Sem.run Tryd.prog (part 4 #[.bool true, .bool true, .bool true, .bool true, .bool true, .bool true] (1 * 1)) w = .ok (.bool true) w := run_part_plain w hp rfl
  have m1 := l1
  have n1 := r1
  rw [show 1 * 1 = 1 from rfl] at m1 n1
  have l2 : Sem.run Tryd.prog (part 4 #[.bool b0, .bool b1, .bool b2, .bool b3, .bool b4, .bool b5] (2 * 1)) w = .ok (.bool b2) w := run_part_plain w hp rfl
  have r2 : Sem.run Tryd.prog (part 4 #[.bool true, .bool true, .bool true, .bool true, .bool true, .bool true] (2 * 1)) w = .ok (.bool true) w := run_part_plain w hp rfl
  have m2 := l2
  have n2 := r2
  rw [show 2 * 1 = 2 from rfl] at m2 n2
  have l3 : Sem.run Tryd.prog (part 4 #[.bool b0, .bool b1, .bool b2, .bool b3, .bool b4, .bool b5] (3 * 1)) w = .ok (.bool b3) w := run_part_plain w hp rfl
  have r3 : Sem.run Tryd.prog (part 4 #[.bool true, .bool true, .bool true, .bool true, .bool true, .bool true] (3 * 1)) w = .ok (.bool true) w := run_part_plain w hp rfl
  have m3 := l3
  have n3 := r3
  rw [show 3 * 1 = 3 from rfl] at m3 n3
  have l4 : Sem.run Tryd.prog (part 4 #[.bool b0, .bool b1, .bool b2, .bool b3, .bool b4, .bool b5] (4 * 1)) w = .ok (.bool b4) w := run_part_plain w hp rfl
  have r4 : Sem.run Tryd.prog (part 4 #[.bool true, .bool true, .bool true, .bool true, .bool true, .bool true] (4 * 1)) w = .ok (.bool true) w := run_part_plain w hp rfl
  have m4 := l4
  have n4 := r4
  rw [show 4 * 1 = 4 from rfl] at m4 n4
  have l5 : Sem.run Tryd.prog (part 4 #[.bool b0, .bool b1, .bool b2, .bool b3, .bool b4, .bool b5] (5 * 1)) w = .ok (.bool b5) w := run_part_plain w hp rfl
  have r5 : Sem.run Tryd.prog (part 4 #[.bool true, .bool true, .bool true, .bool true, .bool true, .bool true] (5 * 1)) w = .ok (.bool true) w := run_part_plain w hp rfl
  have m5 := l5
  have n5 := r5
  rw [show 5 * 1 = 5 from rfl] at m5 n5
  simp only [Op.eqItems, Sem.run_bind, l0, l1, l2, l3, l4, l5, r0, r1, r2, r3, r4, r5, Result.andThen_ok, eqBool6]
  cases b0 <;> cases b1 <;> cases b2 <;> cases b3 <;> cases b4 <;> cases b5 <;> simp [m1, m2, m3, m4, m5, n1, n2, n3, n4, n5, eqBool6]
theorem eqSix (b0 b1 b2 b3 b4 b5 : Bool) (w : World) : Sem.run Tryd.prog (Op.equalIn 10000 55 (.agg #[.bool b0, .bool b1, .bool b2, .bool b3, .bool b4, .bool b5]) (.agg #[.bool true, .bool true, .bool true, .bool true, .bool true, .bool true])) w = .ok (b0 && (b1 && (b2 && (b3 && (b4 && b5))))) w := eqSixG 9998 b0 b1 b2 b3 b4 b5 w
theorem rc_size {a t fl st le k : Int} (h : RcP a t fl st le k) : 0 < (rcT a t fl st le k).size ∧ (rcT a t fl st le k).size ≤ 10000 := by
  constructor
  · refine Nat.pos_of_ne_zero fun e => ?_
    have hp := rc_parts h
    have e2 : rcT a t fl st le k = ⟨#[]⟩ := ByteArray.ext (Array.eq_empty_of_size_eq_zero e)
    rw [e2] at hp
    have : pcB 32 (⟨#[]⟩ : ByteArray) = [⟨#[]⟩] := by decide
    rw [this] at hp
    simp [rcW] at hp
  · have h1 := join_len [32] 1000 ((rcW a t fl st le k).map (·.data.toList)) (by
      intro x hx
      obtain ⟨y, hy, rfl⟩ := List.mem_map.1 hx
      have := (rc_words h y hy).2
      rw [Lib.size_eq] at this
      exact this)
    have h2 : (rcT a t fl st le k).size = (Lib.join ((rcW a t fl st le k).map (·.data.toList)) [32]).length := by rw [Lib.size_eq]; rfl
    rw [h2]
    refine Nat.le_trans h1 ?_
    show 7 * (1000 + 1) ≤ 10000
    omega
theorem rc_sw {a t fl st le k : Int} (h : RcP a t fl st le k) : SwR (rcT a t fl st le k) (rcW a t fl st le k) true :=
  .inl ⟨rfl, .inr ⟨(rc_size h).1, (rc_parts h).symm, fun x hx => (rc_words h x hx).1⟩⟩
theorem SwR.same7 {s : ByteArray} {ps qs : List ByteArray} {a b : Bool} (h : SwR s ps a) (k : SwR s qs b) : ps = qs ∧ a = b := by
  rcases h with ⟨rfl, h⟩ | ⟨rfl, rfl, h0, x, hx, h1⟩ <;> rcases k with ⟨rfl, k⟩ | ⟨rfl, rfl, k0, y, hy, k1⟩
  · rcases h with ⟨h1, rfl⟩ | ⟨h1, rfl, _⟩ <;> rcases k with ⟨k1, rfl⟩ | ⟨k1, rfl, _⟩
    · exact ⟨rfl, rfl⟩
    · omega
    · omega
    · exact ⟨rfl, rfl⟩
  · rcases h with ⟨h1, rfl⟩ | ⟨_, rfl, h2⟩
    · omega
    · rw [h2 y hy] at k1
      cases k1
  · rcases k with ⟨k2, rfl⟩ | ⟨_, rfl, k2⟩
    · omega
    · rw [k2 x hx] at h1
      cases h1
  · exact ⟨rfl, rfl⟩
/-- A line whose words are no seven, or do not begin so, is no record's. -/
theorem rc_none {s : ByteArray} {ps : List ByteArray} {ok : Bool} (h : SwR s ps ok) (hn : ∀ p1 p2 p3 p4 p5 p6, ps ≠ [FRM, p1, p2, p3, p4, p5, p6]) : RcR s 0 0 0 0 0 0 false :=
  .inr ⟨rfl, ⟨rfl, rfl, rfl, rfl, rfl, rfl⟩, fun a t fl st le k hr e => by
    subst e
    exact hn _ _ _ _ _ _ (h.same7 (rc_sw hr)).1⟩
theorem sw_parts {s : ByteArray} {p : ByteArray} {ps : List ByteArray} {ok : Bool} (h : SwR s (p :: ps) ok) : pcB 32 s = p :: ps := by
  rcases h with ⟨_, ⟨_, e⟩ | ⟨_, e, _⟩⟩ | ⟨_, e, _⟩
  · cases e
  · exact e.symm
  · cases e
/-- What the six words behind the first say. -/
structure Pcs (p1 p2 p3 p4 p5 p6 : ByteArray) (a t fl st le k : Int) (b0 b1 b2 b3 b4 b5 : Bool) : Prop where
  h0 : NdR sideS 0 1 p1 a b0
  h1 : NmR p2 t b1
  h2 : ReadR p3 fl b2
  h3 : ReadR p4 st b3
  h4 : ReadR p5 le b4
  h5 : NdR kindS 1 4 p6 k b5
theorem NdR.own {nm : Int → ByteArray} {lo hi : Int} {u x : Int} {ok : Bool} (h : NdR nm lo hi (nm u) x ok) (h1 : lo ≤ u) (h2 : u ≤ hi) (inj : ∀ v, lo ≤ v → v ≤ hi → nm v = nm u → v = u) : x = u ∧ ok = true := by
  rcases h with ⟨rfl, h3, h4, h5⟩ | ⟨rfl, rfl, h3⟩
  · exact ⟨inj x h3 h4 h5, rfl⟩
  · exact absurd rfl (h3 u h1 h2)
theorem ReadR.own7 {u x : Int} {ok : Bool} (h : ReadR (intS u) x ok) (h1 : -9223372036854775808 ≤ u) (h2 : u ≤ 9223372036854775807) : x = u ∧ ok = true := by
  rcases h with ⟨rfl, h3, h4, h5⟩ | ⟨rfl, rfl, h3⟩
  · exact ⟨(intS_inj3 h1 h2 h3 h4 h5).symm, rfl⟩
  · exact absurd rfl (h3 u h1 h2)
theorem Pcs.own {a t fl st le k a' t' fl' st' le' k' : Int} {b0 b1 b2 b3 b4 b5 : Bool} (q : RcP a t fl st le k) (h : Pcs (sideS a) (nameT t) (intS fl) (intS st) (intS le) (kindS k) a' t' fl' st' le' k' b0 b1 b2 b3 b4 b5) :
    (a' = a ∧ t' = t ∧ fl' = fl ∧ st' = st ∧ le' = le ∧ k' = k) ∧ b0 = true ∧ b1 = true ∧ b2 = true ∧ b3 = true ∧ b4 = true ∧ b5 = true := by
  obtain ⟨h0, h1, h2, h3, h4, h5⟩ := h
  obtain ⟨q1, q2, ⟨q3, q4⟩, ⟨q5, q6⟩, ⟨q7, q8⟩, q9, q10⟩ := q.bd
  have e0 := h0.own (by omega) (by omega) (fun v a b e => side_inj (by omega) q1 e)
  have e1 := NmR.own q3 q4 h1
  have e2 := h2.own7 (by omega) (by omega)
  have e3 := h3.own7 (by omega) (by omega)
  have e4 := h4.own7 (by omega) (by omega)
  have e5 := h5.own (by omega) (by omega) (fun v a b e => kind_inj (by omega) q2 e)
  exact ⟨⟨e0.1, e1.1, e2.1, e3.1, e4.1, e5.1⟩, e0.2, e1.2, e2.2, e3.2, e4.2, e5.2⟩
/-- All six are right and the record may be: it is the line's. -/
theorem rc_yes {s p1 p2 p3 p4 p5 p6 : ByteArray} {ok : Bool} {a t fl st le k : Int} (h : SwR s [FRM, p1, p2, p3, p4, p5, p6] ok) (q : Pcs p1 p2 p3 p4 p5 p6 a t fl st le k true true true true true true) (hr : RcP a t fl st le k) : RcR s a t fl st le k true := by
  refine .inl ⟨rfl, hr, ?_⟩
  have hp := sw_parts h
  obtain ⟨h0, h1, h2, h3, h4, h5⟩ := q
  have e0 : p1 = sideS a := by rcases h0 with ⟨_, _, _, e⟩ | ⟨e, _⟩; exact e.symm; cases e
  have e1 : p2 = nameT t := by rcases h1 with ⟨_, _, _, e, _⟩ | ⟨e, _⟩; exact e.symm; cases e
  have e2 : p3 = intS fl := by rcases h2 with ⟨_, _, _, e⟩ | ⟨e, _⟩; exact e; cases e
  have e3 : p4 = intS st := by rcases h3 with ⟨_, _, _, e⟩ | ⟨e, _⟩; exact e; cases e
  have e4 : p5 = intS le := by rcases h4 with ⟨_, _, _, e⟩ | ⟨e, _⟩; exact e; cases e
  have e5 : p6 = kindS k := by rcases h5 with ⟨_, _, _, e⟩ | ⟨e, _⟩; exact e.symm; cases e
  have hj := jnS_pcB 32 s
  rw [hp, e0, e1, e2, e3, e4, e5] at hj
  exact hj.symm
/-- Else it is no record's. -/
theorem rc_no {s p1 p2 p3 p4 p5 p6 : ByteArray} {ok : Bool} {a t fl st le k : Int} {b0 b1 b2 b3 b4 b5 : Bool} (h : SwR s [FRM, p1, p2, p3, p4, p5, p6] ok) (q : Pcs p1 p2 p3 p4 p5 p6 a t fl st le k b0 b1 b2 b3 b4 b5)
    (hn : ¬ ((b0 && (b1 && (b2 && (b3 && (b4 && b5))))) = true ∧ RcP a t fl st le k)) : RcR s 0 0 0 0 0 0 false :=
  .inr ⟨rfl, ⟨rfl, rfl, rfl, rfl, rfl, rfl⟩, fun a' t' fl' st' le' k' hr e => by
    subst e
    have e2 := (h.same7 (rc_sw hr)).1
    simp only [rcW, List.cons.injEq, and_true, true_and] at e2
    obtain ⟨rfl, rfl, rfl, rfl, rfl, rfl⟩ := e2
    obtain ⟨⟨rfl, rfl, rfl, rfl, rfl, rfl⟩, rfl, rfl, rfl, rfl, rfl, rfl⟩ := q.own hr
    exact hn ⟨rfl, hr⟩⟩
def RcE (s : ByteArray) (w : World) (e : Ending) (w' : World) : Prop := ∃ (a t fl st le k : Int) (ok : Bool), e = .returned (.tuple #[.agg #[.int .i64 a, .int .i64 t, .int .i64 fl, .int .i64 st, .int .i64 le, .int .i64 k], .bool ok]) ∧ RcR s a t fl st le k ok ∧ Below w.heap.size w w'
end

section
open Go.RowKit Go.PlainAid

theorem list7R {α : Type} {l : List α} (h : l.length = 7) : ∃ c0 c1 c2 c3 c4 c5 c6, l = [c0, c1, c2, c3, c4, c5, c6] := by
  match l, h with
  | [c0, c1, c2, c3, c4, c5, c6], _ => exact ⟨c0, c1, c2, c3, c4, c5, c6, rfl⟩
theorem cell_row {w : World} {b j : Nat} {cs : Array Value} {T : TypeId} {v : Value} (h : w.heap[b]? = some (.cells cs T (0, 0))) (hc : cs[j]? = some v) : w.cell? ⟨b, j, none⟩ = some v := by
  rw [cell_of_row w b j _ _ _ h]
  exact hc
/-- The three blocks that Read writes: its answer, the record, the six. -/
def RdZ (T TB : TypeId) (q x i : Nat) (zs cs is : Array Value) (w W : World) : Prop :=
  W.heap[q]? = some (.cells zs T (0, 0)) ∧ W.heap[x]? = some (.cells cs T (0, 0)) ∧ W.heap[i]? = some (.cells is TB (0, 0)) ∧ Below q w W ∧ q < x ∧ x < i
theorem RdZ.next {T TB : TypeId} {q x i : Nat} {zs cs is : Array Value} {w W v : World} (h : RdZ T TB q x i zs cs is w W) (hv : Below W.heap.size W v) : RdZ T TB q x i zs cs is w v :=
  ⟨keepRow h.1 hv, keepRow h.2.1 hv, keepRow h.2.2.1 hv, h.2.2.2.1.trans (hv.mono (Nat.le_of_lt (rowLt h.1))), h.2.2.2.2⟩
theorem RdZ.put {T TB : TypeId} {q x i : Nat} {zs cs is : Array Value} {w W : World} (h : RdZ T TB q x i zs cs is w W) (j : Nat) {old oldb : Value} (u v : Value) (hc : cs[j]? = some old) (hb : is[j]? = some oldb) :
    (W.cell? ⟨x, j, none⟩ = some old ∧ W.frozen? ⟨x, j, none⟩ = false) ∧ ((W.setCell ⟨x, j, none⟩ u).cell? ⟨i, j, none⟩ = some oldb ∧ (W.setCell ⟨x, j, none⟩ u).frozen? ⟨i, j, none⟩ = false) ∧
      RdZ T TB q x i zs (cs.setIfInBounds j u) (is.setIfInBounds j v) w ((W.setCell ⟨x, j, none⟩ u).setCell ⟨i, j, none⟩ v) := by
  obtain ⟨h1, h2, h3, h4, h5, h6⟩ := h
  have a1 : (W.setCell ⟨x, j, none⟩ u).heap[i]? = some (.cells is TB (0, 0)) := (Below.heap_setCell W ⟨x, j, none⟩ u i (by show i ≠ x; omega)).trans h3
  have a2 : (W.setCell ⟨x, j, none⟩ u).heap[q]? = some (.cells zs T (0, 0)) := (Below.heap_setCell W ⟨x, j, none⟩ u q (by show q ≠ x; omega)).trans h1
  have a3 := setRow W x j u h2
  refine ⟨⟨cell_row h2 hc, frozenRow h2 j⟩, ⟨cell_row a1 hb, frozenRow a1 j⟩, ?_, ?_, setRow _ i j v a1, ?_, h5, h6⟩
  · exact (Below.heap_setCell _ ⟨i, j, none⟩ v q (by show q ≠ i; omega)).trans a2
  · exact (Below.heap_setCell _ ⟨i, j, none⟩ v x (by show x ≠ i; omega)).trans a3
  · exact (h4.setCell (p := ⟨x, j, none⟩) (Nat.le_of_lt h5) u).setCell (p := ⟨i, j, none⟩) (by show q ≤ i; omega) v
/-- The words of the line, ahead of these blocks. -/
def LsW (b off x : Nat) (ps : List ByteArray) (W : World) : Prop := b < x ∧ ∀ i, i < 7 → W.cell? ⟨b, off + i, none⟩ = some (stL ps i)
theorem LsW.next {b off x : Nat} {ps : List ByteArray} {W v : World} (h : LsW b off x ps W) (hv : Below W.heap.size W v) : LsW b off x ps v :=
  ⟨h.1, fun i hi => (hv.cell (World.block_lt_of_cell? W _ (h.2 i hi))).trans (h.2 i hi)⟩
theorem LsW.put {b off x : Nat} {ps : List ByteArray} {W : World} (h : LsW b off x ps W) (j : Nat) (u v : Value) : LsW b off x ps ((W.setCell ⟨x, j, none⟩ u).setCell ⟨x + 1, j, none⟩ v) :=
  ⟨h.1, fun i hi => by
    have h1 := h.1
    have e1 := World.cell?_of_block (a := ⟨b, off + i, none⟩) (Below.heap_setCell W ⟨x, j, none⟩ u b (by show b ≠ x; omega))
    have e2 := World.cell?_of_block (a := ⟨b, off + i, none⟩) (Below.heap_setCell (W.setCell ⟨x, j, none⟩ u) ⟨x + 1, j, none⟩ v b (by show b ≠ x + 1; omega))
    exact e2.trans (e1.trans (h.2 i hi))⟩
/-- The answer's six cells are stored. -/
theorem store6 {w : World} {p : Nat} {T : TypeId} {a0 a1 a2 a3 a4 a5 : Value} (h : w.heap[p]? = some (.cells #[a0, a1, a2, a3, a4, a5] T (0, 0))) (b0 b1 b2 b3 b4 b5 : Value) :
    (w.cell? ⟨p, 0, none⟩ = some a0 ∧ w.frozen? ⟨p, 0, none⟩ = false) ∧ ((w.setCell ⟨p, 0, none⟩ b0).cell? ⟨p, 1, none⟩ = some a1 ∧ (w.setCell ⟨p, 0, none⟩ b0).frozen? ⟨p, 1, none⟩ = false) ∧ (((w.setCell ⟨p, 0, none⟩ b0).setCell ⟨p, 1, none⟩ b1).cell? ⟨p, 2, none⟩ = some a2 ∧ ((w.setCell ⟨p, 0, none⟩ b0).setCell ⟨p, 1, none⟩ b1).frozen? ⟨p, 2, none⟩ = false) ∧ ((((w.setCell ⟨p, 0, none⟩ b0).setCell ⟨p, 1, none⟩ b1).setCell ⟨p, 2, none⟩ b2).cell? ⟨p, 3, none⟩ = some a3 ∧ (((w.setCell ⟨p, 0, none⟩ b0).setCell ⟨p, 1, none⟩ b1).setCell ⟨p, 2, none⟩ b2).frozen? ⟨p, 3, none⟩ = false) ∧ (((((w.setCell ⟨p, 0, none⟩ b0).setCell ⟨p, 1, none⟩ b1).setCell ⟨p, 2, none⟩ b2).setCell ⟨p, 3, none⟩ b3).cell? ⟨p, 4, none⟩ = some a4 ∧ ((((w.setCell ⟨p, 0, none⟩ b0).setCell ⟨p, 1, none⟩ b1).setCell ⟨p, 2, none⟩ b2).setCell ⟨p, 3, none⟩ b3).frozen? ⟨p, 4, none⟩ = false) ∧ ((((((w.setCell ⟨p, 0, none⟩ b0).setCell ⟨p, 1, none⟩ b1).setCell ⟨p, 2, none⟩ b2).setCell ⟨p, 3, none⟩ b3).setCell ⟨p, 4, none⟩ b4).cell? ⟨p, 5, none⟩ = some a5 ∧ (((((w.setCell ⟨p, 0, none⟩ b0).setCell ⟨p, 1, none⟩ b1).setCell ⟨p, 2, none⟩ b2).setCell ⟨p, 3, none⟩ b3).setCell ⟨p, 4, none⟩ b4).frozen? ⟨p, 5, none⟩ = false) ∧ ((((((w.setCell ⟨p, 0, none⟩ b0).setCell ⟨p, 1, none⟩ b1).setCell ⟨p, 2, none⟩ b2).setCell ⟨p, 3, none⟩ b3).setCell ⟨p, 4, none⟩ b4).setCell ⟨p, 5, none⟩ b5).heap[p]? = some (.cells #[b0, b1, b2, b3, b4, b5] T (0, 0)) := by
  have h1 := setRow _ p 0 b0 h
  have h2 := setRow _ p 1 b1 h1
  have h3 := setRow _ p 2 b2 h2
  have h4 := setRow _ p 3 b3 h3
  have h5 := setRow _ p 4 b4 h4
  have h6 := setRow _ p 5 b5 h5
  simp only [List.setIfInBounds_toArray, List.set_cons_zero, List.set_cons_succ] at h1 h2 h3 h4 h5 h6
  exact ⟨⟨cell_row h rfl, frozenRow h 0⟩, ⟨cell_row h1 rfl, frozenRow h1 1⟩, ⟨cell_row h2 rfl, frozenRow h2 2⟩, ⟨cell_row h3 rfl, frozenRow h3 3⟩, ⟨cell_row h4 rfl, frozenRow h4 4⟩, ⟨cell_row h5 rfl, frozenRow h5 5⟩, h6⟩
theorem below6 {B : Nat} {w w' : World} {p : Nat} (h : Below B w w') (hp : B ≤ p) (b0 b1 b2 b3 b4 b5 : Value) : Below B w ((((((w'.setCell ⟨p, 0, none⟩ b0).setCell ⟨p, 1, none⟩ b1).setCell ⟨p, 2, none⟩ b2).setCell ⟨p, 3, none⟩ b3).setCell ⟨p, 4, none⟩ b4).setCell ⟨p, 5, none⟩ b5) := (((((h.setCell (p := ⟨p, 0, none⟩) hp b0).setCell (p := ⟨p, 1, none⟩) hp b1).setCell (p := ⟨p, 2, none⟩) hp b2).setCell (p := ⟨p, 3, none⟩) hp b3).setCell (p := ⟨p, 4, none⟩) hp b4).setCell (p := ⟨p, 5, none⟩) hp b5
set_option maxRecDepth 20000 in
set_option maxHeartbeats 12800000 in
theorem kread41 (s : ByteArray) (w : World) (hs : s.size ≤ 1000000) (hN : NmW w) (hP : PowW w) : Calls Tryd.prog 10 #[.string s] w (RcE s w) := by
  have R0 := hide (heap_alloc_new w (.cells #[.int .i64 0, .int .i64 0, .int .i64 0, .int .i64 0, .int .i64 0, .int .i64 0] 23))
  have B0 : Hid (Below w.heap.size w (w.alloc (.cells #[.int .i64 0, .int .i64 0, .int .i64 0, .int .i64 0, .int .i64 0, .int .i64 0] 23))) := (Below.refl _ _).alloc (Nat.le_refl _) _
  have HN := hide hN
  clear hN hP
  go_enter Tryd.func10, Tryd.ntmps10
  go_wp2_with fail
  generalize w.alloc (.cells #[.int .i64 0, .int .i64 0, .int .i64 0, .int .i64 0, .int .i64 0, .int .i64 0] 23) = W0 at *
  refine (split04 s _ hs).mono ?_
  rintro e v1 ⟨A, n, c, ps, ok, rfl, hn, hr, hsw, hb⟩
  have HB1 := hide (B0.out.of hb)
  have HSW := hide hsw
  have HR := hide hr
  have R1 := keepRow R0.out hb
  have hq1 := rowLt R1
  have HNN := hide hn
  clear hb R0 hsw hr hn
  by_cases h7 : n = 7
  · subst h7
    obtain ⟨p0, p1, p2, p3, p4, p5, p6, rfl⟩ := list7R HNN.out.symm
    obtain ⟨b, off, rfl, hc⟩ := HR.out.2.2.2 (by omega)
    have k0 : v1.cell? ⟨b, off, none⟩ = some (.string p0) := hc 0 (by omega)
    clear HNN
    by_cases h0 : p0 = FRM
    · subst h0
      obtain ⟨l1, l2⟩ := str_yesL (a := FRM) (l := [102, 114, 97, 109, 101]) rfl
      have X1 : Hid (RdZ 23 55 w.heap.size v1.heap.size (v1.heap.size + 1) #[.int .i64 0, .int .i64 0, .int .i64 0, .int .i64 0, .int .i64 0, .int .i64 0] #[.int .i64 0, .int .i64 0, .int .i64 0, .int .i64 0, .int .i64 0, .int .i64 0] #[.bool false, .bool false, .bool false, .bool false, .bool false, .bool false] w ((v1.alloc (.cells #[.int .i64 0, .int .i64 0, .int .i64 0, .int .i64 0, .int .i64 0, .int .i64 0] 23)).alloc (.cells #[.bool false, .bool false, .bool false, .bool false, .bool false, .bool false] 55))) := by
        have a1 := heap_alloc_new v1 (.cells #[.int .i64 0, .int .i64 0, .int .i64 0, .int .i64 0, .int .i64 0, .int .i64 0] 23)
        have a2 := heap_alloc_new (v1.alloc (.cells #[.int .i64 0, .int .i64 0, .int .i64 0, .int .i64 0, .int .i64 0, .int .i64 0] 23)) (.cells #[.bool false, .bool false, .bool false, .bool false, .bool false, .bool false] 55)
        have z1 : (v1.alloc (.cells #[.int .i64 0, .int .i64 0, .int .i64 0, .int .i64 0, .int .i64 0, .int .i64 0] 23)).heap.size = v1.heap.size + 1 := by simp
        have c1 : Below v1.heap.size v1 (v1.alloc (.cells #[.int .i64 0, .int .i64 0, .int .i64 0, .int .i64 0, .int .i64 0, .int .i64 0] 23)) := (Below.refl _ _).alloc (Nat.le_refl _) _
        have c2 : Below (v1.alloc (.cells #[.int .i64 0, .int .i64 0, .int .i64 0, .int .i64 0, .int .i64 0, .int .i64 0] 23)).heap.size (v1.alloc (.cells #[.int .i64 0, .int .i64 0, .int .i64 0, .int .i64 0, .int .i64 0, .int .i64 0] 23)) ((v1.alloc (.cells #[.int .i64 0, .int .i64 0, .int .i64 0, .int .i64 0, .int .i64 0, .int .i64 0] 23)).alloc (.cells #[.bool false, .bool false, .bool false, .bool false, .bool false, .bool false] 55)) := (Below.refl _ _).alloc (Nat.le_refl _) _
        rw [z1] at a2
        exact ⟨keepRow (keepRow R1 c1) c2, keepRow a1 c2, a2, (HB1.out.of c1).of c2, hq1, Nat.lt_succ_self _⟩
      have RL : Hid (LsW b off v1.heap.size [FRM, p1, p2, p3, p4, p5, p6] ((v1.alloc (.cells #[.int .i64 0, .int .i64 0, .int .i64 0, .int .i64 0, .int .i64 0, .int .i64 0] 23)).alloc (.cells #[.bool false, .bool false, .bool false, .bool false, .bool false, .bool false] 55))) := by
        have c1 : Below v1.heap.size v1 (v1.alloc (.cells #[.int .i64 0, .int .i64 0, .int .i64 0, .int .i64 0, .int .i64 0, .int .i64 0] 23)) := (Below.refl _ _).alloc (Nat.le_refl _) _
        have c2 : Below (v1.alloc (.cells #[.int .i64 0, .int .i64 0, .int .i64 0, .int .i64 0, .int .i64 0, .int .i64 0] 23)).heap.size (v1.alloc (.cells #[.int .i64 0, .int .i64 0, .int .i64 0, .int .i64 0, .int .i64 0, .int .i64 0] 23)) ((v1.alloc (.cells #[.int .i64 0, .int .i64 0, .int .i64 0, .int .i64 0, .int .i64 0, .int .i64 0] 23)).alloc (.cells #[.bool false, .bool false, .bool false, .bool false, .bool false, .bool false] 55)) := (Below.refl _ _).alloc (Nat.le_refl _) _
        exact LsW.next (LsW.next ⟨World.block_lt_of_cell? v1 _ (hc 0 (by omega)), fun i hi => hc i (by omega)⟩ c1) c2
      go_upto_region 6 with (fail)
      generalize (v1.alloc (.cells #[.int .i64 0, .int .i64 0, .int .i64 0, .int .i64 0, .int .i64 0, .int .i64 0] 23)).alloc (.cells #[.bool false, .bool false, .bool false, .bool false, .bool false, .bool false] 55) = V0 at *
      generalize hxq : v1.heap.size = xq at *
      clear R1 HR HB1 B0 k0 hq1 hc
      have XZ := X1
      clear X1
      have hsz : ∀ y ∈ [FRM, p1, p2, p3, p4, p5, p6], y.size ≤ s.size := fun y hy => by
        have hp := sw_parts HSW.out
        rw [← hp] at hy
        exact pcB_size hy
      have y1 : p1.size ≤ 1000000 := Nat.le_trans (hsz p1 (by simp)) hs
      have y2 : p2.size ≤ 1000000 := Nat.le_trans (hsz p2 (by simp)) hs
      have y3 : p3.size ≤ 1000000 := Nat.le_trans (hsz p3 (by simp)) hs
      have y4 : p4.size ≤ 1000000 := Nat.le_trans (hsz p4 (by simp)) hs
      have y5 : p5.size ≤ 1000000 := Nat.le_trans (hsz p5 (by simp)) hs
      have y6 : p6.size ≤ 1000000 := Nat.le_trans (hsz p6 (by simp)) hs
      clear hsz
      have k1 : V0.cell? ⟨b, off + 1, none⟩ = some (.string p1) := RL.out.2 1 (by omega)
      go_wp2_with fail
      refine (named41 15 sideS side41 0 1 (by omega) (by omega) (by omega) p1 _ (enters_of Tryd.func15 (by kernel_rfl) rfl)).mono ?_
      rintro e u0 ⟨xa, b0, rfl, hq0, hb⟩
      have HQ0 := hide hq0
      have XN := XZ.out.next hb
      have RN := RL.out.next hb
      clear hq0 hb XZ RL k1
      obtain ⟨⟨s0, s1⟩, ⟨s2, s3⟩, XP⟩ := XN.put 0 (.int .i64 xa) (.bool b0) rfl rfl
      simp only [List.setIfInBounds_toArray, List.set_cons_zero, List.set_cons_succ] at XP
      have XZ := hide XP
      have RL := hide (RN.put 0 (.int .i64 xa) (.bool b0))
      clear XN XP RN
      go_upto_region 7 with (fail)
      generalize ((u0.setCell ⟨xq, 0, none⟩ (.int .i64 xa)).setCell ⟨xq + 1, 0, none⟩ (.bool b0)) = V1 at *
      clear s0 s1 s2 s3
      have k2 : V1.cell? ⟨b, off + 2, none⟩ = some (.string p2) := RL.out.2 2 (by omega)
      go_wp2_with fail
      refine (kbyname08 p2 _ (by omega) (HN.out.below XZ.out.2.2.2.1)).mono ?_
      rintro e u1 ⟨xt, b1, rfl, hq1, hb⟩
      have HQ1 := hide hq1
      have XN := XZ.out.next hb
      have RN := RL.out.next hb
      clear hq1 hb XZ RL k2
      obtain ⟨⟨s0, s1⟩, ⟨s2, s3⟩, XP⟩ := XN.put 1 (.int .i64 xt) (.bool b1) rfl rfl
      simp only [List.setIfInBounds_toArray, List.set_cons_zero, List.set_cons_succ] at XP
      have XZ := hide XP
      have RL := hide (RN.put 1 (.int .i64 xt) (.bool b1))
      clear XN XP RN
      go_upto_region 8 with (fail)
      generalize ((u1.setCell ⟨xq, 1, none⟩ (.int .i64 xt)).setCell ⟨xq + 1, 1, none⟩ (.bool b1)) = V2 at *
      clear s0 s1 s2 s3
      have k3 : V2.cell? ⟨b, off + 3, none⟩ = some (.string p3) := RL.out.2 3 (by omega)
      go_wp2_with fail
      refine (kread03 p3 _ (by omega)).mono ?_
      rintro e u2 ⟨xf, b2, rfl, hq2, hb⟩
      have HQ2 := hide hq2
      have XN := XZ.out.next hb
      have RN := RL.out.next hb
      clear hq2 hb XZ RL k3
      obtain ⟨⟨s0, s1⟩, ⟨s2, s3⟩, XP⟩ := XN.put 2 (.int .i64 xf) (.bool b2) rfl rfl
      simp only [List.setIfInBounds_toArray, List.set_cons_zero, List.set_cons_succ] at XP
      have XZ := hide XP
      have RL := hide (RN.put 2 (.int .i64 xf) (.bool b2))
      clear XN XP RN
      go_upto_region 9 with (fail)
      generalize ((u2.setCell ⟨xq, 2, none⟩ (.int .i64 xf)).setCell ⟨xq + 1, 2, none⟩ (.bool b2)) = V3 at *
      clear s0 s1 s2 s3
      have k4 : V3.cell? ⟨b, off + 4, none⟩ = some (.string p4) := RL.out.2 4 (by omega)
      go_wp2_with fail
      refine (kread03 p4 _ (by omega)).mono ?_
      rintro e u3 ⟨xs, b3, rfl, hq3, hb⟩
      have HQ3 := hide hq3
      have XN := XZ.out.next hb
      have RN := RL.out.next hb
      clear hq3 hb XZ RL k4
      obtain ⟨⟨s0, s1⟩, ⟨s2, s3⟩, XP⟩ := XN.put 3 (.int .i64 xs) (.bool b3) rfl rfl
      simp only [List.setIfInBounds_toArray, List.set_cons_zero, List.set_cons_succ] at XP
      have XZ := hide XP
      have RL := hide (RN.put 3 (.int .i64 xs) (.bool b3))
      clear XN XP RN
      go_upto_region 10 with (fail)
      generalize ((u3.setCell ⟨xq, 3, none⟩ (.int .i64 xs)).setCell ⟨xq + 1, 3, none⟩ (.bool b3)) = V4 at *
      clear s0 s1 s2 s3
      have k5 : V4.cell? ⟨b, off + 5, none⟩ = some (.string p5) := RL.out.2 5 (by omega)
      go_wp2_with fail
      refine (kread03 p5 _ (by omega)).mono ?_
      rintro e u4 ⟨xl, b4, rfl, hq4, hb⟩
      have HQ4 := hide hq4
      have XN := XZ.out.next hb
      have RN := RL.out.next hb
      clear hq4 hb XZ RL k5
      obtain ⟨⟨s0, s1⟩, ⟨s2, s3⟩, XP⟩ := XN.put 4 (.int .i64 xl) (.bool b4) rfl rfl
      simp only [List.setIfInBounds_toArray, List.set_cons_zero, List.set_cons_succ] at XP
      have XZ := hide XP
      have RL := hide (RN.put 4 (.int .i64 xl) (.bool b4))
      clear XN XP RN
      go_upto_region 11 with (fail)
      generalize ((u4.setCell ⟨xq, 4, none⟩ (.int .i64 xl)).setCell ⟨xq + 1, 4, none⟩ (.bool b4)) = V5 at *
      clear s0 s1 s2 s3
      have k6 : V5.cell? ⟨b, off + 6, none⟩ = some (.string p6) := RL.out.2 6 (by omega)
      go_wp2_with fail
      refine (named41 16 kindS kind41 1 4 (by omega) (by omega) (by omega) p6 _ (enters_of Tryd.func16 (by kernel_rfl) rfl)).mono ?_
      rintro e u5 ⟨xk, b5, rfl, hq5, hb⟩
      have HQ5 := hide hq5
      have XN := XZ.out.next hb
      have RN := RL.out.next hb
      clear hq5 hb XZ RL k6
      obtain ⟨⟨s0, s1⟩, ⟨s2, s3⟩, XP⟩ := XN.put 5 (.int .i64 xk) (.bool b5) rfl rfl
      simp only [List.setIfInBounds_toArray, List.set_cons_zero, List.set_cons_succ] at XP
      have XZ := hide XP
      have RL := hide (RN.put 5 (.int .i64 xk) (.bool b5))
      clear XN XP RN
      go_upto_region 12 with (fail)
      generalize ((u5.setCell ⟨xq, 5, none⟩ (.int .i64 xk)).setCell ⟨xq + 1, 5, none⟩ (.bool b5)) = V6 at *
      clear s0 s1 s2 s3
      have HPC : Hid (Pcs p1 p2 p3 p4 p5 p6 xa xt xf xs xl xk b0 b1 b2 b3 b4 b5) := ⟨HQ0.out, HQ1.out, HQ2.out, HQ3.out, HQ4.out, HQ5.out⟩
      clear HQ0 HQ1 HQ2 HQ3 HQ4 HQ5
      obtain ⟨z, hz⟩ : ∃ z, (b0 && (b1 && (b2 && (b3 && (b4 && b5))))) = z := ⟨_, rfl⟩
      have E6 := hide (fun W => eqSix b0 b1 b2 b3 b4 b5 W)
      rw [hz] at E6
      have HZ := hide hz
      clear hz
      obtain ⟨e0, e1, e2, e3, e4, e5⟩ := row6R XZ.out.2.2.1
      obtain ⟨f0, f1, f2, f3, f4, f5⟩ := row6R XZ.out.2.1
      have E6' := E6.out
      have KR := hide (fun W => kright41 xa xt xf xs xl xk W)
      obtain ⟨rr, hrr⟩ : ∃ r, rcB xa xt xf xs xl xk = r := ⟨_, rfl⟩
      rw [hrr] at KR
      have H23 := hide hrr
      clear hrr
      cases z
      · have HF := hide (rc_no HSW.out HPC.out (fun h => by rw [HZ.out] at h; exact absurd h.1 (by decide)))
        go_upto_region 13 with (fail)
        generalize hqq : w.heap.size = q at *
        obtain ⟨⟨e0, z0⟩, ⟨e1, z1⟩, ⟨e2, z2⟩, ⟨e3, z3⟩, ⟨e4, z4⟩, ⟨e5, z5⟩, hrow⟩ := store6 XZ.out.1 (.int .i64 0) (.int .i64 0) (.int .i64 0) (.int .i64 0) (.int .i64 0) (.int .i64 0)
        have HROW := hide hrow
        have HBE := hide (below6 XZ.out.2.2.2.1 (p := q) (Nat.le_refl _) (.int .i64 0) (.int .i64 0) (.int .i64 0) (.int .i64 0) (.int .i64 0) (.int .i64 0))
        clear hrow
        go_wp2_with fail
        obtain ⟨d0, d1, d2, d3, d4, d5⟩ := row6R HROW.out
        refine bodyPost_ret (v := .tuple #[.agg #[.int .i64 0, .int .i64 0, .int .i64 0, .int .i64 0, .int .i64 0, .int .i64 0], .bool false]) ?_ rfl ⟨0, 0, 0, 0, 0, 0, false, rfl, HF.out, by rw [hqq]; exact HBE.out⟩
        rw [results_cell_tmp rfl]
        go_simp
      · go_wp2_with fail
        refine (KR.out _).mono ?_
        rintro e u6 ⟨rfl, hb⟩
        have XN := XZ.out.next hb
        have XZ2 := hide XN
        clear hb XZ XN e0 e1 e2 e3 e4 e5 f0 f1 f2 f3 f4 f5 RL
        cases rr
        · have HF := hide (rc_no HSW.out HPC.out (fun h => absurd h.2 (of_decide_eq_false H23.out)))
          go_upto_region 13 with (fail)
          generalize hqq : w.heap.size = q at *
          obtain ⟨⟨e0, z0⟩, ⟨e1, z1⟩, ⟨e2, z2⟩, ⟨e3, z3⟩, ⟨e4, z4⟩, ⟨e5, z5⟩, hrow⟩ := store6 XZ2.out.1 (.int .i64 0) (.int .i64 0) (.int .i64 0) (.int .i64 0) (.int .i64 0) (.int .i64 0)
          have HROW := hide hrow
          have HBE := hide (below6 XZ2.out.2.2.2.1 (p := q) (Nat.le_refl _) (.int .i64 0) (.int .i64 0) (.int .i64 0) (.int .i64 0) (.int .i64 0) (.int .i64 0))
          clear hrow
          go_wp2_with fail
          obtain ⟨d0, d1, d2, d3, d4, d5⟩ := row6R HROW.out
          refine bodyPost_ret (v := .tuple #[.agg #[.int .i64 0, .int .i64 0, .int .i64 0, .int .i64 0, .int .i64 0, .int .i64 0], .bool false]) ?_ rfl ⟨0, 0, 0, 0, 0, 0, false, rfl, HF.out, by rw [hqq]; exact HBE.out⟩
          rw [results_cell_tmp rfl]
          go_simp
        · obtain ⟨rfl, rfl, rfl, rfl, rfl, rfl⟩ : b0 = true ∧ b1 = true ∧ b2 = true ∧ b3 = true ∧ b4 = true ∧ b5 = true := by
            have h := HZ.out
            simp only [Bool.and_eq_true] at h
            exact ⟨h.1, h.2.1, h.2.2.1, h.2.2.2.1, h.2.2.2.2.1, h.2.2.2.2.2⟩
          have HF := hide (rc_yes HSW.out HPC.out (of_decide_eq_true H23.out))
          obtain ⟨f0, f1, f2, f3, f4, f5⟩ := row6R XZ2.out.2.1
          go_upto_region 14 with (fail)
          generalize hqq : w.heap.size = q at *
          obtain ⟨⟨e0, z0⟩, ⟨e1, z1⟩, ⟨e2, z2⟩, ⟨e3, z3⟩, ⟨e4, z4⟩, ⟨e5, z5⟩, hrow⟩ := store6 XZ2.out.1 (.int .i64 xa) (.int .i64 xt) (.int .i64 xf) (.int .i64 xs) (.int .i64 xl) (.int .i64 xk)
          have HROW := hide hrow
          have HBE := hide (below6 XZ2.out.2.2.2.1 (p := q) (Nat.le_refl _) (.int .i64 xa) (.int .i64 xt) (.int .i64 xf) (.int .i64 xs) (.int .i64 xl) (.int .i64 xk))
          clear hrow
          go_wp2_with fail
          obtain ⟨d0, d1, d2, d3, d4, d5⟩ := row6R HROW.out
          refine bodyPost_ret (v := .tuple #[.agg #[.int .i64 xa, .int .i64 xt, .int .i64 xf, .int .i64 xs, .int .i64 xl, .int .i64 xk], .bool true]) ?_ rfl ⟨xa, xt, xf, xs, xl, xk, true, rfl, HF.out, by rw [hqq]; exact HBE.out⟩
          rw [results_cell_tmp rfl]
          go_simp
    · have hne := str_neq h0
      have HF := hide (rc_none HSW.out (fun q1 q2 q3 q4 q5 q6 e => h0 (by injection e)))
      obtain ⟨l1, l2⟩ := str_noL (l := [102, 114, 97, 109, 101]) h0
      clear h0
      go_upto_region 3 with (fail)
      generalize hqq : w.heap.size = q at *
      obtain ⟨⟨e0, z0⟩, ⟨e1, z1⟩, ⟨e2, z2⟩, ⟨e3, z3⟩, ⟨e4, z4⟩, ⟨e5, z5⟩, hrow⟩ := store6 R1 (.int .i64 0) (.int .i64 0) (.int .i64 0) (.int .i64 0) (.int .i64 0) (.int .i64 0)
      have HROW := hide hrow
      have HBE := hide (below6 HB1.out (p := q) (Nat.le_refl _) (.int .i64 0) (.int .i64 0) (.int .i64 0) (.int .i64 0) (.int .i64 0) (.int .i64 0))
      clear hrow
      go_wp2_with fail
      obtain ⟨d0, d1, d2, d3, d4, d5⟩ := row6R HROW.out
      refine bodyPost_ret (v := .tuple #[.agg #[.int .i64 0, .int .i64 0, .int .i64 0, .int .i64 0, .int .i64 0, .int .i64 0], .bool false]) ?_ rfl ⟨0, 0, 0, 0, 0, 0, false, rfl, HF.out, by rw [hqq]; exact HBE.out⟩
      rw [results_cell_tmp rfl]
      go_simp
  · have d1 : ((n : Int) != 7) = true := by simp; omega
    have HF := hide (rc_none HSW.out (fun q1 q2 q3 q4 q5 q6 e => h7 (by rw [HNN.out, e]; rfl)))
    clear h7 HNN
    go_upto_region 3 with (fail)
    generalize hqq : w.heap.size = q at *
    obtain ⟨⟨e0, z0⟩, ⟨e1, z1⟩, ⟨e2, z2⟩, ⟨e3, z3⟩, ⟨e4, z4⟩, ⟨e5, z5⟩, hrow⟩ := store6 R1 (.int .i64 0) (.int .i64 0) (.int .i64 0) (.int .i64 0) (.int .i64 0) (.int .i64 0)
    have HROW := hide hrow
    have HBE := hide (below6 HB1.out (p := q) (Nat.le_refl _) (.int .i64 0) (.int .i64 0) (.int .i64 0) (.int .i64 0) (.int .i64 0) (.int .i64 0))
    clear hrow
    go_wp2_with fail
    obtain ⟨d0, d1, d2, d3, d4, d5⟩ := row6R HROW.out
    refine bodyPost_ret (v := .tuple #[.agg #[.int .i64 0, .int .i64 0, .int .i64 0, .int .i64 0, .int .i64 0, .int .i64 0], .bool false]) ?_ rfl ⟨0, 0, 0, 0, 0, 0, false, rfl, HF.out, by rw [hqq]; exact HBE.out⟩
    rw [results_cell_tmp rfl]
    go_simp
end

section
open Go.RowKit Go.PlainAid

set_option maxRecDepth 20000 in
set_option maxHeartbeats 6400000 in
theorem texts_walk41 (a t fl st le k : Int) (w : World) (hN : NmW w) (hP : PowW w) : Calls Tryd.prog 3 #[.agg #[.int .i64 a, .int .i64 t, .int .i64 fl, .int .i64 st, .int .i64 le, .int .i64 k]] w (Yes41 w) := by
  have T0 : Hid (TxS 23 w.heap.size #[.int .i64 a, .int .i64 t, .int .i64 fl, .int .i64 st, .int .i64 le, .int .i64 k] w (w.alloc (.cells #[.int .i64 a, .int .i64 t, .int .i64 fl, .int .i64 st, .int .i64 le, .int .i64 k] 23))) := ⟨heap_alloc_new w (.cells #[.int .i64 a, .int .i64 t, .int .i64 fl, .int .i64 st, .int .i64 le, .int .i64 k] 23), (Below.refl _ _).alloc (Nat.le_refl _) _⟩
  have HN := hide hN
  have HP := hide hP
  clear hN hP
  have KR := hide (fun W => kright41 a t fl st le k W)
  have KRR := hide (fun W => rright41 a t fl st le k W)
  obtain ⟨c0, c1, c2, c3, c4, c5⟩ := row6R T0.out.1
  by_cases hr : RcP a t fl st le k
  · rw [show rcB a t fl st le k = true from decide_eq_true hr] at KR KRR
    have KT := hide (fun W hN hP => ktext41_yes a t fl st le k W hr hN hP)
    have KX := hide (fun W => rtext41 a t fl st le k W hr)
    have HO : Hid (RcR (rcT a t fl st le k) a t fl st le k true) := .inl ⟨rfl, hr, rfl⟩
    have hsz := (rc_size hr).2
    obtain ⟨y, hy⟩ : ∃ y, rcT a t fl st le k = y := ⟨_, rfl⟩
    rw [hy] at KT KX HO hsz
    have HSZ := hide hsz
    clear hy hr hsz
    have q1 : (y.toList == y.toList) = true := beq_self_eq_true _
    go_enter Tryd.func3, Tryd.ntmps3
    go_wp2_with fail
    generalize w.alloc (.cells #[.int .i64 a, .int .i64 t, .int .i64 fl, .int .i64 st, .int .i64 le, .int .i64 k] 23) = W0 at *
    refine (KT.out _ (HN.out.below T0.out.2) (HP.out.below T0.out.2)).mono ?_
    rintro e v1 ⟨rfl, hb⟩
    have T1 := hide (T0.out.next hb)
    clear hb T0 c0 c1 c2 c3 c4 c5
    go_wp2_with fail
    refine wp_region_held_drew (S := TxS 23 w.heap.size #[.int .i64 a, .int .i64 t, .int .i64 fl, .int .i64 st, .int .i64 le, .int .i64 k] w) (by kernel_rfl) T1.out.drew (fun hHeld => ?_)
    refine wpAnyH_take (i := 0) (oi := ⟨some 12, .load _ (.tmp 1), _, _, _, _⟩) (v := ?vv1) rfl (by kernel_rfl) (by kernel_rfl) (by kernel_rfl) (fun _ _ _ h => h) (Or.inl ⟨by rfl, ?hy1⟩) (by assumption) ?_
    case hy1 =>
      intro w' hSw
      obtain ⟨s0, s1, s2, s3, s4, s5⟩ := row6R hSw.1
      go_simp
      try with_reducible rfl
    try simp only [Act.put, List.setIfInBounds_toArray, List.set_cons_zero, List.set_cons_succ]
    refine wpAnyH_take (i := 2) (oi := ⟨some 14, .load _ (.tmp 1), _, _, _, _⟩) (v := ?vv2) rfl (by kernel_rfl) (by kernel_rfl) (by kernel_rfl) (fun _ _ _ h => h) (Or.inl ⟨by rfl, ?hy2⟩) (by assumption) ?_
    case hy2 =>
      intro w' hSw
      obtain ⟨s0, s1, s2, s3, s4, s5⟩ := row6R hSw.1
      go_simp
      try with_reducible rfl
    try simp only [Act.put, List.setIfInBounds_toArray, List.set_cons_zero, List.set_cons_succ]
    refine wpAnyH_ready (rs := [1]) (by kernel_rfl) (by simp) ?_
    refine AllReadyH.cons (o := ⟨some 13, _, _, _, _, _⟩) rfl (fun K hK => ?_) AllReadyH.nil
    go_simp
    refine (KR.out _).mono ?_
    rintro e v2 ⟨rfl, hv⟩
    refine hK.out _ _ (TxS.next (by assumption) hv) (fun hHeld2 => ?_)
    clear hK K hHeld
    have hHeld := hHeld2
    clear hHeld2
    clear hv
    try simp only [Act.put, List.setIfInBounds_toArray, List.set_cons_zero, List.set_cons_succ]
    refine wpAnyH_ready (rs := [3]) (by kernel_rfl) (by simp) ?_
    refine AllReadyH.cons (o := ⟨some 15, _, _, _, _, _⟩) rfl (fun K hK => ?_) AllReadyH.nil
    go_simp
    refine (KRR.out _).mono ?_
    rintro e v3 ⟨rfl, hv⟩
    refine hK.out _ _ (TxS.next (by assumption) hv) (fun hHeld2 => ?_)
    clear hK K hHeld
    have hHeld := hHeld2
    clear hHeld2
    clear hv
    try simp only [Act.put, List.setIfInBounds_toArray, List.set_cons_zero, List.set_cons_succ]
    refine wpAnyH_take (i := 4) (oi := ⟨some 16, .binOp .neq _ (.tmp 13) (.tmp 15) _, _, _, _, _⟩) (v := ?vv3) rfl (by kernel_rfl) (by kernel_rfl) (by kernel_rfl) (fun _ _ _ h => h) (Or.inl ⟨by rfl, ?hy3⟩) (by assumption) ?_
    case hy3 =>
      intro w' hSw
      skip
      go_simp
      try with_reducible rfl
    try simp only [Act.put, List.setIfInBounds_toArray, List.set_cons_zero, List.set_cons_succ]
    refine wpAnyH_done (by kernel_rfl) ?_ _
    have T3 := hide hHeld
    clear hHeld T1
    obtain ⟨c0, c1, c2, c3, c4, c5⟩ := row6R T3.out.1
    go_wp2_with fail
    refine (KRR.out _).mono ?_
    rintro e v4 ⟨rfl, hb⟩
    have T4 := hide (T3.out.next hb)
    clear hb T3 c0 c1 c2 c3 c4 c5
    go_wp2_with fail
    refine (kread41 y _ (Nat.le_trans HSZ.out (by omega)) (HN.out.below T4.out.2) (HP.out.below T4.out.2)).mono ?_
    rintro e v5 ⟨a', t', fl', st', le', k', ok, rfl, hq, hb⟩
    obtain ⟨⟨rfl, rfl, rfl, rfl, rfl, rfl⟩, rfl⟩ := HO.out.same hq
    have T5 := T4.out.next hb
    clear hb hq T4
    have F5 := heap_alloc_new v5 (.cells #[.int .i64 a, .int .i64 t, .int .i64 fl, .int .i64 st, .int .i64 le, .int .i64 k] 23)
    have hv : Below v5.heap.size v5 (v5.alloc (.cells #[.int .i64 a, .int .i64 t, .int .i64 fl, .int .i64 st, .int .i64 le, .int .i64 k] 23)) := (Below.refl _ _).alloc (Nat.le_refl _) _
    have T6 := hide (T5.next hv)
    have HF5 := hide F5
    clear hv F5 T5
    go_upto_region 7 with (fail)
    generalize v5.alloc (.cells #[.int .i64 a, .int .i64 t, .int .i64 fl, .int .i64 st, .int .i64 le, .int .i64 k] 23) = W6 at *
    generalize v5.heap.size = xq at *
    obtain ⟨c0, c1, c2, c3, c4, c5⟩ := row6R T6.out.1
    go_wp2_with fail
    refine (KX.out _).mono ?_
    rintro e v7 ⟨rfl, hb⟩
    have T7 := hide (T6.out.next hb)
    have F7 := keepRow HF5.out hb
    clear hb T6 c0 c1 c2 c3 c4 c5 HF5
    obtain ⟨c0, c1, c2, c3, c4, c5⟩ := row6R T7.out.1
    obtain ⟨g0, g1, g2, g3, g4, g5⟩ := row6R F7
    go_wp2_with fail
    refine (alive41 _ (HN.out.below T7.out.2) (HP.out.below T7.out.2)).mono ?_
    rintro e v8 ⟨rfl, hb⟩
    have HB := hide (T7.out.2.of hb)
    clear hb
    go_wp2_with fail
    go_ret
    exact ⟨rfl, HB.out⟩
  · have hf : rcB a t fl st le k = false := decide_eq_false hr
    have KT := hide (fun W => ktext41_no a t fl st le k W hf)
    rw [hf] at KR KRR
    clear hf hr
    go_enter Tryd.func3, Tryd.ntmps3
    go_wp2_with fail
    generalize w.alloc (.cells #[.int .i64 a, .int .i64 t, .int .i64 fl, .int .i64 st, .int .i64 le, .int .i64 k] 23) = W0 at *
    refine (KT.out _).mono ?_
    rintro e v1 ⟨rfl, hb⟩
    have T1 := hide (T0.out.next hb)
    clear hb T0 c0 c1 c2 c3 c4 c5
    go_wp2_with fail
    refine wp_region_held_drew (S := TxS 23 w.heap.size #[.int .i64 a, .int .i64 t, .int .i64 fl, .int .i64 st, .int .i64 le, .int .i64 k] w) (by kernel_rfl) T1.out.drew (fun hHeld => ?_)
    refine wpAnyH_take (i := 0) (oi := ⟨some 12, .load _ (.tmp 1), _, _, _, _⟩) (v := ?vv4) rfl (by kernel_rfl) (by kernel_rfl) (by kernel_rfl) (fun _ _ _ h => h) (Or.inl ⟨by rfl, ?hy4⟩) (by assumption) ?_
    case hy4 =>
      intro w' hSw
      obtain ⟨s0, s1, s2, s3, s4, s5⟩ := row6R hSw.1
      go_simp
      try with_reducible rfl
    try simp only [Act.put, List.setIfInBounds_toArray, List.set_cons_zero, List.set_cons_succ]
    refine wpAnyH_take (i := 2) (oi := ⟨some 14, .load _ (.tmp 1), _, _, _, _⟩) (v := ?vv5) rfl (by kernel_rfl) (by kernel_rfl) (by kernel_rfl) (fun _ _ _ h => h) (Or.inl ⟨by rfl, ?hy5⟩) (by assumption) ?_
    case hy5 =>
      intro w' hSw
      obtain ⟨s0, s1, s2, s3, s4, s5⟩ := row6R hSw.1
      go_simp
      try with_reducible rfl
    try simp only [Act.put, List.setIfInBounds_toArray, List.set_cons_zero, List.set_cons_succ]
    refine wpAnyH_ready (rs := [1]) (by kernel_rfl) (by simp) ?_
    refine AllReadyH.cons (o := ⟨some 13, _, _, _, _, _⟩) rfl (fun K hK => ?_) AllReadyH.nil
    go_simp
    refine (KR.out _).mono ?_
    rintro e v2 ⟨rfl, hv⟩
    refine hK.out _ _ (TxS.next (by assumption) hv) (fun hHeld2 => ?_)
    clear hK K hHeld
    have hHeld := hHeld2
    clear hHeld2
    clear hv
    try simp only [Act.put, List.setIfInBounds_toArray, List.set_cons_zero, List.set_cons_succ]
    refine wpAnyH_ready (rs := [3]) (by kernel_rfl) (by simp) ?_
    refine AllReadyH.cons (o := ⟨some 15, _, _, _, _, _⟩) rfl (fun K hK => ?_) AllReadyH.nil
    go_simp
    refine (KRR.out _).mono ?_
    rintro e v3 ⟨rfl, hv⟩
    refine hK.out _ _ (TxS.next (by assumption) hv) (fun hHeld2 => ?_)
    clear hK K hHeld
    have hHeld := hHeld2
    clear hHeld2
    clear hv
    try simp only [Act.put, List.setIfInBounds_toArray, List.set_cons_zero, List.set_cons_succ]
    refine wpAnyH_take (i := 4) (oi := ⟨some 16, .binOp .neq _ (.tmp 13) (.tmp 15) _, _, _, _, _⟩) (v := ?vv6) rfl (by kernel_rfl) (by kernel_rfl) (by kernel_rfl) (fun _ _ _ h => h) (Or.inl ⟨by rfl, ?hy6⟩) (by assumption) ?_
    case hy6 =>
      intro w' hSw
      skip
      go_simp
      try with_reducible rfl
    try simp only [Act.put, List.setIfInBounds_toArray, List.set_cons_zero, List.set_cons_succ]
    refine wpAnyH_done (by kernel_rfl) ?_ _
    have T3 := hide hHeld
    clear hHeld T1
    obtain ⟨c0, c1, c2, c3, c4, c5⟩ := row6R T3.out.1
    go_wp2_with fail
    refine (KRR.out _).mono ?_
    rintro e v4 ⟨rfl, hb⟩
    have T4 := hide (T3.out.next hb)
    clear hb T3 c0 c1 c2 c3 c4 c5
    go_wp2_with fail
    refine (alive41 _ (HN.out.below T4.out.2) (HP.out.below T4.out.2)).mono ?_
    rintro e v8 ⟨rfl, hb⟩
    have HB := hide (T4.out.2.of hb)
    clear hb
    go_wp2_with fail
    go_ret
    exact ⟨rfl, HB.out⟩
end
end Go.Proofs.YtminoofghdpomaaDoor
