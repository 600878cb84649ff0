/- RtA, RtB in one text. -/
import Derived.Test.YtminoofghdpomaaDoorN11
import Derived.Deep.CutRange
namespace Go.Proofs.YtminoofghdpomaaDoor
set_option linter.unusedVariables false
set_option linter.unusedSimpArgs false
section
open Go.RowKit Go.PlainAid

theorem fd_side {a x : Int} (h : FdX [⟨#[99, 108, 105, 101, 110, 116]⟩, ⟨#[115, 101, 114, 118, 101, 114]⟩] (sideS a) x) (ha : a = 0 ∨ a = 1) : x = a := by
  have g : ∀ b : Int, (b = 0 ∨ b = 1) → [⟨#[99, 108, 105, 101, 110, 116]⟩, ⟨#[115, 101, 114, 118, 101, 114]⟩].getD b.toNat ⟨#[]⟩ = sideS b := fun b hb => by rcases hb with rfl | rfl <;> rfl
  rcases h with ⟨i, rfl, h1, h2, _⟩ | ⟨_, h2⟩
  · have hi : (i : Int) = 0 ∨ (i : Int) = 1 := by simp only [List.length_cons, List.length_nil] at h1; omega
    have e := g i hi
    rw [Int.toNat_natCast, h2] at e
    exact (side_inj ha hi e).symm
  · exact absurd (g a ha) (h2 _ (by simp only [List.length_cons, List.length_nil]; omega))
theorem fd_kind {k x : Int} (h : FdX [⟨#[97, 108, 108, 111, 119, 101, 100]⟩, ⟨#[105, 103, 110, 111, 114, 101, 100]⟩, ⟨#[114, 101, 106, 101, 99, 116, 101, 100]⟩, ⟨#[108, 105, 109, 105, 116, 101, 100]⟩] (kindS k) x) (hk : k = 1 ∨ k = 2 ∨ k = 3 ∨ k = 4) : 1 + x = k := by
  have g : ∀ b : Int, (b = 1 ∨ b = 2 ∨ b = 3 ∨ b = 4) → [⟨#[97, 108, 108, 111, 119, 101, 100]⟩, ⟨#[105, 103, 110, 111, 114, 101, 100]⟩, ⟨#[114, 101, 106, 101, 99, 116, 101, 100]⟩, ⟨#[108, 105, 109, 105, 116, 101, 100]⟩].getD (b - 1).toNat ⟨#[]⟩ = kindS b := fun b hb => by rcases hb with rfl | rfl | rfl | rfl <;> rfl
  rcases h with ⟨i, rfl, h1, h2, _⟩ | ⟨_, h2⟩
  · have hi : 1 + (i : Int) = 1 ∨ 1 + (i : Int) = 2 ∨ 1 + (i : Int) = 3 ∨ 1 + (i : Int) = 4 := by simp only [List.length_cons, List.length_nil] at h1; omega
    have e := g (1 + i) hi
    rw [show (1 + (i : Int) - 1).toNat = i by omega, h2] at e
    exact (kind_inj hk hi e).symm
  · exact absurd (g k hk) (h2 _ (by simp only [List.length_cons, List.length_nil]; omega))
theorem FdX.bd {ps : List ByteArray} {s : ByteArray} {x : Int} (h : FdX ps s x) : -1 ≤ x ∧ x < ps.length := by
  rcases h with ⟨i, rfl, h1, _⟩ | ⟨rfl, _⟩
  · omega
  · omega
/-- What the six pieces say, by the document. -/
structure Dcs (p1 p2 p3 p4 p5 p6 : ByteArray) (a t fl st le k : Int) (b1 b2 b3 b4 : Bool) : Prop where
  h0 : FdX [⟨#[99, 108, 105, 101, 110, 116]⟩, ⟨#[115, 101, 114, 118, 101, 114]⟩] p1 a
  h1 : NmR p2 t b1
  h2 : ReadR p3 fl b2
  h3 : ReadR p4 st b3
  h4 : ReadR p5 le b4
  h5 : FdX [⟨#[97, 108, 108, 111, 119, 101, 100]⟩, ⟨#[105, 103, 110, 111, 114, 101, 100]⟩, ⟨#[114, 101, 106, 101, 99, 116, 101, 100]⟩, ⟨#[108, 105, 109, 105, 116, 101, 100]⟩] p6 k
theorem dc_yes {s : ByteArray} {a t fl st le k : Int} (hr : rcB a t fl st le k = true) (e : s = rcT a t fl st le k) : RcR s a t fl st le k true := .inl ⟨rfl, of_decide_eq_true hr, e⟩
theorem dc_no {s p0 p1 p2 p3 p4 p5 p6 : ByteArray} {ok : Bool} {a t fl st le k : Int} {b1 b2 b3 b4 : Bool} (h : SwR s [p0, p1, p2, p3, p4, p5, p6] ok) (q : Dcs p1 p2 p3 p4 p5 p6 a t fl st le k b1 b2 b3 b4)
    (hn : ¬ (RcP a t fl st le (1 + k) ∧ s = rcT a t fl st le (1 + k))) : RcR s 0 0 0 0 0 0 false :=
  .inr ⟨rfl, ⟨rfl, rfl, rfl, rfl, rfl, rfl⟩, fun a' t' fl' st' le' k' hr e => by
    have e2 := (h.same7 (e.symm ▸ rc_sw hr)).1
    simp only [rcW, List.cons.injEq, and_true, true_and] at e2
    obtain ⟨_, rfl, rfl, rfl, rfl, rfl, rfl⟩ := e2
    obtain ⟨h0, h1, h2, h3, h4, h5⟩ := q
    obtain ⟨q1, q2, ⟨q3, q4⟩, ⟨q5, q6⟩, ⟨q7, q8⟩, q9, q10⟩ := hr.bd
    obtain rfl := fd_side h0 q1
    obtain ⟨rfl, _⟩ := NmR.own q3 q4 h1
    obtain ⟨rfl, _⟩ := h2.own7 (by omega) (by omega)
    obtain ⟨rfl, _⟩ := h3.own7 (by omega) (by omega)
    obtain ⟨rfl, _⟩ := h4.own7 (by omega) (by omega)
    obtain rfl := fd_kind h5 q2
    exact hn ⟨hr, e⟩⟩
theorem dc_none {s : ByteArray} {ps : List ByteArray} {ok : Bool} (h : SwR s ps ok) (hn : ps.length ≠ 7) : RcR s 0 0 0 0 0 0 false :=
  rc_none h (fun p1 p2 p3 p4 p5 p6 e => hn (by rw [e]; rfl))
/-- What a region keeps. -/
def Kept (S : World → Prop) : Prop := ∀ W v, S W → Below W.heap.size W v → S v
def AndW (S E : World → Prop) (W : World) : Prop := S W ∧ E W
def RowW (b : Nat) (T : TypeId) (cs : Array Value) (W : World) : Prop := W.heap[b]? = some (.cells cs T (0, 0))
def DrZ (T : TypeId) (q b off : Nat) (zs : Array Value) (ps : List ByteArray) (w W : World) : Prop :=
  RowW q T zs W ∧ Below q w W ∧ ∀ i, i < 7 → W.cell? ⟨b, off + i, none⟩ = some (stL ps i)
theorem kept_row (b : Nat) (T : TypeId) (cs : Array Value) : Kept (RowW b T cs) := fun _ _ h hv => keepRow h hv
theorem kept_and {S E : World → Prop} (h : Kept S) (k : Kept E) : Kept (AndW S E) := fun W v q hv => ⟨h W v q.1 hv, k W v q.2 hv⟩
theorem kept_dr (T : TypeId) (q b off : Nat) (zs : Array Value) (ps : List ByteArray) (w : World) : Kept (DrZ T q b off zs ps w) := fun W v h hv =>
  ⟨keepRow h.1 hv, h.2.1.trans (hv.mono (Nat.le_of_lt (rowLt h.1))), fun i hi => (hv.cell (World.block_lt_of_cell? W _ (h.2.2 i hi))).trans (h.2.2 i hi)⟩
theorem kept_drew {S : World → Prop} (h : Kept S) {W : World} (k : S W) : S W.drew := h W _ k (Below.refl _ _).drew
theorem RowW.reads {b : Nat} {n : Nat} {cs : Array Value} {ps : List ByteArray} {W : World} (h : RowW b 9 cs W) (hn : n ≤ 1000) (hc : ∀ i, i < n → cs[i]? = some (stL ps i)) : RdV 1 W (some ⟨b, 0, none⟩) n n (stL ps) :=
  ⟨Nat.le_refl _, by simp only [maxLen]; omega, fun e => (by cases e), fun _ => ⟨b, 0, rfl, fun i hi => by
    rw [Nat.zero_add]
    exact cell_row h (hc i (by omega))⟩⟩
def BoxW (x : Nat) (T : TypeId) (W : World) : Prop := ∃ a0 a1 a2 a3 a4 a5 : Value, RowW x T #[a0, a1, a2, a3, a4, a5] W
theorem kept_box (x : Nat) (T : TypeId) : Kept (BoxW x T) := fun W v ⟨a0, a1, a2, a3, a4, a5, h⟩ hv => ⟨a0, a1, a2, a3, a4, a5, keepRow h hv⟩
/-- A store into the box, behind the words and the answer. -/
theorem DrZ.put {T : TypeId} {q b off x : Nat} {zs : Array Value} {ps : List ByteArray} {w W : World} (h : DrZ T q b off zs ps w W) (hq : q < x) (hb : b < x) (j : Nat) (u : Value) : DrZ T q b off zs ps w (W.setCell ⟨x, j, none⟩ u) :=
  ⟨(Below.heap_setCell W ⟨x, j, none⟩ u q (by show q ≠ x; omega)).trans h.1, h.2.1.setCell (p := ⟨x, j, none⟩) (Nat.le_of_lt hq) u, fun i hi =>
    (World.cell?_of_block (a := ⟨b, off + i, none⟩) (Below.heap_setCell W ⟨x, j, none⟩ u b (by show b ≠ x; omega))).trans (h.2.2 i hi)⟩
set_option maxRecDepth 20000 in
set_option maxHeartbeats 12800000 in
theorem rread41 (s : ByteArray) (w : World) (hs : s.size ≤ 900) : Calls Tryd.prog 12 #[.string s] w (RcE s w) := by
  have R0 := hide (heap_alloc_new w (.cells #[.int .i64 0, .int .i64 0, .int .i64 0, .int .i64 0, .int .i64 0, .int .i64 0] 23))
  have B0 : Hid (Below w.heap.size w (w.alloc (.cells #[.int .i64 0, .int .i64 0, .int .i64 0, .int .i64 0, .int .i64 0, .int .i64 0] 23))) := (Below.refl _ _).alloc (Nat.le_refl _) _
  go_enter Tryd.func12, Tryd.ntmps12
  go_wp2_with fail
  generalize w.alloc (.cells #[.int .i64 0, .int .i64 0, .int .i64 0, .int .i64 0, .int .i64 0, .int .i64 0] 23) = W0 at *
  refine (rsplit04 s _ hs).mono ?_
  rintro e v1 ⟨A, n, c, ps, ok, rfl, hn, hr, hsw, hb⟩
  have HB1 := hide (B0.out.of hb)
  have HSW := hide hsw
  have HR := hide hr
  have R1 := keepRow R0.out hb
  have hq1 := rowLt R1
  have HNN := hide hn
  clear hb R0 hsw hr hn
  cases ok
  · have h0 : n = 0 := by
      rcases HSW.out with ⟨e, _⟩ | ⟨_, e, _⟩
      · cases e
      · rw [HNN.out, e]; rfl
    have HF := hide (dc_none HSW.out (by rw [← HNN.out, h0]; omega))
    clear HNN
    subst h0
    go_upto_region 3 with (fail)
    generalize hqq : w.heap.size = q at *
    obtain ⟨⟨e0, z0⟩, ⟨e1, z1⟩, ⟨e2, z2⟩, ⟨e3, z3⟩, ⟨e4, z4⟩, ⟨e5, z5⟩, hrow⟩ := store6 R1 (.int .i64 0) (.int .i64 0) (.int .i64 0) (.int .i64 0) (.int .i64 0) (.int .i64 0)
    have HROW := hide hrow
    have HBE := hide (below6 HB1.out (p := q) (Nat.le_refl _) (.int .i64 0) (.int .i64 0) (.int .i64 0) (.int .i64 0) (.int .i64 0) (.int .i64 0))
    clear hrow
    go_wp2_with fail
    obtain ⟨d0, d1, d2, d3, d4, d5⟩ := row6R HROW.out
    refine bodyPost_ret (v := .tuple #[.agg #[.int .i64 0, .int .i64 0, .int .i64 0, .int .i64 0, .int .i64 0, .int .i64 0], .bool false]) ?_ rfl ⟨0, 0, 0, 0, 0, 0, false, rfl, HF.out, by rw [hqq]; exact HBE.out⟩
    rw [results_cell_tmp rfl]
    go_simp
  · by_cases h7 : n = 7
    · subst h7
      obtain ⟨p0, p1, p2, p3, p4, p5, p6, rfl⟩ := list7R HNN.out.symm
      obtain ⟨b, off, rfl, hc⟩ := HR.out.2.2.2 (by omega)
      clear HNN HR B0
      have Z0 : DrZ 23 w.heap.size b off #[.int .i64 0, .int .i64 0, .int .i64 0, .int .i64 0, .int .i64 0, .int .i64 0] [p0, p1, p2, p3, p4, p5, p6] w v1 := ⟨R1, HB1.out, fun i hi => hc i (by omega)⟩
      have Z1 := hide Z0
      have k2 : v1.cell? ⟨b, off + 2, none⟩ = some (.string p2) := hc 2 (by omega)
      have hsz : ∀ y ∈ [p0, p1, p2, p3, p4, p5, p6], y.size ≤ s.size := fun y hy => by
        have hp := sw_parts HSW.out
        rw [← hp] at hy
        exact pcB_size hy
      have y1 : p1.size ≤ 900 := Nat.le_trans (hsz p1 (by simp)) hs
      have y3 : p3.size ≤ 900 := Nat.le_trans (hsz p3 (by simp)) hs
      have y4 : p4.size ≤ 900 := Nat.le_trans (hsz p4 (by simp)) hs
      have y5 : p5.size ≤ 900 := Nat.le_trans (hsz p5 (by simp)) hs
      have y6 : p6.size ≤ 900 := Nat.le_trans (hsz p6 (by simp)) hs
      clear hsz Z0 R1 HB1 hc
      go_wp2_with fail
      refine (rbyname08 p2 _).mono ?_
      rintro e v2 ⟨xt, b1, rfl, hq, hb⟩
      have H1 := hide hq
      have Z2 := hide (kept_dr _ _ _ _ _ _ _ _ _ Z1.out hb)
      clear hq hb Z1 k2
      go_upto_region 5 with (fail)
      go_cut [8] from 35 to 47 (fun x W => ∃ (xq : Nat) (xa xk : Int), x = .pointer (some ⟨xq, 0, none⟩) ∧ FdX [⟨#[99, 108, 105, 101, 110, 116]⟩, ⟨#[115, 101, 114, 118, 101, 114]⟩] p1 xa ∧ FdX [⟨#[97, 108, 108, 111, 119, 101, 100]⟩, ⟨#[105, 103, 110, 111, 114, 101, 100]⟩, ⟨#[114, 101, 106, 101, 99, 116, 101, 100]⟩, ⟨#[108, 105, 109, 105, 116, 101, 100]⟩] p6 xk ∧ DrZ 23 w.heap.size b off #[.int .i64 0, .int .i64 0, .int .i64 0, .int .i64 0, .int .i64 0, .int .i64 0] [p0, p1, p2, p3, p4, p5, p6] w W ∧ RowW xq 23 #[.int .i64 xa, .int .i64 xt, .int .i64 0, .int .i64 0, .int .i64 0, .int .i64 (1 + xk)] W ∧ w.heap.size < xq ∧ b < xq)
      case first =>
        refine wp_region_held_drew (S := (DrZ 23 w.heap.size b off #[.int .i64 0, .int .i64 0, .int .i64 0, .int .i64 0, .int .i64 0, .int .i64 0] [p0, p1, p2, p3, p4, p5, p6] w)) (by kernel_rfl) (kept_drew (kept_dr _ _ _ _ _ _ _) Z2.out) (fun hHeld => ?_)
        refine wpAnyH_take (i := 1) (oi := ⟨some 36, .move (.tmp 4), _, _, _, _⟩) (v := ?vv1) rfl (by kernel_rfl) (by kernel_rfl) (by kernel_rfl) (fun _ _ _ h => h) (Or.inl ⟨by rfl, ?hy1⟩) (by assumption) ?_
        case hy1 =>
          intro w' hSw
          skip
          go_simp
          try with_reducible rfl
        try simp only [Act.put, List.setIfInBounds_toArray, List.set_cons_zero, List.set_cons_succ]
        refine wpAnyH_take (i := 2) (oi := ⟨some 37, .indexAddr _ (.tmp 36) (.const (.int .i64 1)), _, _, _, _⟩) (v := ?vv2) rfl (by kernel_rfl) (by kernel_rfl) (by kernel_rfl) (fun _ _ _ h => h) (Or.inl ⟨by rfl, ?hy2⟩) (by assumption) ?_
        case hy2 =>
          intro w' hSw
          skip
          go_simp
          try with_reducible rfl
        try simp only [Act.put, List.setIfInBounds_toArray, List.set_cons_zero, List.set_cons_succ]
        refine wpAnyH_take (i := 3) (oi := ⟨some 38, .load _ (.tmp 37), _, _, _, _⟩) (v := ?vv3) rfl (by kernel_rfl) (by kernel_rfl) (by kernel_rfl) (fun _ _ _ h => h) (Or.inl ⟨by rfl, ?hy3⟩) (by assumption) ?_
        case hy3 =>
          intro w' hSw
          have k1 : w'.cell? ⟨b, off + 1, none⟩ = some (.string p1) := hSw.2.2 1 (by omega)
          go_simp
          try with_reducible rfl
        try simp only [Act.put, List.setIfInBounds_toArray, List.set_cons_zero, List.set_cons_succ]
        refine wpAnyH_take (i := 5) (oi := ⟨some 40, .move (.tmp 6), _, _, _, _⟩) (v := ?vv4) rfl (by kernel_rfl) (by kernel_rfl) (by kernel_rfl) (fun _ _ _ h => h) (Or.inl ⟨by rfl, ?hy4⟩) (by assumption) ?_
        case hy4 =>
          intro w' hSw
          skip
          go_simp
          try with_reducible rfl
        try simp only [Act.put, List.setIfInBounds_toArray, List.set_cons_zero, List.set_cons_succ]
        refine wpAnyH_take (i := 7) (oi := ⟨some 42, .move (.tmp 4), _, _, _, _⟩) (v := ?vv5) rfl (by kernel_rfl) (by kernel_rfl) (by kernel_rfl) (fun _ _ _ h => h) (Or.inl ⟨by rfl, ?hy5⟩) (by assumption) ?_
        case hy5 =>
          intro w' hSw
          skip
          go_simp
          try with_reducible rfl
        try simp only [Act.put, List.setIfInBounds_toArray, List.set_cons_zero, List.set_cons_succ]
        refine wpAnyH_take (i := 8) (oi := ⟨some 43, .indexAddr _ (.tmp 42) (.const (.int .i64 6)), _, _, _, _⟩) (v := ?vv6) rfl (by kernel_rfl) (by kernel_rfl) (by kernel_rfl) (fun _ _ _ h => h) (Or.inl ⟨by rfl, ?hy6⟩) (by assumption) ?_
        case hy6 =>
          intro w' hSw
          skip
          go_simp
          try with_reducible rfl
        try simp only [Act.put, List.setIfInBounds_toArray, List.set_cons_zero, List.set_cons_succ]
        refine wpAnyH_take (i := 9) (oi := ⟨some 44, .load _ (.tmp 43), _, _, _, _⟩) (v := ?vv7) rfl (by kernel_rfl) (by kernel_rfl) (by kernel_rfl) (fun _ _ _ h => h) (Or.inl ⟨by rfl, ?hy7⟩) (by assumption) ?_
        case hy7 =>
          intro w' hSw
          have k6 : w'.cell? ⟨b, off + 6, none⟩ = some (.string p6) := hSw.2.2 6 (by omega)
          go_simp
          try with_reducible rfl
        try simp only [Act.put, List.setIfInBounds_toArray, List.set_cons_zero, List.set_cons_succ]
        generalize v2.drew = W1 at *
        refine wpAnyH_ready (rs := [0, 13]) (by kernel_rfl) (by simp) ?_
        refine AllReadyH.cons (o := ⟨some 35, _, _, _, _, _⟩) rfl (fun K hK => ?_) (AllReadyH.cons (o := ⟨some 8, _, _, _, _, _⟩) rfl (fun K hK => ?_) AllReadyH.nil)
        · skip
          go_simp
          refine (rsides41 _).mono ?_
          rintro e v1 ⟨rfl, rfl⟩
          have hv : Below W1.heap.size W1 (W1.alloc (.cells #[.string ⟨#[99, 108, 105, 101, 110, 116]⟩, .string ⟨#[115, 101, 114, 118, 101, 114]⟩] 9)) := (Below.refl _ _).alloc (Nat.le_refl _) _
          have RS0 : RowW W1.heap.size 9 #[.string ⟨#[99, 108, 105, 101, 110, 116]⟩, .string ⟨#[115, 101, 114, 118, 101, 114]⟩] (W1.alloc (.cells #[.string ⟨#[99, 108, 105, 101, 110, 116]⟩, .string ⟨#[115, 101, 114, 118, 101, 114]⟩] 9)) := heap_alloc_new W1 (.cells #[.string ⟨#[99, 108, 105, 101, 110, 116]⟩, .string ⟨#[115, 101, 114, 118, 101, 114]⟩] 9)
          refine hK.out _ _ (kept_dr _ _ _ _ _ _ _ _ _ (by assumption) hv) (fun hHeld2 => ?_)
          clear hK K hHeld
          have hHeld := hHeld2
          clear hHeld2
          generalize (W1.alloc (.cells #[.string ⟨#[99, 108, 105, 101, 110, 116]⟩, .string ⟨#[115, 101, 114, 118, 101, 114]⟩] 9)) = W2 at *
          generalize W1.heap.size = sq at *
          have RS := hide RS0
          clear hv RS0
          try simp only [Act.put, List.setIfInBounds_toArray, List.set_cons_zero, List.set_cons_succ]
          refine wpAnyH_ready (rs := [4, 13]) (by kernel_rfl) (by simp) ?_
          refine AllReadyH.cons (o := ⟨some 39, _, _, _, _, _⟩) rfl (fun K hK => ?_) (AllReadyH.cons (o := ⟨some 8, _, _, _, _, _⟩) rfl (fun K hK => ?_) AllReadyH.nil)
          · skip
            go_simp
            have RD := hide (RS.out.reads (n := 2) (ps := [⟨#[99, 108, 105, 101, 110, 116]⟩, ⟨#[115, 101, 114, 118, 101, 114]⟩]) (by omega) (fun i hi => by match i, hi with | 0, _ => rfl | 1, _ => rfl))
            refine (rfind41 _ 2 2 [⟨#[99, 108, 105, 101, 110, 116]⟩, ⟨#[115, 101, 114, 118, 101, 114]⟩] p1 _ RD.out rfl (by omega)).mono ?_
            rintro e v3 ⟨xa, rfl, hf, hv⟩
            refine hK.out _ _ (kept_dr _ _ _ _ _ _ _ _ _ (by assumption) hv) (fun hHeld2 => ?_)
            clear hK K hHeld
            have hHeld := hHeld2
            clear hHeld2
            have HA := hide hf
            clear hv hf RD RS
            try simp only [Act.put, List.setIfInBounds_toArray, List.set_cons_zero, List.set_cons_succ]
            refine wpAnyH_ready (rs := [6, 13]) (by kernel_rfl) (by simp) ?_
            refine AllReadyH.cons (o := ⟨some 41, _, _, _, _, _⟩) rfl (fun K hK => ?_) (AllReadyH.cons (o := ⟨some 8, _, _, _, _, _⟩) rfl (fun K hK => ?_) AllReadyH.nil)
            · skip
              go_simp
              refine (rkinds41 _).mono ?_
              rintro e v4 ⟨rfl, rfl⟩
              have hv : Below v3.heap.size v3 (v3.alloc (.cells #[.string ⟨#[97, 108, 108, 111, 119, 101, 100]⟩, .string ⟨#[105, 103, 110, 111, 114, 101, 100]⟩, .string ⟨#[114, 101, 106, 101, 99, 116, 101, 100]⟩, .string ⟨#[108, 105, 109, 105, 116, 101, 100]⟩] 9)) := (Below.refl _ _).alloc (Nat.le_refl _) _
              have RS0 : RowW v3.heap.size 9 #[.string ⟨#[97, 108, 108, 111, 119, 101, 100]⟩, .string ⟨#[105, 103, 110, 111, 114, 101, 100]⟩, .string ⟨#[114, 101, 106, 101, 99, 116, 101, 100]⟩, .string ⟨#[108, 105, 109, 105, 116, 101, 100]⟩] (v3.alloc (.cells #[.string ⟨#[97, 108, 108, 111, 119, 101, 100]⟩, .string ⟨#[105, 103, 110, 111, 114, 101, 100]⟩, .string ⟨#[114, 101, 106, 101, 99, 116, 101, 100]⟩, .string ⟨#[108, 105, 109, 105, 116, 101, 100]⟩] 9)) := heap_alloc_new v3 (.cells #[.string ⟨#[97, 108, 108, 111, 119, 101, 100]⟩, .string ⟨#[105, 103, 110, 111, 114, 101, 100]⟩, .string ⟨#[114, 101, 106, 101, 99, 116, 101, 100]⟩, .string ⟨#[108, 105, 109, 105, 116, 101, 100]⟩] 9)
              refine hK.out _ _ (kept_dr _ _ _ _ _ _ _ _ _ (by assumption) hv) (fun hHeld2 => ?_)
              clear hK K hHeld
              have hHeld := hHeld2
              clear hHeld2
              generalize (v3.alloc (.cells #[.string ⟨#[97, 108, 108, 111, 119, 101, 100]⟩, .string ⟨#[105, 103, 110, 111, 114, 101, 100]⟩, .string ⟨#[114, 101, 106, 101, 99, 116, 101, 100]⟩, .string ⟨#[108, 105, 109, 105, 116, 101, 100]⟩] 9)) = W5 at *
              generalize v3.heap.size = kq at *
              have RS := hide RS0
              clear hv RS0
              try simp only [Act.put, List.setIfInBounds_toArray, List.set_cons_zero, List.set_cons_succ]
              refine wpAnyH_ready (rs := [10, 13]) (by kernel_rfl) (by simp) ?_
              refine AllReadyH.cons (o := ⟨some 45, _, _, _, _, _⟩) rfl (fun K hK => ?_) (AllReadyH.cons (o := ⟨some 8, _, _, _, _, _⟩) rfl (fun K hK => ?_) AllReadyH.nil)
              · skip
                go_simp
                have RD := hide (RS.out.reads (n := 4) (ps := [⟨#[97, 108, 108, 111, 119, 101, 100]⟩, ⟨#[105, 103, 110, 111, 114, 101, 100]⟩, ⟨#[114, 101, 106, 101, 99, 116, 101, 100]⟩, ⟨#[108, 105, 109, 105, 116, 101, 100]⟩]) (by omega) (fun i hi => by match i, hi with | 0, _ => rfl | 1, _ => rfl | 2, _ => rfl | 3, _ => rfl))
                refine (rfind41 _ 4 4 [⟨#[97, 108, 108, 111, 119, 101, 100]⟩, ⟨#[105, 103, 110, 111, 114, 101, 100]⟩, ⟨#[114, 101, 106, 101, 99, 116, 101, 100]⟩, ⟨#[108, 105, 109, 105, 116, 101, 100]⟩] p6 _ RD.out rfl (by omega)).mono ?_
                rintro e v6 ⟨xk, rfl, hf, hv⟩
                refine hK.out _ _ (kept_dr _ _ _ _ _ _ _ _ _ (by assumption) hv) (fun hHeld2 => ?_)
                clear hK K hHeld
                have hHeld := hHeld2
                clear hHeld2
                have HK := hide hf
                have bk := hf.bd
                simp only [List.length_cons, List.length_nil] at bk
                have d2 : IntKind.i64.wrap (1 + xk) = 1 + xk := IntWalk.i64_in _ (by omega)
                clear hv hf RD RS
                try simp only [Act.put, List.setIfInBounds_toArray, List.set_cons_zero, List.set_cons_succ]
                refine wpAnyH_take (i := 11) (oi := ⟨some 46, .binOp .add _ (.const (.int .i64 1)) (.tmp 45) _, _, _, _, _⟩) (v := ?vv8) rfl (by kernel_rfl) (by kernel_rfl) (by kernel_rfl) (fun _ _ _ h => h) (Or.inl ⟨by rfl, ?hy8⟩) (by assumption) ?_
                case hy8 =>
                  intro w' hSw
                  skip
                  go_simp
                  try with_reducible rfl
                try simp only [Act.put, List.setIfInBounds_toArray, List.set_cons_zero, List.set_cons_succ]
                refine wpAnyH_take (i := 12) (oi := ⟨some 47, .build _ _, _, _, _, _⟩) (v := ?vv9) rfl (by kernel_rfl) (by kernel_rfl) (by kernel_rfl) (fun _ _ _ h => h) (Or.inl ⟨by rfl, ?hy9⟩) (by assumption) ?_
                case hy9 =>
                  intro w' hSw
                  skip
                  go_simp
                  try with_reducible rfl
                try simp only [Act.put, List.setIfInBounds_toArray, List.set_cons_zero, List.set_cons_succ]
                refine wpAnyH_ready (rs := [13]) (by kernel_rfl) (by simp) ?_
                refine AllReadyH.cons (o := ⟨some 8, _, _, _, _, _⟩) rfl (fun K hK => ?_) AllReadyH.nil
                go_simp
                have hv : Below v6.heap.size v6 (v6.alloc (.cells #[.int .i64 0, .int .i64 0, .int .i64 0, .int .i64 0, .int .i64 0, .int .i64 0] 23)) := (Below.refl _ _).alloc (Nat.le_refl _) _
                have RB0 : RowW v6.heap.size 23 #[.int .i64 0, .int .i64 0, .int .i64 0, .int .i64 0, .int .i64 0, .int .i64 0] (v6.alloc (.cells #[.int .i64 0, .int .i64 0, .int .i64 0, .int .i64 0, .int .i64 0, .int .i64 0] 23)) := heap_alloc_new v6 (.cells #[.int .i64 0, .int .i64 0, .int .i64 0, .int .i64 0, .int .i64 0, .int .i64 0] 23)
                have hqx := hide (rowLt hHeld.1)
                have hbx := hide (World.block_lt_of_cell? v6 _ (hHeld.2.2 0 (by omega)))
                refine hK.out _ _ (kept_dr _ _ _ _ _ _ _ _ _ (by assumption) hv) (fun hHeld2 => ?_)
                clear hK K hHeld
                have hHeld := hHeld2
                clear hHeld2
                have RB : BoxW v6.heap.size 23 (v6.alloc (.cells #[.int .i64 0, .int .i64 0, .int .i64 0, .int .i64 0, .int .i64 0, .int .i64 0] 23)) := ⟨_, _, _, _, _, _, RB0⟩
                generalize (v6.alloc (.cells #[.int .i64 0, .int .i64 0, .int .i64 0, .int .i64 0, .int .i64 0, .int .i64 0] 23)) = W7 at *
                generalize v6.heap.size = xq at *
                clear hv RB0
                refine wpAnyH_strong (S' := AndW (DrZ 23 w.heap.size b off #[.int .i64 0, .int .i64 0, .int .i64 0, .int .i64 0, .int .i64 0, .int .i64 0] [p0, p1, p2, p3, p4, p5, p6] w) (BoxW xq 23)) (fun _ h => h.1) _ _ _ _ ?_
                have hHeld3 : AndW (DrZ 23 w.heap.size b off #[.int .i64 0, .int .i64 0, .int .i64 0, .int .i64 0, .int .i64 0, .int .i64 0] [p0, p1, p2, p3, p4, p5, p6] w) (BoxW xq 23) W7 := ⟨hHeld, RB⟩
                clear hHeld RB
                have hHeld := hHeld3
                clear hHeld3
                try simp only [Act.put, List.setIfInBounds_toArray, List.set_cons_zero, List.set_cons_succ]
                obtain ⟨HD0, a0, a1, a2, a3, a4, a5, hbox⟩ := hHeld
                have hHeld := HD0
                obtain ⟨⟨e0, z0⟩, ⟨e1, z1⟩, ⟨e2, z2⟩, ⟨e3, z3⟩, ⟨e4, z4⟩, ⟨e5, z5⟩, hrow⟩ := store6 hbox (.int .i64 xa) (.int .i64 xt) (.int .i64 0) (.int .i64 0) (.int .i64 0) (.int .i64 (1 + xk))
                have HROW := hide hrow
                clear hrow hbox
                have HS6 : Hid (DrZ 23 w.heap.size b off #[.int .i64 0, .int .i64 0, .int .i64 0, .int .i64 0, .int .i64 0, .int .i64 0] [p0, p1, p2, p3, p4, p5, p6] w ((((((W7.setCell ⟨xq, 0, none⟩ (.int .i64 xa)).setCell ⟨xq, 1, none⟩ (.int .i64 xt)).setCell ⟨xq, 2, none⟩ (.int .i64 0)).setCell ⟨xq, 3, none⟩ (.int .i64 0)).setCell ⟨xq, 4, none⟩ (.int .i64 0)).setCell ⟨xq, 5, none⟩ (.int .i64 (1 + xk)))) := ((((((DrZ.put HD0 hqx.out hbx.out 0 _).put hqx.out hbx.out 1 _).put hqx.out hbx.out 2 _).put hqx.out hbx.out 3 _).put hqx.out hbx.out 4 _).put hqx.out hbx.out 5 _)
                clear HD0
                refine wpAnyH_ready (rs := [14]) (by kernel_rfl) (by simp) ?_
                refine AllReadyH.cons (o := ⟨none, _, _, _, _, _⟩) rfl (fun K hK => ?_) AllReadyH.nil
                go_simp
                refine hK.out _ _ (⟨HS6.out, _, _, _, _, _, _, HROW.out⟩) (fun hHeld2 => ?_)
                clear hK K hHeld
                have hHeld := hHeld2
                clear hHeld2
                generalize ((((((W7.setCell ⟨xq, 0, none⟩ (.int .i64 xa)).setCell ⟨xq, 1, none⟩ (.int .i64 xt)).setCell ⟨xq, 2, none⟩ (.int .i64 0)).setCell ⟨xq, 3, none⟩ (.int .i64 0)).setCell ⟨xq, 4, none⟩ (.int .i64 0)).setCell ⟨xq, 5, none⟩ (.int .i64 (1 + xk))) = W99 at *
                try simp only [Act.put, List.setIfInBounds_toArray, List.set_cons_zero, List.set_cons_succ]
                refine wpAnyH_done (by kernel_rfl) ?_ _
                clear hHeld e0 e1 e2 e3 e4 e5 z0 z1 z2 z3 z4 z5 Z2
                try go_wp2_with fail
                go_meet
                exact ⟨xq, xa, xk, rfl, HA.out, HK.out, HS6.out, HROW.out, hqx.out, hbx.out⟩
              · skip
                go_simp
                have hv : Below W5.heap.size W5 (W5.alloc (.cells #[.int .i64 0, .int .i64 0, .int .i64 0, .int .i64 0, .int .i64 0, .int .i64 0] 23)) := (Below.refl _ _).alloc (Nat.le_refl _) _
                have RB0 : RowW W5.heap.size 23 #[.int .i64 0, .int .i64 0, .int .i64 0, .int .i64 0, .int .i64 0, .int .i64 0] (W5.alloc (.cells #[.int .i64 0, .int .i64 0, .int .i64 0, .int .i64 0, .int .i64 0, .int .i64 0] 23)) := heap_alloc_new W5 (.cells #[.int .i64 0, .int .i64 0, .int .i64 0, .int .i64 0, .int .i64 0, .int .i64 0] 23)
                have hqx := hide (rowLt hHeld.1)
                have hbx := hide (World.block_lt_of_cell? W5 _ (hHeld.2.2 0 (by omega)))
                refine hK.out _ _ (kept_dr _ _ _ _ _ _ _ _ _ (by assumption) hv) (fun hHeld2 => ?_)
                clear hK K hHeld
                have hHeld := hHeld2
                clear hHeld2
                have RB : BoxW W5.heap.size 23 (W5.alloc (.cells #[.int .i64 0, .int .i64 0, .int .i64 0, .int .i64 0, .int .i64 0, .int .i64 0] 23)) := ⟨_, _, _, _, _, _, RB0⟩
                have RS1 := kept_row _ _ _ _ _ RS.out hv
                clear RS
                have RS := hide RS1
                clear RS1
                generalize (W5.alloc (.cells #[.int .i64 0, .int .i64 0, .int .i64 0, .int .i64 0, .int .i64 0, .int .i64 0] 23)) = W8 at *
                generalize W5.heap.size = xq at *
                clear hv RB0
                refine wpAnyH_strong (S' := AndW (DrZ 23 w.heap.size b off #[.int .i64 0, .int .i64 0, .int .i64 0, .int .i64 0, .int .i64 0, .int .i64 0] [p0, p1, p2, p3, p4, p5, p6] w) (BoxW xq 23)) (fun _ h => h.1) _ _ _ _ ?_
                have hHeld3 : AndW (DrZ 23 w.heap.size b off #[.int .i64 0, .int .i64 0, .int .i64 0, .int .i64 0, .int .i64 0, .int .i64 0] [p0, p1, p2, p3, p4, p5, p6] w) (BoxW xq 23) W8 := ⟨hHeld, RB⟩
                clear hHeld RB
                have hHeld := hHeld3
                clear hHeld3
                try simp only [Act.put, List.setIfInBounds_toArray, List.set_cons_zero, List.set_cons_succ]
                refine wpAnyH_ready (rs := [10]) (by kernel_rfl) (by simp) ?_
                refine AllReadyH.cons (o := ⟨some 45, _, _, _, _, _⟩) rfl (fun K hK => ?_) AllReadyH.nil
                go_simp
                have RD := hide (RS.out.reads (n := 4) (ps := [⟨#[97, 108, 108, 111, 119, 101, 100]⟩, ⟨#[105, 103, 110, 111, 114, 101, 100]⟩, ⟨#[114, 101, 106, 101, 99, 116, 101, 100]⟩, ⟨#[108, 105, 109, 105, 116, 101, 100]⟩]) (by omega) (fun i hi => by match i, hi with | 0, _ => rfl | 1, _ => rfl | 2, _ => rfl | 3, _ => rfl))
                refine (rfind41 _ 4 4 [⟨#[97, 108, 108, 111, 119, 101, 100]⟩, ⟨#[105, 103, 110, 111, 114, 101, 100]⟩, ⟨#[114, 101, 106, 101, 99, 116, 101, 100]⟩, ⟨#[108, 105, 109, 105, 116, 101, 100]⟩] p6 _ RD.out rfl (by omega)).mono ?_
                rintro e v9 ⟨xk, rfl, hf, hv⟩
                refine hK.out _ _ (kept_and (kept_dr _ _ _ _ _ _ _) (kept_box _ _) _ _ (by assumption) hv) (fun hHeld2 => ?_)
                clear hK K hHeld
                have hHeld := hHeld2
                clear hHeld2
                have HK := hide hf
                have bk := hf.bd
                simp only [List.length_cons, List.length_nil] at bk
                have d2 : IntKind.i64.wrap (1 + xk) = 1 + xk := IntWalk.i64_in _ (by omega)
                clear hv hf RD RS
                try simp only [Act.put, List.setIfInBounds_toArray, List.set_cons_zero, List.set_cons_succ]
                refine wpAnyH_take (i := 11) (oi := ⟨some 46, .binOp .add _ (.const (.int .i64 1)) (.tmp 45) _, _, _, _, _⟩) (v := ?vv10) rfl (by kernel_rfl) (by kernel_rfl) (by kernel_rfl) (fun _ _ _ h => h) (Or.inl ⟨by rfl, ?hy10⟩) (by assumption) ?_
                case hy10 =>
                  intro w' hSw
                  skip
                  go_simp
                  try with_reducible rfl
                try simp only [Act.put, List.setIfInBounds_toArray, List.set_cons_zero, List.set_cons_succ]
                refine wpAnyH_take (i := 12) (oi := ⟨some 47, .build _ _, _, _, _, _⟩) (v := ?vv11) rfl (by kernel_rfl) (by kernel_rfl) (by kernel_rfl) (fun _ _ _ h => h) (Or.inl ⟨by rfl, ?hy11⟩) (by assumption) ?_
                case hy11 =>
                  intro w' hSw
                  skip
                  go_simp
                  try with_reducible rfl
                try simp only [Act.put, List.setIfInBounds_toArray, List.set_cons_zero, List.set_cons_succ]
                obtain ⟨HD0, a0, a1, a2, a3, a4, a5, hbox⟩ := hHeld
                have hHeld := HD0
                obtain ⟨⟨e0, z0⟩, ⟨e1, z1⟩, ⟨e2, z2⟩, ⟨e3, z3⟩, ⟨e4, z4⟩, ⟨e5, z5⟩, hrow⟩ := store6 hbox (.int .i64 xa) (.int .i64 xt) (.int .i64 0) (.int .i64 0) (.int .i64 0) (.int .i64 (1 + xk))
                have HROW := hide hrow
                clear hrow hbox
                have HS6 : Hid (DrZ 23 w.heap.size b off #[.int .i64 0, .int .i64 0, .int .i64 0, .int .i64 0, .int .i64 0, .int .i64 0] [p0, p1, p2, p3, p4, p5, p6] w ((((((v9.setCell ⟨xq, 0, none⟩ (.int .i64 xa)).setCell ⟨xq, 1, none⟩ (.int .i64 xt)).setCell ⟨xq, 2, none⟩ (.int .i64 0)).setCell ⟨xq, 3, none⟩ (.int .i64 0)).setCell ⟨xq, 4, none⟩ (.int .i64 0)).setCell ⟨xq, 5, none⟩ (.int .i64 (1 + xk)))) := ((((((DrZ.put HD0 hqx.out hbx.out 0 _).put hqx.out hbx.out 1 _).put hqx.out hbx.out 2 _).put hqx.out hbx.out 3 _).put hqx.out hbx.out 4 _).put hqx.out hbx.out 5 _)
                clear HD0
                refine wpAnyH_ready (rs := [14]) (by kernel_rfl) (by simp) ?_
                refine AllReadyH.cons (o := ⟨none, _, _, _, _, _⟩) rfl (fun K hK => ?_) AllReadyH.nil
                go_simp
                refine hK.out _ _ (⟨HS6.out, _, _, _, _, _, _, HROW.out⟩) (fun hHeld2 => ?_)
                clear hK K hHeld
                have hHeld := hHeld2
                clear hHeld2
                generalize ((((((v9.setCell ⟨xq, 0, none⟩ (.int .i64 xa)).setCell ⟨xq, 1, none⟩ (.int .i64 xt)).setCell ⟨xq, 2, none⟩ (.int .i64 0)).setCell ⟨xq, 3, none⟩ (.int .i64 0)).setCell ⟨xq, 4, none⟩ (.int .i64 0)).setCell ⟨xq, 5, none⟩ (.int .i64 (1 + xk))) = W99 at *
                try simp only [Act.put, List.setIfInBounds_toArray, List.set_cons_zero, List.set_cons_succ]
                refine wpAnyH_done (by kernel_rfl) ?_ _
                clear hHeld e0 e1 e2 e3 e4 e5 z0 z1 z2 z3 z4 z5 Z2
                try go_wp2_with fail
                go_meet
                exact ⟨xq, xa, xk, rfl, HA.out, HK.out, HS6.out, HROW.out, hqx.out, hbx.out⟩
            · skip
              go_simp
              have hv : Below v3.heap.size v3 (v3.alloc (.cells #[.int .i64 0, .int .i64 0, .int .i64 0, .int .i64 0, .int .i64 0, .int .i64 0] 23)) := (Below.refl _ _).alloc (Nat.le_refl _) _
              have RB0 : RowW v3.heap.size 23 #[.int .i64 0, .int .i64 0, .int .i64 0, .int .i64 0, .int .i64 0, .int .i64 0] (v3.alloc (.cells #[.int .i64 0, .int .i64 0, .int .i64 0, .int .i64 0, .int .i64 0, .int .i64 0] 23)) := heap_alloc_new v3 (.cells #[.int .i64 0, .int .i64 0, .int .i64 0, .int .i64 0, .int .i64 0, .int .i64 0] 23)
              have hqx := hide (rowLt hHeld.1)
              have hbx := hide (World.block_lt_of_cell? v3 _ (hHeld.2.2 0 (by omega)))
              refine hK.out _ _ (kept_dr _ _ _ _ _ _ _ _ _ (by assumption) hv) (fun hHeld2 => ?_)
              clear hK K hHeld
              have hHeld := hHeld2
              clear hHeld2
              have RB : BoxW v3.heap.size 23 (v3.alloc (.cells #[.int .i64 0, .int .i64 0, .int .i64 0, .int .i64 0, .int .i64 0, .int .i64 0] 23)) := ⟨_, _, _, _, _, _, RB0⟩
              generalize (v3.alloc (.cells #[.int .i64 0, .int .i64 0, .int .i64 0, .int .i64 0, .int .i64 0, .int .i64 0] 23)) = W10 at *
              generalize v3.heap.size = xq at *
              clear hv RB0
              refine wpAnyH_strong (S' := AndW (DrZ 23 w.heap.size b off #[.int .i64 0, .int .i64 0, .int .i64 0, .int .i64 0, .int .i64 0, .int .i64 0] [p0, p1, p2, p3, p4, p5, p6] w) (BoxW xq 23)) (fun _ h => h.1) _ _ _ _ ?_
              have hHeld3 : AndW (DrZ 23 w.heap.size b off #[.int .i64 0, .int .i64 0, .int .i64 0, .int .i64 0, .int .i64 0, .int .i64 0] [p0, p1, p2, p3, p4, p5, p6] w) (BoxW xq 23) W10 := ⟨hHeld, RB⟩
              clear hHeld RB
              have hHeld := hHeld3
              clear hHeld3
              try simp only [Act.put, List.setIfInBounds_toArray, List.set_cons_zero, List.set_cons_succ]
              refine wpAnyH_ready (rs := [6]) (by kernel_rfl) (by simp) ?_
              refine AllReadyH.cons (o := ⟨some 41, _, _, _, _, _⟩) rfl (fun K hK => ?_) AllReadyH.nil
              go_simp
              refine (rkinds41 _).mono ?_
              rintro e v11 ⟨rfl, rfl⟩
              have hv : Below W10.heap.size W10 (W10.alloc (.cells #[.string ⟨#[97, 108, 108, 111, 119, 101, 100]⟩, .string ⟨#[105, 103, 110, 111, 114, 101, 100]⟩, .string ⟨#[114, 101, 106, 101, 99, 116, 101, 100]⟩, .string ⟨#[108, 105, 109, 105, 116, 101, 100]⟩] 9)) := (Below.refl _ _).alloc (Nat.le_refl _) _
              have RS0 : RowW W10.heap.size 9 #[.string ⟨#[97, 108, 108, 111, 119, 101, 100]⟩, .string ⟨#[105, 103, 110, 111, 114, 101, 100]⟩, .string ⟨#[114, 101, 106, 101, 99, 116, 101, 100]⟩, .string ⟨#[108, 105, 109, 105, 116, 101, 100]⟩] (W10.alloc (.cells #[.string ⟨#[97, 108, 108, 111, 119, 101, 100]⟩, .string ⟨#[105, 103, 110, 111, 114, 101, 100]⟩, .string ⟨#[114, 101, 106, 101, 99, 116, 101, 100]⟩, .string ⟨#[108, 105, 109, 105, 116, 101, 100]⟩] 9)) := heap_alloc_new W10 (.cells #[.string ⟨#[97, 108, 108, 111, 119, 101, 100]⟩, .string ⟨#[105, 103, 110, 111, 114, 101, 100]⟩, .string ⟨#[114, 101, 106, 101, 99, 116, 101, 100]⟩, .string ⟨#[108, 105, 109, 105, 116, 101, 100]⟩] 9)
              refine hK.out _ _ (kept_and (kept_dr _ _ _ _ _ _ _) (kept_box _ _) _ _ (by assumption) hv) (fun hHeld2 => ?_)
              clear hK K hHeld
              have hHeld := hHeld2
              clear hHeld2
              generalize (W10.alloc (.cells #[.string ⟨#[97, 108, 108, 111, 119, 101, 100]⟩, .string ⟨#[105, 103, 110, 111, 114, 101, 100]⟩, .string ⟨#[114, 101, 106, 101, 99, 116, 101, 100]⟩, .string ⟨#[108, 105, 109, 105, 116, 101, 100]⟩] 9)) = W12 at *
              generalize W10.heap.size = kq at *
              have RS := hide RS0
              clear hv RS0
              try simp only [Act.put, List.setIfInBounds_toArray, List.set_cons_zero, List.set_cons_succ]
              refine wpAnyH_ready (rs := [10]) (by kernel_rfl) (by simp) ?_
              refine AllReadyH.cons (o := ⟨some 45, _, _, _, _, _⟩) rfl (fun K hK => ?_) AllReadyH.nil
              go_simp
              have RD := hide (RS.out.reads (n := 4) (ps := [⟨#[97, 108, 108, 111, 119, 101, 100]⟩, ⟨#[105, 103, 110, 111, 114, 101, 100]⟩, ⟨#[114, 101, 106, 101, 99, 116, 101, 100]⟩, ⟨#[108, 105, 109, 105, 116, 101, 100]⟩]) (by omega) (fun i hi => by match i, hi with | 0, _ => rfl | 1, _ => rfl | 2, _ => rfl | 3, _ => rfl))
              refine (rfind41 _ 4 4 [⟨#[97, 108, 108, 111, 119, 101, 100]⟩, ⟨#[105, 103, 110, 111, 114, 101, 100]⟩, ⟨#[114, 101, 106, 101, 99, 116, 101, 100]⟩, ⟨#[108, 105, 109, 105, 116, 101, 100]⟩] p6 _ RD.out rfl (by omega)).mono ?_
              rintro e v13 ⟨xk, rfl, hf, hv⟩
              refine hK.out _ _ (kept_and (kept_dr _ _ _ _ _ _ _) (kept_box _ _) _ _ (by assumption) hv) (fun hHeld2 => ?_)
              clear hK K hHeld
              have hHeld := hHeld2
              clear hHeld2
              have HK := hide hf
              have bk := hf.bd
              simp only [List.length_cons, List.length_nil] at bk
              have d2 : IntKind.i64.wrap (1 + xk) = 1 + xk := IntWalk.i64_in _ (by omega)
              clear hv hf RD RS
              try simp only [Act.put, List.setIfInBounds_toArray, List.set_cons_zero, List.set_cons_succ]
              refine wpAnyH_take (i := 11) (oi := ⟨some 46, .binOp .add _ (.const (.int .i64 1)) (.tmp 45) _, _, _, _, _⟩) (v := ?vv12) rfl (by kernel_rfl) (by kernel_rfl) (by kernel_rfl) (fun _ _ _ h => h) (Or.inl ⟨by rfl, ?hy12⟩) (by assumption) ?_
              case hy12 =>
                intro w' hSw
                skip
                go_simp
                try with_reducible rfl
              try simp only [Act.put, List.setIfInBounds_toArray, List.set_cons_zero, List.set_cons_succ]
              refine wpAnyH_take (i := 12) (oi := ⟨some 47, .build _ _, _, _, _, _⟩) (v := ?vv13) rfl (by kernel_rfl) (by kernel_rfl) (by kernel_rfl) (fun _ _ _ h => h) (Or.inl ⟨by rfl, ?hy13⟩) (by assumption) ?_
              case hy13 =>
                intro w' hSw
                skip
                go_simp
                try with_reducible rfl
              try simp only [Act.put, List.setIfInBounds_toArray, List.set_cons_zero, List.set_cons_succ]
              obtain ⟨HD0, a0, a1, a2, a3, a4, a5, hbox⟩ := hHeld
              have hHeld := HD0
              obtain ⟨⟨e0, z0⟩, ⟨e1, z1⟩, ⟨e2, z2⟩, ⟨e3, z3⟩, ⟨e4, z4⟩, ⟨e5, z5⟩, hrow⟩ := store6 hbox (.int .i64 xa) (.int .i64 xt) (.int .i64 0) (.int .i64 0) (.int .i64 0) (.int .i64 (1 + xk))
              have HROW := hide hrow
              clear hrow hbox
              have HS6 : Hid (DrZ 23 w.heap.size b off #[.int .i64 0, .int .i64 0, .int .i64 0, .int .i64 0, .int .i64 0, .int .i64 0] [p0, p1, p2, p3, p4, p5, p6] w ((((((v13.setCell ⟨xq, 0, none⟩ (.int .i64 xa)).setCell ⟨xq, 1, none⟩ (.int .i64 xt)).setCell ⟨xq, 2, none⟩ (.int .i64 0)).setCell ⟨xq, 3, none⟩ (.int .i64 0)).setCell ⟨xq, 4, none⟩ (.int .i64 0)).setCell ⟨xq, 5, none⟩ (.int .i64 (1 + xk)))) := ((((((DrZ.put HD0 hqx.out hbx.out 0 _).put hqx.out hbx.out 1 _).put hqx.out hbx.out 2 _).put hqx.out hbx.out 3 _).put hqx.out hbx.out 4 _).put hqx.out hbx.out 5 _)
              clear HD0
              refine wpAnyH_ready (rs := [14]) (by kernel_rfl) (by simp) ?_
              refine AllReadyH.cons (o := ⟨none, _, _, _, _, _⟩) rfl (fun K hK => ?_) AllReadyH.nil
              go_simp
              refine hK.out _ _ (⟨HS6.out, _, _, _, _, _, _, HROW.out⟩) (fun hHeld2 => ?_)
              clear hK K hHeld
              have hHeld := hHeld2
              clear hHeld2
              generalize ((((((v13.setCell ⟨xq, 0, none⟩ (.int .i64 xa)).setCell ⟨xq, 1, none⟩ (.int .i64 xt)).setCell ⟨xq, 2, none⟩ (.int .i64 0)).setCell ⟨xq, 3, none⟩ (.int .i64 0)).setCell ⟨xq, 4, none⟩ (.int .i64 0)).setCell ⟨xq, 5, none⟩ (.int .i64 (1 + xk))) = W99 at *
              try simp only [Act.put, List.setIfInBounds_toArray, List.set_cons_zero, List.set_cons_succ]
              refine wpAnyH_done (by kernel_rfl) ?_ _
              clear hHeld e0 e1 e2 e3 e4 e5 z0 z1 z2 z3 z4 z5 Z2
              try go_wp2_with fail
              go_meet
              exact ⟨xq, xa, xk, rfl, HA.out, HK.out, HS6.out, HROW.out, hqx.out, hbx.out⟩
          · skip
            go_simp
            have hv : Below W2.heap.size W2 (W2.alloc (.cells #[.int .i64 0, .int .i64 0, .int .i64 0, .int .i64 0, .int .i64 0, .int .i64 0] 23)) := (Below.refl _ _).alloc (Nat.le_refl _) _
            have RB0 : RowW W2.heap.size 23 #[.int .i64 0, .int .i64 0, .int .i64 0, .int .i64 0, .int .i64 0, .int .i64 0] (W2.alloc (.cells #[.int .i64 0, .int .i64 0, .int .i64 0, .int .i64 0, .int .i64 0, .int .i64 0] 23)) := heap_alloc_new W2 (.cells #[.int .i64 0, .int .i64 0, .int .i64 0, .int .i64 0, .int .i64 0, .int .i64 0] 23)
            have hqx := hide (rowLt hHeld.1)
            have hbx := hide (World.block_lt_of_cell? W2 _ (hHeld.2.2 0 (by omega)))
            refine hK.out _ _ (kept_dr _ _ _ _ _ _ _ _ _ (by assumption) hv) (fun hHeld2 => ?_)
            clear hK K hHeld
            have hHeld := hHeld2
            clear hHeld2
            have RB : BoxW W2.heap.size 23 (W2.alloc (.cells #[.int .i64 0, .int .i64 0, .int .i64 0, .int .i64 0, .int .i64 0, .int .i64 0] 23)) := ⟨_, _, _, _, _, _, RB0⟩
            have RS1 := kept_row _ _ _ _ _ RS.out hv
            clear RS
            have RS := hide RS1
            clear RS1
            generalize (W2.alloc (.cells #[.int .i64 0, .int .i64 0, .int .i64 0, .int .i64 0, .int .i64 0, .int .i64 0] 23)) = W14 at *
            generalize W2.heap.size = xq at *
            clear hv RB0
            refine wpAnyH_strong (S' := AndW (DrZ 23 w.heap.size b off #[.int .i64 0, .int .i64 0, .int .i64 0, .int .i64 0, .int .i64 0, .int .i64 0] [p0, p1, p2, p3, p4, p5, p6] w) (BoxW xq 23)) (fun _ h => h.1) _ _ _ _ ?_
            have hHeld3 : AndW (DrZ 23 w.heap.size b off #[.int .i64 0, .int .i64 0, .int .i64 0, .int .i64 0, .int .i64 0, .int .i64 0] [p0, p1, p2, p3, p4, p5, p6] w) (BoxW xq 23) W14 := ⟨hHeld, RB⟩
            clear hHeld RB
            have hHeld := hHeld3
            clear hHeld3
            try simp only [Act.put, List.setIfInBounds_toArray, List.set_cons_zero, List.set_cons_succ]
            refine wpAnyH_ready (rs := [4]) (by kernel_rfl) (by simp) ?_
            refine AllReadyH.cons (o := ⟨some 39, _, _, _, _, _⟩) rfl (fun K hK => ?_) AllReadyH.nil
            go_simp
            have RD := hide (RS.out.reads (n := 2) (ps := [⟨#[99, 108, 105, 101, 110, 116]⟩, ⟨#[115, 101, 114, 118, 101, 114]⟩]) (by omega) (fun i hi => by match i, hi with | 0, _ => rfl | 1, _ => rfl))
            refine (rfind41 _ 2 2 [⟨#[99, 108, 105, 101, 110, 116]⟩, ⟨#[115, 101, 114, 118, 101, 114]⟩] p1 _ RD.out rfl (by omega)).mono ?_
            rintro e v15 ⟨xa, rfl, hf, hv⟩
            refine hK.out _ _ (kept_and (kept_dr _ _ _ _ _ _ _) (kept_box _ _) _ _ (by assumption) hv) (fun hHeld2 => ?_)
            clear hK K hHeld
            have hHeld := hHeld2
            clear hHeld2
            have HA := hide hf
            clear hv hf RD RS
            try simp only [Act.put, List.setIfInBounds_toArray, List.set_cons_zero, List.set_cons_succ]
            refine wpAnyH_ready (rs := [6]) (by kernel_rfl) (by simp) ?_
            refine AllReadyH.cons (o := ⟨some 41, _, _, _, _, _⟩) rfl (fun K hK => ?_) AllReadyH.nil
            go_simp
            refine (rkinds41 _).mono ?_
            rintro e v16 ⟨rfl, rfl⟩
            have hv : Below v15.heap.size v15 (v15.alloc (.cells #[.string ⟨#[97, 108, 108, 111, 119, 101, 100]⟩, .string ⟨#[105, 103, 110, 111, 114, 101, 100]⟩, .string ⟨#[114, 101, 106, 101, 99, 116, 101, 100]⟩, .string ⟨#[108, 105, 109, 105, 116, 101, 100]⟩] 9)) := (Below.refl _ _).alloc (Nat.le_refl _) _
            have RS0 : RowW v15.heap.size 9 #[.string ⟨#[97, 108, 108, 111, 119, 101, 100]⟩, .string ⟨#[105, 103, 110, 111, 114, 101, 100]⟩, .string ⟨#[114, 101, 106, 101, 99, 116, 101, 100]⟩, .string ⟨#[108, 105, 109, 105, 116, 101, 100]⟩] (v15.alloc (.cells #[.string ⟨#[97, 108, 108, 111, 119, 101, 100]⟩, .string ⟨#[105, 103, 110, 111, 114, 101, 100]⟩, .string ⟨#[114, 101, 106, 101, 99, 116, 101, 100]⟩, .string ⟨#[108, 105, 109, 105, 116, 101, 100]⟩] 9)) := heap_alloc_new v15 (.cells #[.string ⟨#[97, 108, 108, 111, 119, 101, 100]⟩, .string ⟨#[105, 103, 110, 111, 114, 101, 100]⟩, .string ⟨#[114, 101, 106, 101, 99, 116, 101, 100]⟩, .string ⟨#[108, 105, 109, 105, 116, 101, 100]⟩] 9)
            refine hK.out _ _ (kept_and (kept_dr _ _ _ _ _ _ _) (kept_box _ _) _ _ (by assumption) hv) (fun hHeld2 => ?_)
            clear hK K hHeld
            have hHeld := hHeld2
            clear hHeld2
            generalize (v15.alloc (.cells #[.string ⟨#[97, 108, 108, 111, 119, 101, 100]⟩, .string ⟨#[105, 103, 110, 111, 114, 101, 100]⟩, .string ⟨#[114, 101, 106, 101, 99, 116, 101, 100]⟩, .string ⟨#[108, 105, 109, 105, 116, 101, 100]⟩] 9)) = W17 at *
            generalize v15.heap.size = kq at *
            have RS := hide RS0
            clear hv RS0
            try simp only [Act.put, List.setIfInBounds_toArray, List.set_cons_zero, List.set_cons_succ]
            refine wpAnyH_ready (rs := [10]) (by kernel_rfl) (by simp) ?_
            refine AllReadyH.cons (o := ⟨some 45, _, _, _, _, _⟩) rfl (fun K hK => ?_) AllReadyH.nil
            go_simp
            have RD := hide (RS.out.reads (n := 4) (ps := [⟨#[97, 108, 108, 111, 119, 101, 100]⟩, ⟨#[105, 103, 110, 111, 114, 101, 100]⟩, ⟨#[114, 101, 106, 101, 99, 116, 101, 100]⟩, ⟨#[108, 105, 109, 105, 116, 101, 100]⟩]) (by omega) (fun i hi => by match i, hi with | 0, _ => rfl | 1, _ => rfl | 2, _ => rfl | 3, _ => rfl))
            refine (rfind41 _ 4 4 [⟨#[97, 108, 108, 111, 119, 101, 100]⟩, ⟨#[105, 103, 110, 111, 114, 101, 100]⟩, ⟨#[114, 101, 106, 101, 99, 116, 101, 100]⟩, ⟨#[108, 105, 109, 105, 116, 101, 100]⟩] p6 _ RD.out rfl (by omega)).mono ?_
            rintro e v18 ⟨xk, rfl, hf, hv⟩
            refine hK.out _ _ (kept_and (kept_dr _ _ _ _ _ _ _) (kept_box _ _) _ _ (by assumption) hv) (fun hHeld2 => ?_)
            clear hK K hHeld
            have hHeld := hHeld2
            clear hHeld2
            have HK := hide hf
            have bk := hf.bd
            simp only [List.length_cons, List.length_nil] at bk
            have d2 : IntKind.i64.wrap (1 + xk) = 1 + xk := IntWalk.i64_in _ (by omega)
            clear hv hf RD RS
            try simp only [Act.put, List.setIfInBounds_toArray, List.set_cons_zero, List.set_cons_succ]
            refine wpAnyH_take (i := 11) (oi := ⟨some 46, .binOp .add _ (.const (.int .i64 1)) (.tmp 45) _, _, _, _, _⟩) (v := ?vv14) rfl (by kernel_rfl) (by kernel_rfl) (by kernel_rfl) (fun _ _ _ h => h) (Or.inl ⟨by rfl, ?hy14⟩) (by assumption) ?_
            case hy14 =>
              intro w' hSw
              skip
              go_simp
              try with_reducible rfl
            try simp only [Act.put, List.setIfInBounds_toArray, List.set_cons_zero, List.set_cons_succ]
            refine wpAnyH_take (i := 12) (oi := ⟨some 47, .build _ _, _, _, _, _⟩) (v := ?vv15) rfl (by kernel_rfl) (by kernel_rfl) (by kernel_rfl) (fun _ _ _ h => h) (Or.inl ⟨by rfl, ?hy15⟩) (by assumption) ?_
            case hy15 =>
              intro w' hSw
              skip
              go_simp
              try with_reducible rfl
            try simp only [Act.put, List.setIfInBounds_toArray, List.set_cons_zero, List.set_cons_succ]
            obtain ⟨HD0, a0, a1, a2, a3, a4, a5, hbox⟩ := hHeld
            have hHeld := HD0
            obtain ⟨⟨e0, z0⟩, ⟨e1, z1⟩, ⟨e2, z2⟩, ⟨e3, z3⟩, ⟨e4, z4⟩, ⟨e5, z5⟩, hrow⟩ := store6 hbox (.int .i64 xa) (.int .i64 xt) (.int .i64 0) (.int .i64 0) (.int .i64 0) (.int .i64 (1 + xk))
            have HROW := hide hrow
            clear hrow hbox
            have HS6 : Hid (DrZ 23 w.heap.size b off #[.int .i64 0, .int .i64 0, .int .i64 0, .int .i64 0, .int .i64 0, .int .i64 0] [p0, p1, p2, p3, p4, p5, p6] w ((((((v18.setCell ⟨xq, 0, none⟩ (.int .i64 xa)).setCell ⟨xq, 1, none⟩ (.int .i64 xt)).setCell ⟨xq, 2, none⟩ (.int .i64 0)).setCell ⟨xq, 3, none⟩ (.int .i64 0)).setCell ⟨xq, 4, none⟩ (.int .i64 0)).setCell ⟨xq, 5, none⟩ (.int .i64 (1 + xk)))) := ((((((DrZ.put HD0 hqx.out hbx.out 0 _).put hqx.out hbx.out 1 _).put hqx.out hbx.out 2 _).put hqx.out hbx.out 3 _).put hqx.out hbx.out 4 _).put hqx.out hbx.out 5 _)
            clear HD0
            refine wpAnyH_ready (rs := [14]) (by kernel_rfl) (by simp) ?_
            refine AllReadyH.cons (o := ⟨none, _, _, _, _, _⟩) rfl (fun K hK => ?_) AllReadyH.nil
            go_simp
            refine hK.out _ _ (⟨HS6.out, _, _, _, _, _, _, HROW.out⟩) (fun hHeld2 => ?_)
            clear hK K hHeld
            have hHeld := hHeld2
            clear hHeld2
            generalize ((((((v18.setCell ⟨xq, 0, none⟩ (.int .i64 xa)).setCell ⟨xq, 1, none⟩ (.int .i64 xt)).setCell ⟨xq, 2, none⟩ (.int .i64 0)).setCell ⟨xq, 3, none⟩ (.int .i64 0)).setCell ⟨xq, 4, none⟩ (.int .i64 0)).setCell ⟨xq, 5, none⟩ (.int .i64 (1 + xk))) = W99 at *
            try simp only [Act.put, List.setIfInBounds_toArray, List.set_cons_zero, List.set_cons_succ]
            refine wpAnyH_done (by kernel_rfl) ?_ _
            clear hHeld e0 e1 e2 e3 e4 e5 z0 z1 z2 z3 z4 z5 Z2
            try go_wp2_with fail
            go_meet
            exact ⟨xq, xa, xk, rfl, HA.out, HK.out, HS6.out, HROW.out, hqx.out, hbx.out⟩
        · skip
          go_simp
          have hv : Below W1.heap.size W1 (W1.alloc (.cells #[.int .i64 0, .int .i64 0, .int .i64 0, .int .i64 0, .int .i64 0, .int .i64 0] 23)) := (Below.refl _ _).alloc (Nat.le_refl _) _
          have RB0 : RowW W1.heap.size 23 #[.int .i64 0, .int .i64 0, .int .i64 0, .int .i64 0, .int .i64 0, .int .i64 0] (W1.alloc (.cells #[.int .i64 0, .int .i64 0, .int .i64 0, .int .i64 0, .int .i64 0, .int .i64 0] 23)) := heap_alloc_new W1 (.cells #[.int .i64 0, .int .i64 0, .int .i64 0, .int .i64 0, .int .i64 0, .int .i64 0] 23)
          have hqx := hide (rowLt hHeld.1)
          have hbx := hide (World.block_lt_of_cell? W1 _ (hHeld.2.2 0 (by omega)))
          refine hK.out _ _ (kept_dr _ _ _ _ _ _ _ _ _ (by assumption) hv) (fun hHeld2 => ?_)
          clear hK K hHeld
          have hHeld := hHeld2
          clear hHeld2
          have RB : BoxW W1.heap.size 23 (W1.alloc (.cells #[.int .i64 0, .int .i64 0, .int .i64 0, .int .i64 0, .int .i64 0, .int .i64 0] 23)) := ⟨_, _, _, _, _, _, RB0⟩
          generalize (W1.alloc (.cells #[.int .i64 0, .int .i64 0, .int .i64 0, .int .i64 0, .int .i64 0, .int .i64 0] 23)) = W19 at *
          generalize W1.heap.size = xq at *
          clear hv RB0
          refine wpAnyH_strong (S' := AndW (DrZ 23 w.heap.size b off #[.int .i64 0, .int .i64 0, .int .i64 0, .int .i64 0, .int .i64 0, .int .i64 0] [p0, p1, p2, p3, p4, p5, p6] w) (BoxW xq 23)) (fun _ h => h.1) _ _ _ _ ?_
          have hHeld3 : AndW (DrZ 23 w.heap.size b off #[.int .i64 0, .int .i64 0, .int .i64 0, .int .i64 0, .int .i64 0, .int .i64 0] [p0, p1, p2, p3, p4, p5, p6] w) (BoxW xq 23) W19 := ⟨hHeld, RB⟩
          clear hHeld RB
          have hHeld := hHeld3
          clear hHeld3
          try simp only [Act.put, List.setIfInBounds_toArray, List.set_cons_zero, List.set_cons_succ]
          refine wpAnyH_ready (rs := [0]) (by kernel_rfl) (by simp) ?_
          refine AllReadyH.cons (o := ⟨some 35, _, _, _, _, _⟩) rfl (fun K hK => ?_) AllReadyH.nil
          go_simp
          refine (rsides41 _).mono ?_
          rintro e v20 ⟨rfl, rfl⟩
          have hv : Below W19.heap.size W19 (W19.alloc (.cells #[.string ⟨#[99, 108, 105, 101, 110, 116]⟩, .string ⟨#[115, 101, 114, 118, 101, 114]⟩] 9)) := (Below.refl _ _).alloc (Nat.le_refl _) _
          have RS0 : RowW W19.heap.size 9 #[.string ⟨#[99, 108, 105, 101, 110, 116]⟩, .string ⟨#[115, 101, 114, 118, 101, 114]⟩] (W19.alloc (.cells #[.string ⟨#[99, 108, 105, 101, 110, 116]⟩, .string ⟨#[115, 101, 114, 118, 101, 114]⟩] 9)) := heap_alloc_new W19 (.cells #[.string ⟨#[99, 108, 105, 101, 110, 116]⟩, .string ⟨#[115, 101, 114, 118, 101, 114]⟩] 9)
          refine hK.out _ _ (kept_and (kept_dr _ _ _ _ _ _ _) (kept_box _ _) _ _ (by assumption) hv) (fun hHeld2 => ?_)
          clear hK K hHeld
          have hHeld := hHeld2
          clear hHeld2
          generalize (W19.alloc (.cells #[.string ⟨#[99, 108, 105, 101, 110, 116]⟩, .string ⟨#[115, 101, 114, 118, 101, 114]⟩] 9)) = W21 at *
          generalize W19.heap.size = sq at *
          have RS := hide RS0
          clear hv RS0
          try simp only [Act.put, List.setIfInBounds_toArray, List.set_cons_zero, List.set_cons_succ]
          refine wpAnyH_ready (rs := [4]) (by kernel_rfl) (by simp) ?_
          refine AllReadyH.cons (o := ⟨some 39, _, _, _, _, _⟩) rfl (fun K hK => ?_) AllReadyH.nil
          go_simp
          have RD := hide (RS.out.reads (n := 2) (ps := [⟨#[99, 108, 105, 101, 110, 116]⟩, ⟨#[115, 101, 114, 118, 101, 114]⟩]) (by omega) (fun i hi => by match i, hi with | 0, _ => rfl | 1, _ => rfl))
          refine (rfind41 _ 2 2 [⟨#[99, 108, 105, 101, 110, 116]⟩, ⟨#[115, 101, 114, 118, 101, 114]⟩] p1 _ RD.out rfl (by omega)).mono ?_
          rintro e v22 ⟨xa, rfl, hf, hv⟩
          refine hK.out _ _ (kept_and (kept_dr _ _ _ _ _ _ _) (kept_box _ _) _ _ (by assumption) hv) (fun hHeld2 => ?_)
          clear hK K hHeld
          have hHeld := hHeld2
          clear hHeld2
          have HA := hide hf
          clear hv hf RD RS
          try simp only [Act.put, List.setIfInBounds_toArray, List.set_cons_zero, List.set_cons_succ]
          refine wpAnyH_ready (rs := [6]) (by kernel_rfl) (by simp) ?_
          refine AllReadyH.cons (o := ⟨some 41, _, _, _, _, _⟩) rfl (fun K hK => ?_) AllReadyH.nil
          go_simp
          refine (rkinds41 _).mono ?_
          rintro e v23 ⟨rfl, rfl⟩
          have hv : Below v22.heap.size v22 (v22.alloc (.cells #[.string ⟨#[97, 108, 108, 111, 119, 101, 100]⟩, .string ⟨#[105, 103, 110, 111, 114, 101, 100]⟩, .string ⟨#[114, 101, 106, 101, 99, 116, 101, 100]⟩, .string ⟨#[108, 105, 109, 105, 116, 101, 100]⟩] 9)) := (Below.refl _ _).alloc (Nat.le_refl _) _
          have RS0 : RowW v22.heap.size 9 #[.string ⟨#[97, 108, 108, 111, 119, 101, 100]⟩, .string ⟨#[105, 103, 110, 111, 114, 101, 100]⟩, .string ⟨#[114, 101, 106, 101, 99, 116, 101, 100]⟩, .string ⟨#[108, 105, 109, 105, 116, 101, 100]⟩] (v22.alloc (.cells #[.string ⟨#[97, 108, 108, 111, 119, 101, 100]⟩, .string ⟨#[105, 103, 110, 111, 114, 101, 100]⟩, .string ⟨#[114, 101, 106, 101, 99, 116, 101, 100]⟩, .string ⟨#[108, 105, 109, 105, 116, 101, 100]⟩] 9)) := heap_alloc_new v22 (.cells #[.string ⟨#[97, 108, 108, 111, 119, 101, 100]⟩, .string ⟨#[105, 103, 110, 111, 114, 101, 100]⟩, .string ⟨#[114, 101, 106, 101, 99, 116, 101, 100]⟩, .string ⟨#[108, 105, 109, 105, 116, 101, 100]⟩] 9)
          refine hK.out _ _ (kept_and (kept_dr _ _ _ _ _ _ _) (kept_box _ _) _ _ (by assumption) hv) (fun hHeld2 => ?_)
          clear hK K hHeld
          have hHeld := hHeld2
          clear hHeld2
          generalize (v22.alloc (.cells #[.string ⟨#[97, 108, 108, 111, 119, 101, 100]⟩, .string ⟨#[105, 103, 110, 111, 114, 101, 100]⟩, .string ⟨#[114, 101, 106, 101, 99, 116, 101, 100]⟩, .string ⟨#[108, 105, 109, 105, 116, 101, 100]⟩] 9)) = W24 at *
          generalize v22.heap.size = kq at *
          have RS := hide RS0
          clear hv RS0
          try simp only [Act.put, List.setIfInBounds_toArray, List.set_cons_zero, List.set_cons_succ]
          refine wpAnyH_ready (rs := [10]) (by kernel_rfl) (by simp) ?_
          refine AllReadyH.cons (o := ⟨some 45, _, _, _, _, _⟩) rfl (fun K hK => ?_) AllReadyH.nil
          go_simp
          have RD := hide (RS.out.reads (n := 4) (ps := [⟨#[97, 108, 108, 111, 119, 101, 100]⟩, ⟨#[105, 103, 110, 111, 114, 101, 100]⟩, ⟨#[114, 101, 106, 101, 99, 116, 101, 100]⟩, ⟨#[108, 105, 109, 105, 116, 101, 100]⟩]) (by omega) (fun i hi => by match i, hi with | 0, _ => rfl | 1, _ => rfl | 2, _ => rfl | 3, _ => rfl))
          refine (rfind41 _ 4 4 [⟨#[97, 108, 108, 111, 119, 101, 100]⟩, ⟨#[105, 103, 110, 111, 114, 101, 100]⟩, ⟨#[114, 101, 106, 101, 99, 116, 101, 100]⟩, ⟨#[108, 105, 109, 105, 116, 101, 100]⟩] p6 _ RD.out rfl (by omega)).mono ?_
          rintro e v25 ⟨xk, rfl, hf, hv⟩
          refine hK.out _ _ (kept_and (kept_dr _ _ _ _ _ _ _) (kept_box _ _) _ _ (by assumption) hv) (fun hHeld2 => ?_)
          clear hK K hHeld
          have hHeld := hHeld2
          clear hHeld2
          have HK := hide hf
          have bk := hf.bd
          simp only [List.length_cons, List.length_nil] at bk
          have d2 : IntKind.i64.wrap (1 + xk) = 1 + xk := IntWalk.i64_in _ (by omega)
          clear hv hf RD RS
          try simp only [Act.put, List.setIfInBounds_toArray, List.set_cons_zero, List.set_cons_succ]
          refine wpAnyH_take (i := 11) (oi := ⟨some 46, .binOp .add _ (.const (.int .i64 1)) (.tmp 45) _, _, _, _, _⟩) (v := ?vv16) rfl (by kernel_rfl) (by kernel_rfl) (by kernel_rfl) (fun _ _ _ h => h) (Or.inl ⟨by rfl, ?hy16⟩) (by assumption) ?_
          case hy16 =>
            intro w' hSw
            skip
            go_simp
            try with_reducible rfl
          try simp only [Act.put, List.setIfInBounds_toArray, List.set_cons_zero, List.set_cons_succ]
          refine wpAnyH_take (i := 12) (oi := ⟨some 47, .build _ _, _, _, _, _⟩) (v := ?vv17) rfl (by kernel_rfl) (by kernel_rfl) (by kernel_rfl) (fun _ _ _ h => h) (Or.inl ⟨by rfl, ?hy17⟩) (by assumption) ?_
          case hy17 =>
            intro w' hSw
            skip
            go_simp
            try with_reducible rfl
          try simp only [Act.put, List.setIfInBounds_toArray, List.set_cons_zero, List.set_cons_succ]
          obtain ⟨HD0, a0, a1, a2, a3, a4, a5, hbox⟩ := hHeld
          have hHeld := HD0
          obtain ⟨⟨e0, z0⟩, ⟨e1, z1⟩, ⟨e2, z2⟩, ⟨e3, z3⟩, ⟨e4, z4⟩, ⟨e5, z5⟩, hrow⟩ := store6 hbox (.int .i64 xa) (.int .i64 xt) (.int .i64 0) (.int .i64 0) (.int .i64 0) (.int .i64 (1 + xk))
          have HROW := hide hrow
          clear hrow hbox
          have HS6 : Hid (DrZ 23 w.heap.size b off #[.int .i64 0, .int .i64 0, .int .i64 0, .int .i64 0, .int .i64 0, .int .i64 0] [p0, p1, p2, p3, p4, p5, p6] w ((((((v25.setCell ⟨xq, 0, none⟩ (.int .i64 xa)).setCell ⟨xq, 1, none⟩ (.int .i64 xt)).setCell ⟨xq, 2, none⟩ (.int .i64 0)).setCell ⟨xq, 3, none⟩ (.int .i64 0)).setCell ⟨xq, 4, none⟩ (.int .i64 0)).setCell ⟨xq, 5, none⟩ (.int .i64 (1 + xk)))) := ((((((DrZ.put HD0 hqx.out hbx.out 0 _).put hqx.out hbx.out 1 _).put hqx.out hbx.out 2 _).put hqx.out hbx.out 3 _).put hqx.out hbx.out 4 _).put hqx.out hbx.out 5 _)
          clear HD0
          refine wpAnyH_ready (rs := [14]) (by kernel_rfl) (by simp) ?_
          refine AllReadyH.cons (o := ⟨none, _, _, _, _, _⟩) rfl (fun K hK => ?_) AllReadyH.nil
          go_simp
          refine hK.out _ _ (⟨HS6.out, _, _, _, _, _, _, HROW.out⟩) (fun hHeld2 => ?_)
          clear hK K hHeld
          have hHeld := hHeld2
          clear hHeld2
          generalize ((((((v25.setCell ⟨xq, 0, none⟩ (.int .i64 xa)).setCell ⟨xq, 1, none⟩ (.int .i64 xt)).setCell ⟨xq, 2, none⟩ (.int .i64 0)).setCell ⟨xq, 3, none⟩ (.int .i64 0)).setCell ⟨xq, 4, none⟩ (.int .i64 0)).setCell ⟨xq, 5, none⟩ (.int .i64 (1 + xk))) = W99 at *
          try simp only [Act.put, List.setIfInBounds_toArray, List.set_cons_zero, List.set_cons_succ]
          refine wpAnyH_done (by kernel_rfl) ?_ _
          clear hHeld e0 e1 e2 e3 e4 e5 z0 z1 z2 z3 z4 z5 Z2
          try go_wp2_with fail
          go_meet
          exact ⟨xq, xa, xk, rfl, HA.out, HK.out, HS6.out, HROW.out, hqx.out, hbx.out⟩
      case rest =>
        obtain ⟨xq, xa, xk, rfl, hfa, hfk, hz, hrow, h1, h2⟩ := hcut
        have HA := hide hfa
        have HK := hide hfk
        have ZZ0 := hide hz
        have hqx := hide h1
        have hbx := hide h2
        obtain ⟨kk, hkk⟩ : ∃ kk, 1 + xk = kk := ⟨_, rfl⟩
        rw [hkk] at hrow
        have HROW := hide hrow
        clear hfa hfk hz hrow h1 h2 Z2
        generalize wc = W7 at *
        have BX : Hid (RowW xq 23 #[.int .i64 xa, .int .i64 xt, .int .i64 0, .int .i64 0, .int .i64 0, .int .i64 kk] W7) := HROW.out
        clear HROW
        have k3 : W7.cell? ⟨b, off + 3, none⟩ = some (.string p3) := ZZ0.out.2.2 3 (by omega)
        go_wp2_with fail
        refine (rread03 p3 _ (by omega)).mono ?_
        rintro e u0 ⟨xf, b2, rfl, hq0, hb⟩
        have Q0 := hide hq0
        have ZN := kept_dr _ _ _ _ _ _ _ _ _ ZZ0.out hb
        have BN := kept_row _ _ _ _ _ BX.out hb
        clear hq0 hb ZZ0 BX k3
        obtain ⟨c0, c1, c2, c3, c4, c5⟩ := row6R BN
        have z0 := frozenRow BN 2
        have BP := setRow _ xq 2 (.int .i64 xf) BN
        simp only [List.setIfInBounds_toArray, List.set_cons_zero, List.set_cons_succ] at BP
        have BX : Hid (RowW xq 23 #[.int .i64 xa, .int .i64 xt, .int .i64 xf, .int .i64 0, .int .i64 0, .int .i64 kk] (u0.setCell ⟨xq, 2, none⟩ (.int .i64 xf))) := BP
        have ZZ0 := hide (ZN.put hqx.out hbx.out 2 (.int .i64 xf))
        clear BP BN ZN
        go_upto_region 8 with (fail)
        generalize u0.setCell ⟨xq, 2, none⟩ (.int .i64 xf) = V1 at *
        clear c0 c1 c2 c3 c4 c5 z0
        have k4 : V1.cell? ⟨b, off + 4, none⟩ = some (.string p4) := ZZ0.out.2.2 4 (by omega)
        go_wp2_with fail
        refine (rread03 p4 _ (by omega)).mono ?_
        rintro e u1 ⟨xs, b3, rfl, hq1, hb⟩
        have Q1 := hide hq1
        have ZN := kept_dr _ _ _ _ _ _ _ _ _ ZZ0.out hb
        have BN := kept_row _ _ _ _ _ BX.out hb
        clear hq1 hb ZZ0 BX k4
        obtain ⟨c0, c1, c2, c3, c4, c5⟩ := row6R BN
        have z0 := frozenRow BN 3
        have BP := setRow _ xq 3 (.int .i64 xs) BN
        simp only [List.setIfInBounds_toArray, List.set_cons_zero, List.set_cons_succ] at BP
        have BX : Hid (RowW xq 23 #[.int .i64 xa, .int .i64 xt, .int .i64 xf, .int .i64 xs, .int .i64 0, .int .i64 kk] (u1.setCell ⟨xq, 3, none⟩ (.int .i64 xs))) := BP
        have ZZ0 := hide (ZN.put hqx.out hbx.out 3 (.int .i64 xs))
        clear BP BN ZN
        go_upto_region 10 with (fail)
        generalize u1.setCell ⟨xq, 3, none⟩ (.int .i64 xs) = V2 at *
        clear c0 c1 c2 c3 c4 c5 z0
        have k5 : V2.cell? ⟨b, off + 5, none⟩ = some (.string p5) := ZZ0.out.2.2 5 (by omega)
        go_wp2_with fail
        refine (rread03 p5 _ (by omega)).mono ?_
        rintro e u2 ⟨xl, b4, rfl, hq2, hb⟩
        have Q2 := hide hq2
        have ZN := kept_dr _ _ _ _ _ _ _ _ _ ZZ0.out hb
        have BN := kept_row _ _ _ _ _ BX.out hb
        clear hq2 hb ZZ0 BX k5
        obtain ⟨c0, c1, c2, c3, c4, c5⟩ := row6R BN
        have z0 := frozenRow BN 4
        have BP := setRow _ xq 4 (.int .i64 xl) BN
        simp only [List.setIfInBounds_toArray, List.set_cons_zero, List.set_cons_succ] at BP
        have BX : Hid (RowW xq 23 #[.int .i64 xa, .int .i64 xt, .int .i64 xf, .int .i64 xs, .int .i64 xl, .int .i64 kk] (u2.setCell ⟨xq, 4, none⟩ (.int .i64 xl))) := BP
        have ZZ0 := hide (ZN.put hqx.out hbx.out 4 (.int .i64 xl))
        clear BP BN ZN
        go_upto_region 12 with (fail)
        generalize u2.setCell ⟨xq, 4, none⟩ (.int .i64 xl) = V3 at *
        clear c0 c1 c2 c3 c4 c5 z0
        have HD : Hid (Dcs p1 p2 p3 p4 p5 p6 xa xt xf xs xl xk b1 b2 b3 b4) := ⟨HA.out, H1.out, Q0.out, Q1.out, Q2.out, HK.out⟩
        clear HA H1 Q0 Q1 Q2 HK
        have HKK := hide hkk
        clear hkk
        obtain ⟨c0, c1, c2, c3, c4, c5⟩ := row6R BX.out
        have KR := hide (fun W => rright41 xa xt xf xs xl kk W)
        obtain ⟨rr, hrr⟩ : ∃ r, rcB xa xt xf xs xl kk = r := ⟨_, rfl⟩
        rw [hrr] at KR
        have H23 := hide hrr
        clear hrr
        go_wp2_with fail
        refine (KR.out _).mono ?_
        rintro e u3 ⟨rfl, hb⟩
        have Z3 := hide (kept_dr _ _ _ _ _ _ _ _ _ ZZ0.out hb)
        have B3 := kept_row _ _ _ _ _ BX.out hb
        clear hb ZZ0 BX c0 c1 c2 c3 c4 c5
        obtain ⟨c0, c1, c2, c3, c4, c5⟩ := row6R B3
        have BX := hide B3
        clear B3
        cases rr
        · have HF := hide (dc_no HSW.out HD.out (fun h => absurd (HKK.out ▸ h.1) (of_decide_eq_false H23.out)))
          clear c0 c1 c2 c3 c4 c5 HD HKK KR
          go_upto_region 13 with (fail)
          generalize hqq : w.heap.size = q at *
          obtain ⟨⟨e0, z0⟩, ⟨e1, z1⟩, ⟨e2, z2⟩, ⟨e3, z3⟩, ⟨e4, z4⟩, ⟨e5, z5⟩, hrow⟩ := store6 Z3.out.1 (.int .i64 0) (.int .i64 0) (.int .i64 0) (.int .i64 0) (.int .i64 0) (.int .i64 0)
          have HROW := hide hrow
          have HBE := hide (below6 Z3.out.2.1 (p := q) (Nat.le_refl _) (.int .i64 0) (.int .i64 0) (.int .i64 0) (.int .i64 0) (.int .i64 0) (.int .i64 0))
          clear hrow
          go_wp2_with fail
          obtain ⟨d0, d1, d2, d3, d4, d5⟩ := row6R HROW.out
          refine bodyPost_ret (v := .tuple #[.agg #[.int .i64 0, .int .i64 0, .int .i64 0, .int .i64 0, .int .i64 0, .int .i64 0], .bool false]) ?_ rfl ⟨0, 0, 0, 0, 0, 0, false, rfl, HF.out, by rw [hqq]; exact HBE.out⟩
          rw [results_cell_tmp rfl]
          go_simp
        · have KX := hide (fun W => rtext41 xa xt xf xs xl kk W (of_decide_eq_true H23.out))
          obtain ⟨y, hy⟩ : ∃ y, rcT xa xt xf xs xl kk = y := ⟨_, rfl⟩
          rw [hy] at KX
          have HY := hide hy
          clear hy
          go_wp2_with fail
          refine (KX.out _).mono ?_
          rintro e u4 ⟨rfl, hb⟩
          have Z4 := hide (kept_dr _ _ _ _ _ _ _ _ _ Z3.out hb)
          have B4 := kept_row _ _ _ _ _ BX.out hb
          clear hb Z3 BX c0 c1 c2 c3 c4 c5
          by_cases hys : y = s
          · have q1 : (y.toList == s.toList) = true := by rw [hys]; exact beq_self_eq_true _
            have HF : Hid (RcR s xa xt xf xs xl kk true) := dc_yes H23.out (hys.symm.trans HY.out.symm)
            clear hys HD HKK HY KX KR
            obtain ⟨c0, c1, c2, c3, c4, c5⟩ := row6R B4
            go_upto_region 14 with (fail)
            generalize hqq : w.heap.size = q at *
            obtain ⟨⟨e0, z0⟩, ⟨e1, z1⟩, ⟨e2, z2⟩, ⟨e3, z3⟩, ⟨e4, z4⟩, ⟨e5, z5⟩, hrow⟩ := store6 Z4.out.1 (.int .i64 xa) (.int .i64 xt) (.int .i64 xf) (.int .i64 xs) (.int .i64 xl) (.int .i64 kk)
            have HROW := hide hrow
            have HBE := hide (below6 Z4.out.2.1 (p := q) (Nat.le_refl _) (.int .i64 xa) (.int .i64 xt) (.int .i64 xf) (.int .i64 xs) (.int .i64 xl) (.int .i64 kk))
            clear hrow
            go_wp2_with fail
            obtain ⟨d0, d1, d2, d3, d4, d5⟩ := row6R HROW.out
            refine bodyPost_ret (v := .tuple #[.agg #[.int .i64 xa, .int .i64 xt, .int .i64 xf, .int .i64 xs, .int .i64 xl, .int .i64 kk], .bool true]) ?_ rfl ⟨xa, xt, xf, xs, xl, kk, true, rfl, HF.out, by rw [hqq]; exact HBE.out⟩
            rw [results_cell_tmp rfl]
            go_simp
          · have q1 := str_neq hys
            have HF := hide (dc_no HSW.out HD.out (fun h => hys (by rw [HKK.out] at h; exact HY.out.symm.trans h.2.symm)))
            clear hys HD HKK HY KX KR
            go_upto_region 13 with (fail)
            generalize hqq : w.heap.size = q at *
            obtain ⟨⟨e0, z0⟩, ⟨e1, z1⟩, ⟨e2, z2⟩, ⟨e3, z3⟩, ⟨e4, z4⟩, ⟨e5, z5⟩, hrow⟩ := store6 Z4.out.1 (.int .i64 0) (.int .i64 0) (.int .i64 0) (.int .i64 0) (.int .i64 0) (.int .i64 0)
            have HROW := hide hrow
            have HBE := hide (below6 Z4.out.2.1 (p := q) (Nat.le_refl _) (.int .i64 0) (.int .i64 0) (.int .i64 0) (.int .i64 0) (.int .i64 0) (.int .i64 0))
            clear hrow
            go_wp2_with fail
            obtain ⟨d0, d1, d2, d3, d4, d5⟩ := row6R HROW.out
            refine bodyPost_ret (v := .tuple #[.agg #[.int .i64 0, .int .i64 0, .int .i64 0, .int .i64 0, .int .i64 0, .int .i64 0], .bool false]) ?_ rfl ⟨0, 0, 0, 0, 0, 0, false, rfl, HF.out, by rw [hqq]; exact HBE.out⟩
            rw [results_cell_tmp rfl]
            go_simp
    · have d1 : ((n : Int) != 7) = true := by simp; omega
      have HF := hide (dc_none HSW.out (by rw [← HNN.out]; exact h7))
      clear h7 HNN
      go_upto_region 3 with (fail)
      generalize hqq : w.heap.size = q at *
      obtain ⟨⟨e0, z0⟩, ⟨e1, z1⟩, ⟨e2, z2⟩, ⟨e3, z3⟩, ⟨e4, z4⟩, ⟨e5, z5⟩, hrow⟩ := store6 R1 (.int .i64 0) (.int .i64 0) (.int .i64 0) (.int .i64 0) (.int .i64 0) (.int .i64 0)
      have HROW := hide hrow
      have HBE := hide (below6 HB1.out (p := q) (Nat.le_refl _) (.int .i64 0) (.int .i64 0) (.int .i64 0) (.int .i64 0) (.int .i64 0) (.int .i64 0))
      clear hrow
      go_wp2_with fail
      obtain ⟨d0, d1, d2, d3, d4, d5⟩ := row6R HROW.out
      refine bodyPost_ret (v := .tuple #[.agg #[.int .i64 0, .int .i64 0, .int .i64 0, .int .i64 0, .int .i64 0, .int .i64 0], .bool false]) ?_ rfl ⟨0, 0, 0, 0, 0, 0, false, rfl, HF.out, by rw [hqq]; exact HBE.out⟩
      rw [results_cell_tmp rfl]
      go_simp
end

section
open Go.RowKit Go.PlainAid

/-- A box that stands behind what was there. -/
def BxS (T : TypeId) (q : Nat) (cs : Array Value) (w W : World) : Prop := W.heap[q]? = some (.cells cs T (0, 0)) ∧ w.heap.size ≤ q ∧ Below w.heap.size w W
theorem BxS.next {T : TypeId} {q : Nat} {cs : Array Value} {w W v : World} (h : BxS T q cs w W) (hv : Below W.heap.size W v) : BxS T q cs w v :=
  ⟨keepRow h.1 hv, h.2.1, h.2.2.of hv⟩
theorem BxS.lo {T : TypeId} {q : Nat} {cs : Array Value} {w W : World} (h : BxS T q cs w W) : Below w.heap.size w W := h.2.2
theorem rc0_no : rcB 0 0 0 0 0 0 = false := by decide
set_option maxRecDepth 20000 in
set_option maxHeartbeats 6400000 in
theorem reads_walk41 (s : ByteArray) (w : World) (hN : NmW w) (hP : PowW w) : Calls Tryd.prog 4 #[.string s] w (Yes41 w) := by
  have HN := hide hN
  have HP := hide hP
  clear hN hP
  by_cases hs : s.size ≤ 200
  · have d1 : decide ((200 : Int) < (s.size : Int)) = false := by simp; omega
    have B0 : Hid (Below w.heap.size w w) := Below.refl _ _
    go_enter Tryd.func4, Tryd.ntmps4
    go_wp2_with fail
    refine (kread41 s _ (by omega) (by first | exact HN.out | exact HN.out.below (Below.refl _ _).drew) (by first | exact HP.out | exact HP.out.below (Below.refl _ _).drew)).mono ?_
    rintro e v1 ⟨a, t, fl, st, le, k, ok, rfl, hq, hb⟩
    have HQ := hide hq
    have T1 : Hid (BxS 23 v1.heap.size #[.int .i64 a, .int .i64 t, .int .i64 fl, .int .i64 st, .int .i64 le, .int .i64 k] w (v1.alloc (.cells #[.int .i64 a, .int .i64 t, .int .i64 fl, .int .i64 st, .int .i64 le, .int .i64 k] 23))) := ⟨heap_alloc_new v1 (.cells #[.int .i64 a, .int .i64 t, .int .i64 fl, .int .i64 st, .int .i64 le, .int .i64 k] 23), hb.size, hb.of ((Below.refl _ _).alloc (Nat.le_refl _) _)⟩
    clear hb hq
    go_upto_region 4 with (fail)
    generalize v1.alloc (.cells #[.int .i64 a, .int .i64 t, .int .i64 fl, .int .i64 st, .int .i64 le, .int .i64 k] 23) = W1 at *
    generalize v1.heap.size = xq at *
    go_wp2_with fail
    refine (rread41 s _ (by omega)).mono ?_
    rintro e v2 ⟨a', t', fl', st', le', k', ok', rfl, hq, hb⟩
    obtain ⟨⟨rfl, rfl, rfl, rfl, rfl, rfl⟩, rfl⟩ := HQ.out.same hq
    have T2 := hide (T1.out.next hb)
    clear hq hb T1
    have F2 := heap_alloc_new v2 (.cells #[.int .i64 a, .int .i64 t, .int .i64 fl, .int .i64 st, .int .i64 le, .int .i64 k] 23)
    have hv : Below v2.heap.size v2 (v2.alloc (.cells #[.int .i64 a, .int .i64 t, .int .i64 fl, .int .i64 st, .int .i64 le, .int .i64 k] 23)) := (Below.refl _ _).alloc (Nat.le_refl _) _
    have T3 := hide (T2.out.next hv)
    have HF2 := hide F2
    clear hv F2 T2
    go_upto_region 5 with (fail)
    generalize v2.alloc (.cells #[.int .i64 a, .int .i64 t, .int .i64 fl, .int .i64 st, .int .i64 le, .int .i64 k] 23) = W2 at *
    generalize v2.heap.size = yq at *
    obtain ⟨c0, c1, c2, c3, c4, c5⟩ := row6R T3.out.1
    obtain ⟨g0, g1, g2, g3, g4, g5⟩ := row6R HF2.out
    cases ok
    · have hz : a = 0 ∧ t = 0 ∧ fl = 0 ∧ st = 0 ∧ le = 0 ∧ k = 0 := by
        rcases HQ.out with ⟨e, _⟩ | ⟨_, ⟨h0, h1, h2, h3, h4, h5⟩, _⟩
        · cases e
        · exact ⟨h0, h1, h2, h3, h4, h5⟩
      clear HQ
      obtain ⟨rfl, rfl, rfl, rfl, rfl, rfl⟩ := hz
      go_wp2_with fail
      refine (ktext41_no 0 0 0 0 0 0 _ rc0_no).mono ?_
      rintro e v3 ⟨rfl, hb⟩
      have T4 := hide (T3.out.next hb)
      clear hb T3 c0 c1 c2 c3 c4 c5 g0 g1 g2 g3 g4 g5 HF2
      go_wp2_with fail
      refine (alive41 _ (HN.out.below T4.out.lo) (HP.out.below T4.out.lo)).mono ?_
      rintro e v4 ⟨rfl, hb⟩
      have HB := hide (T4.out.lo.of hb)
      clear hb
      go_wp2_with fail
      go_ret
      exact ⟨rfl, HB.out⟩
    · have hz : RcP a t fl st le k ∧ s = rcT a t fl st le k := by
        rcases HQ.out with ⟨_, h1, h2⟩ | ⟨e, _⟩
        · exact ⟨h1, h2⟩
        · cases e
      have KT := hide (fun W hN hP => ktext41_yes a t fl st le k W hz.1 hN hP)
      rw [← hz.2] at KT
      clear hz HQ
      have q1 : (s.toList == s.toList) = true := beq_self_eq_true _
      go_wp2_with fail
      refine (KT.out _ (HN.out.below T3.out.lo) (HP.out.below T3.out.lo)).mono ?_
      rintro e v3 ⟨rfl, hb⟩
      have T4 := hide (T3.out.next hb)
      clear hb T3 c0 c1 c2 c3 c4 c5 g0 g1 g2 g3 g4 g5 HF2
      go_wp2_with fail
      refine (alive41 _ (HN.out.below T4.out.lo) (HP.out.below T4.out.lo)).mono ?_
      rintro e v4 ⟨rfl, hb⟩
      have HB := hide (T4.out.lo.of hb)
      clear hb
      go_wp2_with fail
      go_ret
      exact ⟨rfl, HB.out⟩
  · have d1 : decide ((200 : Int) < (s.size : Int)) = true := by simp; omega
    go_enter Tryd.func4, Tryd.ntmps4
    go_wp2_with fail
    refine (alive41 _ (by first | exact HN.out | exact HN.out.below (Below.refl _ _).drew) (by first | exact HP.out | exact HP.out.below (Below.refl _ _).drew)).mono ?_
    rintro e v4 ⟨rfl, hb⟩
    have HB : Hid (Below w.heap.size w v4) := by first | exact hb | exact (Below.refl _ _).drew.of hb
    clear hb
    go_wp2_with fail
    go_ret
    exact ⟨rfl, HB.out⟩
end
end Go.Proofs.YtminoofghdpomaaDoor
