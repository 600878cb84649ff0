/- Layer 10: the program's Join. -/
import Derived.Test.YtnjmkbaddeeniaaJn1
import Derived.Deep.RegionLaw
namespace Go.Proofs.Ytnjmkbaddeeniaa
open Go.RowKit

theorem JS.step_none (s : JS) (x : Int) (b : Nat → Int) : s.step x 0 b = s := by unfold JS.step; rw [if_pos rfl]
theorem JS.step_more {s : JS} {x : Int} {j : Nat} {b : Nat → Int} (hj : j ≠ 0) (h : 0 < s.m ∧ s.X (s.m - 1) = x) : s.step x j b = ⟨s.m, s.X, upd s.N (s.m - 1) (s.N (s.m - 1) + j), upd s.G (s.m - 1) (catF (s.N (s.m - 1)) (s.G (s.m - 1)) b)⟩ := by
  unfold JS.step
  rw [if_neg hj, if_pos h]
theorem JS.step_new {s : JS} {x : Int} {j : Nat} {b : Nat → Int} (hj : j ≠ 0) (h : ¬ (0 < s.m ∧ s.X (s.m - 1) = x)) : s.step x j b = ⟨s.m + 1, upd s.X s.m x, upd s.N s.m j, upd s.G s.m b⟩ := by
  unfold JS.step
  rw [if_neg hj, if_neg h]
theorem PcD.drewN {B : Nat} {w : World} {v : Value} {n : Nat} {X : Nat → Int} {V : Nat → Value} {N : Nat → Nat} {G : Nat → Nat → Int} (h : PcD B w v n X V N G) (k : Nat) : PcD B (w.drewN k) v n X V N G := ⟨⟨h.pcs.row, h.pcs.bytes⟩, h.apart⟩
theorem own_ne_row {B b m : Nat} {w : World} {y : Value} {g : Nat → Int} {cs : Array Value} (h : Own .u8 5 B w y m g) (hr : w.heap[b]? = some (.cells cs 137 (0, 0))) : y.ownBlock ≠ some b := by
  rcases h.2 with ⟨rfl, _⟩ | ⟨b', cap, cur, rfl, hB, hh, _⟩
  · simp [Value.ownBlock]
  · intro he
    have e : b' = b := by simpa [Value.ownBlock] using he
    subst e
    rw [hr] at hh
    injection hh with hh
    injection hh with _ ht
    exact uint8_chunk ht.symm
theorem pieces_ne {B bv m n cv : Nat} {w : World} {y : Value} {g : Nat → Int} {F : Nat → Value} (h : Own .u8 5 B w y m g) (h2 : OwnV 2 137 B w (.slice (some ⟨bv, 0, none⟩) (n + 1) cv) (n + 1) F) : y.ownBlock ≠ some bv := by
  rcases h2.2 with ⟨e, _⟩ | ⟨b', cap, cur, e, hB, hh, _⟩
  · cases e
  · injection e with e1 _ _
    have e2 : bv = b' := by simpa using e1
    subst e2
    exact own_ne_row h hh
theorem row_of_own {B bv n cv : Nat} {w : World} {F : Nat → Value} (h2 : OwnV 2 137 B w (.slice (some ⟨bv, 0, none⟩) (n + 1) cv) (n + 1) F) : ∃ cs, w.heap[bv]? = some (.cells cs 137 (0, 0)) := by
  rcases h2.2 with ⟨e, _⟩ | ⟨b', cap, cur, e, hB, hh, _⟩
  · cases e
  · injection e with e1 _ _
    have e2 : bv = b' := by simpa using e1
    subst e2
    exact ⟨_, hh⟩
/-- The last piece, more bytes behind it. -/
theorem PcD.extend {B bv p cv q : Nat} {W W4 : World} {y : Value} {X : Nat → Int} {V : Nat → Value} {N : Nat → Nat} {G : Nat → Nat → Int} {g : Nat → Int} (h : PcD B W (.slice (some ⟨bv, 0, none⟩) (p + 1) cv) (p + 1) X V N G)
    (hy : Own .u8 5 B W4 y (N p + q) (catF (N p) (G p) g)) (hg : W.drew.grownBy W4 (V p).ownBlock) (hob : y.ownBlock = (V p).ownBlock ∨ y.ownBlock = some W.drew.heap.size) :
    PcD B (W4.setCell ⟨bv, p * 2 + 1, none⟩ y) (.slice (some ⟨bv, 0, none⟩) (p + 1) cv) (p + 1) X (upd V p y) (upd N p (N p + q)) (upd G p (catF (N p) (G p) g)) := by
  have hp := h.pcs.bytes p (by omega)
  have hrow : OwnV 2 137 B W.drew (.slice (some ⟨bv, 0, none⟩) (p + 1) cv) (p + 1) (pcF X V) := h.pcs.row
  have hne : (V p).ownBlock ≠ some bv := pieces_ne hp h.pcs.row
  have hk4 : OwnV 2 137 B W4 (.slice (some ⟨bv, 0, none⟩) (p + 1) cv) (p + 1) (pcF X V) := World.ownsRow.kept hrow hg (.inr (fun e => hne (e.symm.trans rfl)))
  obtain ⟨cs, hcs⟩ := row_of_own hk4
  have hkt : KeepT 5 W4 (W4.setCell ⟨bv, p * 2 + 1, none⟩ y) := KeepT.set hcs uint8_chunk
  refine ⟨⟨(OwnV.set hk4 (p * 2 + 1) y).congr fun i hi => ?_, fun j hj => ?_⟩, fun i j hi hj hij => ?_⟩
  · unfold setV pcF upd
    by_cases h1 : i = p * 2 + 1
    · rw [if_pos h1, if_neg (by omega), if_pos (by omega)]
    · rw [if_neg h1]
      by_cases h2 : i % 2 = 0
      · rw [if_pos h2, if_pos h2]
      · rw [if_neg h2, if_neg h2, if_neg (by omega)]
  · unfold upd
    by_cases h1 : j = p
    · rw [if_pos h1, if_pos h1, if_pos h1]
      exact hy.keepT hkt
    · rw [if_neg h1, if_neg h1, if_neg h1]
      have hj' : Own .u8 5 B W.drew (V j) (N j) (G j) := h.pcs.bytes j hj
      have : Own .u8 5 B W4 (V j) (N j) (G j) := World.ownsRow.kept hj' hg (h.apart j p hj (by omega) h1)
      exact this.keepT hkt
  · have old : ∀ i, i < p + 1 → i ≠ p → (V i).ownBlock = none ∨ (V i).ownBlock ≠ y.ownBlock := by
      intro i hi hip
      rcases h.apart i p hi (by omega) hip with e | e
      · exact .inl e
      · rcases hob with e2 | e2
        · exact .inr (by rw [e2]; exact e)
        · cases hb : (V i).ownBlock with
          | none => exact .inl rfl
          | some b =>
            refine .inr fun e3 => ?_
            rw [e2] at e3
            have l1 := (World.ownsRow.lt (h.pcs.bytes i hi) b hb).2
            have l2 : b = W.heap.size := Option.some.inj e3
            omega
    unfold upd
    by_cases h1 : i = p
    · rw [if_pos h1, if_neg (by omega)]
      rcases old j hj (by omega) with e | e
      · cases hy' : y.ownBlock with
        | none => exact .inl rfl
        | some b => exact .inr (by rw [e]; simp)
      · exact .inr (Ne.symm e)
    · by_cases h2 : j = p
      · rw [if_neg h1, if_pos h2]
        exact old i hi h1
      · rw [if_neg h1, if_neg h2]
        exact h.apart i j hi hj hij
theorem own_v {k : IntKind} {e : TypeId} {B : Nat} {w : World} {v : Value} {n : Nat} {f : Nat → Int} (h : Own k e B w v n f) : OwnV 1 e B w v n (fun i => .int k (f i)) := by
  unfold OwnV
  rw [Nat.mul_one]
  exact h
theorem v_own {k : IntKind} {e : TypeId} {B : Nat} {w : World} {v : Value} {n : Nat} {f : Nat → Int} (h : OwnV 1 e B w v n (fun i => .int k (f i))) : Own k e B w v n f := by
  unfold OwnV at h
  rw [Nat.mul_one] at h
  exact h
theorem rd_v {k : IntKind} {w : World} {A : Option Addr} {n c : Nat} {f : Nat → Int} (h : Rd k w A n c f) : RdV 1 w A n c (fun i => .int k (f i)) :=
  ⟨h.1, h.2.1, h.2.2.1, fun hn => by
    obtain ⟨b, off, hA, hc⟩ := h.2.2.2 hn
    exact ⟨b, off, hA, fun i hi => hc i (by omega)⟩⟩
theorem cat_v {k : IntKind} (n : Nat) (f g : Nat → Int) (m : Nat) : ∀ i, i < (n + m) * 1 → catV (n * 1) (fun i => .int k (f i)) (fun i => .int k (g i)) i = (fun i => .int k (catF n f g i)) i := by
  intro i _
  unfold catV catF
  rw [Nat.mul_one]
  simp only
  split <;> rfl
theorem jn_succ (F : Nat → Ck) (k : Nat) {c : Ck} (h : F k = c) : jn F (k + 1) = (jn F k).step c.from_ c.n c.b := by rw [← h]; rfl
/-- The state of Join behind k chunks. -/
def JI (w : World) (F : Nat → Ck) (s : JS) (v : Value) (W : World) : Prop := (∃ V, PcD w.heap.size W v s.m s.X V s.N s.G) ∧ Below w.heap.size w W
set_option maxRecDepth 100000 in
set_option maxHeartbeats 6400000 in
theorem join_any (A : Option Addr) (n c : Nat) (F : Nat → Ck) (w : World) (ha : RdC w A n c F) (hn : n ≤ 1000000) (hs : sumC F n ≤ 1000000) :
    Calls Try.prog 17 #[.slice A n c] w fun e w' => ∃ v V, e = .returned v ∧ PcD w.heap.size w' v (jn F n).m (jn F n).X V (jn F n).N (jn F n).G ∧ Below w.heap.size w w' := by
  have Ha := hide ha
  have Hn := hide hn
  have Hs := hide hs
  clear ha hn hs
  obtain ⟨i0, hi, hz0, hz1, hz2⟩ := info_parts chunk_info
  go_enter Try.func17, Try.ntmps17
  go_wp2_with fail
  go_loopw [3, 9] (fun v i wr => ∃ k : Nat, k ≤ n ∧ i = .int .i64 k ∧ JI w F (jn F k) v wr) (fun _ i _ => n - (intOf i).toNat)
  case atStart => exact ⟨0, Nat.zero_le _, rfl, ⟨fun _ => .int .i64 0, PcD.nil _ _ _ _ _ _⟩, Below.refl _ _⟩
  case round =>
    obtain ⟨k, hk, rfl, ⟨V, hV⟩, hB⟩ := hrel
    have HB := hide hB
    have hVW := hV
    obtain ⟨hm1, hm2⟩ := jn_le F k
    obtain ⟨s, hsv⟩ : ∃ s, s = jn F k := ⟨_, rfl⟩
    rw [← hsv] at hV hm1 hm2
    have Hsv := hide hsv
    have HV := hide hV
    clear hV hB hVW hsv
    by_cases hlt : k < n
    · have Hr := hide (Ha.out.below HB.out)
      obtain ⟨b, off, hA, hc0, hc1⟩ := Hr.out.at_ hlt
      have hby := (Ha.out.2.2.2.2 k hlt).1
      have hkn : (k : Int) < (n : Int) := by omega
      have hle := Nat.le_trans (sumC_mono F (show k + 1 ≤ n by omega)) Hs.out
      have e2 : sumC F (k + 1) = sumC F k + (F k).n := rfl
      rw [e2] at hle
      obtain ⟨X, hX⟩ : ∃ X, F k = X := ⟨_, rfl⟩
      have hj := jn_succ F k hX
      rw [← Hsv.out] at hj
      have HJ := hide hj
      rw [hX] at hc0 hc1 hby hle
      clear hj hX e2 Hsv
      obtain ⟨x, A1, q, c1, f1⟩ := X
      simp only at hc0 hc1 hby hle
      have Hby := hide hby
      have Hle := hide hle
      have Hm1 := hide hm1
      have Hm2 := hide hm2
      have hn' := Hn.out
      subst hA
      have R5 := hide (heap_alloc_new wr (.cells #[.int .i64 x, .slice A1 q c1] 137))
      have B5 := hide (HB.out.alloc HB.out.size (.cells #[.int .i64 x, .slice A1 q c1] 137))
      have HV5 := hide (HV.out.below ((Below.refl _ _).alloc (Nat.le_refl _) (.cells #[.int .i64 x, .slice A1 q c1] 137)))
      obtain ⟨t0, t1⟩ := row2 R5.out
      obtain ⟨m, X', N', G'⟩ := s
      simp only at HV HV5 Hm1 Hm2
      clear hby hle hm1 hm2
      have hmb : m ≤ 1000000 := by have := Hm1.out; omega
      obtain ⟨Av, cv, rfl, hrv, hav⟩ := HV5.out.pcs.row.rd
      have Hrv := hide hrv
      clear hrv hav
      by_cases hq : q = 0
      · subst hq
        rw [JS.step_none] at HJ
        go_wp2_with fail
        go_roundw
        case rel => exact ⟨k + 1, by omega, by go_num, ⟨V, by rw [HJ.out]; exact HV5.out⟩, B5.out⟩
        case measure => simp [intOf]; omega
      · have dq : ((q : Int) == 0) = false := by simp; exact hq
        have dq' : (q == 0) = false := by simpa using hq
        by_cases hm : m = 0
        · subst hm
          rw [JS.step_new hq (fun h => absurd h.1 (by simp))] at HJ
          have HQ := hide hq
          clear hq
          go_wp2_with fail
          go_quiet (fail)
          refine absW2 _ (fun W => PcD w.heap.size W (.slice Av 0 cv) 0 X' V N' G' ∧ W.heap[wr.heap.size]? = some (.cells #[.int .i64 x, .slice A1 q c1] 137 (0, 0)) ∧ Below w.heap.size w W) ⟨HV5.out.drewN _, R5.out, B5.out.trans (drawn_below ⟨_, rfl⟩ _)⟩ ?_
          clear t0 t1 HV5 R5 B5 HV HB Hr Hrv
          rintro W ⟨hV, hR, hB⟩
          have HV := hide hV
          have HB := hide hB
          have HR := hide hR
          obtain ⟨t0, t1⟩ := row2 hR
          clear hV hR hB
          go_wp2_with fail
          refine (copied_any x A1 q c1 f1 _ (Hby.out.below HB.out) (by have := Hle.out; omega)).mono ?_
          rintro e W3 ⟨y, rfl, hy, hb3⟩
          obtain ⟨Ay, cy, rfl, _, _⟩ := hy.rd
          have HB3 := hide (HB.out.of hb3)
          have HV3 := hide ((HV.out.below hb3).below ((Below.refl _ _).alloc (Nat.le_refl _) (.cells #[.int .i64 x, .slice Ay q cy] 137)))
          have HY3 := hide (Own.alloc hy (.cells #[.int .i64 x, .slice Ay q cy] 137))
          have HB4 := hide (HB3.out.alloc HB3.out.size (.cells #[.int .i64 x, .slice Ay q cy] 137))
          have hsz := HB.out.size
          clear hy hb3
          go_wp2_with (at_builtin; refine wp_appV rfl _ _ _ rfl 2 i0 _ 32 Try.underlying22 hi hz0 hz1 hz2 rfl (by omega) w.heap.size _ 0 _ rfl HV3.out.pcs.row _ 1 1 _ rfl (RdV.litK _ x _) (fun i _ => by unfold litC2; split <;> rfl) (by simp only [maxLen]; omega) (by omega) HB4.out.size ?_; intro v4 W4 hown4 hg4 _)
          have HB5 := hide (HB4.out.grown hg4 HB4.out.size (fun j e => (World.ownsRow.lt HV3.out.pcs.row j e).1))
          have HV5 := hide (PcD.push (w0 := W) (x := x) (m := q) (g := f1) HV3.out HV.out.pcs (Own.baseT HY3.out hsz) HY3.out hown4 hg4)
          clear hown4 hg4
          go_roundw
          case rel => exact ⟨k + 1, by omega, by go_num, ⟨_, by rw [HJ.out]; exact HV5.out⟩, HB5.out⟩
          case measure => simp [intOf]; omega
        · obtain ⟨p, rfl⟩ : ∃ p, m = p + 1 := ⟨m - 1, by omega⟩
          have hcell : ∀ j, j < (p + 1) * 2 → ∃ bv, Av = some ⟨bv, 0, none⟩ ∧ (wr.alloc (.cells #[.int .i64 x, .slice A1 q c1] 137)).cell? ⟨bv, j, none⟩ = some (pcF X' V j) := by
            intro j hj
            rcases HV5.out.pcs.row.2 with ⟨hn, _⟩ | ⟨bv, cap, cur, hv, _⟩
            · have hr := Hrv.out.2.2.2 (by omega)
              obtain ⟨bv, o, h1, _⟩ := hr
              rw [h1] at hn
              cases hn
            · injection hv with h1 _ h3
              subst h1
              subst h3
              exact ⟨bv, rfl, HV5.out.pcs.row.cell hj⟩
          obtain ⟨bv, rfl, hx0⟩ := hcell (p * 2) (by omega)
          obtain ⟨bv', hbv, hx1⟩ := hcell (p * 2 + 1) (by omega)
          obtain rfl : bv = bv' := by simpa using hbv
          rw [show pcF X' V (p * 2) = .int .i64 (X' p) by unfold pcF; rw [if_pos (by omega), show p * 2 / 2 = p by omega]] at hx0
          rw [show pcF X' V (p * 2 + 1) = V p by unfold pcF; rw [if_neg (by omega), show (p * 2 + 1) / 2 = p by omega]] at hx1
          clear hcell hbv hm
          by_cases hxx : X' p = x
          · rw [JS.step_more hq ⟨by simp, by simpa using hxx⟩] at HJ
            have dx : (X' p == x) = true := by simpa using hxx
            have HQ := hide hq
            clear hq hxx
            have dp : decide ((0 : Int) ≤ (p : Int)) = true := by simp
            obtain ⟨Ap, cp, hVp, hrp, hap⟩ := (HV5.out.pcs.bytes p (by omega)).rd
            have HOp := hide (HV5.out.pcs.bytes p (by omega))
            rw [hVp] at hx1
            rw [hVp] at HOp
            clear hrp hap
            obtain ⟨iu, hiu, hu0, hu1, hu2⟩ := info_parts u8_info
            go_wp2_with fail
            go_quiet (fail)
            refine absW2 _ (fun W => PcD w.heap.size W (.slice (some ⟨bv, 0, none⟩) (p + 1) cv) (p + 1) X' V N' G' ∧ W.heap[wr.heap.size]? = some (.cells #[.int .i64 x, .slice A1 q c1] 137 (0, 0)) ∧ W.cell? ⟨bv, p * 2 + 1, none⟩ = some (.slice Ap (N' p) cp) ∧ Below w.heap.size w W) ⟨HV5.out.drewN _, R5.out, hx1, B5.out.trans (drawn_below ⟨_, rfl⟩ _)⟩ ?_
            clear t0 t1 HV5 R5 B5 HV HB Hr Hrv hx0 hx1 HOp
            rintro W ⟨hV, hR, hx1, hB⟩
            have HV := hide hV
            have HB := hide hB
            have HR := hide hR
            have HOp := hide (hV.pcs.bytes p (by omega))
            rw [hVp] at HOp
            obtain ⟨t0, t1⟩ := row2 hR
            clear hV hR hB
            have HW := hide (hx1)
            go_wp2_with fail
            have hip : (p : Int) < (p : Int) + 1 := by omega
            have HW' := hide HW.out
            clear HW
            go_region_law (refine step_appV rfl _ _ _ rfl 1 iu _ 1 Try.underlying114 hiu hu0 hu1 hu2 rfl (by omega) w.heap.size _ (N' p) (fun i => .int .u8 (G' p i)) rfl (own_v HOp.out) _ q c1 (fun i => .int .u8 (f1 i)) rfl (rd_v (Hby.out.below HB.out.drew)) (fun _ _ => rfl) (by have := Hm2.out p (by omega); have := Hle.out; simp only [maxLen]; omega) (by have := Hm2.out p (by omega); have := Hle.out; omega) HB.out.size ?_; intro v4 W4 hown4 hg4 hob4; have hx4 : W4.cell? ⟨bv, p * 2 + 1, none⟩ = some (.slice Ap (N' p) cp) := hg4.cell HW'.out (fun e => (pieces_ne HOp.out HV.out.pcs.row) e.symm); have hk4 : OwnV 2 137 w.heap.size W4 (.slice (some ⟨bv, 0, none⟩) (p + 1) cv) (p + 1) (pcF X' V) := World.ownsRow.kept (show W.drew.ownsRow _ _ _ _ _ _ from HV.out.pcs.row) hg4 (.inr (fun e => (pieces_ne HOp.out HV.out.pcs.row) (e.symm.trans rfl))); have hfz := OwnV.frozen hk4 (p * 2 + 1); obtain ⟨A4, c4, rfl, _, _⟩ := OwnV.rd hown4)
            all_goals
              have HB4 := hide (HB.out.drew.grown hg4 HB.out.size (fun j e => (World.ownsRow.lt HOp.out j e).1))
              have HB5 := hide (HB4.out.setCell (show w.heap.size ≤ (⟨bv, p * 2 + 1, none⟩ : Addr).block from (World.ownsRow.lt HV.out.pcs.row bv rfl).1) (.slice A4 (N' p + q) c4))
              have HV5 := hide (PcD.extend (q := q) (g := f1) HV.out (v_own (hown4.congr (cat_v _ _ _ _))) (by rw [hVp]; exact hg4) (by rw [hVp]; exact hob4))
              clear hown4 hg4 hob4 hx4 hk4 hfz
              go_wp2_with fail
              go_roundw
              case rel => exact ⟨k + 1, by omega, by go_num, ⟨_, by rw [HJ.out]; exact HV5.out⟩, HB5.out⟩
              case measure => simp [intOf]; omega
          · rw [JS.step_new hq (fun h => hxx (by simpa using h.2))] at HJ
            have dx : (X' p == x) = false := by simpa using hxx
            have HQ := hide hq
            clear hq hxx
            have dp : decide ((0 : Int) ≤ (p : Int)) = true := by simp
            go_wp2_with fail
            go_quiet (fail)
            clear hx0 hx1
            refine absW2 _ (fun W => PcD w.heap.size W (.slice (some ⟨bv, 0, none⟩) (p + 1) cv) (p + 1) X' V N' G' ∧ W.heap[wr.heap.size]? = some (.cells #[.int .i64 x, .slice A1 q c1] 137 (0, 0)) ∧ Below w.heap.size w W) ⟨HV5.out.drewN _, R5.out, B5.out.trans (drawn_below ⟨_, rfl⟩ _)⟩ ?_
            clear t0 t1 HV5 R5 B5 HV HB Hr Hrv
            rintro W ⟨hV, hR, hB⟩
            have HV := hide hV
            have HB := hide hB
            have HR := hide hR
            obtain ⟨t0, t1⟩ := row2 hR
            clear hV hR hB
            go_wp2_with fail
            refine (copied_any x A1 q c1 f1 _ (Hby.out.below HB.out) (by have := Hle.out; omega)).mono ?_
            rintro e W3 ⟨y, rfl, hy, hb3⟩
            obtain ⟨Ay, cy, rfl, _, _⟩ := hy.rd
            have HB3 := hide (HB.out.of hb3)
            have HV3 := hide ((HV.out.below hb3).below ((Below.refl _ _).alloc (Nat.le_refl _) (.cells #[.int .i64 x, .slice Ay q cy] 137)))
            have HY3 := hide (Own.alloc hy (.cells #[.int .i64 x, .slice Ay q cy] 137))
            have HB4 := hide (HB3.out.alloc HB3.out.size (.cells #[.int .i64 x, .slice Ay q cy] 137))
            have hsz := HB.out.size
            clear hy hb3
            go_wp2_with (at_builtin; refine wp_appV rfl _ _ _ rfl 2 i0 _ 32 Try.underlying22 hi hz0 hz1 hz2 rfl (by omega) w.heap.size _ (p + 1) _ rfl HV3.out.pcs.row _ 1 1 _ rfl (RdV.litK _ x _) (fun i _ => by unfold litC2; split <;> rfl) (by simp only [maxLen]; omega) (by omega) HB4.out.size ?_; intro v4 W4 hown4 hg4 _)
            have HB5 := hide (HB4.out.grown hg4 HB4.out.size (fun j e => (World.ownsRow.lt HV3.out.pcs.row j e).1))
            have HV5 := hide (PcD.push (w0 := W) (x := x) (m := q) (g := f1) HV3.out HV.out.pcs (Own.baseT HY3.out hsz) HY3.out hown4 hg4)
            clear hown4 hg4
            go_roundw
            case rel => exact ⟨k + 1, by omega, by go_num, ⟨_, by rw [HJ.out]; exact HV5.out⟩, HB5.out⟩
            case measure => simp [intOf]; omega
    · obtain rfl : k = n := by omega
      go_wp2_with fail
      go_ret
      exact ⟨_, V, rfl, by rw [← Hsv.out]; exact HV.out, HB.out⟩
end Go.Proofs.Ytnjmkbaddeeniaa
