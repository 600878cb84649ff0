/- Layer 9: a sorted row is compact: each once. -/
import Derived.Test.YtbkdegjkjjdcdaaDoorFa4
import Derived.Lib.SliceRun
namespace Go.Proofs.YtbkdegjkjjdcdaaDoor
set_option linter.unusedVariables false
set_option linter.unusedSimpArgs false
open Go.RowKit Go.PlainAid

theorem zero60 (w : World) : (zeroValue 31).run Tryd.prog w = .ok (.agg #[.int .i64 0, .int .i64 0]) w := by kernel_rfl
theorem zeros2 (n : Nat) : (Builtin.zeroCells (Value.agg #[.int .i64 0, .int .i64 0]).cells n).toList = List.replicate (n * 2) (.int .i64 0) := by
  apply List.ext_getElem
  · simp [Builtin.zeroCells, Value.cells]
  · intro i h1 h2
    simp [Builtin.zeroCells, Value.cells]
    have : i % 2 = 0 ∨ i % 2 = 1 := by omega
    rcases this with h | h <;> simp [h]
theorem clear09 (w : World) (ty : TypeId) (b o n c : Nat) (hn : 0 < n) (hc : ∀ j, j < n * 2 → (w.cell? ⟨b, o + j, none⟩).isSome = true) (hf : ∀ j, j < n * 2 → w.frozen? ⟨b, o + j, none⟩ = false) :
    (Builtin.clear_ #[29] ty #[.slice (some ⟨b, o, none⟩) n c]).run Tryd.prog w = .ok (.tuple #[]) (w.setCells b o (List.replicate (n * 2) (.int .i64 0))) := by
  have hst := run_storeCells_cells (P := Tryd.prog) b o (List.replicate (n * 2) (.int .i64 0)) 0 w (by simpa using hc) (by simpa using hf) (by intro v hv'; rw [List.eq_of_mem_replicate hv']; rfl)
  simp only [Nat.add_zero] at hst
  have hz := zeros2 n
  have hv := zero60
  obtain ⟨m, rfl⟩ : ∃ m, n = m + 1 := ⟨n - 1, by omega⟩
  simp [Builtin.clear_, run_underlying Tryd.underlying29, hv, hz, hst]
section
variable {s : Nat} {e : TypeId} {B n c b : Nat}
theorem ownV_setCells : ∀ (vs : List Value) (o : Nat) (w : World) (F : Nat → Value), OwnV s e B w (.slice (some ⟨b, 0, none⟩) n c) n F → ∃ G, OwnV s e B (w.setCells b o vs) (.slice (some ⟨b, 0, none⟩) n c) n G ∧ ∀ i, i < o → G i = F i
  | [], _, _, F, h => ⟨F, h, fun _ _ => rfl⟩
  | v :: r, o, w, F, h => by
    obtain ⟨G, h1, h2⟩ := ownV_setCells r (o + 1) _ _ (h.set o v)
    refine ⟨G, h1, fun i hi => ?_⟩
    rw [h2 i (by omega)]
    unfold setV
    rw [if_neg (by omega)]
theorem ownV_less {m : Nat} {w : World} {F : Nat → Value} (h : OwnV s e B w (.slice (some ⟨b, 0, none⟩) n c) n F) (hm : m ≤ n) : OwnV s e B w (.slice (some ⟨b, 0, none⟩) m c) m F := by
  unfold OwnV World.ownsRow at *
  obtain ⟨_, ⟨h, _⟩ | ⟨q, cap, cur, hv, hB, hg, hnc, hc, hs, ht⟩⟩ := h
  · cases h
  · simp only [Value.slice.injEq, Option.some.injEq, Addr.mk.injEq] at hv
    obtain ⟨⟨rfl, _⟩, _, rfl⟩ := hv
    have hle := Nat.mul_le_mul_right s hm
    refine ⟨rowV_len _ _, .inr ⟨b, c, cur, rfl, hB, hg, by omega, hc, hs, ?_⟩⟩
    have h1 : (cur.toList.take (n * s)).take (m * s) = cur.toList.take (m * s) := by rw [List.take_take, Nat.min_eq_left hle]
    rw [← h1, ht]
    apply List.ext_getElem?
    intro t
    by_cases h : t < m * s
    · rw [List.getElem?_take_of_lt h, rowV_get _ _ _ h, rowV_get _ _ _ (by omega)]
    · rw [List.getElem?_eq_none (by rw [List.length_take]; omega), List.getElem?_eq_none (by rw [rowV_len]; omega)]
theorem below_cells9 {a : World} (hg : B ≤ b) : ∀ (vs : List Value) (o : Nat) (w : World), Below B a w → Below B a (w.setCells b o vs)
  | [], _, _, h => h
  | v :: r, o, w, h => below_cells9 hg r (o + 1) _ (h.setCell (p := ⟨b, o, none⟩) hg v)
end
theorem LtP.trans {x y z : Int × Int} (h : LtP x y) (k : LtP y z) : LtP x z := by
  unfold LtP at *
  omega
/-- What the row holds of the first. -/
structure CpI (n : Nat) (f g F G : Nat → Int) (t k : Nat) : Prop where
  le : k ≤ t
  tn : t < n
  k0 : 0 < k
  rest : ∀ i, t ≤ i → i < n → F i = f i ∧ G i = g i
  last : F (k - 1) = f t ∧ G (k - 1) = g t
  up : ∀ i j, i < j → j < k → LtP (F i, G i) (F j, G j)
  all : ∀ j, j ≤ t → ∃ i, i < k ∧ F i = f j ∧ G i = g j
  own : ∀ i, i < k → ∃ j, j ≤ t ∧ F i = f j ∧ G i = g j
theorem cpI_start {n k : Nat} {f g : Nat → Int} (h : k + 1 < n) (he : f (k + 1) = f k ∧ g (k + 1) = g k) (hu : ∀ i j, i < j → j < k + 1 → LtP (f i, g i) (f j, g j)) : CpI n f g f g (k + 1 + 0) (k + 1) where
  le := Nat.le_refl _
  tn := h
  k0 := by omega
  rest := fun i _ _ => ⟨rfl, rfl⟩
  last := ⟨he.1.symm, he.2.symm⟩
  up := hu
  all := fun j hj => by
    by_cases e : j = k + 1
    · subst e
      exact ⟨k, by omega, he.1.symm, he.2.symm⟩
    · exact ⟨j, by omega, rfl, rfl⟩
  own := fun i hi => ⟨i, by omega, rfl, rfl⟩
theorem CpI.skip {n t k : Nat} {f g F G : Nat → Int} (h : CpI n f g F G t k) (ht : t + 1 < n) (he : f (t + 1) = f t ∧ g (t + 1) = g t) : CpI n f g F G (t + 1) k where
  le := by have := h.le; omega
  tn := ht
  k0 := h.k0
  rest := fun i a b => h.rest i (by omega) b
  last := ⟨h.last.1.trans he.1.symm, h.last.2.trans he.2.symm⟩
  up := h.up
  all := fun j hj => by
    by_cases e : j = t + 1
    · subst e
      obtain ⟨i, a, b, c⟩ := h.all t (Nat.le_refl _)
      exact ⟨i, a, b.trans he.1.symm, c.trans he.2.symm⟩
    · exact h.all j (by omega)
  own := fun i hi => by
    obtain ⟨j, a, b⟩ := h.own i hi
    exact ⟨j, by omega, b⟩
theorem CpI.push {n t k : Nat} {f g F G : Nat → Int} (h : CpI n f g F G t k) (ht : t + 1 < n) (hl : LtP (f t, g t) (f (t + 1), g (t + 1))) : CpI n f g (setF F k (f (t + 1))) (setF G k (g (t + 1))) (t + 1) (k + 1) where
  le := by have := h.le; omega
  tn := ht
  k0 := by omega
  rest := fun i a b => by
    have := h.le
    simp only [setF, if_neg (show ¬ i = k by omega)]
    exact h.rest i (by omega) b
  last := by simp [setF]
  up := fun i j hij hj => by
    by_cases e : j = k
    · subst e
      have hi : ¬ i = j := by omega
      simp only [setF, if_neg hi, if_pos rfl]
      have hk0 := h.k0
      obtain ⟨a, b⟩ := h.last
      by_cases e2 : i = j - 1
      · subst e2
        rw [a, b]
        exact hl
      · have h3 := h.up i (j - 1) (by omega) (by omega)
        rw [a, b] at h3
        exact LtP.trans h3 hl
    · have hi : ¬ i = k := by omega
      simp only [setF, if_neg hi, if_neg e]
      exact h.up i j hij (by omega)
  all := fun j hj => by
    by_cases e : j = t + 1
    · subst e
      exact ⟨k, by omega, by simp [setF], by simp [setF]⟩
    · obtain ⟨i, a, b, c⟩ := h.all j (by omega)
      have hi : ¬ i = k := by omega
      exact ⟨i, by omega, by simp only [setF, if_neg hi]; exact b, by simp only [setF, if_neg hi]; exact c⟩
  own := fun i hi => by
    by_cases e : i = k
    · subst e
      exact ⟨t + 1, Nat.le_refl _, by simp [setF], by simp [setF]⟩
    · obtain ⟨j, a, b⟩ := h.own i (by omega)
      exact ⟨j, by omega, by simp only [setF, if_neg e]; exact b⟩
theorem lsF_mem {n : Nat} {f g : Nat → Int} {p : Int × Int} : p ∈ lsF n f g ↔ ∃ i, i < n ∧ p = (f i, g i) := by
  simp only [lsF, List.mem_map, List.mem_range]
  exact ⟨fun ⟨i, a, b⟩ => ⟨i, a, b.symm⟩, fun ⟨i, a, b⟩ => ⟨i, a, b.symm⟩⟩
theorem CpI.mem {n t k : Nat} {f g F G : Nat → Int} (h : CpI n f g F G t k) (ht : t + 1 = n) (p : Int × Int) : p ∈ lsF k F G ↔ p ∈ lsF n f g := by
  rw [lsF_mem, lsF_mem]
  constructor
  · rintro ⟨i, hi, rfl⟩
    obtain ⟨j, a, b, c⟩ := h.own i hi
    exact ⟨j, by omega, by rw [b, c]⟩
  · rintro ⟨j, hj, rfl⟩
    obtain ⟨i, a, b, c⟩ := h.all j (by omega)
    exact ⟨i, a, by rw [b, c]⟩
set_option maxRecDepth 20000 in
set_option maxHeartbeats 3200000 in
theorem compactA {B : Nat} (b n c : Nat) (f g : Nat → Int) (w : World) (h : OwnV 2 31 B w (.slice (some ⟨b, 0, none⟩) n c) n (pr f g)) (hs : ∀ i j, i < j → j < n → ¬ LtP (f j, g j) (f i, g i)) :
    Calls Tryd.prog 45 #[.slice (some ⟨b, 0, none⟩) n c] w fun e w' => ∃ m f' g', e = .returned (.slice (some ⟨b, 0, none⟩) m c) ∧ m ≤ n ∧ OwnV 2 31 B w' (.slice (some ⟨b, 0, none⟩) m c) m (pr f' g') ∧ (∀ i j, i < j → j < m → LtP (f' i, g' i) (f' j, g' j)) ∧ (∀ p, p ∈ lsF m f' g' ↔ p ∈ lsF n f g) ∧ Below B w w' := by
  have hrd := h.rd
  obtain ⟨_, c', hcc, hr, hz⟩ := hrd
  cases hcc
  have hB : B ≤ b := (hz _ rfl).1
  have hn : n ≤ 9223372036854775807 := by have h1 := hr.1; have h2 := hr.2.1; simp only [maxLen] at h2; omega
  have hcn : n ≤ c := hr.1
  have Ha := hide (rd2_of_rdV hr)
  have Ho := hide h
  have Hs := hide hs
  clear h hs hr hz
  by_cases h2 : n < 2
  · have t1 : decide ((n : Int) < 2) = true := decide_eq_true (by omega)
    have hup : Hid (∀ i j, i < j → j < n → LtP (f i, g i) (f j, g j)) := fun i j hij hj => absurd hj (by omega)
    clear h2
    go_enter Tryd.func45, Tryd.ntmps45
    go_wp2_with fail
    go_ret
    exact ⟨n, f, g, rfl, Nat.le_refl _, Ho.out, hup.out, fun p => Iff.rfl, Below.refl _ _⟩
  have t1 : decide ((n : Int) < 2) = false := decide_eq_false (by omega)
  have hn2 : 2 ≤ n := by omega
  clear h2
  go_enter Tryd.func45, Tryd.ntmps45
  go_wp2_with fail
  go_loopw [3] (fun i wr => ∃ k : Nat, k + 1 ≤ n ∧ i = .int .i64 ((k : Int) + 1) ∧ Drawn w wr ∧ ∀ i j, i < j → j < k + 1 → LtP (f i, g i) (f j, g j)) (fun i _ => n - (intOf i).toNat)
  case atStart => exact ⟨0, by omega, rfl, Drawn.refl _, fun i j hij hj => absurd hj (by omega)⟩
  case round =>
    obtain ⟨k, hk, rfl, ⟨q, rfl⟩, hup⟩ := hrel
    have HU := hide hup
    clear hup
    by_cases hlt : k + 1 < n
    · obtain ⟨b', off, hb', hc0, hc1⟩ := Ha.out.at_ (i := k) (by omega)
      cases hb'
      obtain ⟨b', off', hb', hd0, hd1⟩ := Ha.out.at_ (i := k + 1) hlt
      cases hb'
      rw [Nat.zero_add] at hc0 hc1 hd0 hd1
      have d1 : decide ((k : Int) + 1 < (n : Int)) = true := decide_eq_true (by omega)
      have ew : IntKind.i64.wrap ((k : Int) + 1 - 1) = (k : Int) := by rw [show (k : Int) + 1 - 1 = k by omega]; exact IntWalk.i64_in _ (by omega)
      have ew2 : IntKind.i64.wrap ((k : Int) + 1 + 1) = ((k + 1 : Nat) : Int) + 1 := by rw [IntWalk.i64_in _ (by omega)]; omega
      have et : ((k : Int) + 1).toNat = k + 1 := by omega
      have l1 : (0 : Int) ≤ (k : Int) + 1 := by omega
      have l2 : k + 1 < n := hlt
      have l3 : k < n := by omega
      by_cases hsame : f (k + 1) = f k ∧ g (k + 1) = g k
      · have e1 : (f (k + 1) == f k) = true := by simpa using hsame.1
        have e2 : (g (k + 1) == g k) = true := by simpa using hsame.2
        have HSm := hide hsame
        have HL : Hid (k + 1 < n) := hlt
        clear hsame
        go_wp2
        go_quiet (fail)
        go_wp2
        go_loopw [3, 5] (fun i j wr => ∃ (d kk : Nat) (F G : Nat → Int), i = .int .i64 kk ∧ j = .int .i64 ((d : Int) + 1) ∧ CpI n f g F G (k + 1 + d) kk ∧ OwnV 2 31 B wr (.slice (some ⟨b, 0, none⟩) n c) n (pr F G) ∧ Below B w wr) (fun _ j _ => n - (intOf j).toNat)
        case atStart => exact ⟨0, k + 1, f, g, by simp, rfl, cpI_start HL.out HSm.out HU.out, (Ho.out.below (drawn_below ⟨_, rfl⟩ _)), drawn_below ⟨_, rfl⟩ _⟩
        case round =>
          obtain ⟨d, kk, F, G, rfl, rfl, hi, hO, hBl⟩ := hrel
          have HI := hide hi
          have HO := hide hO
          have HBl := hide hBl
          have htn := hi.tn
          have hkt := hi.le
          have hk0 := hi.k0
          clear hi hO hBl
          have RR := rd2_of_rdV HO.out.rdS2
          by_cases hl2 : k + 1 + d + 1 < n
          · obtain ⟨b', off, hb', hp0, hp1⟩ := RR.at_ (i := k + 1 + d) (by omega)
            cases hb'
            obtain ⟨b', off, hb', hq0, hq1⟩ := RR.at_ (i := k + 1 + d + 1) hl2
            cases hb'
            obtain ⟨b', off, hb', hr0, hr1⟩ := RR.at_ (i := kk) (by omega)
            cases hb'
            obtain ⟨s0, s1⟩ := HI.out.rest (k + 1 + d) (by omega) (by omega)
            obtain ⟨s2, s3⟩ := HI.out.rest (k + 1 + d + 1) (by omega) (by omega)
            rw [s0] at hp0
            rw [s1] at hp1
            rw [s2] at hq0
            rw [s3] at hq1
            rw [show 0 + (k + 1 + d) * 2 = (k + 1) * 2 + d * 2 by omega] at hp0 hp1
            rw [show 0 + (k + 1 + d + 1) * 2 = (k + 1) * 2 + (d + 1) * 2 by omega] at hq0 hq1
            rw [Nat.zero_add] at hr0 hr1
            clear s0 s1 s2 s3 RR
            have m1 : decide ((d : Int) + 1 < ((n - (k + 1) : Nat) : Int)) = true := decide_eq_true (by omega)
            have m2 : IntKind.i64.wrap ((d : Int) + 1 - 1) = (d : Int) := by rw [show (d : Int) + 1 - 1 = d by omega]; exact IntWalk.i64_in _ (by omega)
            have m3 : IntKind.i64.wrap ((d : Int) + 1 + 1) = ((d + 1 : Nat) : Int) + 1 := by rw [IntWalk.i64_in _ (by omega)]; omega
            have m4 : ((d : Int) + 1).toNat = d + 1 := by omega
            have m5 : (0 : Int) ≤ (d : Int) + 1 := by omega
            have m6 : d + 1 < n - (k + 1) := by omega
            have m7 : d < n - (k + 1) := by omega
            have m8 : IntKind.i64.wrap ((kk : Int) + 1) = (kk : Int) + 1 := IntWalk.i64_in _ (by omega)
            have m9 : kk < n := by omega
            by_cases hsm2 : f (k + 1 + d + 1) = f (k + 1 + d) ∧ g (k + 1 + d + 1) = g (k + 1 + d)
            · have e3 : (f (k + 1 + d + 1) == f (k + 1 + d)) = true := by simpa using hsm2.1
              have e4 : (g (k + 1 + d + 1) == g (k + 1 + d)) = true := by simpa using hsm2.2
              have HI2 := hide (HI.out.skip hl2 hsm2)
              clear hsm2
              go_wp2
              go_quiet (fail)
              go_wp2
              go_roundw
              case rel => exact ⟨d + 1, kk, F, G, rfl, rfl, HI2.out, HO.out.below (drawn_below ⟨_, rfl⟩ _), HBl.out.trans (drawn_below ⟨_, rfl⟩ _)⟩
              case measure => simp [intOf]; omega
            · have hlt3 : LtP (f (k + 1 + d), g (k + 1 + d)) (f (k + 1 + d + 1), g (k + 1 + d + 1)) := by
                have h3 := Hs.out (k + 1 + d) (k + 1 + d + 1) (by omega) hl2
                simp only [LtP] at *
                omega
              have HI2 := hide (HI.out.push hl2 hlt3)
              have z0 := HO.out.frozen (kk * 2)
              have z1 := HO.out.frozen (kk * 2 + 1)
              have HO2 : Hid (∀ q, OwnV 2 31 B (((wr.drewN q).setCell ⟨b, kk * 2, none⟩ (.int .i64 (f (k + 1 + d + 1)))).setCell ⟨b, kk * 2 + 1, none⟩ (.int .i64 (g (k + 1 + d + 1)))) (.slice (some ⟨b, 0, none⟩) n c) n (pr (setF F kk (f (k + 1 + d + 1))) (setF G kk (g (k + 1 + d + 1))))) := fun q => by
                have h3 := ((HO.out.drewN q).set (kk * 2) (.int .i64 (f (k + 1 + d + 1)))).set (kk * 2 + 1) (.int .i64 (g (k + 1 + d + 1)))
                rw [pr_set0, pr_set1] at h3
                exact h3
              have HB2 : Hid (∀ q, Below B w (((wr.drewN q).setCell ⟨b, kk * 2, none⟩ (.int .i64 (f (k + 1 + d + 1)))).setCell ⟨b, kk * 2 + 1, none⟩ (.int .i64 (g (k + 1 + d + 1))))) := fun q =>
                ((HBl.out.trans (drawn_below ⟨q, rfl⟩ _)).setCell (p := ⟨b, kk * 2, none⟩) hB _).setCell (p := ⟨b, kk * 2 + 1, none⟩) hB _
              clear hlt3
              by_cases h1 : f (k + 1 + d + 1) = f (k + 1 + d)
              · have e3 : (f (k + 1 + d + 1) == f (k + 1 + d)) = true := by simpa using h1
                have e4 : (g (k + 1 + d + 1) == g (k + 1 + d)) = false := by simpa using fun h => hsm2 ⟨h1, h⟩
                clear h1 hsm2
                go_wp2
                go_quiet (fail)
                go_wp2
                go_roundw
                case rel => exact ⟨d + 1, kk + 1, _, _, by simp, by simp, HI2.out, HO2.out _, HB2.out _⟩
                case measure => simp [intOf]; omega
              · have e3 : (f (k + 1 + d + 1) == f (k + 1 + d)) = false := by simpa using h1
                clear h1 hsm2
                go_wp2
                go_quiet (fail)
                go_wp2
                go_roundw
                case rel => exact ⟨d + 1, kk + 1, _, _, by simp, by simp, HI2.out, HO2.out _, HB2.out _⟩
                case measure => simp [intOf]; omega
          · have hlast : k + 1 + d + 1 = n := by omega
            have m1 : decide ((d : Int) + 1 < ((n - (k + 1) : Nat) : Int)) = false := decide_eq_false (by omega)
            have hkn : kk ≤ n := by omega
            have hcl : ∀ ty, (Builtin.clear_ #[29] ty #[.slice (some ⟨b, kk * 2, none⟩) (n - kk) (c - kk)]).run Tryd.prog wr = .ok (.tuple #[]) (wr.setCells b (kk * 2) (List.replicate ((n - kk) * 2) (.int .i64 0))) := fun ty =>
              clear09 wr ty b (kk * 2) (n - kk) (c - kk) (by omega) (fun j hj => by rw [HO.out.cell (j := kk * 2 + j) (by omega)]; rfl) (fun j hj => HO.out.frozen (kk * 2 + j))
            obtain ⟨G', hg1, hg2⟩ := ownV_setCells (List.replicate ((n - kk) * 2) (.int .i64 0)) (kk * 2) wr _ HO.out
            have HOF := hide ((ownV_less hg1 hkn).congr (G := pr F G) (fun i hi => hg2 i hi))
            have HBF := hide (below_cells9 hB (List.replicate ((n - kk) * 2) (.int .i64 0)) (kk * 2) wr HBl.out)
            have HM := hide (HI.out.mem hlast)
            have HUF := hide HI.out.up
            clear hg1 hg2 RR hlast HI HO HBl HSm HL
            go_wp2_with (simp only [hcl])
            go_ret
            exact ⟨kk, F, G, rfl, hkn, HOF.out, HUF.out, HM.out, HBF.out⟩
      · have hno : LtP (f k, g k) (f (k + 1), g (k + 1)) := by
          have h3 := Hs.out k (k + 1) (by omega) hlt
          simp only [LtP] at *
          omega
        have HU2 : Hid (∀ i j, i < j → j < k + 1 + 1 → LtP (f i, g i) (f j, g j)) := fun i j hij hj => by
          by_cases e : j = k + 1
          · subst e
            by_cases e2 : i = k
            · subst e2
              exact hno
            · have h3 := HU.out i k (by omega) (by omega)
              simp only [LtP] at *
              omega
          · exact HU.out i j hij (by omega)
        clear hno
        by_cases h1 : f (k + 1) = f k
        · have e1 : (f (k + 1) == f k) = true := by simpa using h1
          have e2 : (g (k + 1) == g k) = false := by simpa using fun h => hsame ⟨h1, h⟩
          clear h1 hsame
          go_wp2
          go_quiet (fail)
          go_wp2
          go_roundw
          case rel => exact ⟨k + 1, by omega, by simp, ⟨_, rfl⟩, HU2.out⟩
          case measure => simp [intOf]; omega
        · have e1 : (f (k + 1) == f k) = false := by simpa using h1
          clear h1 hsame
          go_wp2
          go_quiet (fail)
          go_wp2
          go_roundw
          case rel => exact ⟨k + 1, by omega, by simp, ⟨_, rfl⟩, HU2.out⟩
          case measure => simp [intOf]; omega
    · obtain rfl : n = k + 1 := by omega
      have d1 : decide ((k : Int) + 1 < ((k + 1 : Nat) : Int)) = false := decide_eq_false (by omega)
      go_wp2
      go_ret
      exact ⟨k + 1, f, g, rfl, Nat.le_refl _, Ho.out.below (drawn_below ⟨q, rfl⟩ _), HU.out, fun p => Iff.rfl, drawn_below ⟨q, rfl⟩ _⟩
end Go.Proofs.YtbkdegjkjjdcdaaDoor
