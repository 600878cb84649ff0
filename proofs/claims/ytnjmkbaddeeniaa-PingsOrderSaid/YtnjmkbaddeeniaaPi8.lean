/- Layer 36: in whichever order pings are answered. -/
import Derived.Test.YtnjmkbaddeeniaaPi7
namespace Go.Proofs.Ytnjmkbaddeeniaa
open Go.RowKit Go.Maps Go.Deep

theorem cntA_next (L : Nat → Nat → Int) (n : Nat) : cntA L (n + 1) = updB (cntA L n) (kl (L n)) (cntA L n (kl (L n)) + 1) := by
  funext k
  show cntA L n k + (if kl (L n) = k then 1 else 0) = _
  unfold updB
  by_cases e : k = kl (L n)
  · subst e; rw [if_pos rfl, if_pos rfl]
  · rw [if_neg (fun h => e h.symm), if_neg e]; omega
theorem celA_next (L : Nat → Nat → Int) (n : Nat) : ∀ i, i < (n + 1) * 8 → catV (n * 8) (celA L) (fun j => .int .u8 (L n j)) i = celA L i := by
  intro i hi
  unfold catV
  by_cases h : i < n * 8
  · rw [if_pos h]
  · rw [if_neg h]
    unfold celA
    rw [show i / 8 = n by omega, show i % 8 = i - n * 8 by omega]
theorem celA_two (M : Nat → Nat → Int) (m q : Nat) : ∀ i, i < (0 + q + (m - (q + 1))) * 8 → catV ((0 + q) * 8) (catV (0 * 8) (celA M) (celA M)) (fun i => celA M ((q + 1) * 8 + i)) i = celA (delL q M) i := by
  intro i hi
  rw [← celA_del M (q + (m - (q + 1))) q i (by omega)]
  unfold catV
  rw [Nat.zero_add, if_neg (show ¬ i < 0 * 8 by omega), Nat.zero_mul, Nat.sub_zero]
theorem shift_del (M : Nat → Nat → Int) (k : Nat) : delL 0 (fun i => M (i + k)) = fun i => M (i + (k + 1)) := by
  funext i
  unfold delL
  rw [if_neg (by omega)]
  show M (i + 1 + k) = _
  rw [show i + 1 + k = i + (k + 1) by omega]
set_option maxRecDepth 20000 in
set_option maxHeartbeats 3200000 in
theorem order_walk (A : Option Addr) (n c : Nat) (L : Nat → Nat → Int) (A2 : Option Addr) (n2 c2 : Nat) (F2 : Nat → Int) (w : World) (ha : RdV 8 w A n c (celA L)) (hl : ∀ i, i < n → Byt 8 (L i)) (hb : Rd .u8 w A2 n2 c2 F2) (hf : Byt n2 F2) :
    Calls Try.prog 14 #[.slice A n c, .slice A2 n2 c2] w (Yes w) := by
  have Ha := hide ha
  have Hl := hide hl
  have Hb := hide hb
  have Hf := hide hf
  have hn63 : (n : Int) ≤ 9223372036854775807 := by have h1 := ha.1; have h2 := ha.2.1; simp only [maxLen] at h2; omega
  have hn263 : (n2 : Int) ≤ 9223372036854775807 := by have h1 := hb.1; have h2 := hb.2.1; simp only [maxLen] at h2; omega
  clear ha hl hb hf
  by_cases h40 : 40 < n
  · have hd : decide ((40 : Int) < (n : Int)) = true := decide_eq_true (by omega)
    go_enter Try.func14, Try.ntmps14
    go_wp2_with fail
    refine (alive36 _).mono ?_
    rintro e w2 ⟨rfl, hb2⟩
    go_wp2_with fail
    go_ret
    exact ⟨rfl, hb2⟩
  have hd : decide ((40 : Int) < (n : Int)) = false := decide_eq_false (by omega)
  by_cases h100 : 100 < n2
  · have hd2 : decide ((100 : Int) < (n2 : Int)) = true := decide_eq_true (by omega)
    go_enter Try.func14, Try.ntmps14
    go_wp2_with fail
    refine (alive36 _).mono ?_
    rintro e w2 ⟨rfl, hb2⟩
    go_wp2_with fail
    go_ret
    exact ⟨rfl, hb2⟩
  have hd2 : decide ((100 : Int) < (n2 : Int)) = false := decide_eq_false (by omega)
  have Hn : Hid (n ≤ 40) := by show _ ≤ _; omega
  have Hn2 : Hid (n2 ≤ 100) := by show _ ≤ _; omega
  clear h40 h100
  have P' := hide (PgOk.new w 40)
  have E' := hide (((Below.refl w.heap.size w).alloc (Nat.le_refl _) (.map #[] 0)).alloc (by simp) (.cells #[.int .i64 40, .map (some w.heap.size), .int .i64 0] 173))
  go_enter Try.func14, Try.ntmps14
  go_wp2_with fail
  refine (new36 40 (by omega) _).mono ?_
  rintro e z ⟨rfl, rfl⟩
  have hsz : ((w.alloc (.map #[] 0)).alloc (.cells #[.int .i64 40, .map (some w.heap.size), .int .i64 0] 173)).heap.size = w.heap.size + 2 := by simp
  generalize ((w.alloc (.map #[] 0)).alloc (.cells #[.int .i64 40, .map (some w.heap.size), .int .i64 0] 173)) = z at *
  have al := (Below.refl z.heap.size z).alloc (Nat.le_refl _) (.cells #[] 132)
  have O0 : Hid (OrS w.heap.size (w.heap.size + 1) w.heap.size (z.alloc (.cells #[] 132)) (.slice (some ⟨z.heap.size, 0, none⟩) 0 0) 0 0 L) := ⟨P'.out.below al, OwnV.lit 8 132 w.heap.size z (celA L) #[] 0 (by omega) (by simp [maxLen]) rfl, fun i hi => by omega, by simp [Value.ownBlock]; omega, by simp [Value.ownBlock]; omega⟩
  have E0 := hide (E'.out.alloc E'.out.size (.cells #[] 132))
  have S0 : Hid (w.heap.size + 2 ≤ (z.alloc (.cells #[] 132)).heap.size) := by show _ ≤ _; simp; omega
  clear al P' E' hsz
  go_wp2_with fail
  go_loopw [6, 28] (fun v i wr => ∃ k : Nat, k ≤ n ∧ i = .int .i64 k ∧ OrS w.heap.size (w.heap.size + 1) w.heap.size wr v k k L ∧ Below w.heap.size w wr ∧ w.heap.size + 2 ≤ wr.heap.size) (fun _ i _ => n - (intOf i).toNat)
  case atStart => exact ⟨0, Nat.zero_le _, rfl, O0.out, E0.out, S0.out⟩
  case round =>
    obtain ⟨k, hk, rfl, hor, hbl, hsz⟩ := hrel
    clear O0 E0 S0
    by_cases hlt : k < n
    · have hkn' : (k : Int) < (n : Int) := by omega
      obtain ⟨b, off, rfl, e0, e1, e2, e3, e4, e5, e6, e7⟩ := (Ha.out.below36 hbl).at8 hlt
      have Hby := hide (Hl.out k hlt)
      have Hsz : Hid (w.heap.size + 2 ≤ wr.heap.size) := hsz
      have al := (Below.refl wr.heap.size wr).alloc (Nat.le_refl _) (.cells #[.int .u8 (L k 0), .int .u8 (L k 1), .int .u8 (L k 2), .int .u8 (L k 3), .int .u8 (L k 4), .int .u8 (L k 5), .int .u8 (L k 6), .int .u8 (L k 7)] 132)
      have P0 := hide (hor.pg.below al)
      have V0 := hide (hor.own.alloc (.cells #[.int .u8 (L k 0), .int .u8 (L k 1), .int .u8 (L k 2), .int .u8 (L k 3), .int .u8 (L k 4), .int .u8 (L k 5), .int .u8 (L k 6), .int .u8 (L k 7)] 132))
      have K0 := hide (heap_alloc_new wr (.cells #[.int .u8 (L k 0), .int .u8 (L k 1), .int .u8 (L k 2), .int .u8 (L k 3), .int .u8 (L k 4), .int .u8 (L k 5), .int .u8 (L k 6), .int .u8 (L k 7)] 132))
      have E0 := hide (hbl.alloc hbl.size (.cells #[.int .u8 (L k 0), .int .u8 (L k 1), .int .u8 (L k 2), .int .u8 (L k 3), .int .u8 (L k 4), .int .u8 (L k 5), .int .u8 (L k 6), .int .u8 (L k 7)] 132))
      have N1 := hide hor.n1
      have N2 := hide hor.n2
      have Hcb := hide (cntA_bounds L k (kl (L k)))
      obtain ⟨A6, c6, rfl, _, _⟩ := hor.own.rd
      have hn40 := Hn.out
      clear al hor hbl hsz
      go_wp2_with fail
      refine (send36 P0.out E0.out.size (rd8 K0.out) Hby.out (by omega) (by omega) (by omega) (by omega) (by have := Hcb.out; omega)).mono ?_
      rintro e W1 ⟨rfl, hp, hf⟩
      clear e0 e1 e2 e3 e4 e5 e6 e7
      have P1 := hide hp
      have K1 := hide (hf.row K0.out (by have := Hsz.out; omega) (by have := Hsz.out; omega))
      have V1 := hide (V0.out.frP N1.out N2.out hf)
      have E1 := hide (E0.out.trans hf.below)
      have Hs1 : Hid (w.heap.size + 2 ≤ W1.heap.size) := by show _ ≤ _; have h1 := hf.below.size; have h2 := Hsz.out; simp at h1; omega
      clear hp hf P0 V0 K0 E0
      obtain ⟨g0, g1, g2, g3, g4, g5, g6, g7⟩ := row8 K1.out
      obtain ⟨i0, hi, hz0, hz1, hz2⟩ := info_parts arr36_info
      have hq : W1.heap.size < (W1.alloc (.cells #[.int .u8 (L k 0), .int .u8 (L k 1), .int .u8 (L k 2), .int .u8 (L k 3), .int .u8 (L k 4), .int .u8 (L k 5), .int .u8 (L k 6), .int .u8 (L k 7)] 132)).heap.size := by simp
      go_wp2_with (at_builtin; refine wp_appV rfl (.tmp 36) (.tmp 38) _ rfl 8 i0 _ 8 Try.underlying129 hi hz0 hz1 hz2 rfl (by omega) w.heap.size _ k (celA L) rfl (V1.out.alloc _) _ 1 1 _ rfl (RdV.lit8 _ (L k)) (fun _ _ => rfl) (by simp only [maxLen]; omega) (by omega) (Nat.le_trans E1.out.size (Nat.le_of_lt hq)) ?_; intro v6 w6 hown6 hg6 hob6)
      go_roundw
      case rel =>
        have al := (Below.refl W1.heap.size W1).alloc (Nat.le_refl _) (.cells #[.int .u8 (L k 0), .int .u8 (L k 1), .int .u8 (L k 2), .int .u8 (L k 3), .int .u8 (L k 4), .int .u8 (L k 5), .int .u8 (L k 6), .int .u8 (L k 7)] 132)
        have p6 := (P1.out.below al).grownV hg6 N1.out N2.out
        rw [show (k : Int) + 1 = ((k + 1 : Nat) : Int) by omega, ← cntA_next] at p6
        have hs6 := hg6.size
        have hs1 := Hs1.out
        have hne : ∀ q, q < w.heap.size + 2 → (Value.slice A6 k c6).ownBlock ≠ some q → v6.ownBlock ≠ some q := fun q hq0 h => by
          rcases hob6 with e | e
          · rw [e]; exact h
          · rw [e]
            intro e2
            have := Option.some.inj e2
            omega
        exact ⟨k + 1, by omega, by go_num, ⟨p6, hown6.congr (celA_next L k), fun i hi => Hl.out i (by omega), hne _ (by omega) N1.out, hne _ (by omega) N2.out⟩, (E1.out.alloc E1.out.size _).grown hg6 (Nat.le_trans E1.out.size (Nat.le_of_lt hq)) (fun j e => (World.ownsRow.lt V1.out j e).1), by omega⟩
      case measure => simp [intOf]; omega
    · obtain rfl : n = k := by omega
      have O1 := hide hor
      have E1 := hide hbl
      have S1 := hide hsz
      clear hor hbl hsz hlt
      go_wp2_with fail
      go_loopw [6, 43] (fun v i wr => ∃ j : Nat, j ≤ n2 ∧ i = .int .i64 j ∧ ∃ (m ns : Nat) (M : Nat → Nat → Int), OrS w.heap.size (w.heap.size + 1) w.heap.size wr v m ns M ∧ ns ≤ n + j ∧ m ≤ n ∧ Below w.heap.size w wr ∧ w.heap.size + 2 ≤ wr.heap.size) (fun _ i _ => n2 - (intOf i).toNat)
      case atStart => exact ⟨0, Nat.zero_le _, rfl, n, n, L, O1.out, by omega, Nat.le_refl _, E1.out, S1.out⟩
      case round =>
        clear O1 E1 S1
        obtain ⟨j, hj, rfl, m, ns, M, hor, hns, hmn, hbl, hsz⟩ := hrel
        by_cases hlt : j < n2
        · have hjn' : (j : Int) < (n2 : Int) := by omega
          obtain ⟨b2, o2, rfl, hx⟩ := (Hb.out.below hbl).at_ hlt
          have Hx := hide (Hf.out j hlt)
          obtain ⟨A6, c6, rfl, hrd, _⟩ := hor.own.rd
          by_cases hm0 : m = 0
          · have hm1 : ((m : Int) == 0) = true := by rw [hm0]; rfl
            clear hm0
            go_wp2_with fail
            have T0 := hide hor.pg
            have V0 := hide hor.own
            have Y0 := hide hor.byt
            have N1 := hide hor.n1
            have N2 := hide hor.n2
            have E0 := hide hbl
            have Hs0 := hide hsz
            have Hns := hide hns
            have Hj := hide hj
            have Hmn := hide hmn
            clear hor hbl hsz hrd hns
            go_loopw [76] (fun i wr => ∃ k : Nat, k ≤ m ∧ i = .int .i64 k ∧ ∃ nt : Nat, PgOk w.heap.size wr (w.heap.size + 1) w.heap.size nt 40 ((m - k : Nat) : Int) (cntA (fun i => M (i + k)) (m - k)) ∧ nt ≤ n + n2 + k ∧ OwnV 8 132 w.heap.size wr (.slice A6 m c6) m (celA M) ∧ Below w.heap.size w wr ∧ w.heap.size + 2 ≤ wr.heap.size) (fun i _ => m - (intOf i).toNat)
            case atStart => exact ⟨0, Nat.zero_le _, rfl, ns, T0.out, by have := Hns.out; have := Hj.out; omega, V0.out, E0.out, Hs0.out⟩
            case round =>
              clear T0 V0 E0 Hs0
              obtain ⟨k, hk, rfl, nt, hpg, hnt, how, hbl, hsz⟩ := hrel
              by_cases hlt3 : k < m
              · have hkm' : (k : Int) < (m : Int) := by omega
                obtain ⟨b, off, rfl, e0, e1, e2, e3, e4, e5, e6, e7⟩ := how.rdS2.at8 hlt3
                have al := (Below.refl wr.heap.size wr).alloc (Nat.le_refl _) (.cells #[.int .u8 (M k 0), .int .u8 (M k 1), .int .u8 (M k 2), .int .u8 (M k 3), .int .u8 (M k 4), .int .u8 (M k 5), .int .u8 (M k 6), .int .u8 (M k 7)] 132)
                have P0 := hide (hpg.below al)
                have V1 := hide (how.alloc (.cells #[.int .u8 (M k 0), .int .u8 (M k 1), .int .u8 (M k 2), .int .u8 (M k 3), .int .u8 (M k 4), .int .u8 (M k 5), .int .u8 (M k 6), .int .u8 (M k 7)] 132))
                have K0 := hide (heap_alloc_new wr (.cells #[.int .u8 (M k 0), .int .u8 (M k 1), .int .u8 (M k 2), .int .u8 (M k 3), .int .u8 (M k 4), .int .u8 (M k 5), .int .u8 (M k 6), .int .u8 (M k 7)] 132))
                have E1 := hide (hbl.alloc hbl.size (.cells #[.int .u8 (M k 0), .int .u8 (M k 1), .int .u8 (M k 2), .int .u8 (M k 3), .int .u8 (M k 4), .int .u8 (M k 5), .int .u8 (M k 6), .int .u8 (M k 7)] 132))
                have Hsz := hide hsz
                have Hcm : Hid (0 < cntA (fun i => M (i + k)) (m - k) (kl (M k)) ∧ cntA (fun i => M (i + k)) (m - k) (kl (M k)) ≤ 1000) := by
                  have h1 := cntA_mem (fun i => M (i + k)) (n := m - k) (i := 0) (by omega)
                  have h2 := (cntA_bounds (fun i => M (i + k)) (m - k) (kl (M k))).2
                  simp only [Nat.zero_add] at h1
                  have h3 := Hmn.out
                  have h4 := Hn.out
                  exact ⟨h1, by omega⟩
                have hn40 := Hn.out
                have hn2h := Hn2.out
                have hmh := Hmn.out
                clear al hpg how hbl hsz
                go_wp2_with fail
                refine (answer36 P0.out E1.out.size (rd8 K0.out) (Y0.out k hlt3) (by omega) (by omega) Hcm.out).mono ?_
                rintro e W1 ⟨rfl, hp, hf⟩
                have P1 := hide hp
                have V2 := hide (V1.out.frP N1.out N2.out hf)
                have E2 := hide (E1.out.trans hf.below)
                have Hs2 : Hid (w.heap.size + 2 ≤ W1.heap.size) := by show _ ≤ _; have h1 := hf.below.size; have h2 := Hsz.out; simp at h1; omega
                clear hp hf P0 V1 K0 E1 e0 e1 e2 e3 e4 e5 e6 e7
                go_wp2_with fail
                go_roundw
                case rel =>
                  have hdel := cntA_del (fun i => M (i + k)) (n := m - (k + 1)) (i := 0) (by omega)
                  rw [show m - (k + 1) + 1 = m - k by omega, shift_del] at hdel
                  simp only [Nat.zero_add] at hdel
                  have p1 := P1.out
                  rw [← hdel, show ((m - k : Nat) : Int) - 1 = ((m - (k + 1) : Nat) : Int) by omega] at p1
                  exact ⟨k + 1, by omega, by go_num, nt + 1, p1, by omega, V2.out, E2.out, Hs2.out⟩
                case measure => simp [intOf]; omega
              · obtain rfl : m = k := by omega
                rw [show ((m - m : Nat) : Int) = 0 by omega] at hpg
                go_wp2_with fail
                refine (len36 hpg).mono ?_
                rintro e w9 ⟨rfl, rfl⟩
                go_wp2_with fail
                refine (alive36 _).mono ?_
                rintro e w2 ⟨rfl, hb2⟩
                go_wp2_with fail
                go_ret
                exact ⟨rfl, hbl.of hb2⟩
          · have hm1 : ((m : Int) == 0) = false := by
              simp only [beq_eq_false_iff_ne]
              omega
            obtain ⟨q, hq, hqm⟩ : ∃ q : Nat, Int.tmod (F2 j) (m : Int) = (q : Int) ∧ q < m := by
              have h0 := Hx.out
              have h1 := Int.tmod_nonneg (m : Int) h0.1
              have h2 := Int.tmod_lt_of_pos (F2 j) (show (0 : Int) < (m : Int) by omega)
              exact ⟨(Int.tmod (F2 j) (m : Int)).toNat, by omega, by omega⟩
            obtain ⟨b, off, rfl, e0, e1, e2, e3, e4, e5, e6, e7⟩ := hrd.at8 hqm
            have hqm' : (q : Int) < (m : Int) := by omega
            have hw64 : wrap64 (F2 j) = F2 j := by have := Hx.out; unfold wrap64; omega
            have hw1 : IntKind.i64.wrap ((q : Int) + 1) = (q : Int) + 1 := IntWalk.i64_in _ (by omega)
            go_wp2_with fail
            have al := (Below.refl wr.heap.size wr).alloc (Nat.le_refl _) (.cells #[.int .u8 (M q 0), .int .u8 (M q 1), .int .u8 (M q 2), .int .u8 (M q 3), .int .u8 (M q 4), .int .u8 (M q 5), .int .u8 (M q 6), .int .u8 (M q 7)] 132)
            have P0 := hide (hor.pg.below al)
            have V0 := hide (hor.own.alloc (.cells #[.int .u8 (M q 0), .int .u8 (M q 1), .int .u8 (M q 2), .int .u8 (M q 3), .int .u8 (M q 4), .int .u8 (M q 5), .int .u8 (M q 6), .int .u8 (M q 7)] 132))
            have K0 := hide (heap_alloc_new wr (.cells #[.int .u8 (M q 0), .int .u8 (M q 1), .int .u8 (M q 2), .int .u8 (M q 3), .int .u8 (M q 4), .int .u8 (M q 5), .int .u8 (M q 6), .int .u8 (M q 7)] 132))
            have E0 := hide (hbl.alloc hbl.size (.cells #[.int .u8 (M q 0), .int .u8 (M q 1), .int .u8 (M q 2), .int .u8 (M q 3), .int .u8 (M q 4), .int .u8 (M q 5), .int .u8 (M q 6), .int .u8 (M q 7)] 132))
            have R0 := hide (hrd.below36 al)
            have N1 := hide hor.n1
            have N2 := hide hor.n2
            have Hq : Hid (wr.heap.size < (wr.alloc (.cells #[.int .u8 (M q 0), .int .u8 (M q 1), .int .u8 (M q 2), .int .u8 (M q 3), .int .u8 (M q 4), .int .u8 (M q 5), .int .u8 (M q 6), .int .u8 (M q 7)] 132)).heap.size) := by show _ < _; simp
            have Hsz := hide hsz
            have Hm := hide (hor.byt)
            have hcm := hrd.1
            clear al hor hbl hsz e0 e1 e2 e3 e4 e5 e6 e7
            generalize hq0 : wr.heap.size = qk at *
            generalize wr.alloc (.cells #[.int .u8 (M q 0), .int .u8 (M q 1), .int .u8 (M q 2), .int .u8 (M q 3), .int .u8 (M q 4), .int .u8 (M q 5), .int .u8 (M q 6), .int .u8 (M q 7)] 132) = y at *
            have hn40 := Hn.out
            have hb0 : (0 : Int) ≤ (q : Int) := by omega
            have hb1 : (q : Int) ≤ (c6 : Int) := by omega
            have hb2 : (0 : Int) ≤ (q : Int) + 1 := by omega
            have hb3 : (q : Int) + 1 ≤ (m : Int) := by omega
            have hb4 : (m : Int) ≤ (c6 : Int) := by omega
            have hb5 : ((q : Int) + 1).toNat = q + 1 := by omega
            obtain ⟨i0, hi, hz0, hz1, hz2⟩ := info_parts arr36_info
            go_region_held3 (fun _ => True) ((trivial)) ((first
              | (refine step_appV36 rfl (.tmp 59) (.tmp 62) _ rfl 8 i0 _ 8 Try.underlying129 hi hz0 hz1 hz2 rfl (by omega) w.heap.size _ 0 (celA M) rfl (OwnV.lit 8 132 w.heap.size _ (celA M) #[] 0 E0.out.size (by simp [maxLen]) rfl) _ q _ (celA M) rfl ((R0.out.below36 ((Below.refl y.heap.size y).drew.alloc (Nat.le_refl _) _)).take36 (Nat.le_of_lt hqm)) (fun _ _ => rfl) (by simp only [maxLen]; omega) (by omega) (Nat.le_trans E0.out.size (by simp)) ?_; intro v1 W1 hown1 hg1 hob1; have hB1 : Below y.heap.size y W1 := ((Below.refl y.heap.size y).drew.alloc (Nat.le_refl _) _).grown hg1 (by simp) (fun j e => by cases e; exact Nat.le_refl _); have hS1 : y.heap.size < W1.heap.size := Nat.lt_of_lt_of_le (by simp) hg1.size)
              | (refine step_appV36 rfl (.tmp 63) (.tmp 67) _ rfl 8 i0 _ 8 Try.underlying129 hi hz0 hz1 hz2 rfl (by omega) w.heap.size _ (0 + q) _ rfl hown1 _ (m - (q + 1)) (c6 - (q + 1)) _ rfl ((R0.out.below36 (by first | exact hB1 | exact hB1.drew)).cut36 (by omega)) (fun _ _ => rfl) (by simp only [maxLen]; omega) (by omega) (Nat.le_trans E0.out.size (Nat.le_trans (Nat.le_of_lt hS1) (by first | exact Nat.le_refl _ | simp))) ?_; intro v2 W2 hown2 hg2 hob2)))
            have hv1 : ∀ i, v1.ownBlock = some i → y.heap.size ≤ i := fun i hi0 => by
              rcases hob1 with e | e
              · rw [e] at hi0; cases hi0; exact Nat.le_refl _
              · rw [e] at hi0
                have := Option.some.inj hi0
                simp at this
                omega
            have hB2 : Below y.heap.size y W2 := hB1.grown hg2 (Nat.le_of_lt hS1) hv1
            have hv2 : ∀ i, v2.ownBlock = some i → y.heap.size ≤ i := fun i hi0 => by
              rcases hob2 with e | e
              · rw [e] at hi0; exact hv1 i hi0
              · rw [e] at hi0
                have := Option.some.inj hi0
                have h3 := hS1
                (try simp at this)
                omega
            have hown3 := hown2.congr (celA_two M m q)
            rw [show 0 + q + (m - (q + 1)) = m - 1 by omega] at hown3
            have V2 := hide hown3
            have P2 := hide (P0.out.below hB2)
            have K2 := hide (keepRow K0.out hB2)
            have E2 := hide (E0.out.of hB2)
            have hy1 := Hq.out
            have hy2 := Hsz.out
            have N3 : Hid (v2.ownBlock ≠ some (w.heap.size + 1)) := fun e => by have := hv2 _ e; omega
            have N4 : Hid (v2.ownBlock ≠ some w.heap.size) := fun e => by have := hv2 _ e; omega
            have Hs2 : Hid (w.heap.size + 2 ≤ W2.heap.size) := by show _ ≤ _; have := hB2.size; omega
            have Hcm : Hid (0 < cntA M m (kl (M q)) ∧ cntA M m (kl (M q)) ≤ 1000) := ⟨cntA_mem M hqm, by have := (cntA_bounds M m (kl (M q))).2; omega⟩
            clear hv1 hv2 hown1 hown2 hown3 hg1 hg2 hob1 hob2 hB1 hB2 hS1 P0 V0 K0 E0 R0 hy1 hy2
            go_wp2_with fail
            all_goals
              refine (answer36 P2.out E2.out.size (rd8 K2.out) (Hm.out q hqm) (by omega) (by have := Hn2.out; omega) Hcm.out).mono ?_
              rintro e W3 ⟨rfl, hp3, hf3⟩
              have P3 := hide hp3
              have V3 := hide (V2.out.frP N3.out N4.out hf3)
              have E3 := hide (E2.out.trans hf3.below)
              have Hs3 : Hid (w.heap.size + 2 ≤ W3.heap.size) := Nat.le_trans Hs2.out hf3.below.size
              clear hp3 hf3 P2 V2 K2 E2 Hs2
              go_wp2_with fail
              go_roundw
              case rel =>
                have hdel := cntA_del M (n := m - 1) (i := q) (by omega)
                rw [show m - 1 + 1 = m by omega] at hdel
                have p3 := P3.out
                rw [← hdel, show (m : Int) - 1 = ((m - 1 : Nat) : Int) by omega] at p3
                exact ⟨j + 1, by omega, by go_num, m - 1, ns + 1, delL q M, ⟨p3, V3.out, fun i hi0 => by
                  unfold delL
                  split
                  · exact Hm.out i (by omega)
                  · exact Hm.out (i + 1) (by omega), N3.out, N4.out⟩, by omega, by omega, E3.out, Hs3.out⟩
              case measure => simp [intOf]; omega
        · obtain rfl : n2 = j := by omega
          obtain ⟨A6, c6, rfl, hrd, _⟩ := hor.own.rd
          go_wp2_with fail
          have T0 := hide hor.pg
          have V0 := hide hor.own
          have Y0 := hide hor.byt
          have N1 := hide hor.n1
          have N2 := hide hor.n2
          have E0 := hide hbl
          have Hs0 := hide hsz
          have Hns := hide hns
          have Hj := hide hj
          have Hmn := hide hmn
          clear hor hbl hsz hrd hns
          go_loopw [76] (fun i wr => ∃ k : Nat, k ≤ m ∧ i = .int .i64 k ∧ ∃ nt : Nat, PgOk w.heap.size wr (w.heap.size + 1) w.heap.size nt 40 ((m - k : Nat) : Int) (cntA (fun i => M (i + k)) (m - k)) ∧ nt ≤ n + n2 + k ∧ OwnV 8 132 w.heap.size wr (.slice A6 m c6) m (celA M) ∧ Below w.heap.size w wr ∧ w.heap.size + 2 ≤ wr.heap.size) (fun i _ => m - (intOf i).toNat)
          case atStart => exact ⟨0, Nat.zero_le _, rfl, ns, T0.out, by have := Hns.out; have := Hj.out; omega, V0.out, E0.out, Hs0.out⟩
          case round =>
            clear T0 V0 E0 Hs0
            obtain ⟨k, hk, rfl, nt, hpg, hnt, how, hbl, hsz⟩ := hrel
            by_cases hlt3 : k < m
            · have hkm' : (k : Int) < (m : Int) := by omega
              obtain ⟨b, off, rfl, e0, e1, e2, e3, e4, e5, e6, e7⟩ := how.rdS2.at8 hlt3
              have al := (Below.refl wr.heap.size wr).alloc (Nat.le_refl _) (.cells #[.int .u8 (M k 0), .int .u8 (M k 1), .int .u8 (M k 2), .int .u8 (M k 3), .int .u8 (M k 4), .int .u8 (M k 5), .int .u8 (M k 6), .int .u8 (M k 7)] 132)
              have P0 := hide (hpg.below al)
              have V1 := hide (how.alloc (.cells #[.int .u8 (M k 0), .int .u8 (M k 1), .int .u8 (M k 2), .int .u8 (M k 3), .int .u8 (M k 4), .int .u8 (M k 5), .int .u8 (M k 6), .int .u8 (M k 7)] 132))
              have K0 := hide (heap_alloc_new wr (.cells #[.int .u8 (M k 0), .int .u8 (M k 1), .int .u8 (M k 2), .int .u8 (M k 3), .int .u8 (M k 4), .int .u8 (M k 5), .int .u8 (M k 6), .int .u8 (M k 7)] 132))
              have E1 := hide (hbl.alloc hbl.size (.cells #[.int .u8 (M k 0), .int .u8 (M k 1), .int .u8 (M k 2), .int .u8 (M k 3), .int .u8 (M k 4), .int .u8 (M k 5), .int .u8 (M k 6), .int .u8 (M k 7)] 132))
              have Hsz := hide hsz
              have Hcm : Hid (0 < cntA (fun i => M (i + k)) (m - k) (kl (M k)) ∧ cntA (fun i => M (i + k)) (m - k) (kl (M k)) ≤ 1000) := by
                have h1 := cntA_mem (fun i => M (i + k)) (n := m - k) (i := 0) (by omega)
                have h2 := (cntA_bounds (fun i => M (i + k)) (m - k) (kl (M k))).2
                simp only [Nat.zero_add] at h1
                have h3 := Hmn.out
                have h4 := Hn.out
                exact ⟨h1, by omega⟩
              have hn40 := Hn.out
              have hn2h := Hn2.out
              have hmh := Hmn.out
              clear al hpg how hbl hsz
              go_wp2_with fail
              refine (answer36 P0.out E1.out.size (rd8 K0.out) (Y0.out k hlt3) (by omega) (by omega) Hcm.out).mono ?_
              rintro e W1 ⟨rfl, hp, hf⟩
              have P1 := hide hp
              have V2 := hide (V1.out.frP N1.out N2.out hf)
              have E2 := hide (E1.out.trans hf.below)
              have Hs2 : Hid (w.heap.size + 2 ≤ W1.heap.size) := by show _ ≤ _; have h1 := hf.below.size; have h2 := Hsz.out; simp at h1; omega
              clear hp hf P0 V1 K0 E1 e0 e1 e2 e3 e4 e5 e6 e7
              go_wp2_with fail
              go_roundw
              case rel =>
                have hdel := cntA_del (fun i => M (i + k)) (n := m - (k + 1)) (i := 0) (by omega)
                rw [show m - (k + 1) + 1 = m - k by omega, shift_del] at hdel
                simp only [Nat.zero_add] at hdel
                have p1 := P1.out
                rw [← hdel, show ((m - k : Nat) : Int) - 1 = ((m - (k + 1) : Nat) : Int) by omega] at p1
                exact ⟨k + 1, by omega, by go_num, nt + 1, p1, by omega, V2.out, E2.out, Hs2.out⟩
              case measure => simp [intOf]; omega
            · obtain rfl : m = k := by omega
              rw [show ((m - m : Nat) : Int) = 0 by omega] at hpg
              go_wp2_with fail
              refine (len36 hpg).mono ?_
              rintro e w9 ⟨rfl, rfl⟩
              go_wp2_with fail
              refine (alive36 _).mono ?_
              rintro e w2 ⟨rfl, hb2⟩
              go_wp2_with fail
              go_ret
              exact ⟨rfl, hbl.of hb2⟩
end Go.Proofs.Ytnjmkbaddeeniaa
