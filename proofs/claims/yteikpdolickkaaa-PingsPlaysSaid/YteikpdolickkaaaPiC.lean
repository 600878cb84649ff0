/- Layer 36: whatever is sent and answered. -/
import Derived.Test.YteikpdolickkaaaPiB
namespace Go.Proofs.Yteikpdolickkaaa
open Go.RowKit Go.Maps Go.Deep Go.ChangeShapes Go.WideShapes

theorem Rd.frP36 {B p bm : Nat} {w w' : World} {q n c : Nat} {F : Nat → Int} (h : Rd .u8 w (some ⟨q, 0, none⟩) n c F) (hf : FrP B p bm w w') (h1 : q ≠ p) (h2 : q ≠ bm) : Rd .u8 w' (some ⟨q, 0, none⟩) n c F :=
  ⟨h.1, h.2.1, h.2.2.1, fun hn => by
    obtain ⟨b, off, hA, hc⟩ := h.2.2.2 hn
    cases hA
    refine ⟨q, 0, rfl, fun i hi => ?_⟩
    have h3 := hc i hi
    have h4 := hf.keep q (World.block_lt_of_cell? w _ h3) h1 h2
    rw [← h3]
    simp only [World.cell?, h4]⟩
/-- Those that wait, by the program and by the reference. -/
structure PlS (B p bm : Nat) (w : World) (v : Value) (k ns : Nat) (most : Int) (S C : Nat → Nat) (L : Nat → Nat → Int) : Prop where
  pg : PgOk B w p bm ns most (k : Int) (cntA L k)
  own : OwnV 1 22 B w v k (slS S C)
  rows : ∀ i, i < k → (S i ≠ p ∧ S i ≠ bm) ∧ Rd .u8 w (some ⟨S i, 0, none⟩) 8 (C i) (L i) ∧ Byt 8 (L i)
  n1 : v.ownBlock ≠ some p
  n2 : v.ownBlock ≠ some bm
theorem PlS.below {B p bm : Nat} {w w' : World} {v : Value} {k ns : Nat} {most : Int} {S C : Nat → Nat} {L : Nat → Nat → Int} (h : PlS B p bm w v k ns most S C L) (hb : Below w.heap.size w w') : PlS B p bm w' v k ns most S C L :=
  ⟨h.pg.below hb, h.own.below hb, fun i hi => ⟨(h.rows i hi).1, (h.rows i hi).2.1.below hb, (h.rows i hi).2.2⟩, h.n1, h.n2⟩
theorem OwnV.base36 {s : Nat} {e : TypeId} {B B' : Nat} {w : World} {v : Value} {n : Nat} {F : Nat → Value} (h : OwnV s e B w v n F) (hB : B' ≤ B) : OwnV s e B' w v n F := by
  refine ⟨h.1, ?_⟩
  rcases h.2 with h2 | ⟨g, cap, cur, hv, hg, hh, r⟩
  · exact .inl h2
  · exact .inr ⟨g, cap, cur, hv, Nat.le_trans hB hg, hh, r⟩
theorem waitsMiss36 {B : Nat} {w : World} {p bm n : Nat} {most cnt : Int} {f : List Int → Int} (h : PgOk B w p bm n most cnt f) {A : Option Addr} {m c : Nat} {F : Nat → Int} (ha : Rd .u8 w A m c F) (hb : Byt m F) (hm : ¬ (m = 8 ∧ 0 < f (kl F))) :
    Calls Try.prog 88 #[.pointer (some ⟨p, 0, none⟩), .slice A m c] w fun e w' => e = .returned (.bool false) ∧ Below w.heap.size w w' := by
  by_cases h8 : m = 8
  · subst h8
    refine (waits36 h ha hb).mono ?_
    rintro e w' ⟨rfl, h2⟩
    rw [decide_eq_false (fun h => hm ⟨rfl, h⟩)]
    exact ⟨rfl, h2⟩
  · exact waitsNo36 ha (.inl h8)
theorem answerMiss36 {B : Nat} {w : World} {p bm n : Nat} {most cnt : Int} {f : List Int → Int} (h : PgOk B w p bm n most cnt f) {A : Option Addr} {m c : Nat} {F : Nat → Int} (ha : Rd .u8 w A m c F) (hb : Byt m F) (hm : ¬ (m = 8 ∧ 0 < f (kl F))) :
    Calls Try.prog 89 #[.pointer (some ⟨p, 0, none⟩), .slice A m c] w fun e w' => e = .returned (.bool false) ∧ Below w.heap.size w w' := by
  by_cases h8 : m = 8
  · subst h8
    exact answerNo36 h ha hb (fun h => hm ⟨rfl, h⟩)
  · exact answerOut36 ha (.inl h8)
theorem row2D36 {w : World} {b : Nat} {T : TypeId} {v0 v1 : Value} (h : w.heap[b]? = some (.cells #[v0, v1] T (0, 0))) : w.cell? ⟨b, 0, none⟩ = some v0 ∧ w.cell? ⟨b, 1, none⟩ = some v1 := row2 h
set_option maxRecDepth 20000 in
set_option maxHeartbeats 3200000 in
theorem plays36_walk (most : Int) (A : Option Addr) (n c : Nat) (F : Nat → Dd) (w : World) (ha : RdD w A n c F) :
    Calls Try.prog 14 #[.int .i64 most, .slice A n c] w (Yes w) := by
  have Ha := hide ha
  have hn63 : (n : Int) ≤ 9223372036854775807 := by have h1 := ha.1; have h2 := ha.2.1; simp only [maxLen] at h2; omega
  clear ha
  go_enter Try.func14, Try.ntmps14
  go_wp2_with fail
  refine (large36 Ha.out).mono ?_
  rintro e w0 ⟨h1, rfl⟩
  rcases h1 with rfl | ⟨rfl, h60⟩
  · go_wp2_with fail
    refine (alive36 _).mono ?_
    rintro e w2 ⟨rfl, hb2⟩
    go_wp2_with fail
    go_ret
    exact ⟨rfl, hb2⟩
  have Hn := hide h60
  clear h60
  have P' := hide (PgOk.new w (max most 0))
  have E' := hide (((Below.refl w.heap.size w).alloc (Nat.le_refl _) (.map #[] 0)).alloc (by simp) (.cells #[.int .i64 (max most 0), .map (some w.heap.size), .int .i64 0] 215))
  go_wp2_with fail
  refine (newAny36 most _).mono ?_
  rintro e z ⟨rfl, rfl⟩
  have hsz : ((w.alloc (.map #[] 0)).alloc (.cells #[.int .i64 (max most 0), .map (some w.heap.size), .int .i64 0] 215)).heap.size = w.heap.size + 2 := by simp
  generalize ((w.alloc (.map #[] 0)).alloc (.cells #[.int .i64 (max most 0), .map (some w.heap.size), .int .i64 0] 215)) = z at *
  have O0 : Hid (PlS w.heap.size (w.heap.size + 1) w.heap.size z (.slice none 0 0) 0 0 (max most 0) (fun _ => 0) (fun _ => 0) (fun _ _ => 0)) := ⟨P'.out, OwnV.nil _ _ _ _ _, fun i hi => by omega, by simp [Value.ownBlock], by simp [Value.ownBlock]⟩
  have E0 := hide E'.out
  have S0 : Hid (w.heap.size + 2 ≤ z.heap.size) := by show _ ≤ _; omega
  clear P' E' hsz
  go_wp2_with fail
  go_loopw [7, 23] (fun v i wr => ∃ k : Nat, k ≤ n ∧ i = .int .i64 k ∧ ∃ (mm ns : Nat) (S C : Nat → Nat) (L : Nat → Nat → Int), PlS w.heap.size (w.heap.size + 1) w.heap.size wr v mm ns (max most 0) S C L ∧ ns ≤ k ∧ mm ≤ k ∧ Below w.heap.size w wr ∧ w.heap.size + 2 ≤ wr.heap.size) (fun _ i _ => n - (intOf i).toNat)
  case atStart => exact ⟨0, Nat.zero_le _, rfl, 0, 0, _, _, _, O0.out, Nat.le_refl _, Nat.le_refl _, E0.out, S0.out⟩
  case round =>
    obtain ⟨k, hk, rfl, mm, ns, S, C, L, hpl, hns, hmm, hbl, hsz⟩ := hrel
    clear O0 E0 S0
    by_cases hlt : k < n
    · have hkn' : (k : Int) < (n : Int) := by omega
      obtain ⟨b, off, rfl, hc0, hc1, _, _⟩ := (Ha.out.below hbl).at_ hlt
      obtain ⟨hr, hby⟩ := Ha.out.2.2.2.2 k hlt
      generalize F k = D at *
      obtain ⟨dh, dA, dn, dc, db⟩ := D
      simp only at hc0 hc1 hr hby
      have Hr := hide hr
      have Hby := hide hby
      obtain ⟨A6, c6, rfl, hrd, _⟩ := hpl.own.rd
      have hc6 := hrd.1
      have al := (Below.refl wr.heap.size wr).alloc (Nat.le_refl _) (.cells #[.bool dh, .slice dA dn dc] 168)
      have P0 := hide (hpl.below al)
      have D0 := hide (heap_alloc_new wr (.cells #[.bool dh, .slice dA dn dc] 168))
      have E0 := hide (hbl.of al)
      have Hsz : Hid (w.heap.size + 2 ≤ wr.heap.size) := hsz
      have S0 : Hid (wr.heap.size < (wr.alloc (.cells #[.bool dh, .slice dA dn dc] 168)).heap.size) := by show _ < _; simp
      obtain ⟨t0, t1⟩ := row2D36 D0.out
      have hn60 := Hn.out
      clear hpl hbl al hrd hr hby
      cases dh with
      | true =>
        go_wp2_with fail
        generalize hpd : wr.heap.size = pd at *
        generalize hz : wr.alloc (.cells #[.bool true, .slice dA dn dc] 168) = z0 at *
        have N1 : Hid (pd ≠ w.heap.size + 1) := by show _ ≠ _; have := Hsz.out; omega
        have N2 : Hid (pd ≠ w.heap.size) := by show _ ≠ _; have := Hsz.out; omega
        have Hp : Hid (pd < z0.heap.size) := S0.out
        clear hz hpd hc0 hc1 S0
        refine (rans36 P0.out.own (fun i hi => (P0.out.rows i hi).2.1) (by omega) E0.out.size (Hr.out.below E0.out)).mono ?_
        rintro e w1 ⟨hb, ⟨i, v1, hi, h8, hkl, rfl, hown⟩ | ⟨hno, rfl⟩⟩
        · have Hv1 : Hid (∀ q, q < z0.heap.size → v1.ownBlock ≠ some q) := fun q hq e => by have := (World.ownsRow.lt hown q e).1; omega
          have O1 := hide (hown.base36 E0.out.size)
          clear hown
          have P1 := hide (P0.out.below hb)
          have D1 := hide (keepRow D0.out hb)
          have E1 := hide (E0.out.of hb)
          clear hb P0 D0 E0 t0 t1
          obtain ⟨t0, t1⟩ := row2D36 D1.out
          subst h8
          have Hkl := hide hkl
          clear hkl
          have hcm := cntA_mem L hi
          rw [Hkl.out] at hcm
          have hcb := (cntA_bounds L mm (kl db)).2
          have Hcf : Hid (0 < cntA L mm (kl db) ∧ cntA L mm (kl db) ≤ 1000) := ⟨hcm, by omega⟩
          clear hcm hcb
          go_wp2_with fail
          refine (waits36 P1.out.pg (Hr.out.below E1.out) Hby.out).mono ?_
          rintro e w2 ⟨rfl, hb⟩
          rw [decide_eq_true Hcf.out.1]
          have O2 := hide (O1.out.below hb)
          have P2 := hide (P1.out.below hb)
          have D2 := hide (keepRow D1.out hb)
          have E2 := hide (E1.out.of hb)
          clear hb P1 D1 E1 t0 t1
          obtain ⟨t0, t1⟩ := row2D36 D2.out
          go_wp2_with fail
          refine (answer36 P2.out.pg E2.out.size (Hr.out.below E2.out) Hby.out (by omega) (by omega) Hcf.out).mono ?_
          rintro e w3 ⟨rfl, hp, hf⟩
          have P3 : Hid (PlS w.heap.size (w.heap.size + 1) w.heap.size w3 v1 (mm - 1) (ns + 1) (max most 0) (delN i S) (delN i C) (delL i L)) := by
            have hdel := cntA_del L (n := mm - 1) (i := i) (by omega)
            rw [show mm - 1 + 1 = mm by omega, Hkl.out] at hdel
            rw [← hdel, show (mm : Int) - 1 = ((mm - 1 : Nat) : Int) by omega] at hp
            have hz0 := Hp.out
            have hz1 := Hsz.out
            refine ⟨hp, O2.out.frP (Hv1.out _ (by omega)) (Hv1.out _ (by omega)) hf, fun j hj => ?_, Hv1.out _ (by omega), Hv1.out _ (by omega)⟩
            have key : ∀ x, x < mm → (S x ≠ w.heap.size + 1 ∧ S x ≠ w.heap.size) ∧ Rd .u8 w3 (some ⟨S x, 0, none⟩) 8 (C x) (L x) ∧ Byt 8 (L x) := fun x hx => by
              obtain ⟨⟨q1, q2⟩, q3, q4⟩ := P2.out.rows x hx
              exact ⟨⟨q1, q2⟩, q3.frP36 hf q1 q2, q4⟩
            unfold delN delL
            split
            · exact key j (by omega)
            · exact key (j + 1) (by omega)
          have D3 := hide (hf.row D2.out N1.out N2.out)
          have E3 := hide (E2.out.trans hf.below)
          clear hp hf P2 D2 E2 t0 t1 O2
          obtain ⟨t0, t1⟩ := row2D36 D3.out
          go_wp2_with fail
          refine (waitsNo36 (q := none) (Hr.out.below E3.out) (.inr rfl)).mono ?_
          rintro e w4 ⟨rfl, hb⟩
          have P4 := hide (P3.out.below hb)
          have D4 := hide (keepRow D3.out hb)
          have E4 := hide (E3.out.of hb)
          clear hb P3 D3 E3 t0 t1
          obtain ⟨t0, t1⟩ := row2D36 D4.out
          go_wp2_with fail
          refine (answerOut36 (q := none) (Hr.out.below E4.out) (.inr rfl)).mono ?_
          rintro e w5 ⟨rfl, hb⟩
          have P5 := hide (P4.out.below hb)
          have D5 := hide (keepRow D4.out hb)
          have E5 := hide (E4.out.of hb)
          clear hb P4 D4 E4 t0 t1
          obtain ⟨t0, t1⟩ := row2D36 D5.out
          have hmm1 : mm - 1 + 1 = mm := by omega
          obtain ⟨A7, c7, rfl, _, _⟩ := P5.out.own.rd
          go_wp2_with fail
          refine (len36 P5.out.pg).mono ?_
          rintro e wl ⟨rfl, rfl⟩
          go_wp2_with fail
          refine (lenNil36 _).mono ?_
          rintro e wl ⟨rfl, rfl⟩
          go_wp2_with fail
          go_roundw
          case rel => exact ⟨k + 1, by omega, by go_num, mm - 1, ns + 1, delN i S, delN i C, delL i L, P5.out, by omega, by omega, E5.out, (by have h1 := Hsz.out; have h2 := rowLt D5.out; omega)⟩
          case measure => simp [intOf]; omega
        · have P1 := hide (P0.out.below hb)
          have D1 := hide (keepRow D0.out hb)
          have E1 := hide (E0.out.of hb)
          clear hb P0 D0 E0 t0 t1
          obtain ⟨t0, t1⟩ := row2D36 D1.out
          have Hmiss : Hid (¬ (dn = 8 ∧ 0 < cntA L mm (kl db))) := fun h => by
            have h2 := cntA_none L (n := mm) (k := kl db) (fun i hi e => hno i hi ⟨h.1, e⟩)
            have h3 := h.2
            omega
          clear hno
          go_wp2_with fail
          refine (waitsMiss36 P1.out.pg (Hr.out.below E1.out) Hby.out Hmiss.out).mono ?_
          rintro e w2 ⟨rfl, hb⟩
          have P2 := hide (P1.out.below hb)
          have D2 := hide (keepRow D1.out hb)
          have E2 := hide (E1.out.of hb)
          clear hb P1 D1 E1 t0 t1
          obtain ⟨t0, t1⟩ := row2D36 D2.out
          go_wp2_with fail
          refine (answerMiss36 P2.out.pg (Hr.out.below E2.out) Hby.out Hmiss.out).mono ?_
          rintro e w3 ⟨rfl, hb⟩
          have P3 := hide (P2.out.below hb)
          have D3 := hide (keepRow D2.out hb)
          have E3 := hide (E2.out.of hb)
          clear hb P2 D2 E2 t0 t1
          obtain ⟨t0, t1⟩ := row2D36 D3.out
          go_wp2_with fail
          refine (waitsNo36 (q := none) (Hr.out.below E3.out) (.inr rfl)).mono ?_
          rintro e w4 ⟨rfl, hb⟩
          have P4 := hide (P3.out.below hb)
          have D4 := hide (keepRow D3.out hb)
          have E4 := hide (E3.out.of hb)
          clear hb P3 D3 E3 t0 t1
          obtain ⟨t0, t1⟩ := row2D36 D4.out
          go_wp2_with fail
          refine (answerOut36 (q := none) (Hr.out.below E4.out) (.inr rfl)).mono ?_
          rintro e w5 ⟨rfl, hb⟩
          have P5 := hide (P4.out.below hb)
          have D5 := hide (keepRow D4.out hb)
          have E5 := hide (E4.out.of hb)
          clear hb P4 D4 E4 t0 t1
          obtain ⟨t0, t1⟩ := row2D36 D5.out
          go_wp2_with fail
          refine (len36 P5.out.pg).mono ?_
          rintro e wl ⟨rfl, rfl⟩
          go_wp2_with fail
          refine (lenNil36 _).mono ?_
          rintro e wl ⟨rfl, rfl⟩
          go_wp2_with fail
          go_roundw
          case rel => exact ⟨k + 1, by omega, by go_num, mm, ns, S, C, L, P5.out, by omega, by omega, E5.out, (by have h1 := Hsz.out; have h2 := rowLt D5.out; omega)⟩
          case measure => simp [intOf]; omega
      | false =>
        go_wp2_with fail
        generalize hpd : wr.heap.size = pd at *
        generalize hz : wr.alloc (.cells #[.bool false, .slice dA dn dc] 168) = z0 at *
        have N1 : Hid (pd ≠ w.heap.size + 1) := by show _ ≠ _; have := Hsz.out; omega
        have N2 : Hid (pd ≠ w.heap.size) := by show _ ≠ _; have := Hsz.out; omega
        have Hp : Hid (pd < z0.heap.size) := S0.out
        clear hz hpd hc0 hc1 S0
        by_cases h8 : dn = 8
        · subst h8
          by_cases hfull : (most : Int) ≤ mm
          · refine (rsendFull36 most hfull _).mono ?_
            rintro e wl ⟨rfl, rfl⟩
            go_wp2_with fail
            refine (sendFull36 P0.out.pg (Hr.out.below E0.out) (by omega)).mono ?_
            rintro e w1 ⟨rfl, hb⟩
            have P1 := hide (P0.out.below hb)
            have D1 := hide (keepRow D0.out hb)
            have E1 := hide (E0.out.of hb)
            clear hb P0 D0 E0 t0 t1
            obtain ⟨t0, t1⟩ := row2D36 D1.out
            go_wp2_with fail
            refine (sendNil36 _ _).mono ?_
            rintro e wl ⟨rfl, rfl⟩
            go_wp2_with fail
            refine (len36 P1.out.pg).mono ?_
            rintro e wl ⟨rfl, rfl⟩
            go_wp2_with fail
            refine (lenNil36 _).mono ?_
            rintro e wl ⟨rfl, rfl⟩
            go_wp2_with fail
            go_roundw
            case rel => exact ⟨k + 1, by omega, by go_num, mm, ns, S, C, L, P1.out, by omega, by omega, E1.out, (by have h1 := Hsz.out; have h2 := rowLt D1.out; omega)⟩
            case measure => simp [intOf]; omega
          · refine (rsend36 P0.out.own (by omega) E0.out.size (Hr.out.below E0.out) most (by omega)).mono ?_
            rintro e w1 ⟨v1, q, c', rfl, hown, hrq, hq, hb⟩
            have Hv1 : Hid (∀ q, q < z0.heap.size → v1.ownBlock ≠ some q) := fun q hq e => by have := (World.ownsRow.lt hown q e).1; omega
            have O1 := hide (hown.base36 E0.out.size)
            have R1 := hide hrq
            have Hq := hide hq
            clear hown hrq hq
            have P1 := hide (P0.out.below hb)
            have D1 := hide (keepRow D0.out hb)
            have E1 := hide (E0.out.of hb)
            clear hb P0 D0 E0 t0 t1
            obtain ⟨t0, t1⟩ := row2D36 D1.out
            go_wp2_with fail
            have hcb := cntA_bounds L mm (kl db)
            refine (send36 P1.out.pg E1.out.size (Hr.out.below E1.out) Hby.out (by omega) (by omega) (by omega) (by omega) (by omega)).mono ?_
            rintro e w2 ⟨rfl, hp, hf⟩
            have P2 : Hid (PlS w.heap.size (w.heap.size + 1) w.heap.size w2 v1 (mm + 1) (ns + 1) (max most 0) (appN mm S q) (appN mm C c') (appL mm L db)) := by
              rw [← cntA_app, show (mm : Int) + 1 = ((mm + 1 : Nat) : Int) by omega] at hp
              have hz0 := Hp.out
              have hz1 := Hsz.out
              have hz2 := Hq.out
              refine ⟨hp, O1.out.frP (Hv1.out _ (by omega)) (Hv1.out _ (by omega)) hf, fun j hj => ?_, Hv1.out _ (by omega), Hv1.out _ (by omega)⟩
              unfold appN appL
              split
              · rename_i hj2
                obtain ⟨⟨q1, q2⟩, q3, q4⟩ := P1.out.rows j hj2
                exact ⟨⟨q1, q2⟩, q3.frP36 hf q1 q2, q4⟩
              · exact ⟨⟨by omega, by omega⟩, R1.out.frP36 hf (by omega) (by omega), Hby.out⟩
            have D2 := hide (hf.row D1.out N1.out N2.out)
            have E2 := hide (E1.out.trans hf.below)
            clear hp hf P1 D1 E1 t0 t1 O1 R1
            obtain ⟨t0, t1⟩ := row2D36 D2.out
            go_wp2_with fail
            refine (sendNil36 _ _).mono ?_
            rintro e wl ⟨rfl, rfl⟩
            obtain ⟨A7, c7, rfl, _, _⟩ := P2.out.own.rd
            go_wp2_with fail
            refine (len36 P2.out.pg).mono ?_
            rintro e wl ⟨rfl, rfl⟩
            go_wp2_with fail
            refine (lenNil36 _).mono ?_
            rintro e wl ⟨rfl, rfl⟩
            go_wp2_with fail
            go_roundw
            case rel => exact ⟨k + 1, by omega, by go_num, mm + 1, ns + 1, appN mm S q, appN mm C c', appL mm L db, P2.out, by omega, by omega, E2.out, (by have h1 := Hsz.out; have h2 := rowLt D2.out; omega)⟩
            case measure => simp [intOf]; omega
        · refine (rsendArg36 _ most h8 _).mono ?_
          rintro e wl ⟨rfl, rfl⟩
          go_wp2_with fail
          refine (sendArg36 (Hr.out.below E0.out) h8).mono ?_
          rintro e w1 ⟨rfl, hb⟩
          have P1 := hide (P0.out.below hb)
          have D1 := hide (keepRow D0.out hb)
          have E1 := hide (E0.out.of hb)
          clear hb P0 D0 E0 t0 t1
          obtain ⟨t0, t1⟩ := row2D36 D1.out
          go_wp2_with fail
          refine (sendNil36 _ _).mono ?_
          rintro e wl ⟨rfl, rfl⟩
          go_wp2_with fail
          refine (len36 P1.out.pg).mono ?_
          rintro e wl ⟨rfl, rfl⟩
          go_wp2_with fail
          refine (lenNil36 _).mono ?_
          rintro e wl ⟨rfl, rfl⟩
          go_wp2_with fail
          go_roundw
          case rel => exact ⟨k + 1, by omega, by go_num, mm, ns, S, C, L, P1.out, by omega, by omega, E1.out, (by have h1 := Hsz.out; have h2 := rowLt D1.out; omega)⟩
          case measure => simp [intOf]; omega
    · obtain rfl : n = k := by omega
      go_wp2_with fail
      refine (alive36 _).mono ?_
      rintro e w2 ⟨rfl, hb2⟩
      go_wp2_with fail
      go_ret
      exact ⟨rfl, hbl.of hb2⟩
end Go.Proofs.Yteikpdolickkaaa
