/- Layer 24: Encode, for any sizes, fields and ways. -/
import Derived.Test.YtnkcbljhgcgpaaaDoorEn6
namespace Go.Proofs.YtnkcbljhgcgpaaaDoor
set_option linter.unusedVariables false
set_option linter.unusedSimpArgs false
open Go.RowKit Go.Deep Go.ChangeShapes Go.WideShapes

def szok (z : Nat → Int) (n : Nat) : Prop := ∀ j, j < n → 0 ≤ z j ∧ z j ≤ 2147483647
/-- What Encode comes to. -/
def EcP (B : Nat) (p : Nat) (g : Option Nat) (mx : Nat) (tb : List Fd) (z : Nat → Int) (n1 : Nat) (G : Nat → Fd) (n2 : Nat) (O : Nat → Op4) (n3 : Nat) (w : World) (e : Ending) (w' : World) : Prop :=
  (¬ szok z n1 ∧ e = .returned (.tuple #[.slice none 0 0, .int .i64 1]) ∧ w = w') ∨
  (szok z n1 ∧ ∃ (σ : Es) (v : Value) (g1 : Option Nat), e = .returned (.tuple #[v, .int .i64 0]) ∧ EnR G (optAt O n3) (ezN z n1 ⟨mx, tb, []⟩) n2 σ ∧ EcS B w p g w' v g1 σ)
theorem opt_row {w : World} {A : Option Addr} {n c : Nat} {O : Nat → Op4} (h : RdV 4 w A n c (opV O)) {k : Nat} (hk : k < n) :
    ∃ b off, A = some ⟨b, off, none⟩ ∧ w.cell? ⟨b, off + k * 4, none⟩ = some (.int .i64 (O k).way) ∧ w.cell? ⟨b, off + k * 4 + 1, none⟩ = some (.bool (O k).nn) ∧ w.cell? ⟨b, off + k * 4 + 2, none⟩ = some (.bool (O k).sn) ∧ w.cell? ⟨b, off + k * 4 + 3, none⟩ = some (.bool (O k).sv) := by
  obtain ⟨b, off, hA, hc⟩ := h.2.2.2 (by omega)
  have c0 := hc (k * 4) (by omega)
  have c1 := hc (k * 4 + 1) (by omega)
  have c2 := hc (k * 4 + 2) (by omega)
  have c3 := hc (k * 4 + 3) (by omega)
  rw [opV_0] at c0
  rw [opV_1, ← Nat.add_assoc] at c1
  rw [opV_2, ← Nat.add_assoc] at c2
  rw [opV_3, ← Nat.add_assoc] at c3
  exact ⟨b, off, hA, c0, c1, c2, c3⟩
theorem iz_row {w : World} {A : Option Addr} {n c : Nat} {z : Nat → Int} (h : RdV 1 w A n c (izV z)) {k : Nat} (hk : k < n) : ∃ b off, A = some ⟨b, off, none⟩ ∧ w.cell? ⟨b, off + k, none⟩ = some (.int .i64 (z k)) := by
  obtain ⟨b, off, hA, hc⟩ := h.2.2.2 (by omega)
  exact ⟨b, off, hA, hc k (by omega)⟩
theorem store4e {w : World} {p : Nat} {T : TypeId} {a0 a1 a2 a3 : Value} (h : w.heap[p]? = some (.cells #[a0, a1, a2, a3] T (0, 0))) (b0 b1 b2 b3 : Value) :
    (w.cell? ⟨p, 0, none⟩ = some a0 ∧ w.frozen? ⟨p, 0, none⟩ = false) ∧ ((w.setCell ⟨p, 0, none⟩ b0).cell? ⟨p, 1, none⟩ = some a1 ∧ (w.setCell ⟨p, 0, none⟩ b0).frozen? ⟨p, 1, none⟩ = false) ∧
    (((w.setCell ⟨p, 0, none⟩ b0).setCell ⟨p, 1, none⟩ b1).cell? ⟨p, 2, none⟩ = some a2 ∧ ((w.setCell ⟨p, 0, none⟩ b0).setCell ⟨p, 1, none⟩ b1).frozen? ⟨p, 2, none⟩ = false) ∧
    ((((w.setCell ⟨p, 0, none⟩ b0).setCell ⟨p, 1, none⟩ b1).setCell ⟨p, 2, none⟩ b2).cell? ⟨p, 3, none⟩ = some a3 ∧ (((w.setCell ⟨p, 0, none⟩ b0).setCell ⟨p, 1, none⟩ b1).setCell ⟨p, 2, none⟩ b2).frozen? ⟨p, 3, none⟩ = false) ∧
    ((((w.setCell ⟨p, 0, none⟩ b0).setCell ⟨p, 1, none⟩ b1).setCell ⟨p, 2, none⟩ b2).setCell ⟨p, 3, none⟩ b3).heap[p]? = some (.cells #[b0, b1, b2, b3] T (0, 0)) := by
  have h1 := setRow w p 0 b0 h
  have h2 := setRow _ p 1 b1 h1
  have h3 := setRow _ p 2 b2 h2
  have h4 := setRow _ p 3 b3 h3
  simp only [List.setIfInBounds_toArray, List.set_cons_zero, List.set_cons_succ] at h1 h2 h3 h4
  exact ⟨⟨(row4e h).1, frozenRow h 0⟩, ⟨(row4e h1).2.1, frozenRow h1 1⟩, ⟨(row4e h2).2.2.1, frozenRow h2 2⟩, ⟨(row4e h3).2.2.2, frozenRow h3 3⟩, h4⟩
theorem heap4e {w : World} {p q : Nat} (h : q ≠ p) (b0 b1 b2 b3 : Value) : ((((w.setCell ⟨p, 0, none⟩ b0).setCell ⟨p, 1, none⟩ b1).setCell ⟨p, 2, none⟩ b2).setCell ⟨p, 3, none⟩ b3).heap[q]? = w.heap[q]? := by
  rw [Below.heap_setCell _ ⟨p, 3, none⟩ _ _ h, Below.heap_setCell _ ⟨p, 2, none⟩ _ _ h, Below.heap_setCell _ ⟨p, 1, none⟩ _ _ h, Below.heap_setCell _ ⟨p, 0, none⟩ _ _ h]
theorem below4e {B : Nat} {w w' : World} {p : Nat} (h : Below B w w') (hp : B ≤ p) (b0 b1 b2 b3 : Value) : Below B w ((((w'.setCell ⟨p, 0, none⟩ b0).setCell ⟨p, 1, none⟩ b1).setCell ⟨p, 2, none⟩ b2).setCell ⟨p, 3, none⟩ b3) :=
  (((h.setCell (p := ⟨p, 0, none⟩) hp _).setCell (p := ⟨p, 1, none⟩) hp _).setCell (p := ⟨p, 2, none⟩) hp _).setCell (p := ⟨p, 3, none⟩) hp _
theorem optAt_pos {O : Nat → Op4} {m i : Nat} (h : 0 < m) : optAt O m i = O (i % m) := by unfold optAt; rw [if_pos h]
theorem optAt_zero {O : Nat → Op4} {i : Nat} : optAt O 0 i = op0 := by unfold optAt; rw [if_neg (Nat.lt_irrefl _)]
/-- Only a new block has turned. -/
theorem EcS.free {B : Nat} {w wr W' : World} {p : Nat} {g g1 : Option Nat} {v : Value} {σ : Es} {q : Nat} (h : EcS B w p g wr v g1 σ) (hq : w.heap.size ≤ q) (ho : ∀ i, v.ownBlock = some i → i ≠ q) (ht : ∀ i, tfp p g1 i → i ≠ q) (hk : ∀ i, i ≠ q → W'.heap[i]? = wr.heap[i]?) (hb : Below w.heap.size wr W') (hB : B ≤ w.heap.size) : EcS B w p g W' v g1 σ :=
  ⟨h.tl.at_ fun i hi => hk i (ht i hi), ownV_at21 h.ov fun i hi => hk i (ho i hi), h.fr.step (T := fun i => i = q) ⟨hb.mono hB, fun i _ hn => hk i hn⟩ fun i hi => .inr (hi ▸ hq), h.hg, h.sep⟩
theorem RdV.frO0 {s B : Nat} {S : Nat → Prop} {w w' : World} {A : Option Addr} {n c : Nat} {F : Nat → Value} (h : RdV s w A n c F) (hs : 0 < s) (hf : FrO B S w w') (hS : ∀ a, A = some a → 0 < n → ¬ S a.block) : RdV s w' A n c F := by
  rcases Nat.eq_zero_or_pos n with h0 | h0
  · exact ⟨h.1, h.2.1, h.2.2.1, fun hn => absurd hn (by omega)⟩
  · exact h.frO hs hf fun a ha => hS a ha h0
set_option maxRecDepth 20000 in
set_option maxHeartbeats 6400000 in
theorem encode24 {B : Nat} {w : World} {p : Nat} {g : Option Nat} {mx : Nat} {tb : List Fd} {T : Nat} (hd : TL B w p g mx tb) (hB : B ≤ w.heap.size) (hok : EsOk T ⟨mx, tb, []⟩) (hT : T ≤ 700000)
    (A1 : Option Addr) (n1 c1 : Nat) (z : Nat → Int) (h1 : RdV 1 w A1 n1 c1 (izV z)) (hn1 : n1 ≤ 1000) (t1 : ∀ a, A1 = some a → 0 < n1 → ¬ tfp p g a.block)
    (A2 : Option Addr) (n2 c2 : Nat) (G : Nat → Fd) (h2 : RdV 3 w A2 n2 c2 (fdV G)) (hn2 : n2 ≤ 1000) (t2 : ∀ a, A2 = some a → 0 < n2 → ¬ tfp p g a.block) (hG : ∀ j, j < n2 → Sm4 (G j))
    (A3 : Option Addr) (n3 c3 : Nat) (O : Nat → Op4) (h3 : RdV 4 w A3 n3 c3 (opV O)) (hn3 : n3 ≤ 1000) (t3 : ∀ a, A3 = some a → 0 < n3 → ¬ tfp p g a.block)
    (Ty : TypeId) (fr : Nat × Nat) (hg : w.heap[0]? = some (.cells formsV Ty fr)) (hgt : ¬ tfp p g 0) :
    Calls Tryd.prog 24 #[.pointer (some ⟨p, 0, none⟩), .slice A1 n1 c1, .slice A2 n2 c2, .slice A3 n3 c3] w (EcP B p g mx tb z n1 G n2 O n3 w) := by
  have Hd := hide hd
  have HB := hide hB
  have Hok := hide hok
  have H1 := hide h1
  have H2 := hide h2
  have H3 := hide h3
  have T1 := hide t1
  have T2 := hide t2
  have T3 := hide t3
  have HG := hide hG
  have Hg := hide hg
  have Hgt := hide hgt
  clear hd hB hok h1 h2 h3 t1 t2 t3 hG hg hgt
  go_enter Tryd.func24, Tryd.ntmps24
  go_wp2_with fail
  go_loop [22] (fun i => ∃ k : Nat, k ≤ n1 ∧ i = .int .i64 k ∧ ∀ j, j < k → 0 ≤ z j ∧ z j ≤ 2147483647) (fun i => n1 - (intOf i).toNat)
  case atStart => exact ⟨0, Nat.zero_le _, rfl, fun j hj => absurd hj (Nat.not_lt_zero _)⟩
  case round =>
    obtain ⟨k, hk, rfl, hz⟩ := hrel
    have Hz := hide hz
    clear hz
    by_cases hlt : k < n1
    · have hkn : (k : Int) < (n1 : Int) := by omega
      obtain ⟨b, off, rfl, hc⟩ := iz_row H1.out hlt
      by_cases hv : 0 ≤ z k ∧ z k ≤ 2147483647
      · have hv0 := hv.1
        have hv1 := hv.2
        have d1 : decide (z k < 0) = false := decide_eq_false (by omega)
        have d2 : decide ((2147483647 : Int) < z k) = false := decide_eq_false (by omega)
        have Hv := hide hv
        clear hv hv0 hv1
        generalize hx : z k = x at *
        have Hx := hide hx
        clear hx
        go_wp2_with fail
        go_round
        case rel =>
          refine ⟨k + 1, by omega, by go_num, fun j hj => ?_⟩
          rcases Nat.lt_or_ge j k with h | h
          · exact Hz.out j h
          · obtain rfl : j = k := by omega
            rw [Hx.out]
            exact Hv.out
        case measure => simp [intOf]; omega
      · have HN : Hid (¬ szok z n1) := fun h => hv (h k hlt)
        by_cases h0 : z k < 0
        · have d1 : decide (z k < 0) = true := decide_eq_true h0
          clear hv h0
          generalize z k = x at *
          go_wp2_with fail
          go_ret2
          exact .inl ⟨HN.out, rfl, rfl⟩
        · have d1 : decide (z k < 0) = false := decide_eq_false h0
          have d2 : decide ((2147483647 : Int) < z k) = true := decide_eq_true (by omega)
          clear hv h0
          generalize z k = x at *
          go_wp2_with fail
          go_ret2
          exact .inl ⟨HN.out, rfl, rfl⟩
    · obtain rfl : n1 = k := by omega
      have HZ : Hid (szok z n1) := Hz.out
      clear Hz hlt
      go_wp2_with fail
      go_loopw [12, 35] (fun v i wr => ∃ k : Nat, k ≤ n1 ∧ i = .int .i64 k ∧ ∃ g1, EcS B w p g wr v g1 (ezN z k ⟨mx, tb, []⟩)) (fun _ i _ => n1 - (intOf i).toNat)
      case atStart => exact ⟨0, Nat.zero_le _, rfl, g, Hd.out, OwnV.nil _ _ _ _ _, FrO.of (Below.refl _ _) HB.out, .inl rfl, fun i hi => by cases hi⟩
      case round =>
        obtain ⟨k, hk, rfl, g1, hs⟩ := hrel
        have HS := hide hs
        have hok := ez_ok Hok.out k fun j hj => HZ.out j (by omega)
        have hlen := ez_len z ⟨mx, tb, []⟩ k
        clear hs
        generalize hσ : ezN z k ⟨mx, tb, []⟩ = σ at *
        have Hσ := hide hσ
        have HOk := hide hok
        have htop := bN_top hok.rs
        have htl := hok.len
        simp only [List.length_nil, Nat.zero_add] at hlen
        have hN9 : bN σ.rs ≤ 1000000000 := by omega
        clear hσ hok htop
        by_cases hlt : k < n1
        · have hkn : (k : Int) < (n1 : Int) := by omega
          have H1w := hide (H1.out.frO0 (by omega) HS.out.fr T1.out)
          obtain ⟨b, off, rfl, hc⟩ := iz_row H1w.out hlt
          obtain ⟨zn, hzn⟩ : ∃ zn : Nat, z k = (zn : Int) := ⟨(z k).toNat, by have := HZ.out k hlt; omega⟩
          have hzb : (zn : Int) ≤ 2147483647 := by rw [← hzn]; exact (HZ.out k hlt).2
          rw [hzn] at hc
          have Hzn := hide hzn
          obtain ⟨Av, cv, hv', _, _⟩ := HS.out.ov.rd
          have C := hide (resizeL HS.out.tl (Nat.le_trans HB.out HS.out.fr.below.size) (by omega) zn (by omega))
          clear hzn
          subst hv'
          go_wp2_with fail
          refine C.out.mono ?_
          rintro e w2 ⟨rfl, ht2, hf2⟩
          have S2 := hide (HS.out.table HB.out ht2 hf2 (.inl rfl))
          have G2 : Hid (w2.heap[0]? = some (.cells formsV Ty fr)) := S2.out.fr.row Hg.out Hgt.out
          have C2 := hide (put24 S2.out.ov S2.out.fr.below.size hN9 (rz5 (zn : Int)) (rz5_ok (by omega) hzb) Ty fr G2.out)
          clear ht2 hf2 C HS H1w hc
          go_wp2_with fail
          refine C2.out.mono ?_
          rintro e w3 ⟨v3, rfl, ho3, hf3, hv3⟩
          have S3 := hide (S2.out.put HB.out ho3 hf3 hv3)
          clear ho3 hf3 hv3 C2 S2
          go_wp2_with fail
          go_roundw
          case rel =>
            refine ⟨k + 1, by omega, by go_num, g1, ?_⟩
            have h := S3.out
            show EcS B w p g w3 v3 g1 ⟨(z k).toNat, fitL (z k) (ezN z k ⟨mx, tb, []⟩).tb, (ezN z k ⟨mx, tb, []⟩).rs ++ [rz5 (z k)]⟩
            rw [Hσ.out, Hzn.out]
            exact h
          case measure => simp [intOf]; omega
        · obtain rfl : n1 = k := by omega
          clear hlt
          go_wp2_with fail
          go_loopw [12, 51] (fun v i wr => ∃ k : Nat, k ≤ n2 ∧ i = .int .i64 k ∧ ∃ g1 τ, EnR G (optAt O n3) σ k τ ∧ EcS B w p g wr v g1 τ) (fun _ i _ => n2 - (intOf i).toNat)
          case atStart => exact ⟨0, Nat.zero_le _, rfl, g1, σ, .zero, HS.out⟩
          case round =>
            obtain ⟨k, hk, rfl, g2, τ, hen, hs2⟩ := hrel
            obtain ⟨Av2, cv2, hv2, _, _⟩ := hs2.ov.rd
            subst hv2
            have HEn := hide hen
            have HS2 := hide hs2
            have hok2 := en_ok hen HOk.out (by omega) fun j hj => HG.out j (by omega)
            have hl2 := en_len hen
            have htop2 := bN_top hok2.rs
            have htl2 := hok2.len
            have hN9 : bN τ.rs ≤ 1000000000 := by omega
            clear hen hs2 hok2 htop2
            by_cases hlt : k < n2
            · have hkn : (k : Int) < (n2 : Int) := by omega
              have H2w := hide (H2.out.frO0 (by omega) HS2.out.fr T2.out)
              have H3w := hide (H3.out.frO0 (by omega) HS2.out.fr T3.out)
              have hgk := hide (HG.out k hlt)
              obtain ⟨b, off, rfl, d0, d1, d2⟩ := row_at21 H2w.out hlt
              generalize hGk : G k = Gk at *
              obtain ⟨nm, vl, nv⟩ := Gk
              have HGk := hide hGk
              simp only at d0 d1 d2
              have al1 := (Below.refl wr.heap.size wr).alloc (Nat.le_refl _) (.cells #[.string nm, .string vl, .bool nv] 51)
              have hs1 : (wr.alloc (.cells #[.string nm, .string vl, .bool nv] 51)).heap.size = wr.heap.size + 1 := by simp
              have al2 := (Below.refl (wr.alloc (.cells #[.string nm, .string vl, .bool nv] 51)).heap.size (wr.alloc (.cells #[.string nm, .string vl, .bool nv] 51))).alloc (Nat.le_refl _) (.cells #[.int .i64 0, .bool false, .bool false, .bool false] 99)
              have RF0 := hide (keepRow (heap_alloc_new wr (.cells #[.string nm, .string vl, .bool nv] 51)) al2)
              have ro0 := heap_alloc_new (wr.alloc (.cells #[.string nm, .string vl, .bool nv] 51)) (.cells #[.int .i64 0, .bool false, .bool false, .bool false] 99)
              rw [hs1] at ro0
              have RO0 := hide ro0
              have S3 := hide (HS2.out.below (al1.of al2) HB.out)
              have H3y := hide (H3w.out.below36O (al1.of al2))
              have hov := World.ownsRow.lt HS2.out.ov
              have hlt9 : ∀ i, tfp p g2 i → i < wr.heap.size := fun i hi => (HS2.out.tl.lt i hi).2
              have Hov : Hid (∀ i, (Value.slice Av2 (bN τ.rs) cv2).ownBlock = some i → i < wr.heap.size) := fun i hi => (hov i hi).2
              have Hlt9 := hide hlt9
              have hsz9 : Hid (wr.heap.size + 1 + 1 = ((wr.alloc (.cells #[.string nm, .string vl, .bool nv] 51)).alloc (.cells #[.int .i64 0, .bool false, .bool false, .bool false] 99)).heap.size) := by show _ = _; simp
              have hww : w.heap.size ≤ wr.heap.size := HS2.out.fr.below.size
              clear hGk al1 al2 ro0 hs1 H2w H3w hov hlt9
              go_upto_region 20 with (fail)
              clear d0 d1 d2
              generalize (wr.alloc (.cells #[.string nm, .string vl, .bool nv] 51)).alloc (.cells #[.int .i64 0, .bool false, .bool false, .bool false] 99) = W3 at *
              generalize wr.heap.size = q at *
              obtain ⟨f0, f1, f2⟩ := rowT RF0.out
              rcases Nat.eq_zero_or_pos n3 with h30 | h30
              · subst h30
                have e0 : decide ((0 : Int) < ((0 : Nat) : Int)) = false := rfl
                have HO : Hid (optAt O 0 k = ⟨0, false, false, false⟩) := optAt_zero
                have S6 := hide S3.out
                have RF := hide RF0.out
                have RO := hide RO0.out
                clear S3 RF0 RO0 f0 f1 f2
                obtain ⟨way, hway⟩ : ∃ way : Int, way = 0 := ⟨_, rfl⟩
                obtain ⟨nn, hnn⟩ : ∃ nn : Bool, nn = false := ⟨_, rfl⟩
                obtain ⟨sn, hsn⟩ : ∃ sn : Bool, sn = false := ⟨_, rfl⟩
                obtain ⟨sv, hsv⟩ : ∃ sv : Bool, sv = false := ⟨_, rfl⟩
                have HW4 := hide (And.intro hway (And.intro hnn (And.intro hsn hsv)))
                have RO' : Hid (W3.heap[q + 1]? = some (.cells #[.int .i64 way, .bool nn, .bool sn, .bool sv] 99 (0, 0))) := by rw [hway, hnn, hsn, hsv]; exact RO.out
                have HO' : Hid (optAt O 0 k = ⟨way, nn, sn, sv⟩) := by rw [hway, hnn, hsn, hsv]; exact HO.out
                clear RO HO hway hnn hsn hsv
                have RO := hide RO'.out
                have HO := hide HO'.out
                clear RO' HO'
                generalize W3 = W6 at *
                obtain ⟨f0, f1, f2⟩ := rowT RF.out
                obtain ⟨o0, o1, o2, o3⟩ := row4e RO.out
                have C := hide (written24 S6.out.tl (Nat.le_trans HB.out S6.out.fr.below.size) (by omega) nm vl nv (Sm4.wt hgk.out) way nn sn sv)
                go_wp2_with fail
                refine C.out.mono ?_
                rintro e w8 ⟨K, I, ns, a, vs, bb, l', g8, rfl, hwr, ht8, hf8, hg8⟩
                have HWr := hide hwr
                have hrok := hide (wr_ok hwr (by omega) hgk.out)
                have S8 := hide (S6.out.table HB.out ht8 hf8 hg8)
                have G8 : Hid (w8.heap[0]? = some (.cells formsV Ty fr)) := S8.out.fr.row Hg.out Hgt.out
                have C8 := hide (put24 S8.out.ov S8.out.fr.below.size hN9 ⟨K, I, ns, a, vs, bb, 0⟩ hrok.out Ty fr G8.out)
                clear hwr ht8 hf8 hg8 C S6 f0 f1 f2 o0 o1 o2 o3 RF RO
                go_wp2_with fail
                refine C8.out.mono ?_
                rintro e w9 ⟨v9, rfl, ho9, hf9, hv9⟩
                have S9 := hide (S8.out.put HB.out ho9 hf9 hv9)
                clear ho9 hf9 hv9 C8 S8
                go_wp2_with fail
                go_roundw
                case rel => exact ⟨k + 1, by omega, by go_num, g8, ⟨τ.mx, l', τ.rs ++ [⟨K, I, ns, a, vs, bb, 0⟩]⟩, .succ HEn.out (by rw [HGk.out, HO.out]; exact HWr.out), S9.out⟩
                case measure => simp [intOf]; omega
              · have e0 : decide ((0 : Int) < (n3 : Int)) = true := decide_eq_true (by omega)
                have e0' : decide (0 < n3) = true := decide_eq_true h30
                have hmod : k % n3 < n3 := Nat.mod_lt _ h30
                have hz3 : ((n3 : Int) == 0) = false := by simp; omega
                have hrem : (k : Int) % (n3 : Int) = ((k % n3 : Nat) : Int) := (Int.natCast_emod k n3).symm
                have hrem2 : Int.tmod (k : Int) (n3 : Int) = ((k % n3 : Nat) : Int) := (Int.ofNat_tmod k n3).symm
                have hmi : ((k % n3 : Nat) : Int) < (n3 : Int) := by omega
                obtain ⟨b3, off3, rfl, y0, y1, y2, y3⟩ := opt_row H3y.out hmod
                have HO : Hid (optAt O n3 k = O (k % n3)) := optAt_pos h30
                generalize hOo : O (k % n3) = Oo at *
                obtain ⟨way, nn, sn, sv⟩ := Oo
                simp only at y0 y1 y2 y3
                obtain ⟨kk, hkk⟩ : ∃ kk, kk = k % n3 := ⟨_, rfl⟩
                rw [← hkk] at hrem hrem2 hmod hmi y0 y1 y2 y3
                have Hkk := hide hkk
                obtain ⟨⟨k0, z0⟩, ⟨k1, z1⟩, ⟨k2, z2⟩, ⟨k3, z3⟩, rr⟩ := store4e RO0.out (.int .i64 way) (.bool nn) (.bool sn) (.bool sv)
                have RO := hide rr
                have RF := hide ((heap4e (show q ≠ q + 1 by omega) (.int .i64 way) (.bool nn) (.bool sn) (.bool sv)).trans RF0.out)
                have S6 := hide (S3.out.free (q := q + 1) (by omega) (fun i hi => by have := Hov.out i hi; omega) (fun i hi => by have := Hlt9.out i hi; omega) (fun i hi => heap4e hi (.int .i64 way) (.bool nn) (.bool sn) (.bool sv)) (below4e (Below.refl w.heap.size W3) (by omega) _ _ _ _) HB.out)
                clear rr hOo hkk S3 RF0 RO0
                go_upto_region 22 with (fail)
                clear k0 z0 k1 z1 k2 z2 k3 z3 y0 y1 y2 y3 f0 f1 f2 hrem hrem2
                generalize (((W3.setCell ⟨q + 1, 0, none⟩ (.int .i64 way)).setCell ⟨q + 1, 1, none⟩ (.bool nn)).setCell ⟨q + 1, 2, none⟩ (.bool sn)).setCell ⟨q + 1, 3, none⟩ (.bool sv) = W6 at *
                obtain ⟨f0, f1, f2⟩ := rowT RF.out
                obtain ⟨o0, o1, o2, o3⟩ := row4e RO.out
                have C := hide (written24 S6.out.tl (Nat.le_trans HB.out S6.out.fr.below.size) (by omega) nm vl nv (Sm4.wt hgk.out) way nn sn sv)
                go_wp2_with fail
                refine C.out.mono ?_
                rintro e w8 ⟨K, I, ns, a, vs, bb, l', g8, rfl, hwr, ht8, hf8, hg8⟩
                have HWr := hide hwr
                have hrok := hide (wr_ok hwr (by omega) hgk.out)
                have S8 := hide (S6.out.table HB.out ht8 hf8 hg8)
                have G8 : Hid (w8.heap[0]? = some (.cells formsV Ty fr)) := S8.out.fr.row Hg.out Hgt.out
                have C8 := hide (put24 S8.out.ov S8.out.fr.below.size hN9 ⟨K, I, ns, a, vs, bb, 0⟩ hrok.out Ty fr G8.out)
                clear hwr ht8 hf8 hg8 C S6 f0 f1 f2 o0 o1 o2 o3 RF RO
                go_wp2_with fail
                refine C8.out.mono ?_
                rintro e w9 ⟨v9, rfl, ho9, hf9, hv9⟩
                have S9 := hide (S8.out.put HB.out ho9 hf9 hv9)
                clear ho9 hf9 hv9 C8 S8
                go_wp2_with fail
                go_roundw
                case rel => exact ⟨k + 1, by omega, by go_num, g8, ⟨τ.mx, l', τ.rs ++ [⟨K, I, ns, a, vs, bb, 0⟩]⟩, .succ HEn.out (by rw [HGk.out, HO.out]; exact HWr.out), S9.out⟩
                case measure => simp [intOf]; omega
            · obtain rfl : n2 = k := by omega
              go_wp2_with fail
              go_ret2
              exact .inr ⟨HZ.out, τ, .slice Av2 (bN τ.rs) cv2, g2, rfl, by rw [Hσ.out]; exact HEn.out, HS2.out⟩
end Go.Proofs.YtnkcbljhgcgpaaaDoor
