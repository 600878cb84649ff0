/- Layer 23: the document's Decode, for any bytes. -/
import Derived.Test.YtnkcbljhgcgpaaaDoorMW
import Derived.RegionTactic
namespace Go.Proofs.YtnkcbljhgcgpaaaDoor
set_option linter.unusedVariables false
set_option linter.unusedSimpArgs false
open Go.RowKit Go.Deep Go.ChangeShapes Go.WideShapes

theorem step2q {W : World} {p q : Nat} {T1 T2 : TypeId} {x0 x1 y0 y1 : Value} (h1 : W.heap[p]? = some (.cells #[x0, x1] T1 (0, 0))) (h2 : W.heap[q]? = some (.cells #[y0, y1] T2 (0, 0))) (b0 b1 : Value) :
    (W.cell? ⟨p, 0, none⟩ = some x0 ∧ W.cell? ⟨p, 1, none⟩ = some x1) ∧ (W.cell? ⟨q, 0, none⟩ = some y0 ∧ W.frozen? ⟨q, 0, none⟩ = false) ∧ ((W.setCell ⟨q, 0, none⟩ b0).cell? ⟨q, 1, none⟩ = some y1 ∧ (W.setCell ⟨q, 0, none⟩ b0).frozen? ⟨q, 1, none⟩ = false) ∧
    ((W.setCell ⟨q, 0, none⟩ b0).setCell ⟨q, 1, none⟩ b1).heap[q]? = some (.cells #[b0, b1] T2 (0, 0)) :=
  ⟨row2 h1, store2z h2 b0 b1⟩

theorem DrK.free {w W W' : World} {A0 : Option Addr} {n0 c0 mx0 : Nat} {Vf Vs : Value} {An : Option Addr} {cn p : Nat} {σ : Ds} (h : DrK w A0 n0 c0 mx0 W Vf Vs An cn σ) (hp : w.heap.size + 3 ≤ p) (ho : ∀ i, Vf.ownBlock = some i → i < p) (hs : ∀ i, Vs.ownBlock = some i → i < p) (ha : ∀ a, An = some a → a.block < p) (hk : ∀ i, i ≠ p → W'.heap[i]? = W.heap[i]?) (hz : W'.heap.size = W.heap.size) (he : Below w.heap.size w W') : DrK w A0 n0 c0 mx0 W' Vf Vs An cn σ :=
  ⟨h.of.at_ fun i hi => hk i (by have := ho i hi; omega), h.os.at_ fun i hi => hk i (by have := hs i hi; omega), (hk _ (by omega)).trans h.now, h.rd.at21 fun a h1 => hk _ (by have := ha a h1; omega), fun a h1 => ⟨by rw [hz]; exact (h.al a h1).1, (h.al a h1).2⟩, h.fs, (hk _ (by omega)).trans h.q2, (hk _ (by omega)).trans h.q6, he⟩
theorem store12 {w : World} {p : Nat} {T : TypeId} {a0 a1 a2 : Value} (h : w.heap[p]? = some (.cells #[a0, a1, a2] T (0, 0))) (b1 b2 : Value) :
    (w.cell? ⟨p, 1, none⟩ = some a1 ∧ w.frozen? ⟨p, 1, none⟩ = false) ∧ ((w.setCell ⟨p, 1, none⟩ b1).cell? ⟨p, 2, none⟩ = some a2 ∧ (w.setCell ⟨p, 1, none⟩ b1).frozen? ⟨p, 2, none⟩ = false) ∧
    ((w.setCell ⟨p, 1, none⟩ b1).setCell ⟨p, 2, none⟩ b2).heap[p]? = some (.cells #[a0, b1, b2] T (0, 0)) := by
  have h2 := setRow w p 1 b1 h
  have h3 := setRow _ p 2 b2 h2
  simp only [List.setIfInBounds_toArray, List.set_cons_zero, List.set_cons_succ] at h2 h3
  exact ⟨⟨(rowT h).2.1, frozenRow h 1⟩, ⟨(rowT h2).2.2, frozenRow h2 2⟩, h3⟩
theorem heap12 {w : World} {p q : Nat} (h : q ≠ p) (b1 b2 : Value) : ((w.setCell ⟨p, 1, none⟩ b1).setCell ⟨p, 2, none⟩ b2).heap[q]? = w.heap[q]? := by
  rw [Below.heap_setCell _ ⟨p, 2, none⟩ _ _ h, Below.heap_setCell _ ⟨p, 1, none⟩ _ _ h]
theorem sz12 {w : World} {p : Nat} (b1 b2 : Value) : ((w.setCell ⟨p, 1, none⟩ b1).setCell ⟨p, 2, none⟩ b2).heap.size = w.heap.size := by simp [World.setCell]
/-- The state of its loop. -/
def DrL (w : World) (f : Nat → Int) (n : Nat) (mx : Nat) (tb : List Fd) (T : Nat) (A0 : Option Addr) (c0 : Nat) (b vf vs : Value) (W : World) (t : Nat) : Prop :=
  ∃ (σ : Ds) (A' : Option Addr) (c' : Nat) (Af : Option Addr) (cf : Nat) (As : Option Addr) (cs : Nat) (An : Option Addr) (cn : Nat), t ≤ n ∧ b = .slice A' (n - t) c' ∧ vf = .slice Af σ.fs.length cf ∧ vs = .slice As σ.szs.length cs ∧ Rd .u8 w A' (n - t) c' (fun j => f (t + j)) ∧
    (∀ r, DcR f n t σ r → DcR f n 0 ⟨[], [], mx, tb⟩ r) ∧ DsOk (T + t) σ ∧ σ.fs.length ≤ t ∧ σ.szs.length ≤ t ∧ DrK w A0 tb.length c0 mx W (.slice Af σ.fs.length cf) (.slice As σ.szs.length cs) An cn σ
/-- What a round needs of the state ahead of it. -/
def DrN (w : World) (f : Nat → Int) (n : Nat) (mx : Nat) (tb : List Fd) (T : Nat) (t N : Nat) (A' : Option Addr) (c' : Nat) (σ : Ds) : Prop :=
  N = n - t ∧ Rd .u8 w A' N c' (fun j => f (t + j)) ∧ (∀ r, DcR f n t σ r → DcR f n 0 ⟨[], [], mx, tb⟩ r) ∧ DsOk (T + t) σ ∧ σ.fs.length ≤ t ∧ σ.szs.length ≤ t ∧ Byt N (fun j => f (t + j)) ∧ n ≤ 100000
theorem DrL.next {w W : World} {f : Nat → Int} {n mx T t N m' : Nat} {tb : List Fd} {A0 A' : Option Addr} {c0 c' : Nat} {σ σ' : Ds} {k i z : Int} {ns vs : ByteArray} {a b : Bool} {Af As An : Option Addr} {cf cs cn nf nz gk : Nat}
    (h : DrN w f n mx tb T t N A' c' σ) (ht : t + gk = n) (hm1 : 1 ≤ m') (hm2 : m' ≤ N) (hR : GtR (fun j => f (t + j)) N k i ns a vs b z (m' : Int) 0) (hd : dstep σ k i ns vs z = .inl σ') (e1 : nf = σ'.fs.length) (e2 : nz = σ'.szs.length)
    (hK : DrK w A0 tb.length c0 mx W (.slice Af nf cf) (.slice As nz cs) An cn σ') :
    ∃ t', t' + (gk - m') = n ∧ DrL w f n mx tb T A0 c0 (.slice (cutA A' c' m') (N - m') (c' - m')) (.slice Af nf cf) (.slice As nz cs) W t' := by
  obtain ⟨hN, hr, himp, hok, hl1, hl2, hb, hn⟩ := h
  subst e1 e2
  have hrg := gtr_rng hb hR
  have hst := dstep_ok hok (by omega) (by omega) hrg.2.2.2.2.2.2.1 hd
  have hnt : N - m' = n - (t + m') := by omega
  refine ⟨t + m', by omega, σ', cutA A' c' m', c' - m', Af, cf, As, cs, An, cn, by omega, by rw [hnt], rfl, rfl, ?_, fun r hr => himp r (.go (m := (m' : Int)) (by omega) (by rw [← hN]; exact hR) hd hr), ?_, by omega, by omega, hK⟩
  · rw [← hnt]
    exact (hr.cutR (lo := m') (hi := N) (by omega) (Nat.le_refl _)).congr fun j _ => by rw [Nat.add_assoc]
  · have := hst.1
    exact ⟨this.fs, this.tb, by have := this.len; omega, this.mx⟩

set_option maxRecDepth 20000 in
set_option maxHeartbeats 12800000 in
theorem rdecode23 {w : World} {A : Option Addr} {c mx : Nat} {tb : List Fd} {T : Nat} (hd : RdV 3 w A tb.length c (fdV (fn tb))) (hA : ∀ a, A = some a → a.block < w.heap.size) (hmx : mx ≤ 2147483647) (hsm : ∀ f ∈ tb, SmF f) (hT : tb.length ≤ T) (hT2 : T ≤ 700000) (A1 : Option Addr) (n c1 : Nat) (f : Nat → Int) (ha : Rd .u8 w A1 n c1 f) (hb : Byt n f) (hn : n ≤ 1000) :
    Calls Tryd.prog 11 #[.agg #[.slice A tb.length c, .int .i64 (mx : Int)], .slice A1 n c1] w (DrP f n mx tb A c w) := by
  obtain ⟨iF, hiF, hF2, hF3, hF4⟩ := info_parts field_info
  obtain ⟨iI, hiI, hI2, hI3, hI4⟩ := info_parts int_infoD
  have K0 : Hid (DrK w A tb.length c mx (((w.alloc (.cells #[.slice A tb.length c, .int .i64 (mx : Int)] 37)).alloc (.cells #[.slice none 0 0, .int .i64 0] 37)).alloc (.cells #[.slice A tb.length c, .int .i64 (mx : Int)] 37)) (.slice none 0 0) (.slice none 0 0) A c ⟨[], [], mx, tb⟩) := by
    obtain ⟨r0, r1, r2, e0⟩ := heap3_21 w #[.slice A tb.length c, .int .i64 (mx : Int)] #[.slice none 0 0, .int .i64 0] #[.slice A tb.length c, .int .i64 (mx : Int)] 37 37 37
    exact ⟨OwnO.nil _ _ _ _ _, OwnO.nil _ _ _ _ _, r2, hd.below36O e0, fun a h => ⟨Nat.lt_of_lt_of_le (hA a h) e0.size, .inl ⟨a, h, rfl, hA a h⟩, fun e => (by cases e), fun e => (by cases e)⟩, fun i e => (by cases e), r0, r1, e0⟩
  have Ha := hide ha
  have Hb := hide hb
  have Hok : Hid (DsOk (T + 0) ⟨[], [], mx, tb⟩) := ⟨fun f hf => absurd hf (by simp), hsm, hT, hmx⟩
  have Hn := hide hn
  clear hd hA ha hb hsm hT
  go_enter Tryd.func11, Tryd.ntmps11
  go_upto_region 4 with (fail)
  generalize hW : (((w.alloc (.cells #[.slice A tb.length c, .int .i64 (mx : Int)] 37)).alloc (.cells #[.slice none 0 0, .int .i64 0] 37)).alloc (.cells #[.slice A tb.length c, .int .i64 (mx : Int)] 37)) = W3 at *
  clear hW
  go_loopg [1, 8, 9] n (fun gk b vf vs wr => ∃ t, t + gk = n ∧ DrL w f n mx tb T A c b vf vs wr t)
  case atStart =>
    exact ⟨0, by omega, _, A1, c1, none, 0, none, 0, A, c, Nat.zero_le _, rfl, rfl, rfl, Ha.out.congr fun i _ => by rw [Nat.zero_add], fun r h => h, Hok.out, Nat.le_refl _, Nat.le_refl _, K0.out⟩
  case round =>
    obtain ⟨t, htg, σ, A', c', Af, cf, As, cs, An, cn, htn, rfl, rfl, rfl, hr, himp, hok, hl1, hl2, hK⟩ := hrel
    obtain ⟨N, hN⟩ : ∃ N, N = n - t := ⟨_, rfl⟩
    rw [← hN] at hr ⊢
    have HL : Hid (DrN w f n mx tb T t N A' c' σ) := ⟨hN, hr, himp, hok, hl1, hl2, fun i hi => Hb.out (t + i) (by omega), by have := Hn.out; omega⟩
    have HL0 := hide HL.out
    have KR := hide hK
    have hNn : N ≤ 1000 := by have := Hn.out; omega
    have hfl : σ.fs.length ≤ 1000 := by have := Hn.out; omega
    have hzl : σ.szs.length ≤ 1000 := by have := Hn.out; omega
    have htl : σ.tb.length ≤ 800000 := by have := hok.len; have := Hn.out; omega
    have hmxs := hok.mx
    have HN := hide hN
    clear hN hr himp hok hl1 hl2 hK K0 Hok
    by_cases h0 : N = 0
    · subst h0
      have hd0 : decide ((0 : Int) < ((0 : Nat) : Int)) = false := rfl
      have hlast : Hid (DcR f n 0 ⟨[], [], mx, tb⟩ (.inl σ)) := HL.out.2.2.1 _ (.done (by have := HN.out; omega))
      obtain ⟨⟨v0, v1⟩, ⟨u0, y0⟩, ⟨u1, y1⟩, rr2⟩ := step2q KR.out.now KR.out.q6 (.slice An σ.tb.length cn) (.int .i64 (σ.mx : Int))
      have RQ2 := hide rr2
      clear rr2
      go_wp2_with fail
      go_region
      all_goals
        go_wp2_with fail
        obtain ⟨n0, n1⟩ := row2 RQ2.out
        have hne : ∀ a, An = some a → a.block ≠ w.heap.size + 1 := fun a ha => by
          rcases (KR.out.al a ha).2.1 with ⟨a0, _, e, l⟩ | l <;> omega
        refine bodyPost_ret (v := .tuple #[.slice Af σ.fs.length cf, .slice As σ.szs.length cs, .agg #[.slice An σ.tb.length cn, .int .i64 (σ.mx : Int)], .int .i64 0]) ?_ rfl ⟨.inl σ, hlast.out, Af, cf, As, cs, An, cn, rfl, ?_, ?_, ?_, ?_, (KR.out.e.drew.setCell (p := ⟨w.heap.size + 1, 0, none⟩) (Nat.le_succ _) _).setCell (p := ⟨w.heap.size + 1, 1, none⟩) (Nat.le_succ _) _⟩
        · rw [results_ttct rfl]
          go_simp
        · refine (KR.out.of.at_ fun i hi => heap2d (fun e => ?_) _ _).base (by omega)
          have := (KR.out.of.lt i hi).1; omega
        · refine (KR.out.os.at_ fun i hi => heap2d (fun e => ?_) _ _).base (by omega)
          have := (KR.out.os.lt i hi).1; omega
        · exact (RdV.set21 (w := wr.drew) KR.out.rd hne 0 _).set21 hne 1 _
        · intro a ha
          have := KR.out.al a ha
          refine ⟨by simpa [World.setCell] using this.1, ?_⟩
          rcases this.2.1 with ⟨a0, h1, h2, _⟩ | h
          · exact .inl ⟨a0, h1, h2⟩
          · exact .inr (by omega)
    · have hd0 : decide ((0 : Int) < (N : Int)) = true := decide_eq_true (by omega)
      have hd0' : decide (0 < N) = true := decide_eq_true (by omega)
      go_wp2_with fail
      refine (rget22 A' N c' _ _ (HL.out.2.1.below KR.out.e) HL.out.2.2.2.2.2.2.1 (by omega)).mono ?_
      rintro e w4 ⟨k, i, ns, a, vs, b, z, m, er, rfl, hR, hb4⟩
      have al5 := (Below.refl w4.heap.size w4).alloc (Nat.le_refl _) (.cells #[.int .i64 k, .int .i64 i, .string ns, .bool a, .string vs, .bool b, .int .i64 z] 86)
      have R5 := hide (heap_alloc_new w4 (.cells #[.int .i64 k, .int .i64 i, .string ns, .bool a, .string vs, .bool b, .int .i64 z] 86))
      have HR := hide hR
      have K5 := hide (KR.out.below (hb4.of al5))
      have hpp : Hid (w.heap.size + 3 ≤ w4.heap.size) := by show _ ≤ _; have := rowLt KR.out.now; have := hb4.size; omega
      clear hR hb4 al5 KR
      go_upto_region 6 with (fail)
      generalize hW : w4.alloc (.cells #[.int .i64 k, .int .i64 i, .string ns, .bool a, .string vs, .bool b, .int .i64 z] 86) = W at *
      generalize hP : w4.heap.size = pp at *
      clear hW hP
      have htn' : Hid (t < n) := by show _ < _; have := HN.out; omega
      by_cases her : er = 0
      rotate_left
      · have hz : ((er : Int) != 0) = true := by simpa using her
        have hz' : ((er : Int) == 0) = false := by simpa using her
        have HDf : Hid (DcR f n 0 ⟨[], [], mx, tb⟩ (.inr er)) := HL.out.2.2.1 _ (.bad htn'.out (by rw [← HN.out]; exact HR.out) her)
        have Hnz := hide her
        have KW := hide K5.out
        clear her
        go_upto_region 7 with (fail)
        obtain ⟨⟨v0, v1⟩, ⟨u0, y0⟩, ⟨u1, y1⟩, rr2⟩ := step2q KW.out.q2 KW.out.q6 (.slice A tb.length c) (.int .i64 (mx : Int))
        have RQ2 := hide rr2
        have EW := hide KW.out.e
        clear rr2
        go_region
        all_goals
          go_wp2_with fail
          obtain ⟨n0, n1⟩ := row2 RQ2.out
          refine bodyPost_ret (v := .tuple #[.slice none 0 0, .slice none 0 0, .agg #[.slice A tb.length c, .int .i64 (mx : Int)], .int .i64 er]) ?_ rfl ⟨.inr er, HDf.out, rfl, Hnz.out, (EW.out.drew.setCell (p := ⟨w.heap.size + 1, 0, none⟩) (Nat.le_succ _) _).setCell (p := ⟨w.heap.size + 1, 1, none⟩) (Nat.le_succ _) _⟩
          rw [results_ttct rfl]
          go_simp
      · subst her
        obtain ⟨hm1, hm2, hk5, hi0, hi1, hz0, hz1, hk1, hns, hvs⟩ := gtr_rng HL.out.2.2.2.2.2.2.1 HR.out
        obtain ⟨m', rfl⟩ : ∃ m' : Nat, m = (m' : Int) := ⟨m.toNat, by omega⟩
        have hcut := bytes_cut A' N c' m' (by omega)
        have HRr := hide HR.out
        have hm1' : 1 ≤ m' := by omega
        have hm2' : m' ≤ N := by omega
        have hgk : m' ≤ gk := by have := HN.out; omega
        have Htg := hide htg
        obtain ⟨b0, b1, b2, b3, b4, b5, b6⟩ := row7D R5.out
        have Hok := hide HL.out.2.2.2.1
        clear hm1 hm2
        by_cases h5 : k = 5
        · subst h5
          have hd5 : dstep σ 5 i ns vs z = if σ.fs.length = 0 then .inl ⟨σ.fs, σ.szs ++ [z], z.toNat, fitL z σ.tb⟩ else .inr 13 := by unfold dstep; rw [if_pos rfl]
          by_cases hf0 : σ.fs.length = 0
          · rw [if_pos hf0] at hd5
            have hdz : decide (0 < σ.fs.length) = false := decide_eq_false (by omega)
            have hdz' : decide ((0 : Int) < (σ.fs.length : Int)) = false := decide_eq_false (by omega)
            have HD := hide hd5
            clear hd5 hk5 hk1 hf0
            have hwl : ∀ f ∈ σ.tb, wt f ≤ 1000000 := fun f hf => (Hok.out.tb f hf).wt
            obtain ⟨zn, rfl⟩ : ∃ zn : Nat, z = (zn : Int) := ⟨z.toNat, by omega⟩
            obtain ⟨x0, x1⟩ := row2 K5.out.now
            have C := hide (rresizeL (mx := (σ.mx : Int)) K5.out.rd (fun a ha => (K5.out.al a ha).1) (by omega) hwl (zn : Int))
            clear hwl
            go_wp2_with fail
            refine C.out.mono ?_
            rintro e w7 ⟨A7, c7, rfl, hr7, ha7, hb7⟩
            have K7 := hide (K5.out.setT hb7 (mx' := zn) hr7 (fun a ha => .inl (ha7 a ha)))
            obtain ⟨⟨u0, y0⟩, ⟨u1, y1⟩, rr⟩ := store2z (keepRow K5.out.now hb7) (.slice A7 (fitL (zn : Int) σ.tb).length c7) (.int .i64 (zn : Int))
            have RB7 : Hid (((w7.setCell ⟨w.heap.size + 2, 0, none⟩ (.slice A7 (fitL (zn : Int) σ.tb).length c7)).setCell ⟨w.heap.size + 2, 1, none⟩ (.int .i64 (zn : Int))).heap[pp]? = some (.cells #[.int .i64 5, .int .i64 i, .string ns, .bool a, .string vs, .bool b, .int .i64 (zn : Int)] 86 (0, 0))) := (heap2d (by have := hpp.out; omega) _ _).trans (keepRow R5.out hb7)
            clear hr7 ha7 hb7 rr C x0 x1 b0 b1 b2 b3 b4 b5 b6 K5 R5
            go_upto_region 13 with (fail)
            generalize (w7.setCell ⟨w.heap.size + 2, 0, none⟩ (.slice A7 (fitL (zn : Int) σ.tb).length c7)).setCell ⟨w.heap.size + 2, 1, none⟩ (.int .i64 (zn : Int)) = W9 at *
            clear u0 y0 u1 y1
            obtain ⟨b0, b1, b2, b3, b4, b5, b6⟩ := row7D RB7.out
            have alA := (Below.refl W9.heap.size W9).alloc (Nat.le_refl _) (.cells #[.int .i64 (zn : Int)] 3)
            have KA := hide (K7.out.below alA)
            have LxA : Hid (RdV 1 (W9.alloc (.cells #[.int .i64 (zn : Int)] 3)) (some ⟨W9.heap.size, 0, none⟩) 1 1 (fun _ => .int .i64 (zn : Int))) := (OwnV.lit 1 3 0 W9 (fun _ => .int .i64 (zn : Int)) #[.int .i64 (zn : Int)] 1 (Nat.zero_le _) (by simp [maxLen]) rfl).rdS2
            have BA : Hid (w.heap.size + 3 ≤ (W9.alloc (.cells #[.int .i64 (zn : Int)] 3)).heap.size) := by show _ ≤ _; have := rowLt K7.out.now; simp; omega
            clear alA
            go_wp2_with (at_builtin; refine wp_appO rfl (.tmp 45) (.tmp 48) _ rfl 1 iI _ 8 Tryd.underlying30 hiI hI2 hI3 hI4 rfl (by omega) (w.heap.size + 3) _ σ.szs.length (inV σ.szs) rfl KA.out.os W9.heap.size 0 1 1 (fun _ => .int .i64 (zn : Int)) rfl LxA.out (by omega) (fun _ _ => rfl) (by simp only [maxLen]; omega) (by omega) BA.out ?_; intro v4 w4 hown4 hg4 hob4; have K4 := hide (KA.out.setS hg4 (zn : Int) hown4 hob4); obtain ⟨A4, c4, rfl, _, _⟩ := hown4.rd; clear hown4 hg4 hob4)
            go_roundg (gk - m')
            case rel => exact DrL.next HL0.out Htg.out hm1' hm2' HRr.out HD.out (by simp) (by simp) K4.out
            case measure => omega
          · rw [if_neg hf0] at hd5
            have hdz : decide (0 < σ.fs.length) = true := decide_eq_true (by omega)
            have hdz' : decide ((0 : Int) < (σ.fs.length : Int)) = true := decide_eq_true (by omega)
            have HDf : Hid (DcR f n 0 ⟨[], [], mx, tb⟩ (.inr 13)) := HL.out.2.2.1 _ (.fault htn'.out (by rw [← HN.out]; exact HR.out) hd5)
            have Hnz : Hid ((13 : Int) ≠ 0) := by show _ ≠ _; omega
            have KW := hide K5.out
            clear hd5 hf0 hk5 hk1
            go_upto_region 11 with (fail)
            obtain ⟨⟨v0, v1⟩, ⟨u0, y0⟩, ⟨u1, y1⟩, rr2⟩ := step2q KW.out.q2 KW.out.q6 (.slice A tb.length c) (.int .i64 (mx : Int))
            have RQ2 := hide rr2
            have EW := hide KW.out.e
            clear rr2
            go_region
            all_goals
              go_wp2_with fail
              obtain ⟨n0, n1⟩ := row2 RQ2.out
              refine bodyPost_ret (v := .tuple #[.slice none 0 0, .slice none 0 0, .agg #[.slice A tb.length c, .int .i64 (mx : Int)], .int .i64 13]) ?_ rfl ⟨.inr 13, HDf.out, rfl, Hnz.out, (EW.out.drew.setCell (p := ⟨w.heap.size + 1, 0, none⟩) (Nat.le_succ _) _).setCell (p := ⟨w.heap.size + 1, 1, none⟩) (Nat.le_succ _) _⟩
              rw [results_ttct rfl]
              go_simp
        · have k5 : ((k : Int) == 5) = false := by simpa using h5
          have hal := (Below.refl W.heap.size W).alloc (Nat.le_refl _) (.cells #[.string ns, .string ⟨#[]⟩, .bool false] 51)
          have R6 := hide (heap_alloc_new W (.cells #[.string ns, .string ⟨#[]⟩, .bool false] 51))
          have R5' := hide (keepRow R5.out hal)
          have K6 := hide (K5.out.below hal)
          have hpq : Hid (pp < W.heap.size) := rowLt R5.out
          have hOw : Hid ((∀ i, (Value.slice Af σ.fs.length cf).ownBlock = some i → i < W.heap.size) ∧ (∀ i, (Value.slice As σ.szs.length cs).ownBlock = some i → i < W.heap.size) ∧ ∀ a, An = some a → a.block < W.heap.size) := ⟨fun i hi => (K5.out.of.lt i hi).2, fun i hi => (K5.out.os.lt i hi).2, fun a ha => (K5.out.al a ha).1⟩
          have hpf3 : Hid (w.heap.size + 3 ≤ W.heap.size) := Nat.le_trans hpp.out (Nat.le_of_lt hpq.out)
          obtain ⟨bv, hbv⟩ : ∃ bv : Bool, ((k : Int) == 4) = bv := ⟨_, rfl⟩
          clear hal
          go_upto_region 15 with (fail)
          generalize hW : W.alloc (.cells #[.string ns, .string ⟨#[]⟩, .bool false] 51) = W6 at *
          generalize hP : W.heap.size = pf at *
          clear hW hP R5 K5 b0 b1 b2 b3 b4 b5 b6
          obtain ⟨b0, b1, b2, b3, b4, b5, b6⟩ := row7D R5'.out
          obtain ⟨f0, f1, f2⟩ := rowT R6.out
          rcases (show i = 0 ∨ 0 < i by omega) with h0i | h0i
          · subst h0i
            have hk1' : k ≠ 1 := fun e => by have := hk1 e; omega
            have k1 : ((k : Int) != 1) = true := by simpa using hk1'
            have e1 : dfld σ.tb k 0 ns vs = some ⟨ns, vs, k == 4⟩ := by unfold dfld; rw [if_neg (by omega)]
            clear hk1 hk1'
            have hsF : Hid (SmF ⟨ns, vs, bv⟩) := ⟨(by omega : ns.size ≤ 200000), (by omega : vs.size ≤ 200000)⟩
            rw [hbv] at e1
            obtain ⟨⟨m1, l1⟩, ⟨m2, l2⟩, rr⟩ := store12 R6.out (.string vs) (.bool bv)
            have RFa := hide rr
            have KAa : Hid (DrK w A tb.length c mx ((W6.setCell ⟨pf, 1, none⟩ (.string vs)).setCell ⟨pf, 2, none⟩ (.bool bv)) (.slice Af σ.fs.length cf) (.slice As σ.szs.length cs) An cn σ) := K6.out.free hpf3.out hOw.out.1 hOw.out.2.1 hOw.out.2.2 (fun i hi => heap12 hi _ _) (sz12 _ _) ((K6.out.e.setCell (p := ⟨pf, 1, none⟩) (by show w.heap.size ≤ pf; have := hpf3.out; omega) _).setCell (p := ⟨pf, 2, none⟩) (by show w.heap.size ≤ pf; have := hpf3.out; omega) _)
            have RBa : Hid (((W6.setCell ⟨pf, 1, none⟩ (.string vs)).setCell ⟨pf, 2, none⟩ (.bool bv)).heap[pp]? = some (.cells #[.int .i64 k, .int .i64 0, .string ns, .bool a, .string vs, .bool b, .int .i64 z] 86 (0, 0))) := (heap12 (Nat.ne_of_lt hpq.out) _ _).trans R5'.out
            have RBs : Hid ((W6.setCell ⟨pf, 1, none⟩ (.string vs)).heap[pp]? = some (.cells #[.int .i64 k, .int .i64 0, .string ns, .bool a, .string vs, .bool b, .int .i64 z] 86 (0, 0))) := (Below.heap_setCell _ ⟨pf, 1, none⟩ _ _ (Nat.ne_of_lt hpq.out)).trans R5'.out
            obtain ⟨x0, x1, x2, x3, x4, x5, x6⟩ := row7D RBs.out
            clear rr
            go_upto_region 23 with (fail)
            clear m1 l1 m2 l2 x0 x1 x2 x3 x4 x5 x6 b0 b1 b2 b3 b4 b5 b6 f0 f1 f2 RBs K6 R6 R5'
            generalize ((W6.setCell ⟨pf, 1, none⟩ (.string vs)).setCell ⟨pf, 2, none⟩ (.bool bv)) = Wa at *
            obtain ⟨b0, b1, b2, b3, b4, b5, b6⟩ := row7D RBa.out
            by_cases h2 : k = 2
            · have k2 : ((k : Int) == 2) = true := by simpa using h2
              have hds : dstep σ k 0 ns vs z = .inl ⟨σ.fs ++ [⟨ns, vs, bv⟩], σ.szs, σ.mx, addL σ.mx ⟨ns, vs, bv⟩ σ.tb⟩ := by unfold dstep; rw [if_neg h5, e1]; simp only; rw [if_pos h2]
              have HD := hide hds
              have hwl : ∀ f ∈ σ.tb, wt f ≤ 1000000 := fun f hf => (Hok.out.tb f hf).wt
              have C := hide (raddL KAa.out.rd (by omega) hwl hmxs ⟨ns, vs, bv⟩ hsF.out.wt)
              obtain ⟨q0, q1⟩ := row2 KAa.out.now
              obtain ⟨f0, f1, f2⟩ := rowT RFa.out
              clear hds e1 h2 h5 hwl
              go_wp2_with fail
              refine C.out.mono ?_
              rintro e w7 ⟨A7, c7, rfl, hr7, ha7, hb7⟩
              have K7 := hide (KAa.out.setT hb7 (mx' := σ.mx) hr7 (fun a ha => .inr (ha7 a ha)))
              obtain ⟨⟨u0, y0⟩, ⟨u1, y1⟩, rr⟩ := store2z (keepRow KAa.out.now hb7) (.slice A7 (addL σ.mx ⟨ns, vs, bv⟩ σ.tb).length c7) (.int .i64 (σ.mx : Int))
              have RW : Hid (((w7.setCell ⟨w.heap.size + 2, 0, none⟩ (.slice A7 (addL σ.mx ⟨ns, vs, bv⟩ σ.tb).length c7)).setCell ⟨w.heap.size + 2, 1, none⟩ (.int .i64 (σ.mx : Int))).heap[pf]? = some (.cells #[.string ns, .string vs, .bool bv] 51 (0, 0))) := (heap2d (by have := hpf3.out; omega) _ _).trans (keepRow RFa.out hb7)
              have KW := hide K7.out
              clear hr7 ha7 hb7 rr C q0 q1 f0 f1 f2 b0 b1 b2 b3 b4 b5 b6 KAa RFa RBa K7
              go_upto_region 25 with (fail)
              generalize (w7.setCell ⟨w.heap.size + 2, 0, none⟩ (.slice A7 (addL σ.mx ⟨ns, vs, bv⟩ σ.tb).length c7)).setCell ⟨w.heap.size + 2, 1, none⟩ (.int .i64 (σ.mx : Int)) = W at *
              clear u0 y0 u1 y1
              obtain ⟨f0, f1, f2⟩ := rowT RW.out
              have alA := (Below.refl W.heap.size W).alloc (Nat.le_refl _) (.cells #[.string ns, .string vs, .bool bv] 51)
              have KA := hide (KW.out.below alA)
              have LxA : Hid (RdV 3 (W.alloc (.cells #[.string ns, .string vs, .bool bv] 51)) (some ⟨W.heap.size, 0, none⟩) 1 1 (fdV fun _ => ⟨ns, vs, bv⟩)) := (OwnV.lit 3 51 0 W (fdV fun _ => ⟨ns, vs, bv⟩) #[.string ns, .string vs, .bool bv] 1 (Nat.zero_le _) (by simp [maxLen]) rfl).rdS2
              have BA : Hid (w.heap.size + 3 ≤ (W.alloc (.cells #[.string ns, .string vs, .bool bv] 51)).heap.size) := by show _ ≤ _; have := rowLt KW.out.now; simp; omega
              clear alA
              go_wp2_with (at_builtin; refine wp_appO rfl (.tmp 83) (.tmp 85) _ rfl 3 iF _ 40 Tryd.underlying25 hiF hF2 hF3 hF4 rfl (by omega) (w.heap.size + 3) _ σ.fs.length (fdV (fn σ.fs)) rfl KA.out.of W.heap.size 0 1 1 (fdV fun _ => ⟨ns, vs, bv⟩) rfl LxA.out (by omega) (fdV_one _ _) (by simp only [maxLen]; omega) (by omega) BA.out ?_; intro v4 w4 hown4 hg4 hob4; have K4 := hide (KA.out.setF hg4 ⟨ns, vs, bv⟩ hown4 hob4); obtain ⟨A4, c4, rfl, _, _⟩ := hown4.rd; clear hown4 hg4 hob4)
              go_roundg (gk - m')
              case rel => exact DrL.next HL0.out Htg.out hm1' hm2' HRr.out HD.out (by simp) (by simp) K4.out
              case measure => omega
            · have k2 : ((k : Int) == 2) = false := by simpa using h2
              have hds : dstep σ k 0 ns vs z = .inl ⟨σ.fs ++ [⟨ns, vs, bv⟩], σ.szs, σ.mx, σ.tb⟩ := by unfold dstep; rw [if_neg h5, e1]; simp only; rw [if_neg h2]
              have HD := hide hds
              clear hds e1 h2 h5
              go_upto_region 25 with (fail)
              have KW := hide KAa.out
              have RW := hide RFa.out
              clear b0 b1 b2 b3 b4 b5 b6 KAa RFa RBa
              generalize Wa = W at *
              obtain ⟨f0, f1, f2⟩ := rowT RW.out
              have alA := (Below.refl W.heap.size W).alloc (Nat.le_refl _) (.cells #[.string ns, .string vs, .bool bv] 51)
              have KA := hide (KW.out.below alA)
              have LxA : Hid (RdV 3 (W.alloc (.cells #[.string ns, .string vs, .bool bv] 51)) (some ⟨W.heap.size, 0, none⟩) 1 1 (fdV fun _ => ⟨ns, vs, bv⟩)) := (OwnV.lit 3 51 0 W (fdV fun _ => ⟨ns, vs, bv⟩) #[.string ns, .string vs, .bool bv] 1 (Nat.zero_le _) (by simp [maxLen]) rfl).rdS2
              have BA : Hid (w.heap.size + 3 ≤ (W.alloc (.cells #[.string ns, .string vs, .bool bv] 51)).heap.size) := by show _ ≤ _; have := rowLt KW.out.now; simp; omega
              clear alA
              go_wp2_with (at_builtin; refine wp_appO rfl (.tmp 83) (.tmp 85) _ rfl 3 iF _ 40 Tryd.underlying25 hiF hF2 hF3 hF4 rfl (by omega) (w.heap.size + 3) _ σ.fs.length (fdV (fn σ.fs)) rfl KA.out.of W.heap.size 0 1 1 (fdV fun _ => ⟨ns, vs, bv⟩) rfl LxA.out (by omega) (fdV_one _ _) (by simp only [maxLen]; omega) (by omega) BA.out ?_; intro v4 w4 hown4 hg4 hob4; have K4 := hide (KA.out.setF hg4 ⟨ns, vs, bv⟩ hown4 hob4); obtain ⟨A4, c4, rfl, _, _⟩ := hown4.rd; clear hown4 hg4 hob4)
              go_roundg (gk - m')
              case rel => exact DrL.next HL0.out Htg.out hm1' hm2' HRr.out HD.out (by simp) (by simp) K4.out
              case measure => omega
          · have hdi : decide (0 < i) = true := decide_eq_true h0i
            obtain ⟨x0, x1⟩ := row2 K6.out.now
            go_wp2_with fail
            refine (rat23 K6.out.rd (by omega) i (by omega) hi1).mono ?_
            rintro e w7 ⟨nm, vl, nv, has, rfl, hv, hb7⟩
            have al8 := (Below.refl w7.heap.size w7).alloc (Nat.le_refl _) (.cells #[.string nm, .string vl, .bool nv] 51)
            have RT8 := hide (heap_alloc_new w7 (.cells #[.string nm, .string vl, .bool nv] 51))
            have RB8 := hide (keepRow R5'.out (hb7.of al8))
            have RF8 := hide (keepRow R6.out (hb7.of al8))
            have K8 := hide (K6.out.below (hb7.of al8))
            have HV := hide hv
            have hpt : Hid (w7.heap.size ≠ pf) := by show _ ≠ _; have := rowLt R6.out; have := hb7.size; omega
            clear hv hb7 al8 K6 R6 R5' b0 b1 b2 b3 b4 b5 b6 f0 f1 f2 x0 x1
            go_upto_region 17 with (fail)
            generalize hW : w7.alloc (.cells #[.string nm, .string vl, .bool nv] 51) = W8 at *
            generalize hP : w7.heap.size = pt at *
            clear hW hP
            obtain ⟨b0, b1, b2, b3, b4, b5, b6⟩ := row7D RB8.out
            obtain ⟨t0, t1, t2⟩ := rowT RT8.out
            rcases HV.out with ⟨hp, rfl, rfl, rfl, rfl⟩ | ⟨fg, hp, rfl, rfl, rfl, rfl⟩
            · have hds : dstep σ k i ns vs z = .inr 12 := by
                unfold dstep dfld
                rw [if_neg h5, if_pos h0i, hp]
              have HDf : Hid (DcR f n 0 ⟨[], [], mx, tb⟩ (.inr 12)) := HL.out.2.2.1 _ (.fault htn'.out (by rw [← HN.out]; exact HR.out) hds)
              have Hnz : Hid ((12 : Int) ≠ 0) := by show _ ≠ _; omega
              have KW := hide K8.out
              clear hds hp hk1 hk5 h5
              go_upto_region 18 with (fail)
              obtain ⟨⟨v0, v1⟩, ⟨u0, y0⟩, ⟨u1, y1⟩, rr2⟩ := step2q KW.out.q2 KW.out.q6 (.slice A tb.length c) (.int .i64 (mx : Int))
              have RQ2 := hide rr2
              have EW := hide KW.out.e
              clear rr2
              go_region
              all_goals
                go_wp2_with fail
                obtain ⟨n0, n1⟩ := row2 RQ2.out
                refine bodyPost_ret (v := .tuple #[.slice none 0 0, .slice none 0 0, .agg #[.slice A tb.length c, .int .i64 (mx : Int)], .int .i64 12]) ?_ rfl ⟨.inr 12, HDf.out, rfl, Hnz.out, (EW.out.drew.setCell (p := ⟨w.heap.size + 1, 0, none⟩) (Nat.le_succ _) _).setCell (p := ⟨w.heap.size + 1, 1, none⟩) (Nat.le_succ _) _⟩
                rw [results_ttct rfl]
                go_simp
            · obtain ⟨nm, vl, nv⟩ := fg
              simp only at *
              have hsf := atP_sm Hok.out.tb hp
              obtain ⟨⟨m0, l0⟩, ⟨m1, l1⟩, ⟨m2, l2⟩, rr⟩ := store3d RF8.out (.string nm) (.string vl) (.bool nv)
              have RF9 := hide rr
              have K9 : Hid (DrK w A tb.length c mx (((W8.setCell ⟨pf, 0, none⟩ (.string nm)).setCell ⟨pf, 1, none⟩ (.string vl)).setCell ⟨pf, 2, none⟩ (.bool nv)) (.slice Af σ.fs.length cf) (.slice As σ.szs.length cs) An cn σ) := K8.out.free hpf3.out hOw.out.1 hOw.out.2.1 hOw.out.2.2 (fun i hi => heap3d hi _ _ _) (heapsz3 _ _ _) (below3d K8.out.e (by have := hpf3.out; omega) _ _ _)
              have RB9 : Hid ((((W8.setCell ⟨pf, 0, none⟩ (.string nm)).setCell ⟨pf, 1, none⟩ (.string vl)).setCell ⟨pf, 2, none⟩ (.bool nv)).heap[pp]? = some (.cells #[.int .i64 k, .int .i64 i, .string ns, .bool a, .string vs, .bool b, .int .i64 z] 86 (0, 0))) := (heap3d (Nat.ne_of_lt hpq.out) _ _ _).trans RB8.out
              clear rr
              by_cases h1k : k = 1
              · have k1 : ((k : Int) != 1) = false := by simpa using h1k
                have k2 : ((k : Int) == 2) = false := by simp; omega
                have e1 : dfld σ.tb k i ns vs = some ⟨nm, vl, nv⟩ := by unfold dfld; rw [if_pos h0i, hp]; simp only; rw [if_pos h1k]
                have hds : dstep σ k i ns vs z = .inl ⟨σ.fs ++ [⟨nm, vl, nv⟩], σ.szs, σ.mx, σ.tb⟩ := by unfold dstep; rw [if_neg h5, e1]; simp only; rw [if_neg (show ¬ k = 2 by omega)]
                have HD := hide hds
                obtain ⟨x0, x1, x2, x3, x4, x5, x6⟩ := row7D RB9.out
                clear e1 hds hp h1k hk1 hk5 h5
                go_upto_region 25 with (fail)
                have KW := hide K9.out
                have RW := hide RF9.out
                clear x0 x1 x2 x3 x4 x5 x6 b0 b1 b2 b3 b4 b5 b6 t0 t1 t2 m0 l0 m1 l1 m2 l2 RB8 RT8 RF8 K8 K9 RF9 RB9
                generalize ((W8.setCell ⟨pf, 0, none⟩ (.string nm)).setCell ⟨pf, 1, none⟩ (.string vl)).setCell ⟨pf, 2, none⟩ (.bool nv) = W at *
                obtain ⟨f0, f1, f2⟩ := rowT RW.out
                have alA := (Below.refl W.heap.size W).alloc (Nat.le_refl _) (.cells #[.string nm, .string vl, .bool nv] 51)
                have KA := hide (KW.out.below alA)
                have LxA : Hid (RdV 3 (W.alloc (.cells #[.string nm, .string vl, .bool nv] 51)) (some ⟨W.heap.size, 0, none⟩) 1 1 (fdV fun _ => ⟨nm, vl, nv⟩)) := (OwnV.lit 3 51 0 W (fdV fun _ => ⟨nm, vl, nv⟩) #[.string nm, .string vl, .bool nv] 1 (Nat.zero_le _) (by simp [maxLen]) rfl).rdS2
                have BA : Hid (w.heap.size + 3 ≤ (W.alloc (.cells #[.string nm, .string vl, .bool nv] 51)).heap.size) := by show _ ≤ _; have := rowLt KW.out.now; simp; omega
                clear alA
                go_wp2_with (at_builtin; refine wp_appO rfl (.tmp 83) (.tmp 85) _ rfl 3 iF _ 40 Tryd.underlying25 hiF hF2 hF3 hF4 rfl (by omega) (w.heap.size + 3) _ σ.fs.length (fdV (fn σ.fs)) rfl KA.out.of W.heap.size 0 1 1 (fdV fun _ => ⟨nm, vl, nv⟩) rfl LxA.out (by omega) (fdV_one _ _) (by simp only [maxLen]; omega) (by omega) BA.out ?_; intro v4 w4 hown4 hg4 hob4; have K4 := hide (KA.out.setF hg4 ⟨nm, vl, nv⟩ hown4 hob4); obtain ⟨A4, c4, rfl, _, _⟩ := hown4.rd; clear hown4 hg4 hob4)
                go_roundg (gk - m')
                case rel => exact DrL.next HL0.out Htg.out hm1' hm2' HRr.out HD.out (by simp) (by simp) K4.out
                case measure => omega
              · have k1 : ((k : Int) != 1) = true := by simpa using h1k
                have e1 : dfld σ.tb k i ns vs = some ⟨nm, vs, bv⟩ := by unfold dfld; rw [if_pos h0i, hp]; simp only; rw [if_neg h1k, hbv]
                have hsF : Hid (SmF ⟨nm, vs, bv⟩) := ⟨hsf.1, (by omega : vs.size ≤ 200000)⟩
                clear hp h1k hk1 hk5
                go_upto_region 20 with (fail)
                have K6 := hide K9.out
                have R6 := hide RF9.out
                have R5' := hide RB9.out
                clear m0 l0 m1 l1 m2 l2 RF8 K9 RF9 RB9 b0 b1 b2 b3 b4 b5 b6 t0 t1 t2 RB8 RT8 K8
                generalize ((W8.setCell ⟨pf, 0, none⟩ (.string nm)).setCell ⟨pf, 1, none⟩ (.string vl)).setCell ⟨pf, 2, none⟩ (.bool nv) = W6 at *
                obtain ⟨b0, b1, b2, b3, b4, b5, b6⟩ := row7D R5'.out
                obtain ⟨f0, f1, f2⟩ := rowT R6.out
                obtain ⟨⟨m1, l1⟩, ⟨m2, l2⟩, rr⟩ := store12 R6.out (.string vs) (.bool bv)
                have RFa := hide rr
                have KAa : Hid (DrK w A tb.length c mx ((W6.setCell ⟨pf, 1, none⟩ (.string vs)).setCell ⟨pf, 2, none⟩ (.bool bv)) (.slice Af σ.fs.length cf) (.slice As σ.szs.length cs) An cn σ) := K6.out.free hpf3.out hOw.out.1 hOw.out.2.1 hOw.out.2.2 (fun i hi => heap12 hi _ _) (sz12 _ _) ((K6.out.e.setCell (p := ⟨pf, 1, none⟩) (by show w.heap.size ≤ pf; have := hpf3.out; omega) _).setCell (p := ⟨pf, 2, none⟩) (by show w.heap.size ≤ pf; have := hpf3.out; omega) _)
                have RBa : Hid (((W6.setCell ⟨pf, 1, none⟩ (.string vs)).setCell ⟨pf, 2, none⟩ (.bool bv)).heap[pp]? = some (.cells #[.int .i64 k, .int .i64 i, .string ns, .bool a, .string vs, .bool b, .int .i64 z] 86 (0, 0))) := (heap12 (Nat.ne_of_lt hpq.out) _ _).trans R5'.out
                have RBs : Hid ((W6.setCell ⟨pf, 1, none⟩ (.string vs)).heap[pp]? = some (.cells #[.int .i64 k, .int .i64 i, .string ns, .bool a, .string vs, .bool b, .int .i64 z] 86 (0, 0))) := (Below.heap_setCell _ ⟨pf, 1, none⟩ _ _ (Nat.ne_of_lt hpq.out)).trans R5'.out
                obtain ⟨x0, x1, x2, x3, x4, x5, x6⟩ := row7D RBs.out
                clear rr
                go_upto_region 23 with (fail)
                clear m1 l1 m2 l2 x0 x1 x2 x3 x4 x5 x6 b0 b1 b2 b3 b4 b5 b6 f0 f1 f2 RBs K6 R6 R5'
                generalize ((W6.setCell ⟨pf, 1, none⟩ (.string vs)).setCell ⟨pf, 2, none⟩ (.bool bv)) = Wa at *
                obtain ⟨b0, b1, b2, b3, b4, b5, b6⟩ := row7D RBa.out
                by_cases h2 : k = 2
                · have k2 : ((k : Int) == 2) = true := by simpa using h2
                  have hds : dstep σ k i ns vs z = .inl ⟨σ.fs ++ [⟨nm, vs, bv⟩], σ.szs, σ.mx, addL σ.mx ⟨nm, vs, bv⟩ σ.tb⟩ := by unfold dstep; rw [if_neg h5, e1]; simp only; rw [if_pos h2]
                  have HD := hide hds
                  have hwl : ∀ f ∈ σ.tb, wt f ≤ 1000000 := fun f hf => (Hok.out.tb f hf).wt
                  have C := hide (raddL KAa.out.rd (by omega) hwl hmxs ⟨nm, vs, bv⟩ hsF.out.wt)
                  obtain ⟨q0, q1⟩ := row2 KAa.out.now
                  obtain ⟨f0, f1, f2⟩ := rowT RFa.out
                  clear hds e1 h2 h5 hwl
                  go_wp2_with fail
                  refine C.out.mono ?_
                  rintro e w7 ⟨A7, c7, rfl, hr7, ha7, hb7⟩
                  have K7 := hide (KAa.out.setT hb7 (mx' := σ.mx) hr7 (fun a ha => .inr (ha7 a ha)))
                  obtain ⟨⟨u0, y0⟩, ⟨u1, y1⟩, rr⟩ := store2z (keepRow KAa.out.now hb7) (.slice A7 (addL σ.mx ⟨nm, vs, bv⟩ σ.tb).length c7) (.int .i64 (σ.mx : Int))
                  have RW : Hid (((w7.setCell ⟨w.heap.size + 2, 0, none⟩ (.slice A7 (addL σ.mx ⟨nm, vs, bv⟩ σ.tb).length c7)).setCell ⟨w.heap.size + 2, 1, none⟩ (.int .i64 (σ.mx : Int))).heap[pf]? = some (.cells #[.string nm, .string vs, .bool bv] 51 (0, 0))) := (heap2d (by have := hpf3.out; omega) _ _).trans (keepRow RFa.out hb7)
                  have KW := hide K7.out
                  clear hr7 ha7 hb7 rr C q0 q1 f0 f1 f2 b0 b1 b2 b3 b4 b5 b6 KAa RFa RBa K7
                  go_upto_region 25 with (fail)
                  generalize (w7.setCell ⟨w.heap.size + 2, 0, none⟩ (.slice A7 (addL σ.mx ⟨nm, vs, bv⟩ σ.tb).length c7)).setCell ⟨w.heap.size + 2, 1, none⟩ (.int .i64 (σ.mx : Int)) = W at *
                  clear u0 y0 u1 y1
                  obtain ⟨f0, f1, f2⟩ := rowT RW.out
                  have alA := (Below.refl W.heap.size W).alloc (Nat.le_refl _) (.cells #[.string nm, .string vs, .bool bv] 51)
                  have KA := hide (KW.out.below alA)
                  have LxA : Hid (RdV 3 (W.alloc (.cells #[.string nm, .string vs, .bool bv] 51)) (some ⟨W.heap.size, 0, none⟩) 1 1 (fdV fun _ => ⟨nm, vs, bv⟩)) := (OwnV.lit 3 51 0 W (fdV fun _ => ⟨nm, vs, bv⟩) #[.string nm, .string vs, .bool bv] 1 (Nat.zero_le _) (by simp [maxLen]) rfl).rdS2
                  have BA : Hid (w.heap.size + 3 ≤ (W.alloc (.cells #[.string nm, .string vs, .bool bv] 51)).heap.size) := by show _ ≤ _; have := rowLt KW.out.now; simp; omega
                  clear alA
                  go_wp2_with (at_builtin; refine wp_appO rfl (.tmp 83) (.tmp 85) _ rfl 3 iF _ 40 Tryd.underlying25 hiF hF2 hF3 hF4 rfl (by omega) (w.heap.size + 3) _ σ.fs.length (fdV (fn σ.fs)) rfl KA.out.of W.heap.size 0 1 1 (fdV fun _ => ⟨nm, vs, bv⟩) rfl LxA.out (by omega) (fdV_one _ _) (by simp only [maxLen]; omega) (by omega) BA.out ?_; intro v4 w4 hown4 hg4 hob4; have K4 := hide (KA.out.setF hg4 ⟨nm, vs, bv⟩ hown4 hob4); obtain ⟨A4, c4, rfl, _, _⟩ := hown4.rd; clear hown4 hg4 hob4)
                  go_roundg (gk - m')
                  case rel => exact DrL.next HL0.out Htg.out hm1' hm2' HRr.out HD.out (by simp) (by simp) K4.out
                  case measure => omega
                · have k2 : ((k : Int) == 2) = false := by simpa using h2
                  have hds : dstep σ k i ns vs z = .inl ⟨σ.fs ++ [⟨nm, vs, bv⟩], σ.szs, σ.mx, σ.tb⟩ := by unfold dstep; rw [if_neg h5, e1]; simp only; rw [if_neg h2]
                  have HD := hide hds
                  clear hds e1 h2 h5
                  go_upto_region 25 with (fail)
                  have KW := hide KAa.out
                  have RW := hide RFa.out
                  clear b0 b1 b2 b3 b4 b5 b6 KAa RFa RBa
                  generalize Wa = W at *
                  obtain ⟨f0, f1, f2⟩ := rowT RW.out
                  have alA := (Below.refl W.heap.size W).alloc (Nat.le_refl _) (.cells #[.string nm, .string vs, .bool bv] 51)
                  have KA := hide (KW.out.below alA)
                  have LxA : Hid (RdV 3 (W.alloc (.cells #[.string nm, .string vs, .bool bv] 51)) (some ⟨W.heap.size, 0, none⟩) 1 1 (fdV fun _ => ⟨nm, vs, bv⟩)) := (OwnV.lit 3 51 0 W (fdV fun _ => ⟨nm, vs, bv⟩) #[.string nm, .string vs, .bool bv] 1 (Nat.zero_le _) (by simp [maxLen]) rfl).rdS2
                  have BA : Hid (w.heap.size + 3 ≤ (W.alloc (.cells #[.string nm, .string vs, .bool bv] 51)).heap.size) := by show _ ≤ _; have := rowLt KW.out.now; simp; omega
                  clear alA
                  go_wp2_with (at_builtin; refine wp_appO rfl (.tmp 83) (.tmp 85) _ rfl 3 iF _ 40 Tryd.underlying25 hiF hF2 hF3 hF4 rfl (by omega) (w.heap.size + 3) _ σ.fs.length (fdV (fn σ.fs)) rfl KA.out.of W.heap.size 0 1 1 (fdV fun _ => ⟨nm, vs, bv⟩) rfl LxA.out (by omega) (fdV_one _ _) (by simp only [maxLen]; omega) (by omega) BA.out ?_; intro v4 w4 hown4 hg4 hob4; have K4 := hide (KA.out.setF hg4 ⟨nm, vs, bv⟩ hown4 hob4); obtain ⟨A4, c4, rfl, _, _⟩ := hown4.rd; clear hown4 hg4 hob4)
                  go_roundg (gk - m')
                  case rel => exact DrL.next HL0.out Htg.out hm1' hm2' HRr.out HD.out (by simp) (by simp) K4.out
                  case measure => omega
end Go.Proofs.YtnkcbljhgcgpaaaDoor
