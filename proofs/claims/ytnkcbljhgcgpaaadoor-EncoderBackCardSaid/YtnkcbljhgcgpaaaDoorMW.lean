/- De6, De7, De8 in one text. -/
import Derived.Test.YtnkcbljhgcgpaaaDoorDe5
import Derived.Deep.LoopGhost
namespace Go.Proofs.YtnkcbljhgcgpaaaDoor
set_option linter.unusedVariables false
set_option linter.unusedSimpArgs false
section
open Go.RowKit Go.Deep Go.ChangeShapes Go.WideShapes

set_option maxRecDepth 20000 in
set_option maxHeartbeats 1600000 in
theorem dtake5 {B : Nat} {w : World} {pr : Nat} {S : Nat → Prop} {σ : Ds} (h : RG B w pr S σ) (hB : B ≤ w.heap.size) (hn : σ.tb.length ≤ 900000) (hs : σ.szs.length ≤ 1000000) (i : Int) (ns : ByteArray) (a : Bool) (vs : ByteArray) (b : Bool) (z : Int) (hz0 : 0 ≤ z) (hz1 : z ≤ 2147483647) :
    Calls Tryd.prog 33 #[.pointer (some ⟨pr, 0, none⟩), .agg #[.int .i64 5, .int .i64 i, .string ns, .bool a, .string vs, .bool b, .int .i64 z]] w (RGo B w pr S (dstep σ 5 i ns vs z)) := by
  have al := (Below.refl w.heap.size w).alloc (Nat.le_refl _) (.cells #[.int .i64 5, .int .i64 i, .string ns, .bool a, .string vs, .bool b, .int .i64 z] 81)
  have R0 := heap_alloc_new w (.cells #[.int .i64 5, .int .i64 i, .string ns, .bool a, .string vs, .bool b, .int .i64 z] 81)
  have H1 := hide (h.below al)
  have E1 := hide al
  have HB := hide hB
  obtain ⟨b0, b1, b2, b3, b4, b5, b6⟩ := row7D R0
  have C := hide (fun W (hh : RG B W pr S σ) (hb : B ≤ W.heap.size) => dresize hh hb (by omega) hs i ns vs z hz0 hz1)
  clear h al R0 hB
  go_enter Tryd.func33, Tryd.ntmps33
  go_wp2_with fail
  refine (C.out _ H1.out (Nat.le_trans HB.out E1.out.size)).mono ?_
  rintro e w2 hr
  obtain ⟨er, rfl, hr⟩ := hr.ret
  have HR := hide hr
  clear hr
  go_wp2_with fail
  go_ret
  exact RGo.from E1.out HB.out HR.out
theorem dtake {B : Nat} {w : World} {pr : Nat} {S : Nat → Prop} {σ : Ds} {T : Nat} (h : RG B w pr S σ) (hB : B ≤ w.heap.size) (ho : DsOk T σ) (hT : T ≤ 900000) (hs : σ.fs.length ≤ 1000000) (hs2 : σ.szs.length ≤ 1000000) (k i : Int) (ns : ByteArray) (a : Bool) (vs : ByteArray) (b : Bool) (z : Int) (hk : k = 1 ∨ k = 2 ∨ k = 3 ∨ k = 4 ∨ k = 5) (hi0 : 0 ≤ i) (hi1 : i ≤ 2147483647) (hz0 : 0 ≤ z) (hz1 : z ≤ 2147483647) (h1 : k = 1 → 0 < i) (hns : ns.size ≤ 200000) (hvs : vs.size ≤ 200000) :
    Calls Tryd.prog 33 #[.pointer (some ⟨pr, 0, none⟩), .agg #[.int .i64 k, .int .i64 i, .string ns, .bool a, .string vs, .bool b, .int .i64 z]] w (RGo B w pr S (dstep σ k i ns vs z)) := by
  have hl := ho.len
  have hn : σ.tb.length ≤ 900000 := by omega
  have hsm := ho.tb
  rcases hk with rfl | rfl | rfl | rfl | rfl
  · exact dtake1i h hB hn hs i ns a vs b z hi0 hi1 hsm hns hvs (h1 rfl)
  · rcases (show i = 0 ∨ 0 < i by omega) with h0 | h0
    · exact dtake2z h hB hn hs i ns a vs b z hi0 hi1 hsm hns hvs h0
    · exact dtake2i h hB hn hs i ns a vs b z hi0 hi1 hsm hns hvs h0
  · rcases (show i = 0 ∨ 0 < i by omega) with h0 | h0
    · exact dtake3z h hB hn hs i ns a vs b z hi0 hi1 hsm hns hvs h0
    · exact dtake3i h hB hn hs i ns a vs b z hi0 hi1 hsm hns hvs h0
  · rcases (show i = 0 ∨ 0 < i by omega) with h0 | h0
    · exact dtake4z h hB hn hs i ns a vs b z hi0 hi1 hsm hns hvs h0
    · exact dtake4i h hB hn hs i ns a vs b z hi0 hi1 hsm hns hvs h0
  · exact dtake5 h hB hn hs2 i ns a vs b z hz0 hz1
/-- What Decode says and does. -/
def DcP (B : Nat) (pd : Nat) (f : Nat → Int) (n : Nat) (mx : Nat) (tb : List Fd) (w : World) (e : Ending) (w' : World) : Prop :=
  ∃ r, DcR f n 0 ⟨[], [], mx, tb⟩ r ∧ match r with
    | .inr er => e = .returned (.tuple #[.agg #[.slice none 0 0, .slice none 0 0], .int .i64 er]) ∧ er ≠ 0 ∧ Below w.heap.size w w'
    | .inl σ => ∃ (A1 : Option Addr) (c1 : Nat) (A2 : Option Addr) (c2 : Nat) (g' : Option Nat), e = .returned (.tuple #[.agg #[.slice A1 σ.fs.length c1, .slice A2 σ.szs.length c2], .int .i64 0]) ∧ OwnO 3 51 w.heap.size w' (.slice A1 σ.fs.length c1) σ.fs.length (fdV (fn σ.fs)) ∧ OwnO 1 3 w.heap.size w' (.slice A2 σ.szs.length c2) σ.szs.length (inV σ.szs) ∧
        TL B w' pd g' σ.mx σ.tb ∧ (∀ i, g' = some i → w.heap.size ≤ i) ∧ FrO B (fun i => i = pd) w w'
/-- The state of Decode's loop. -/
def DcL (w : World) (A : Option Addr) (f : Nat → Int) (n : Nat) (mx : Nat) (tb : List Fd) (T pr : Nat) (b : Value) (wr : World) (t : Nat) : Prop :=
  ∃ (σ : Ds) (S : Nat → Prop) (A' : Option Addr) (c' : Nat), t ≤ n ∧ b = .slice A' (n - t) c' ∧ Rd .u8 w A' (n - t) c' (fun j => f (t + j)) ∧ RG (w.heap.size + 1) wr pr S σ ∧ (∀ r, DcR f n t σ r → DcR f n 0 ⟨[], [], mx, tb⟩ r) ∧ Below w.heap.size w wr ∧
    wr.heap[w.heap.size]? = some (.cells #[.slice none 0 0, .slice none 0 0] 32 (0, 0)) ∧ DsOk (T + t) σ ∧ σ.fs.length ≤ t ∧ σ.szs.length ≤ t
theorem store2z {w : World} {p : Nat} {T : TypeId} {a0 a1 : Value} (h : w.heap[p]? = some (.cells #[a0, a1] T (0, 0))) (b0 b1 : Value) :
    (w.cell? ⟨p, 0, none⟩ = some a0 ∧ w.frozen? ⟨p, 0, none⟩ = false) ∧ ((w.setCell ⟨p, 0, none⟩ b0).cell? ⟨p, 1, none⟩ = some a1 ∧ (w.setCell ⟨p, 0, none⟩ b0).frozen? ⟨p, 1, none⟩ = false) ∧
    ((w.setCell ⟨p, 0, none⟩ b0).setCell ⟨p, 1, none⟩ b1).heap[p]? = some (.cells #[b0, b1] T (0, 0)) := by
  have h1 := setRow w p 0 b0 h
  have h2 := setRow _ p 1 b1 h1
  simp only [List.setIfInBounds_toArray, List.set_cons_zero, List.set_cons_succ] at h1 h2
  exact ⟨⟨(row2 h).1, frozenRow h 0⟩, ⟨(row2 h1).2, frozenRow h1 1⟩, h2⟩
theorem Rd.atW {w w' : World} {A : Option Addr} {n c : Nat} {f : Nat → Int} (h : Rd .u8 w A n c f) (hb : Below w.heap.size w w') : Rd .u8 w' A n c f := h.below hb
end

section
open Go.RowKit Go.Deep Go.ChangeShapes Go.WideShapes

theorem RG.init {B : Nat} {w : World} {p : Nat} {g : Option Nat} {mx : Nat} {tb : List Fd} (ht : TL B w p g mx tb) (hB : B ≤ w.heap.size) :
    RG B (w.alloc (.cells #[.slice none 0 0, .slice none 0 0, .pointer (some ⟨p, 0, none⟩)] 77)) w.heap.size (fun i => i = w.heap.size ∨ tfp p g i) ⟨[], [], mx, tb⟩ := by
  have al := (Below.refl w.heap.size w).alloc (Nat.le_refl _) (.cells #[.slice none 0 0, .slice none 0 0, .pointer (some ⟨p, 0, none⟩)] 77)
  refine ⟨⟨p, g, .slice none 0 0, .slice none 0 0, heap_alloc_new _ _, OwnO.nil _ _ _ _ _, OwnO.nil _ _ _ _ _, ht.below al, fun e => ?_, fun e => ?_, fun e => (by cases e), fun e => (by cases e), fun i _ e => (by cases e), fun i _ e => (by cases e), fun i e => (by cases e), .inl rfl, fun i hi => .inr hi, fun i e => (by cases e), fun i e => (by cases e), hB⟩, fun i hi => ?_⟩
  · have := (ht.lt p (.inl rfl)).2
    omega
  · have := (ht.lt _ (.inr e)).2
    omega
  · rcases hi with rfl | hi
    · exact ⟨hB, by simp⟩
    · have := ht.lt i hi
      exact ⟨this.1, by simp; omega⟩
theorem TL.moved {B B1 : Nat} {w w' : World} {pd pt : Nat} {g : Option Nat} {mx : Nat} {l : List Fd} {A : Option Addr} {c : Nat} {T0 : TypeId} (h : TL B1 w pt g mx l) (hB : B ≤ B1) (hg : (Value.slice A l.length c).ownBlock = g) (ho : OwnO 3 51 B1 w (.slice A l.length c) l.length (fdV (rvF l.length (fn l))))
    (hr : w'.heap[pd]? = some (.cells #[.slice A l.length c, .int .i64 (sumW (rvF l.length (fn l)) l.length : Int), .int .i64 (mx : Int)] T0 (0, 0))) (hk : ∀ i, g = some i → w'.heap[i]? = w.heap[i]?) (hp : B ≤ pd) (hn : g ≠ some pd) : TL B w' pd g mx l :=
  ⟨⟨_, ⟨T0, hr⟩, hg, (ho.at_ fun b hb => hk b (hg ▸ hb)).base hB⟩, hp, hn, h.mle, TOk.wl h⟩
theorem heap3d {w : World} {p q : Nat} (h : q ≠ p) (b0 b1 b2 : Value) : (((w.setCell ⟨p, 0, none⟩ b0).setCell ⟨p, 1, none⟩ b1).setCell ⟨p, 2, none⟩ b2).heap[q]? = w.heap[q]? := by
  rw [Below.heap_setCell _ ⟨p, 2, none⟩ _ _ h, Below.heap_setCell _ ⟨p, 1, none⟩ _ _ h, Below.heap_setCell _ ⟨p, 0, none⟩ _ _ h]
theorem heap2d {w : World} {p q : Nat} (h : q ≠ p) (b0 b1 : Value) : ((w.setCell ⟨p, 0, none⟩ b0).setCell ⟨p, 1, none⟩ b1).heap[q]? = w.heap[q]? := by
  rw [Below.heap_setCell _ ⟨p, 1, none⟩ _ _ h, Below.heap_setCell _ ⟨p, 0, none⟩ _ _ h]
theorem heapsz3 {w : World} {p : Nat} (b0 b1 b2 : Value) : (((w.setCell ⟨p, 0, none⟩ b0).setCell ⟨p, 1, none⟩ b1).setCell ⟨p, 2, none⟩ b2).heap.size = w.heap.size := by simp [World.setCell]
theorem dstep_er {σ : Ds} {k i z er : Int} {ns vs : ByteArray} (h : dstep σ k i ns vs z = .inr er) : er = 12 ∨ er = 13 := by
  unfold dstep at h
  by_cases h5 : k = 5
  · rw [if_pos h5] at h
    by_cases h6 : σ.fs.length = 0
    · rw [if_pos h6] at h; cases h
    · rw [if_neg h6] at h; cases h; exact .inr rfl
  · rw [if_neg h5] at h
    cases hd : dfld σ.tb k i ns vs with
    | none => rw [hd] at h; cases h; exact .inl rfl
    | some f => rw [hd] at h; cases h
set_option maxRecDepth 20000 in
set_option maxHeartbeats 3200000 in
theorem decode23 {B : Nat} {w : World} {pd : Nat} {g : Option Nat} {mx : Nat} {tb : List Fd} {T : Nat} (hd : TL B w pd g mx tb) (hB : B ≤ w.heap.size) (hsm : ∀ f ∈ tb, SmF f) (hT : tb.length ≤ T) (hT2 : T ≤ 700000) (A : Option Addr) (n c : Nat) (f : Nat → Int) (ha : Rd .u8 w A n c f) (hb : Byt n f) (hn : n ≤ 100000)
    (Ty : TypeId) (fr : Nat × Nat) (hg : w.heap[0]? = some (.cells formsV Ty fr)) :
    Calls Tryd.prog 10 #[.pointer (some ⟨pd, 0, none⟩), .slice A n c] w (DcP B pd f n mx tb w) := by
  have al := (Below.refl w.heap.size w).alloc (Nat.le_refl _) (.cells #[.slice none 0 0, .slice none 0 0] 32)
  have R1 := hide (heap_alloc_new w (.cells #[.slice none 0 0, .slice none 0 0] 32))
  have D1 := hide (hd.below al)
  have E1 := hide al
  have hs1 : (w.alloc (.cells #[.slice none 0 0, .slice none 0 0] 32)).heap.size = w.heap.size + 1 := by simp
  have Hs1 := hide hs1
  have Hd := hide hd
  have HB := hide hB
  have Ha := hide ha
  have Hb := hide hb
  have Hg := hide hg
  have hmx := hd.mle
  have Hok : Hid (DsOk (T + 0) ⟨[], [], mx, tb⟩) := ⟨fun f hf => absurd hf (by simp), hsm, hT, hmx⟩
  have hltn : tb.length ≤ 1000000 := by omega
  clear al hd hB ha hb hg hs1 hsm hT
  go_enter Tryd.func10, Tryd.ntmps10
  go_wp2_with fail
  generalize hW : w.alloc (.cells #[.slice none 0 0, .slice none 0 0] 32) = W1 at *
  clear hW
  refine (copyL D1.out hltn).mono ?_
  rintro e w2 ⟨p', g', rfl, ht2, hb2⟩
  rw [Hs1.out] at ht2
  have al2 := (Below.refl w2.heap.size w2).alloc (Nat.le_refl _) (.cells #[.slice none 0 0, .slice none 0 0, .pointer (some ⟨p', 0, none⟩)] 77)
  have hs2 : w.heap.size + 1 ≤ w2.heap.size := by have := hb2.size; rw [Hs1.out] at this; exact this
  have G0 := hide (RG.init ht2 hs2)
  have R2 := hide (keepRow (keepRow R1.out hb2) al2)
  have E2 := hide ((E1.out.of hb2).of al2)
  clear ht2 hb2 al2 R1 D1 E1 hs2 Hs1
  go_upto_region 4 with (fail)
  generalize hW : w2.alloc (.cells #[.slice none 0 0, .slice none 0 0, .pointer (some ⟨p', 0, none⟩)] 77) = W3 at *
  generalize hP : w2.heap.size = pr at *
  clear hW hP
  go_loopg [1] n (fun gk b wr => ∃ t, t + gk = n ∧ DcL w A f n mx tb T pr b wr t)
  case atStart =>
    exact ⟨0, by omega, _, _, A, c, Nat.zero_le _, rfl, Ha.out.congr fun i _ => by rw [Nat.zero_add], G0.out, fun r h => h, E2.out, R2.out, Hok.out, Nat.le_refl _, Nat.le_refl _⟩
  case round =>
    obtain ⟨t, htg, σ, S, A', c', htn, rfl, hr, hRG, himp, hbl, hq, hok, hl1, hl2⟩ := hrel
    obtain ⟨N, hN⟩ : ∃ N, N = n - t := ⟨_, rfl⟩
    rw [← hN] at hr ⊢
    have Hr := hide hr
    have HRG := hide hRG
    have Himp := hide himp
    have Hbl := hide hbl
    have Hq := hide hq
    have Hk := hide hok
    have HN := hide hN
    have Hl1 := hide hl1
    have Hl2 := hide hl2
    clear hr hRG himp hbl hq hok hN hl1 hl2 G0 R2 E2 Hok
    by_cases h0 : N = 0
    · subst h0
      have hd0 : decide ((0 : Int) < ((0 : Nat) : Int)) = false := rfl
      obtain ⟨⟨pt, gt, Vf, Vs, x⟩, hl⟩ := HRG.out
      obtain ⟨Af, cf, rfl, _, _⟩ := x.of.rd
      obtain ⟨As, cs, rfl, _, _⟩ := x.os.rd
      obtain ⟨At, ct, Tt, k1, k2, k3⟩ := TOk.row x.tl
      obtain ⟨Ad, cd, Td, j1, _, _⟩ := TOk.row Hd.out
      have j2 := keepRow j1 Hbl.out
      have hpd := rowLt j1
      have hpr : w.heap.size + 1 ≤ pr := x.hp
      have K1 := hide k1
      obtain ⟨SM, hSM⟩ : ∃ SM : Int, SM = (sumW (rvF σ.tb.length (fn σ.tb)) σ.tb.length : Int) := ⟨_, rfl⟩
      rw [← hSM] at k1
      have HSM := hide hSM
      have X := hide x
      have HL := hide hl
      have K2 := hide k2
      have K3 := hide k3
      have hprd : pr ≠ pd := by omega
      have hqd : w.heap.size ≠ pd := by omega
      have Hgt : Hid (∀ i, gt = some i → w.heap.size + 1 ≤ i) := fun i hi => (x.tl.lt i (.inr hi)).1
      obtain ⟨c0, c1, c2⟩ := rowT x.row
      obtain ⟨t0, t1, t2⟩ := rowT k1
      obtain ⟨⟨s0, z0⟩, ⟨s1, z1⟩, ⟨s2, z2⟩, rr⟩ := store3d j2 (.slice At σ.tb.length ct) (.int .i64 SM) (.int .i64 (σ.mx : Int))
      have RD := hide rr
      have RP := hide ((heap3d hprd (.slice At σ.tb.length ct) (.int .i64 SM) (.int .i64 (σ.mx : Int))).trans x.row)
      have RQ := hide ((heap3d hqd (.slice At σ.tb.length ct) (.int .i64 SM) (.int .i64 (σ.mx : Int))).trans Hq.out)
      obtain ⟨p0, p1, p2⟩ := rowT RP.out
      obtain ⟨⟨u0, y0⟩, ⟨u1, y1⟩, rr2⟩ := store2z RQ.out (.slice Af σ.fs.length cf) (.slice As σ.szs.length cs)
      have RQ2 := hide rr2
      clear x hl k1 k2 k3 j1 j2 rr rr2 hSM
      go_wp2_with fail
      obtain ⟨n0, n1⟩ := row2 RQ2.out
      have hK : ∀ i, w.heap.size + 1 ≤ i → (((((wr.setCell ⟨pd, 0, none⟩ (.slice At σ.tb.length ct)).setCell ⟨pd, 1, none⟩ (.int .i64 SM)).setCell ⟨pd, 2, none⟩ (.int .i64 (σ.mx : Int))).setCell ⟨w.heap.size, 0, none⟩ (.slice Af σ.fs.length cf)).setCell ⟨w.heap.size, 1, none⟩ (.slice As σ.szs.length cs)).heap[i]? = wr.heap[i]? := fun i hi => (heap2d (by omega) _ _).trans (heap3d (by omega) _ _ _)
      have hlast : DcR f n 0 ⟨[], [], mx, tb⟩ (.inl σ) := Himp.out _ (.done (by have := HN.out; omega))
      refine bodyPost_ret (v := .tuple #[.agg #[.slice Af σ.fs.length cf, .slice As σ.szs.length cs], .int .i64 0]) ?_ rfl ⟨.inl σ, hlast, Af, cf, As, cs, gt, rfl, ?_, ?_, ?_, ?_, ?_⟩
      · rw [results_cell_tmp rfl]
        go_simp
      · refine (X.out.of.at_ fun b hb => hK b (X.out.of.lt b hb).1).base (Nat.le_succ _)
      · refine (X.out.os.at_ fun b hb => hK b (X.out.os.lt b hb).1).base (Nat.le_succ _)
      · refine TL.moved (T0 := Td) X.out.tl (Nat.le_succ_of_le HB.out) K2.out K3.out ?_ (fun i hi => hK i (Hgt.out i hi)) (TOk.hp Hd.out) fun e => ?_
        · rw [← HSM.out]
          exact (heap2d (Ne.symm hqd) _ _).trans RD.out
        · have := Hgt.out pd e
          omega
      · exact fun i hi => Nat.le_of_succ_le (Hgt.out i hi)
      · refine (((((FrO.of (S := fun i => i = pd) Hbl.out HB.out).step (FrO.set (S := fun i => i = pd) _ pd 0 _ (TOk.hp Hd.out) rfl) fun i hi => .inl hi).step (FrO.set (S := fun i => i = pd) _ pd 1 _ (TOk.hp Hd.out) rfl) fun i hi => .inl hi).step (FrO.set (S := fun i => i = pd) _ pd 2 _ (TOk.hp Hd.out) rfl) fun i hi => .inl hi).step (FrO.set (S := fun i => i = w.heap.size) _ w.heap.size 0 _ HB.out rfl) fun i hi => .inr (Nat.le_of_eq hi.symm)).step (FrO.set (S := fun i => i = w.heap.size) _ w.heap.size 1 _ HB.out rfl) fun i hi => .inr (Nat.le_of_eq hi.symm)
    · have hd0 : decide ((0 : Int) < (N : Int)) = true := decide_eq_true (by omega)
      have hd0' : decide (0 < N) = true := decide_eq_true (by omega)
      have hNn : N ≤ n := by have := HN.out; omega
      have HbT : Hid (Byt N (fun j => f (t + j))) := fun i hi => Hb.out (t + i) (by have := HN.out; omega)
      have HgW := hide ((Hbl.out.block _ (rowLt Hg.out)).trans Hg.out)
      go_wp2_with fail
      refine (get22 A' N c' _ wr (Hr.out.below Hbl.out) HbT.out (by omega) Ty fr HgW.out).mono ?_
      rintro e w4 ⟨k, i, ns, a, vs, b, z, m, er, rfl, hR, hb4⟩
      have al5 := (Below.refl w4.heap.size w4).alloc (Nat.le_refl _) (.cells #[.int .i64 k, .int .i64 i, .string ns, .bool a, .string vs, .bool b, .int .i64 z] 81)
      have R5 := hide (heap_alloc_new w4 (.cells #[.int .i64 k, .int .i64 i, .string ns, .bool a, .string vs, .bool b, .int .i64 z] 81))
      have HR := hide hR
      have G5 := hide (HRG.out.below (hb4.of al5))
      have Q5 := hide (keepRow (keepRow Hq.out hb4) al5)
      have E5 := hide (Hbl.out.of (hb4.of al5))
      have GG5 := hide ((E5.out.block _ (rowLt Hg.out)).trans Hg.out)
      have hsz5 : w.heap.size + 1 ≤ (w4.alloc (.cells #[.int .i64 k, .int .i64 i, .string ns, .bool a, .string vs, .bool b, .int .i64 z] 81)).heap.size := by
        have h1 := rowLt Q5.out
        omega
      have HS5 := hide hsz5
      clear hR hb4 al5 hsz5 HRG Hbl Hq HgW
      go_upto_region 6 with (fail)
      generalize hW : w4.alloc (.cells #[.int .i64 k, .int .i64 i, .string ns, .bool a, .string vs, .bool b, .int .i64 z] 81) = W5 at *
      generalize hP : w4.heap.size = pp at *
      clear hW hP
      obtain ⟨b0, b1, b2, b3, b4, b5, b6⟩ := row7D R5.out
      by_cases her : er = 0
      · subst her
        have hrg := gtr_rng HbT.out HR.out
        obtain ⟨hm1, hm2, hk5, hi0, hi1, hz0, hz1, hk1, hns, hvs⟩ := hrg
        obtain ⟨m', rfl⟩ : ∃ m' : Nat, m = (m' : Int) := ⟨m.toNat, by omega⟩
        have hcut := bytes_cut A' N c' m' (by omega)
        have C := dtake G5.out HS5.out Hk.out (by omega) (by have := Hl1.out; omega) (by have := Hl2.out; omega) k i ns a vs b z hk5 hi0 hi1 hz0 hz1 hk1 (by omega) (by omega)
        have HC := hide C
        have Hns : Hid (ns.size ≤ 200000 ∧ vs.size ≤ 200000) := ⟨by omega, by omega⟩
        have htn' : t < n := by have := HN.out; omega
        clear C hk5 hk1 hns hvs
        go_wp2_with fail
        refine HC.out.mono ?_
        rintro e w6 hr6
        obtain ⟨er6, rfl, hr6⟩ := hr6.ret
        have HR6 := hide hr6
        clear hr6 HC b0 b1 b2 b3 b4 b5 b6
        cases hds : dstep σ k i ns vs z with
        | inr er =>
          have h6 := HR6.out
          rw [hds] at h6
          obtain ⟨h61, h62⟩ := h6
          obtain rfl : er6 = er := by injection h61 with h61; injection h61
          have h12 := dstep_er hds
          have hlast := Himp.out _ (.fault htn' (by rw [← HN.out]; exact HR.out) hds)
          have HD := hide hlast
          have hz : ((er6 : Int) != 0) = true := by simp; omega
          have hz' : ((er6 : Int) == 0) = false := by simp; omega
          have Hnz : Hid (er6 ≠ 0) := by show _ ≠ _; omega
          have E6 := hide (E5.out.of h62)
          obtain ⟨⟨u0, y0⟩, ⟨u1, y1⟩, rr2⟩ := store2z (keepRow Q5.out h62) (.slice none 0 0) (.slice none 0 0)
          have RQ2 := hide rr2
          clear h61 h62 hds hlast rr2 h12
          go_wp2_with fail
          obtain ⟨n0, n1⟩ := row2 RQ2.out
          refine bodyPost_ret (v := .tuple #[.agg #[.slice none 0 0, .slice none 0 0], .int .i64 er6]) ?_ rfl ⟨.inr er6, HD.out, rfl, Hnz.out, (E6.out.setCell (p := ⟨w.heap.size, 0, none⟩) (Nat.le_refl _) _).setCell (p := ⟨w.heap.size, 1, none⟩) (Nat.le_refl _) _⟩
          rw [results_cell_tmp rfl]
          go_simp
        | inl σ' =>
          have h6 := HR6.out
          rw [hds] at h6
          obtain ⟨h61, S', h62, h63, h64⟩ := h6
          obtain rfl : er6 = 0 := by injection h61 with h61; injection h61
          have Hds := hide hds
          have G6 := hide h62
          have F6 := hide h63
          clear h61 h62 h63 h64 hds HR6
          go_wp2_with fail
          go_roundg (gk - m')
          case rel =>
            have hnt : N - m' = n - (t + m') := by have := HN.out; omega
            have hstep := dstep_ok Hk.out Hns.out.1 Hns.out.2 hz1 Hds.out
            have h1 := Hl1.out
            have h2 := Hl2.out
            have hNN := HN.out
            refine ⟨t + m', by have := HN.out; omega, σ', S', cutA A' c' m', c' - m', by omega, by rw [hnt], ?_, G6.out, fun r hr => Himp.out r (.go (m := (m' : Int)) htn' (by rw [← HN.out]; exact HR.out) Hds.out hr), E5.out.trans (F6.out.below.mono (Nat.le_succ _)), F6.out.row Q5.out (fun h => by have := (G5.out.lt _ h).1; omega), ?_, by omega, by omega⟩
            · rw [← hnt]
              exact (Hr.out.cutR (lo := m') (hi := N) (by omega) (Nat.le_refl _)).congr fun j _ => by rw [Nat.add_assoc]
            · have := hstep.1
              exact ⟨this.fs, this.tb, by have := this.len; omega, this.mx⟩
          case measure => omega
      · have hz : ((er : Int) != 0) = true := by simpa using her
        have hz' : ((er : Int) == 0) = false := by simpa using her
        have htn' : t < n := by have := HN.out; omega
        have hlast := Himp.out _ (.bad htn' (by rw [← HN.out]; exact HR.out) her)
        have HD := hide hlast
        have Hnz := hide her
        obtain ⟨⟨u0, y0⟩, ⟨u1, y1⟩, rr2⟩ := store2z Q5.out (.slice none 0 0) (.slice none 0 0)
        have RQ2 := hide rr2
        clear hlast rr2 her
        go_wp2_with fail
        obtain ⟨n0, n1⟩ := row2 RQ2.out
        refine bodyPost_ret (v := .tuple #[.agg #[.slice none 0 0, .slice none 0 0], .int .i64 er]) ?_ rfl ⟨.inr er, HD.out, rfl, Hnz.out, (E5.out.setCell (p := ⟨w.heap.size, 0, none⟩) (Nat.le_refl _) _).setCell (p := ⟨w.heap.size, 1, none⟩) (Nat.le_refl _) _⟩
        rw [results_cell_tmp rfl]
        go_simp
end

section
open Go.RowKit Go.Deep Go.ChangeShapes Go.WideShapes

theorem rsat23 (i : Int) (h : i ≤ 61) (l : List Fd) (w : World) : Calls Tryd.prog 60 #[.int .i64 i] w (FdGot (atP l i) w) := by
  have e : atP l i = if 1 ≤ i then some (sfd (i - 1).toNat) else none := by unfold atP; rw [if_pos h]
  rw [e]
  by_cases h1 : 1 ≤ i
  · rw [if_pos h1]
    obtain ⟨k, hk, rfl⟩ : ∃ k : Nat, k < 61 ∧ i = (k : Int) + 1 := ⟨(i - 1).toNat, by omega, by omega⟩
    refine (rat_in k w hk).mono ?_
    rintro e w1 ⟨rfl, hb⟩
    refine ⟨_, _, _, _, rfl, .inr ⟨_, rfl, ?_, ?_, rfl, rfl⟩, hb⟩
    · rw [show ((k : Int) + 1 - 1).toNat = k by omega]; rfl
    · rw [show ((k : Int) + 1 - 1).toNat = k by omega]; rfl
  · rw [if_neg h1]
    refine (rat_out i w (by omega)).mono ?_
    rintro e w1 ⟨rfl, hb⟩
    exact ⟨_, _, _, _, rfl, .inl ⟨rfl, rfl, rfl, rfl, rfl⟩, hb⟩
set_option maxRecDepth 20000 in
set_option maxHeartbeats 1600000 in
theorem rat23 {w : World} {A : Option Addr} {c : Nat} {mx : Int} {l : List Fd} (h : RdV 3 w A l.length c (fdV (fn l))) (hn : l.length ≤ 1000000) (i : Int) (hi0 : 0 ≤ i) (hi1 : i ≤ 2147483647) :
    Calls Tryd.prog 36 #[.agg #[.slice A l.length c, .int .i64 mx], .int .i64 i] w (FdGot (atP l i) w) := by
  have a1 := (Below.refl w.heap.size w).alloc (Nat.le_refl _) (.cells #[.slice A l.length c, .int .i64 mx] 37)
  have q1 := heap_alloc_new w (.cells #[.slice A l.length c, .int .i64 mx] 37)
  have hs1 : (w.alloc (.cells #[.slice A l.length c, .int .i64 mx] 37)).heap.size = w.heap.size + 1 := by simp
  have a2 := (Below.refl (w.alloc (.cells #[.slice A l.length c, .int .i64 mx] 37)).heap.size (w.alloc (.cells #[.slice A l.length c, .int .i64 mx] 37))).alloc (Nat.le_refl _) (.cells #[.string ⟨#[]⟩, .string ⟨#[]⟩, .bool false] 51)
  have r1 := heap_alloc_new (w.alloc (.cells #[.slice A l.length c, .int .i64 mx] 37)) (.cells #[.string ⟨#[]⟩, .string ⟨#[]⟩, .bool false] 51)
  rw [hs1] at r1
  have R := hide r1
  have E := hide (a1.of a2)
  have Q := hide (keepRow q1 a2)
  have H := hide (h.below36O (a1.of a2))
  obtain ⟨c0, c1⟩ := row2 Q.out
  have hle : w.heap.size ≤ w.heap.size + 1 := Nat.le_succ _
  clear a1 q1 hs1 a2 r1 h
  by_cases h61 : i ≤ 61
  · have hd : decide (i ≤ 61) = true := decide_eq_true h61
    have C := hide (fun W => rsat23 i h61 l W)
    clear h61
    go_enter Tryd.func36, Tryd.ntmps36
    go_wp2_with fail
    refine (C.out _).mono ?_
    rintro e w1 ⟨nm, vl, nv, has, rfl, hv, hb⟩
    have HV := hide hv
    have R1 := hide (keepRow R.out hb)
    have E1 := hide (E.out.of hb)
    clear hv hb c0 c1
    obtain ⟨⟨k0, f0⟩, ⟨k1, f1⟩, ⟨k2, f2⟩, rr⟩ := store3d R1.out (.string nm) (.string vl) (.bool nv)
    have RF := hide rr
    clear rr
    go_wp2_with fail
    obtain ⟨n0, n1, n2⟩ := rowT RF.out
    refine bodyPost_ret (v := .tuple #[.agg #[.string nm, .string vl, .bool nv], .bool has]) ?_ rfl ⟨_, _, _, _, rfl, HV.out, below3d E1.out hle _ _ _⟩
    rw [results_cell_tmp rfl]
    go_simp
  · have hd : decide (i ≤ 61) = false := decide_eq_false h61
    have hw : IntKind.i64.wrap (i - 61) = i - 61 := IntWalk.i64_in _ (by omega)
    have C := hide (fun W (x : RdV 3 W A l.length c (fdV (fn l))) => ratL (mx := mx) x hn (i - 61) (by omega))
    have hP : Hid (atP l i = atT l (i - 61)) := by show atP _ _ = _; unfold atP; rw [if_neg h61]
    clear h61
    go_enter Tryd.func36, Tryd.ntmps36
    go_wp2_with fail
    refine (C.out _ H.out).mono ?_
    rintro e w1 ⟨nm, vl, nv, has, rfl, hv, hb⟩
    have HV := hide hv
    have R1 := hide (keepRow R.out hb)
    have E1 := hide (E.out.of hb)
    clear hv hb c0 c1
    obtain ⟨⟨k0, f0⟩, ⟨k1, f1⟩, ⟨k2, f2⟩, rr⟩ := store3d R1.out (.string nm) (.string vl) (.bool nv)
    have RF := hide rr
    clear rr
    go_wp2_with fail
    obtain ⟨n0, n1, n2⟩ := rowT RF.out
    refine bodyPost_ret (v := .tuple #[.agg #[.string nm, .string vl, .bool nv], .bool has]) ?_ rfl ⟨_, _, _, _, rfl, by rw [hP.out]; exact HV.out, below3d E1.out hle _ _ _⟩
    rw [results_cell_tmp rfl]
    go_simp
theorem results_ttct {fn : Func} {a b p d : Tmp} {ty : TypeId} (h : fn.results = #[.tmp a, .tmp b, .cell p ty, .tmp d]) (tmps : Array Value) (P : Program) (w : World) :
    (results fn tmps).run P w = ((asAddr (tmps.getD p undef)).run P w).andThen fun x w₁ => ((loadVar ty x).run P w₁).andThen fun y w₂ => .ok (.tuple #[tmps.getD a undef, tmps.getD b undef, y, tmps.getD d undef]) w₂ := by
  simp [results, h]
/-- What lies behind the document's Decode: the fields, the sizes, the table as it stands now; its own copy of the table, and the one that it hands back. -/
structure DrK (w : World) (A0 : Option Addr) (n0 c0 mx0 : Nat) (W : World) (Vf Vs : Value) (An : Option Addr) (cn : Nat) (σ : Ds) : Prop where
  of : OwnO 3 51 (w.heap.size + 3) W Vf σ.fs.length (fdV (fn σ.fs))
  os : OwnO 1 3 (w.heap.size + 3) W Vs σ.szs.length (inV σ.szs)
  now : W.heap[w.heap.size + 2]? = some (.cells #[.slice An σ.tb.length cn, .int .i64 (σ.mx : Int)] 37 (0, 0))
  rd : RdV 3 W An σ.tb.length cn (fdV (fn σ.tb))
  al : ∀ a, An = some a → a.block < W.heap.size ∧ ((∃ a0, A0 = some a0 ∧ a0.block = a.block ∧ a0.block < w.heap.size) ∨ w.heap.size + 3 ≤ a.block) ∧ Vf.ownBlock ≠ some a.block ∧ Vs.ownBlock ≠ some a.block
  fs : ∀ i, Vf.ownBlock = some i → Vs.ownBlock ≠ some i
  q2 : W.heap[w.heap.size]? = some (.cells #[.slice A0 n0 c0, .int .i64 (mx0 : Int)] 37 (0, 0))
  q6 : W.heap[w.heap.size + 1]? = some (.cells #[.slice none 0 0, .int .i64 0] 37 (0, 0))
  e : Below w.heap.size w W
section
variable {w W W' : World} {A0 : Option Addr} {n0 c0 mx0 : Nat} {Vf Vs v4 : Value} {An : Option Addr} {cn : Nat} {σ : Ds}
theorem DrK.below (h : DrK w A0 n0 c0 mx0 W Vf Vs An cn σ) (hb : Below W.heap.size W W') : DrK w A0 n0 c0 mx0 W' Vf Vs An cn σ :=
  ⟨h.of.below hb, h.os.below hb, keepRow h.now hb, h.rd.below36O hb, fun a ha => ⟨Nat.lt_of_lt_of_le (h.al a ha).1 hb.size, (h.al a ha).2⟩, h.fs, keepRow h.q2 hb, keepRow h.q6 hb, h.e.of hb⟩
theorem DrK.nq (h : DrK w A0 n0 c0 mx0 W Vf Vs An cn σ) : ∀ a, An = some a → a.block ≠ w.heap.size + 2 := fun a ha => by
  rcases (h.al a ha).2.1 with ⟨a0, _, e, l⟩ | l <;> omega
/-- Another table. -/
theorem DrK.setT (h : DrK w A0 n0 c0 mx0 W Vf Vs An cn σ) (hb : Below W.heap.size W W') {A' : Option Addr} {c' mx' : Nat} {tb' : List Fd} (hr : RdV 3 W' A' tb'.length c' (fdV (fn tb')))
    (ha : ∀ a, A' = some a → (∃ a0, An = some a0 ∧ a0.block = a.block) ∨ (W.heap.size ≤ a.block ∧ a.block < W'.heap.size)) :
    DrK w A0 n0 c0 mx0 ((W'.setCell ⟨w.heap.size + 2, 0, none⟩ (.slice A' tb'.length c')).setCell ⟨w.heap.size + 2, 1, none⟩ (.int .i64 (mx' : Int))) Vf Vs A' c' ⟨σ.fs, σ.szs, mx', tb'⟩ := by
  have hsz : ((W'.setCell ⟨w.heap.size + 2, 0, none⟩ (.slice A' tb'.length c')).setCell ⟨w.heap.size + 2, 1, none⟩ (.int .i64 (mx' : Int))).heap.size = W'.heap.size := by simp [World.setCell]
  have hk : ∀ i, i ≠ w.heap.size + 2 → ((W'.setCell ⟨w.heap.size + 2, 0, none⟩ (.slice A' tb'.length c')).setCell ⟨w.heap.size + 2, 1, none⟩ (.int .i64 (mx' : Int))).heap[i]? = W'.heap[i]? := fun i hi => heap2d hi _ _
  have k := h.below hb
  have hlt := rowLt h.now
  have hal : ∀ a, A' = some a → a.block < W'.heap.size ∧ ((∃ a0, A0 = some a0 ∧ a0.block = a.block ∧ a0.block < w.heap.size) ∨ w.heap.size + 3 ≤ a.block) ∧ Vf.ownBlock ≠ some a.block ∧ Vs.ownBlock ≠ some a.block := fun a hA => by
    rcases ha a hA with ⟨a0, h1, h2⟩ | ⟨h1, h2⟩
    · rw [← h2]
      exact k.al a0 h1
    · refine ⟨h2, .inr (by omega), fun e => ?_, fun e => ?_⟩
      · have := (h.of.lt _ e).2; omega
      · have := (h.os.lt _ e).2; omega
  refine ⟨k.of.at_ fun i hi => hk i ?_, k.os.at_ fun i hi => hk i ?_, set2t k.now _ _, ?_, fun a hA => ?_, h.fs, (hk _ (by omega)).trans k.q2, (hk _ (by omega)).trans k.q6, ?_⟩
  · have := (h.of.lt i hi).1; omega
  · have := (h.os.lt i hi).1; omega
  · have hne : ∀ a, A' = some a → a.block ≠ w.heap.size + 2 := fun a hA => by
      rcases (hal a hA).2.1 with ⟨a0, _, e, l⟩ | l <;> omega
    exact (hr.set21 hne 0 _).set21 hne 1 _
  · rw [hsz]
    exact hal a hA
  · exact (k.e.setCell (p := ⟨w.heap.size + 2, 0, none⟩) (by show _ ≤ w.heap.size + 2; omega) _).setCell (p := ⟨w.heap.size + 2, 1, none⟩) (by show _ ≤ w.heap.size + 2; omega) _
/-- A field is put behind. -/
theorem DrK.setF (h : DrK w A0 n0 c0 mx0 W Vf Vs An cn σ) (hg : W.grownBy W' Vf.ownBlock) (f : Fd) (ho : OwnO 3 51 (w.heap.size + 3) W' v4 (σ.fs.length + 1) (catV (σ.fs.length * 3) (fdV (fn σ.fs)) (fdV fun _ => f))) (hob : v4.ownBlock = Vf.ownBlock ∨ ∀ b, v4.ownBlock = some b → W.heap.size ≤ b) :
    DrK w A0 n0 c0 mx0 W' v4 Vs An cn ⟨σ.fs ++ [f], σ.szs, σ.mx, σ.tb⟩ := by
  have hnew : ∀ i, v4.ownBlock = some i → Vf.ownBlock = some i ∨ W.heap.size ≤ i := fun i hi => by
    rcases hob with e | e
    · exact .inl (e ▸ hi)
    · exact .inr (e i hi)
  have hkp : ∀ i, i < W.heap.size → Vf.ownBlock ≠ some i → W'.heap[i]? = W.heap[i]? := fun i hi hn => hg.block i hi (fun e => hn e.symm)
  have hlow : ∀ i, i < w.heap.size + 3 → i < W.heap.size → W'.heap[i]? = W.heap[i]? := fun i hi hj => hkp i hj fun e => by have := (h.of.lt i e).1; omega
  refine ⟨?_, h.os.at_ fun i hi => hkp i (h.os.lt i hi).2 (fun e => h.fs i e hi), (hlow _ (by omega) (rowLt h.now)).trans h.now, h.rd.at21 fun a ha => hkp _ (h.al a ha).1 (h.al a ha).2.2.1, fun a ha => ⟨Nat.lt_of_lt_of_le (h.al a ha).1 hg.size, (h.al a ha).2.1, fun e => ?_, (h.al a ha).2.2.2⟩, fun i hi e => ?_, (hlow _ (by omega) (rowLt h.q2)).trans h.q2, (hlow _ (by omega) (rowLt h.q6)).trans h.q6, ?_⟩
  · rw [fdV_app] at ho
    have h1 := ho.congr (G := fdV (fn (σ.fs ++ [f]))) fun i hi => fdV_congr (fn_app σ.fs f) i hi
    rw [show (σ.fs ++ [f]).length = σ.fs.length + 1 by simp]
    exact h1
  · rcases hnew _ e with k | k
    · exact (h.al a ha).2.2.1 k
    · have := (h.al a ha).1; omega
  · rcases hnew i hi with k | k
    · exact h.fs i k e
    · have := (h.os.lt i e).2; omega
  · refine h.e.grown hg h.e.size fun j hj => ?_
    have := (h.of.lt j hj).1; omega
/-- A size is put behind. -/
theorem DrK.setS (h : DrK w A0 n0 c0 mx0 W Vf Vs An cn σ) (hg : W.grownBy W' Vs.ownBlock) (z : Int) (ho : OwnO 1 3 (w.heap.size + 3) W' v4 (σ.szs.length + 1) (catV (σ.szs.length * 1) (inV σ.szs) (fun _ => .int .i64 z))) (hob : v4.ownBlock = Vs.ownBlock ∨ ∀ b, v4.ownBlock = some b → W.heap.size ≤ b) :
    DrK w A0 n0 c0 mx0 W' Vf v4 An cn ⟨σ.fs, σ.szs ++ [z], σ.mx, σ.tb⟩ := by
  have hnew : ∀ i, v4.ownBlock = some i → Vs.ownBlock = some i ∨ W.heap.size ≤ i := fun i hi => by
    rcases hob with e | e
    · exact .inl (e ▸ hi)
    · exact .inr (e i hi)
  have hkp : ∀ i, i < W.heap.size → Vs.ownBlock ≠ some i → W'.heap[i]? = W.heap[i]? := fun i hi hn => hg.block i hi (fun e => hn e.symm)
  have hlow : ∀ i, i < w.heap.size + 3 → i < W.heap.size → W'.heap[i]? = W.heap[i]? := fun i hi hj => hkp i hj fun e => by have := (h.os.lt i e).1; omega
  refine ⟨h.of.at_ fun i hi => hkp i (h.of.lt i hi).2 (h.fs i hi), ?_, (hlow _ (by omega) (rowLt h.now)).trans h.now, h.rd.at21 fun a ha => hkp _ (h.al a ha).1 (h.al a ha).2.2.2, fun a ha => ⟨Nat.lt_of_lt_of_le (h.al a ha).1 hg.size, (h.al a ha).2.1, (h.al a ha).2.2.1, fun e => ?_⟩, fun i hi e => ?_, (hlow _ (by omega) (rowLt h.q2)).trans h.q2, (hlow _ (by omega) (rowLt h.q6)).trans h.q6, ?_⟩
  · have h1 := ho.congr (G := inV (σ.szs ++ [z])) fun i hi => inV_app σ.szs z i hi
    rw [show (σ.szs ++ [z]).length = σ.szs.length + 1 by simp]
    exact h1
  · rcases hnew _ e with k | k
    · exact (h.al a ha).2.2.2 k
    · have := (h.al a ha).1; omega
  · rcases hnew i e with k | k
    · exact h.fs i hi k
    · have := (h.of.lt i hi).2; omega
  · refine h.e.grown hg h.e.size fun j hj => ?_
    have := (h.os.lt j hj).1; omega
end
/-- What the document's Decode says. -/
def DrP (f : Nat → Int) (n : Nat) (mx : Nat) (tb : List Fd) (A0 : Option Addr) (c0 : Nat) (w : World) (e : Ending) (w' : World) : Prop :=
  ∃ r, DcR f n 0 ⟨[], [], mx, tb⟩ r ∧ match r with
    | .inr er => e = .returned (.tuple #[.slice none 0 0, .slice none 0 0, .agg #[.slice A0 tb.length c0, .int .i64 (mx : Int)], .int .i64 er]) ∧ er ≠ 0 ∧ Below w.heap.size w w'
    | .inl σ => ∃ (Af : Option Addr) (cf : Nat) (As : Option Addr) (cs : Nat) (An : Option Addr) (cn : Nat), e = .returned (.tuple #[.slice Af σ.fs.length cf, .slice As σ.szs.length cs, .agg #[.slice An σ.tb.length cn, .int .i64 (σ.mx : Int)], .int .i64 0]) ∧ OwnO 3 51 w.heap.size w' (.slice Af σ.fs.length cf) σ.fs.length (fdV (fn σ.fs)) ∧ OwnO 1 3 w.heap.size w' (.slice As σ.szs.length cs) σ.szs.length (inV σ.szs) ∧
        RdV 3 w' An σ.tb.length cn (fdV (fn σ.tb)) ∧ (∀ a, An = some a → a.block < w'.heap.size ∧ ((∃ a0, A0 = some a0 ∧ a0.block = a.block) ∨ w.heap.size ≤ a.block)) ∧ Below w.heap.size w w'
end
end Go.Proofs.YtnkcbljhgcgpaaaDoor
