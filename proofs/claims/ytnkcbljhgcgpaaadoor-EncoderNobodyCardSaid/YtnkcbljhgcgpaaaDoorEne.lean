/- Layer 24: whatever is written: the document's bytes, and its table. -/
import Derived.Test.YtnkcbljhgcgpaaaDoorEnc
import Derived.Test.YtnkcbljhgcgpaaaDoorDed
import Derived.Deep.RegionHeldLaw
namespace Go.Proofs.YtnkcbljhgcgpaaaDoor
set_option linter.unusedVariables false
set_option linter.unusedSimpArgs false
open Go.RowKit Go.Deep Go.ChangeShapes Go.WideShapes

/-- What a block leaves, on either side. -/
def EcR (mx : Nat) (tb : List Fd) (z : Nat → Int) (n1 : Nat) (G : Nat → Fd) (n2 : Nat) (O : Nat → Op4) (n3 : Nat) (σ : Es) (ok : Bool) : Prop :=
  (ok = true ∧ szok z n1 ∧ EnR G (optAt O n3) (ezN z n1 ⟨mx, tb, []⟩) n2 σ) ∨ (ok = false ∧ ¬ szok z n1 ∧ σ = ⟨mx, tb, []⟩)
section
variable {mx : Nat} {tb : List Fd} {z : Nat → Int} {n1 : Nat} {G : Nat → Fd} {n2 : Nat} {O : Nat → Op4} {n3 : Nat} {σ σ' : Es} {ok ok' : Bool}
theorem EcR.same (h : EcR mx tb z n1 G n2 O n3 σ ok) (h' : EcR mx tb z n1 G n2 O n3 σ' ok') : σ = σ' ∧ ok = ok' := by
  rcases h with ⟨rfl, h1, h2⟩ | ⟨rfl, h1, rfl⟩ <;> rcases h' with ⟨rfl, h3, h4⟩ | ⟨rfl, h3, rfl⟩
  · exact ⟨h2.same h4, rfl⟩
  · exact absurd h1 h3
  · exact absurd h3 h1
  · exact ⟨rfl, rfl⟩
theorem EcR.es (h : EcR mx tb z n1 G n2 O n3 σ ok) {T : Nat} (hs : EsOk T ⟨mx, tb, []⟩) (hT : T + n2 ≤ 900000) (hG : ∀ j, j < n2 → Sm4 (G j)) : EsOk (T + n2) ⟨σ.mx, σ.tb, []⟩ := by
  rcases h with ⟨rfl, h1, h2⟩ | ⟨rfl, h1, rfl⟩
  · have := en_ok h2 (ez_ok hs n1 h1) hT hG
    exact ⟨this.tb, this.nv, this.len, this.mx, fun r hr => absurd hr (by simp)⟩
  · exact ⟨hs.tb, hs.nv, Nat.le_trans hs.len (Nat.le_add_right _ _), hs.mx, hs.rs⟩
end
theorem encodeQ {B : Nat} {w : World} {p : Nat} {g : Option Nat} {mx : Nat} {tb : List Fd} {T : Nat} (hd : TL B w p g mx tb) (hB : B ≤ w.heap.size) (hok : EsOk T ⟨mx, tb, []⟩) (hT : T ≤ 700000)
    (A1 : Option Addr) (n1 c1 : Nat) (z : Nat → Int) (h1 : RdV 1 w A1 n1 c1 (izV z)) (hn1 : n1 ≤ 1000) (t1 : ∀ a, A1 = some a → 0 < n1 → ¬ tfp p g a.block)
    (A2 : Option Addr) (n2 c2 : Nat) (G : Nat → Fd) (h2 : RdV 3 w A2 n2 c2 (fdV G)) (hn2 : n2 ≤ 1000) (t2 : ∀ a, A2 = some a → 0 < n2 → ¬ tfp p g a.block) (hG : ∀ j, j < n2 → Sm4 (G j))
    (A3 : Option Addr) (n3 c3 : Nat) (O : Nat → Op4) (h3 : RdV 4 w A3 n3 c3 (opV O)) (hn3 : n3 ≤ 1000) (t3 : ∀ a, A3 = some a → 0 < n3 → ¬ tfp p g a.block)
    (Ty : TypeId) (fr : Nat × Nat) (hg : w.heap[0]? = some (.cells formsV Ty fr)) (hgt : ¬ tfp p g 0) :
    Calls Tryd.prog 24 #[.pointer (some ⟨p, 0, none⟩), .slice A1 n1 c1, .slice A2 n2 c2, .slice A3 n3 c3] w fun e w' => ∃ σ Av cv g1 ok cd, e = .returned (.tuple #[.slice Av (bN σ.rs) cv, .int .i64 cd]) ∧ (ok = true → cd = 0) ∧ (ok = false → cd = 1) ∧ EcR mx tb z n1 G n2 O n3 σ ok ∧ EcS B w p g w' (.slice Av (bN σ.rs) cv) g1 σ := by
  refine (encode24 hd hB hok hT A1 n1 c1 z h1 hn1 t1 A2 n2 c2 G h2 hn2 t2 hG A3 n3 c3 O h3 hn3 t3 Ty fr hg hgt).mono ?_
  rintro e w' (⟨hno, rfl, rfl⟩ | ⟨hz, σ, v, g1, rfl, hen, hs⟩)
  · exact ⟨⟨mx, tb, []⟩, none, 0, g, false, 1, rfl, fun h => (by cases h), fun _ => rfl, .inr ⟨rfl, hno, rfl⟩, hd, OwnV.nil _ _ _ _ _, FrO.of (Below.refl _ _) hB, .inl rfl, fun i hi => by cases hi⟩
  · obtain ⟨Av, cv, rfl, _, _⟩ := hs.ov.rd
    exact ⟨σ, Av, cv, g1, true, 0, rfl, fun _ => rfl, fun h => (by cases h), .inl ⟨rfl, hz, hen⟩, hs⟩
theorem rencodeQ {w : World} {A : Option Addr} {c mx : Nat} {tb : List Fd} {T : Nat} (hd : RdV 3 w A tb.length c (fdV (fn tb))) (hA : ∀ a, A = some a → a.block < w.heap.size) (hok : EsOk T ⟨mx, tb, []⟩) (hT : T ≤ 700000)
    (A1 : Option Addr) (n1 c1 : Nat) (z : Nat → Int) (h1 : RdV 1 w A1 n1 c1 (izV z)) (hn1 : n1 ≤ 1000)
    (A2 : Option Addr) (n2 c2 : Nat) (G : Nat → Fd) (h2 : RdV 3 w A2 n2 c2 (fdV G)) (hn2 : n2 ≤ 1000) (hG : ∀ j, j < n2 → Sm4 (G j))
    (A3 : Option Addr) (n3 c3 : Nat) (O : Nat → Op4) (h3 : RdV 4 w A3 n3 c3 (opV O)) (hn3 : n3 ≤ 1000) :
    Calls Tryd.prog 26 #[.agg #[.slice A tb.length c, .int .i64 (mx : Int)], .slice A1 n1 c1, .slice A2 n2 c2, .slice A3 n3 c3] w fun e w' => ∃ σ ok Av cv An cn, e = .returned (.tuple #[.slice Av (bN σ.rs) cv, .agg #[.slice An σ.tb.length cn, .int .i64 (σ.mx : Int)], .bool ok]) ∧ EcR mx tb z n1 G n2 O n3 σ ok ∧
      RdV 1 w' Av (bN σ.rs) cv (byV (bF σ.rs)) ∧ RdV 3 w' An σ.tb.length cn (fdV (fn σ.tb)) ∧ (∀ a, An = some a → a.block < w'.heap.size ∧ ((∃ a0, A = some a0 ∧ a0.block = a.block) ∨ w.heap.size ≤ a.block)) ∧ Below w.heap.size w w' := by
  refine (rencode24 hd hA hok hT A1 n1 c1 z h1 hn1 A2 n2 c2 G h2 hn2 hG A3 n3 c3 O h3 hn3).mono ?_
  rintro e w' (⟨hno, rfl, hb⟩ | ⟨hz, σ, Av, cv, An, cn, rfl, hen, hx, ht, ha, hb⟩)
  · exact ⟨⟨mx, tb, []⟩, false, none, 0, A, c, rfl, .inr ⟨rfl, hno, rfl⟩, nilRdV 1 _ _, hd.below36O hb, fun a ha => ⟨Nat.lt_of_lt_of_le (hA a ha) hb.size, .inl ⟨a, ha, rfl⟩⟩, hb⟩
  · exact ⟨σ, true, Av, cv, An, cn, rfl, .inl ⟨rfl, hz, hen⟩, hx, ht, ha, hb⟩
theorem rsameV {w : World} {A A2 : Option Addr} {n c c2 : Nat} {f : Nat → Int} (h : RdV 1 w A n c (byV f)) (k : RdV 1 w A2 n c2 (byV f)) :
    Calls Tryd.prog 29 #[.slice A n c, .slice A2 n c2] w fun e w' => e = .returned (.bool true) ∧ Below w.heap.size w w' :=
  (rsame_yes A A2 n c c2 _ _ w (V_rd h) (V_rd k) fun _ _ => rfl).mono fun e w' ⟨h1, h2⟩ => ⟨h1, drawn_below h2 _⟩
theorem large40 {w : World} {A : Option Addr} {n c : Nat} {F : Nat → Bk4} (ha : RdBk w A n c F) :
    Calls Tryd.prog 22 #[.slice A n c, .int .i64 40] w fun e w' => ∃ b, e = .returned (.bool b) ∧ Drawn w w' ∧ (b = false → n ≤ 12 ∧ ∀ i, i < n → (F i).n1 ≤ 10 ∧ (F i).n3 ≤ 10 ∧ (F i).n2 ≤ 12 ∧ ∀ j, j < (F i).n2 → Sm4 ((F i).G j)) := by
  refine (large24 ha 40).mono ?_
  rintro e w' ⟨b, rfl, hd, hb⟩
  refine ⟨b, rfl, hd, fun h => ⟨(hb h).1, fun i hi => ?_⟩⟩
  obtain ⟨h1, h2, h3, h4⟩ := (hb h).2 i hi
  exact ⟨h1, h2, h3, fun j hj => ⟨Nat.le_trans (h4 j hj).1 (by decide), Nat.le_trans (h4 j hj).2 (by decide)⟩⟩
theorem cell_frO {B : Nat} {S : Nat → Prop} {w w' : World} (hf : FrO B S w w') {b o : Nat} {v : Value} (h : w.cell? ⟨b, o, none⟩ = some v) (hS : ¬ S b) : w'.cell? ⟨b, o, none⟩ = some v := by
  have hk := hf.keep b (World.block_lt_of_cell? w _ h) hS
  rw [← h]
  unfold World.cell?
  simp only
  rw [hk]
theorem RdV.set0 {s : Nat} {w : World} {A : Option Addr} {n c : Nat} {F : Nat → Value} (h : RdV s w A n c F) {q : Nat} (hq : 0 < n → ∀ a, A = some a → a.block ≠ q) (j : Nat) (u : Value) : RdV s (w.setCell ⟨q, j, none⟩ u) A n c F := by
  rcases Nat.eq_zero_or_pos n with h0 | h0
  · exact ⟨h.1, h.2.1, h.2.2.1, fun hn => absurd hn (by omega)⟩
  · exact h.set21 (hq h0) j u
/-- Bytes stand in no table. -/
theorem u8_apart {w : World} {A : Option Addr} {n c : Nat} {f : Nat → Int} (h : RdV 1 w A n c (byV f)) {p : Nat} {T : TypeId} {B : Option Addr} {m d : Nat} {x : Int} (hr : w.heap[p]? = some (.cells #[.slice B m d, .int .i64 x] T (0, 0))) : 0 < n → ∀ a, A = some a → a.block ≠ p := fun hn a ha e => by
  obtain ⟨b, off, hA, hc⟩ := h.2.2.2 hn
  obtain rfl := Option.some.inj (ha.symm.trans hA)
  have h0 := hc 0 (by omega)
  simp only at e
  subst e
  unfold World.cell? at h0
  simp only [hr] at h0
  match off, h0 with
  | 0, h0 => simp [byV] at h0
  | 1, h0 => simp [byV] at h0
  | off + 2, h0 => simp [byV] at h0
/-- Both sides' tables. -/
structure PlE (w : World) (p pr : Nat) (W : World) (g : Option Nat) (mx : Nat) (tb : List Fd) (An : Option Addr) (cn : Nat) (T : Nat) : Prop where
  tl : TL w.heap.size W p g mx tb
  row : W.heap[pr]? = some (.cells #[.slice An tb.length cn, .int .i64 (mx : Int)] 37 (0, 0))
  rd : RdV 3 W An tb.length cn (fdV (fn tb))
  al : ∀ a, An = some a → w.heap.size ≤ a.block ∧ a.block < W.heap.size ∧ ¬ tfp p g a.block ∧ a.block ≠ pr
  e : Below w.heap.size w W
  ok : EsOk T ⟨mx, tb, []⟩
  pp : p < pr
  hp : w.heap.size ≤ p
  ng : g ≠ some pr
theorem PlE.below {w W W' : World} {p pr : Nat} {g : Option Nat} {mx : Nat} {tb : List Fd} {An : Option Addr} {cn T : Nat} (h : PlE w p pr W g mx tb An cn T) (hb : Below W.heap.size W W') : PlE w p pr W' g mx tb An cn T :=
  ⟨h.tl.below hb, keepRow h.row hb, h.rd.below36O hb, fun a ha => ⟨(h.al a ha).1, Nat.lt_of_lt_of_le (h.al a ha).2.1 hb.size, (h.al a ha).2.2⟩, h.e.of hb, h.ok, h.pp, h.hp, h.ng⟩
theorem PlE.drew {w W : World} {p pr : Nat} {g : Option Nat} {mx : Nat} {tb : List Fd} {An : Option Addr} {cn T : Nat} (h : PlE w p pr W g mx tb An cn T) : PlE w p pr W.drew g mx tb An cn T :=
  ⟨h.tl.at_ fun _ _ => rfl, h.row, h.rd, h.al, h.e.drew, h.ok, h.pp, h.hp, h.ng⟩
theorem PlE.ntp {w W : World} {p pr : Nat} {g : Option Nat} {mx : Nat} {tb : List Fd} {An : Option Addr} {cn T : Nat} (h : PlE w p pr W g mx tb An cn T) : ¬ tfp p g pr := fun hq => by
  rcases hq with hq | hq
  · have := h.pp; omega
  · exact h.ng hq
/-- The state behind a block. -/
theorem PlE.next {w W3 : World} {p pr : Nat} {g : Option Nat} {mx T : Nat} {tb : List Fd} {x0 x1 : Value} {An' : Option Addr} {cn' : Nat} (tl : TL w.heap.size W3 p g mx tb) (row : W3.heap[pr]? = some (.cells #[x0, x1] 37 (0, 0))) (rd : RdV 3 W3 An' tb.length cn' (fdV (fn tb)))
    (al : ∀ a, An' = some a → w.heap.size ≤ a.block ∧ a.block < W3.heap.size ∧ ¬ tfp p g a.block ∧ a.block ≠ pr) (e : Below w.heap.size w W3) (ok : EsOk T ⟨mx, tb, []⟩) (pp : p < pr) (hp : w.heap.size ≤ p) (hg : g ≠ some pr) :
    PlE w p pr ((W3.setCell ⟨pr, 0, none⟩ (.slice An' tb.length cn')).setCell ⟨pr, 1, none⟩ (.int .i64 (mx : Int))) g mx tb An' cn' T :=
  ⟨tl.at_ fun i hi => heap2d (fun e => by subst e; rcases hi with h | h; (· omega); (· exact hg h)) _ _, set2t row _ _, (rd.set21 (fun a ha => (al a ha).2.2.2) 0 _).set21 (fun a ha => (al a ha).2.2.2) 1 _, fun a ha => ⟨(al a ha).1, by simpa [World.setCell] using (al a ha).2.1, (al a ha).2.2⟩,
   (e.setCell (p := ⟨pr, 0, none⟩) (by show _ ≤ pr; omega) _).setCell (p := ⟨pr, 1, none⟩) (by show _ ≤ pr; omega) _, ok, pp, hp, hg⟩
set_option maxRecDepth 20000 in
set_option maxHeartbeats 12800000 in
theorem writes_walk24 (mx : Int) (A : Option Addr) (n c : Nat) (F : Nat → Bk4) (w : World) (ha : RdBk w A n c F) (T : TypeId) (fr : Nat × Nat) (hg : w.heap[0]? = some (.cells formsV T fr)) :
    Calls Tryd.prog 7 #[.int .i64 mx, .slice A n c] w (Yes w) := by
  have G0 := hide hg
  have hgl := rowLt hg
  have Ha := hide ha
  have hn63 : (n : Int) ≤ 9223372036854775807 := by have h1 := ha.1; have h2 := ha.2.1; simp only [maxLen] at h2; omega
  clear hg ha
  go_enter Tryd.func7, Tryd.ntmps7
  go_wp2_with fail
  refine (large40 Ha.out).mono ?_
  rintro e w0 ⟨b, rfl, hd0, hsm⟩
  have hb0 := drawn_below hd0 w.heap.size
  have E0 := hide hb0
  have GA := hide ((hb0.block _ hgl).trans G0.out)
  have HA := hide (Ha.out.below hb0)
  have hgl0 := rowLt GA.out
  clear hd0 hb0 Ha G0 hgl
  cases b with
  | true =>
    go_wp2_with fail
    refine (alive24 _ T fr GA.out).mono ?_
    rintro e wz ⟨rfl, hbz⟩
    have HBz := hide hbz
    clear hbz
    go_wp2_with fail
    go_ret
    exact ⟨rfl, E0.out.of HBz.out⟩
  | false =>
  have H12 := hide (hsm rfl).1
  have HSm := hide (hsm rfl).2
  clear hsm
  by_cases hmx : 0 ≤ mx ∧ mx ≤ 2147483647
  rotate_left
  · have hdm : decide (0 ≤ mx ∧ mx ≤ 2147483647) = false := decide_eq_false hmx
    go_wp2_with fail
    refine (enewNo mx hmx w0).mono ?_
    rintro e w1 ⟨rfl, rfl⟩
    go_wp2_with fail
    refine (rmay21 mx w0).mono ?_
    rintro e w1 ⟨rfl, rfl⟩
    rw [hdm]
    go_wp2_with fail
    refine (alive24 _ T fr GA.out).mono ?_
    rintro e wz ⟨rfl, hbz⟩
    have HBz := hide hbz
    clear hbz
    go_wp2_with fail
    go_ret
    exact ⟨rfl, E0.out.of HBz.out⟩
  have hdm : decide (0 ≤ mx ∧ mx ≤ 2147483647) = true := decide_eq_true hmx
  obtain ⟨m0, rfl⟩ : ∃ m0 : Nat, mx = (m0 : Int) := ⟨mx.toNat, by omega⟩
  go_wp2_with fail
  refine (enew m0 (by omega) w0).mono ?_
  rintro e w1 ⟨p, rfl, ht1, hb1⟩
  have T1 := hide ht1
  have E1 := hide hb1
  have hpw : w0.heap.size ≤ p ∧ p < w1.heap.size := ht1.lt p (.inl rfl)
  clear ht1 hb1
  go_wp2_with fail
  refine (rmay21 (m0 : Int) w1).mono ?_
  rintro e w2 ⟨rfl, rfl⟩
  rw [hdm]
  have al := (Below.refl w1.heap.size w1).alloc (Nat.le_refl _) (.cells #[.slice none 0 0, .int .i64 (m0 : Int)] 37)
  have P0 : Hid (PlE w0 p w1.heap.size (w1.alloc (.cells #[.slice none 0 0, .int .i64 (m0 : Int)] 37)) none m0 [] none 0 (12 * 0)) :=
    ⟨T1.out.below al, heap_alloc_new _ _, nilRdV 3 _ _, fun a ha => (by cases ha), E1.out.of al, ⟨fun f hf => absurd hf (by simp), fun f hf => absurd hf (by simp), Nat.le_refl _, by show m0 ≤ _; omega, fun r hr => absurd hr (by simp)⟩, hpw.2, hpw.1, (fun e => by cases e)⟩
  have hfl : Hid (0 < w0.heap.size) := hgl0
  clear al T1 E1 hdm hmx hgl0 hpw
  go_upto_region 10 with (fail)
  generalize hW : w1.alloc (.cells #[.slice none 0 0, .int .i64 (m0 : Int)] 37) = W1 at *
  generalize hP : w1.heap.size = pr at *
  clear hW hP
  go_loopw [41] (fun i wr => ∃ k : Nat, k ≤ n ∧ i = .int .i64 k ∧ ∃ g mx tb An cn, PlE w0 p pr wr g mx tb An cn (12 * k)) (fun i _ => n - (intOf i).toNat)
  case atStart => exact ⟨0, Nat.zero_le _, rfl, _, _, _, _, _, P0.out⟩
  case round =>
    obtain ⟨k, hk, rfl, g, mx, tb, An, cn, hpl⟩ := hrel
    have PL := hide hpl
    clear P0 hpl
    by_cases hlt : k < n
    rotate_left
    · obtain rfl : n = k := by omega
      have GG := hide ((PL.out.e.block _ hfl.out).trans GA.out)
      go_wp2_with fail
      refine (alive24 _ T fr GG.out).mono ?_
      rintro e wz ⟨rfl, hbz⟩
      have HBz := hide hbz
      clear hbz
      go_wp2_with fail
      go_ret
      exact ⟨rfl, E0.out.of (PL.out.e.of HBz.out)⟩
    have hkn' : (k : Int) < (n : Int) := by omega
    have hk12 : k < 12 := by have := H12.out; omega
    obtain ⟨b, off, rfl, hc0⟩ := (HA.out.below PL.out.e).at_ hlt
    have HF := hide (HA.out.2.2.2.2 k hlt)
    have HS0 := hide (HSm.out k hlt)
    generalize F k = X at *
    obtain ⟨A1, n1, c1, z, A2, n2, c2, G, A3, n3, c3, O⟩ := X
    obtain ⟨d0, d1, d2⟩ := hc0
    simp only at d0 d1 d2
    have hn1 : n1 ≤ 10 := HS0.out.1
    have hn3 : n3 ≤ 10 := HS0.out.2.1
    have hn2 : n2 ≤ 12 := HS0.out.2.2.1
    have HG : Hid (∀ j, j < n2 → Sm4 (G j)) := HS0.out.2.2.2
    have al := (Below.refl wr.heap.size wr).alloc (Nat.le_refl _) (.cells #[.slice A1 n1 c1, .slice A2 n2 c2, .slice A3 n3 c3] 57)
    have Q1 := hide (heap_alloc_new wr (.cells #[.slice A1 n1 c1, .slice A2 n2 c2, .slice A3 n3 c3] 57))
    have P1 := hide (PL.out.below al).drew
    have HB1 := hide (HF.out.below P1.out.e)
    have hqp : Hid (¬ tfp p g wr.heap.size) := fun hq => by have := (PL.out.tl.lt _ hq).2; omega
    clear HS0 al
    go_upto_region 12 with (fail)
    clear d0 d1 d2
    generalize hW : wr.alloc (.cells #[.slice A1 n1 c1, .slice A2 n2 c2, .slice A3 n3 c3] 57) = W1 at *
    generalize hq : wr.heap.size = q at *
    clear hW hq
    obtain ⟨q0, q1, q2⟩ := rowT Q1.out
    have HO3 : Hid (RdV 4 W1.drew A3 n3 c3 (opV O)) := HB1.out.r3
    clear Q1 PL
    go_region_held3 (fun W => W.cell? ⟨q, 0, none⟩ = some (.slice A1 n1 c1) ∧ W.cell? ⟨q, 1, none⟩ = some (.slice A2 n2 c2) ∧ W.cell? ⟨q, 2, none⟩ = some (.slice A3 n3 c3))
      ((first | exact ⟨q0, q1, q2⟩ | exact S1.out | exact S2.out | (go_keep; done)))
      ((first
        | (go_at_call 25
           (with_reducible refine (options24 HO3.out (by omega)).mono ?_)
           rintro e wa ⟨vo, rfl, ho, hb⟩
           obtain ⟨Ao, co, rfl, _, _⟩ := ho.rd
           have P2 := hide (P1.out.below hb)
           have HB2 := hide (HB1.out.below hb)
           have V2 := hide ho.rdS2
           have hz : Hid (∀ a, Ao = some a → 0 < n3 → ¬ tfp p g a.block) := fun a ha _ hq => by
             subst ha
             have h1 := (World.ownsRow.lt ho a.block rfl).1
             have h2 := (P1.out.tl.lt _ hq).2
             omega
           have kc := fun {a : Addr} {v : Value} (h : W1.drew.cell? a = some v) => (hb.cell (World.block_lt_of_cell? W1.drew _ h)).trans h
           have S1 := hide (And.intro (kc q0) (And.intro (kc q1) (kc q2)))
           clear kc hb ho)
        | (go_at_call 24
           have hpt : ∀ (b o : Nat) (v : Value), w0.cell? ⟨b, o, none⟩ = some v → ¬ tfp p g b := fun b o v hc hq => by
             have h1 := World.block_lt_of_cell? w0 _ hc
             have h2 := (P2.out.tl.lt _ hq).1
             simp only at h1
             omega
           have k1 : RdV 1 wa A1 n1 c1 (izV z) := HB2.out.r1
           have k2 : RdV 3 wa A2 n2 c2 (fdV G) := rdV_of_rdFd HB2.out.r2
           have t1 : ∀ a, A1 = some a → 0 < n1 → ¬ tfp p g a.block := fun a ha hn => by
             obtain ⟨b, off, hA, hc⟩ := HF.out.r1.2.2.2 hn
             obtain rfl := Option.some.inj (ha.symm.trans hA)
             exact hpt _ _ _ (hc 0 (by show 0 < n1 * 1; omega))
           have t2 : ∀ a, A2 = some a → 0 < n2 → ¬ tfp p g a.block := fun a ha hn => by
             obtain ⟨b, off, hA, hc⟩ := (rdV_of_rdFd HF.out.r2).2.2.2 hn
             obtain rfl := Option.some.inj (ha.symm.trans hA)
             exact hpt _ _ _ (hc 0 (by show 0 < n2 * 3; omega))
           (with_reducible refine (encodeQ P2.out.tl P2.out.e.size P2.out.ok (by omega) A1 n1 c1 z k1 (by omega) t1 A2 n2 c2 G k2 (by omega) t2 HG.out _ n3 _ O V2.out (by omega) hz.out T fr ((P2.out.e.block _ hfl.out).trans GA.out) (fun hq => by have h1 := hfl.out; have h2 := (P2.out.tl.lt _ hq).1; omega)).mono ?_)
           rintro e wb ⟨σ, Av, cv, g1, ok, cd, rfl, hc1, hc0, hr, hs⟩
           have HR := hide hr
           have HS := hide hs
           have HC1 := hide hc1
           have HC0 := hide hc0
           have S2 := hide (And.intro (cell_frO hs.fr S1.out.1 hqp.out) (And.intro (cell_frO hs.fr S1.out.2.1 hqp.out) (cell_frO hs.fr S1.out.2.2 hqp.out)))
           clear hpt t1 t2 k1 k2 hr hs hc1 hc0)))
    all_goals
      have R3 := hide ((HS.out.fr.keep pr (rowLt P2.out.row) P2.out.ntp).trans P2.out.row)
      have Z3 := hide (P2.out.rd.frO (by decide) HS.out.fr fun a ha => (P2.out.al a ha).2.2.1)
      have E3 := hide (P2.out.e.trans HS.out.fr.below)
      have HB3 := hide (HF.out.below E3.out)
      have X3 := hide HS.out.ov.rdS2
      have AL3 : Hid (∀ a, An = some a → w0.heap.size ≤ a.block ∧ a.block < wb.heap.size ∧ ¬ tfp p g1 a.block ∧ a.block ≠ pr) := fun a ha => by
        obtain ⟨h1, h2, h3, h4⟩ := P2.out.al a ha
        refine ⟨h1, Nat.lt_of_lt_of_le h2 HS.out.fr.below.size, fun hq => ?_, h4⟩
        rcases HS.out.tfpS _ hq with h | h
        · exact h3 h
        · omega
      have OK3 := hide (HR.out.es P2.out.ok (by omega) HG.out)
      have hng : Hid (g1 ≠ some pr) := fun e => by
        have hl := rowLt P2.out.row
        rcases HS.out.hg with h | h
        · exact P2.out.ng (h ▸ e)
        · have := h pr e; omega
      have hAv : Hid (∀ a, Av = some a → a.block ≠ pr) := fun a ha => by
        subst ha
        have h1 := (World.ownsRow.lt HS.out.ov a.block rfl).1
        have h2 := rowLt P2.out.row
        omega
      have T3 := hide HS.out.tl
      have PP : Hid (p < pr ∧ w0.heap.size ≤ p) := ⟨P2.out.pp, P2.out.hp⟩
      have OKt := hide P2.out.ok
      have hprb : Hid (pr < wb.heap.size) := rowLt R3.out
      obtain ⟨t0, t1⟩ := row2 R3.out
      obtain ⟨s0, s1, s2⟩ := S2.out
      clear P1 P2 HS S1 S2 HB1 HB2 V2 hz q0 q1 q2
      go_wp2_with fail
      refine (rencodeQ Z3.out (fun a ha => (AL3.out a ha).2.1) OKt.out (by omega) A1 n1 c1 z HB3.out.r1 (by omega) A2 n2 c2 G (rdV_of_rdFd HB3.out.r2) (by omega) HG.out A3 n3 c3 O HB3.out.r3 (by omega)).mono ?_
      rintro e w3 ⟨σ', ok', Av', cv', An', cn', rfl, hr3, hx, ht, hal, hb3⟩
      obtain ⟨rfl, rfl⟩ := HR.out.same hr3
      have al := (Below.refl w3.heap.size w3).alloc (Nat.le_refl _) (.cells #[.slice An' σ.tb.length cn', .int .i64 (σ.mx : Int)] 37)
      have bb := hb3.of al
      have AL4 : Hid (∀ a, An' = some a → w0.heap.size ≤ a.block ∧ a.block < (w3.alloc (.cells #[.slice An' σ.tb.length cn', .int .i64 (σ.mx : Int)] 37)).heap.size ∧ ¬ tfp p g1 a.block ∧ a.block ≠ pr) := fun a ha => by
        obtain ⟨h7, h8⟩ := hal a ha
        have hs := al.size
        rcases h8 with ⟨a0, h9, h10⟩ | h8
        · have h11 := AL3.out a0 h9
          rw [h10] at h11
          exact ⟨h11.1, Nat.lt_of_lt_of_le h7 hs, h11.2.2⟩
        · have h12 := hprb.out
          exact ⟨Nat.le_trans E3.out.size h8, Nat.lt_of_lt_of_le h7 hs, fun hq => (by have := (T3.out.lt _ hq).2; omega), (by omega)⟩
      have Q3 := hide (heap_alloc_new w3 (.cells #[.slice An' σ.tb.length cn', .int .i64 (σ.mx : Int)] 37))
      have R4 := hide (keepRow R3.out bb)
      have P4 := hide (PlE.next (T := 12 * (k + 1)) (T3.out.below bb) R4.out (ht.below36O al) AL4.out (E3.out.of bb) ⟨OK3.out.tb, OK3.out.nv, Nat.le_trans OK3.out.len (by omega), OK3.out.mx, OK3.out.rs⟩ PP.out.1 PP.out.2 hng.out)
      have X4 := hide (((X3.out.below36O bb).set0 (fun _ => hAv.out) 0 (.slice An' σ.tb.length cn')).set0 (fun _ => hAv.out) 1 (.int .i64 (σ.mx : Int)))
      have hAv' := u8_apart (hx.below36O al) R4.out
      have X4' := hide (((hx.below36O al).set0 hAv' 0 (.slice An' σ.tb.length cn')).set0 hAv' 1 (.int .i64 (σ.mx : Int)))
      have hne3 : Hid (w3.heap.size ≠ pr) := by show _ ≠ _; have h1 := hb3.size; have h2 := hprb.out; omega
      have hlt : Hid (σ.tb.length ≤ 1000000) := Nat.le_trans OK3.out.len (by omega)
      clear bb hb3 hr3 hx ht hal t0 t1 s0 s1 s2 T3 E3 Z3 AL3 AL4 R3 X3 HB3 hAv hAv' al hprb
      obtain ⟨t0, t1⟩ := row2 Q3.out
      obtain ⟨⟨u0, y0⟩, ⟨u1, y1⟩, rr⟩ := store2z R4.out (.slice An' σ.tb.length cn') (.int .i64 (σ.mx : Int))
      clear rr
      go_upto_region 15 with (fail)
      clear t0 t1 u0 y0 u1 y1 Q3 R4
      generalize ((w3.alloc (.cells #[.slice An' σ.tb.length cn', .int .i64 (σ.mx : Int)] 37)).setCell ⟨pr, 0, none⟩ (.slice An' σ.tb.length cn')).setCell ⟨pr, 1, none⟩ (.int .i64 (σ.mx : Int)) = W4 at *
      have P0 := hide P4.out.drew
      obtain ⟨t0, t1⟩ := row2 P4.out.row
      have hmm : ((σ.mx : Int) != (σ.mx : Int)) = false := by simp
      have X5 : Hid (RdV 1 W4.drew Av (bN σ.rs) cv (byV (bF σ.rs))) := X4.out
      have X5' : Hid (RdV 1 W4.drew Av' (bN σ.rs) cv' (byV (bF σ.rs))) := X4'.out
      clear P4 X4 X4'
      cases ok
      all_goals
        first
          | (obtain rfl := HC1.out rfl)
          | (obtain rfl := HC0.out rfl)
        first
        | (go_region_held_law (fun W => W.cell? ⟨pr, 0, none⟩ = some (.slice An' σ.tb.length cn') ∧ W.cell? ⟨pr, 1, none⟩ = some (.int .i64 (σ.mx : Int)))
          ((first | exact ⟨t0, t1⟩ | exact S1.out | exact S2.out | exact S3.out | (go_keep; done)))
          ((first
            | (go_at_call 29; (with_reducible refine (rsameV X5.out X5'.out).mono ?_); rintro e wc ⟨rfl, hb⟩; have P1 := hide (P0.out.below hb); have kc := fun {a : Addr} {v : Value} (h : W4.drew.cell? a = some v) => (hb.cell (World.block_lt_of_cell? W4.drew _ h)).trans h; have S1 := hide (And.intro (kc t0) (kc t1)); clear kc hb)
            | (go_at_call 27; (with_reducible refine (emax P1.out.tl).mono ?_); rintro e wl ⟨rfl, rfl⟩)
            | (go_at_call 28; (with_reducible refine (eall P1.out.tl hlt.out).mono ?_); rintro e wd ⟨v6, rfl, ho6, hb⟩; have P2 := hide (P1.out.below hb); have Z2 := hide (P2.out.rd); have kc := fun {a : Addr} {v : Value} (h : wc.cell? a = some v) => (hb.cell (World.block_lt_of_cell? wc _ h)).trans h; have S2 := hide (And.intro (kc S1.out.1) (kc S1.out.2)); clear kc hb; obtain ⟨A6, c6, rfl, _, _⟩ := ho6.rd; have V2 := hide ho6.rdS2; clear ho6)
            | (go_at_call 15; (with_reducible refine (same21L V2.out Z2.out hlt.out).mono ?_); rintro e we ⟨rfl, hb⟩; have P3 := hide (P2.out.below hb); have kc := fun {a : Addr} {v : Value} (h : wd.cell? a = some v) => (hb.cell (World.block_lt_of_cell? wd _ h)).trans h; have S3 := hide (And.intro (kc S2.out.1) (kc S2.out.2)); clear kc hb))))
        | (fail)
        all_goals
          go_wp2_with fail
          go_roundw
          case rel => exact ⟨k + 1, by omega, by go_num, _, _, _, _, _, P3.out⟩
          case measure => simp [intOf]; omega
end Go.Proofs.YtnkcbljhgcgpaaaDoor
