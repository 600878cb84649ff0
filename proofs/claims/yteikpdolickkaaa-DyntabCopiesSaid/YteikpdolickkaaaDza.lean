/- Layer 21: a copy stands on its own. -/
import Derived.Test.YteikpdolickkaaaDz9
import Derived.Test.YteikpdolickkaaaDy7
import Derived.Deep.Cut
namespace Go.Proofs.Yteikpdolickkaaa
open Go.RowKit Go.Deep Go.ChangeShapes Go.WideShapes

theorem row4U {w : World} {p : Nat} {T : TypeId} {a b c d : Value} (h : w.heap[p]? = some (.cells #[a, b, c, d] T (0, 0))) : w.cell? ⟨p, 0, none⟩ = some a ∧ w.cell? ⟨p, 1, none⟩ = some b ∧ w.cell? ⟨p, 2, none⟩ = some c ∧ w.cell? ⟨p, 3, none⟩ = some d := by
  refine ⟨?_, ?_, ?_, ?_⟩ <;> simp [World.cell?, h]
theorem nilRd21 (w : World) (F : Nat → Value) : RdV 3 w none 0 0 F := ⟨Nat.le_refl _, by simp [maxLen], fun _ => rfl, fun h => absurd h (Nat.lt_irrefl _)⟩
theorem sum_low21 (F : Nat → Fd) (n : Nat) : 32 * n ≤ sumW F n := by
  induction n with
  | zero => exact Nat.zero_le _
  | succ n ih =>
    show 32 * (n + 1) ≤ sumW F n + wt (F n)
    unfold wt
    omega
/-- The program's table at p, the document's in a variable at pr. -/
structure PU (B : Nat) (w : World) (p : Nat) (g : Option Nat) (pr n mx : Nat) (F : Nat → Fd) (A : Option Addr) (c : Nat) : Prop where
  t : TOk B w p g n mx F
  row : w.heap[pr]? = some (.cells #[.slice A n c, .int .i64 (mx : Int)] 50 (0, 0))
  rd : RdV 3 w A n c (fdV (rvF n F))
  ad : ∀ a, A = some a → a.block < w.heap.size ∧ ¬ tfp p g a.block ∧ a.block ≠ pr
  hp : B ≤ pr
  ap : ¬ tfp p g pr
section
variable {B : Nat} {w w' : World} {p : Nat} {g : Option Nat} {pr n mx : Nat} {F : Nat → Fd} {A : Option Addr} {c : Nat}
theorem PU.below (h : PU B w p g pr n mx F A c) (hb : Below w.heap.size w w') : PU B w' p g pr n mx F A c :=
  ⟨h.t.below hb, keepRow h.row hb, h.rd.below36O hb, fun a ha => ⟨Nat.lt_of_lt_of_le (h.ad a ha).1 hb.size, (h.ad a ha).2⟩, h.hp, h.ap⟩
theorem PU.wl (h : PU B w p g pr n mx F A c) : ∀ i, i < n → wt (rvF n F i) ≤ 500 := fun i hi => h.t.wl _ (by omega)
/-- The document's side is untouched by what is done with the program's. -/
theorem PU.rest {G : Nat → Fd} {g' : Option Nat} {n' mx' : Nat} (h : PU B w p g pr n mx F A c) (hf : FrO B (tfp p g) w w') (ht : TOk B w' p g' n' mx' G) (hg : g' = g ∨ ∀ b, g' = some b → w.heap.size ≤ b) :
    w'.heap[pr]? = some (.cells #[.slice A n c, .int .i64 (mx : Int)] 50 (0, 0)) ∧ RdV 3 w' A n c (fdV (rvF n F)) ∧ (∀ a, A = some a → a.block < w'.heap.size ∧ ¬ tfp p g' a.block ∧ a.block ≠ pr) ∧ ¬ tfp p g' pr := by
  have hlt := rowLt h.row
  refine ⟨hf.row h.row h.ap, h.rd.at21 fun a ha => hf.keep _ (h.ad a ha).1 (h.ad a ha).2.1, fun a ha => ⟨Nat.lt_of_lt_of_le (h.ad a ha).1 hf.below.size, fun hq => ?_, (h.ad a ha).2.2⟩, fun hq => ?_⟩
  · rcases hq with hq | hq
    · exact (h.ad a ha).2.1 (.inl hq)
    · rcases hg with e | e
      · exact (h.ad a ha).2.1 (.inr (e ▸ hq))
      · have := e _ hq
        have := (h.ad a ha).1
        omega
  · rcases hq with hq | hq
    · exact h.ap (.inl hq)
    · rcases hg with e | e
      · exact h.ap (.inr (e ▸ hq))
      · have := e _ hq
        omega
/-- A new table is put into the document's variable. -/
theorem PU.store {x0 x1 : Value} {A' : Option Addr} {c' : Nat} (ht : TOk B w p g n mx F) (hr : w.heap[pr]? = some (.cells #[x0, x1] 50 (0, 0))) (rd : RdV 3 w A' n c' (fdV (rvF n F))) (ad : ∀ a, A' = some a → a.block < w.heap.size ∧ ¬ tfp p g a.block ∧ a.block ≠ pr) (hp : B ≤ pr) (ap : ¬ tfp p g pr) :
    PU B ((w.setCell ⟨pr, 0, none⟩ (.slice A' n c')).setCell ⟨pr, 1, none⟩ (.int .i64 (mx : Int))) p g pr n mx F A' c' :=
  ⟨ht.at_ fun i hi => by rw [Below.heap_setCell _ ⟨pr, 1, none⟩ _ _ (fun e => by subst e; exact ap hi), Below.heap_setCell _ ⟨pr, 0, none⟩ _ _ (fun e => by subst e; exact ap hi)],
   set2t hr _ _, (rd.set21 (fun a ha => (ad a ha).2.2) 0 _).set21 (fun a ha => (ad a ha).2.2) 1 _, fun a ha => ⟨by simpa [World.setCell] using (ad a ha).1, (ad a ha).2⟩, hp, ap⟩
end
theorem addedS21 {B : Nat} {w2 w3 : World} {p : Nat} {g' : Option Nat} {n mx j : Nat} {F : Nat → Fd} {f : Fd} {A' : Option Addr} {n' c' : Nat} (hj : j ≤ n) (h1 : ∀ i, i < j → (mx : Int) - (wt f : Int) < (sumW (shF i F) (n - i) : Int)) (h2 : j = n ∨ (sumW (shF j F) (n - j) : Int) ≤ (mx : Int) - (wt f : Int))
    (hc : (mx < wt f ∧ TOk B w2 p g' (n - j) mx (shF j F)) ∨ (wt f ≤ mx ∧ TOk B w2 p g' (n - j + 1) mx (appFd (n - j) (shF j F) ⟨f.name, f.val, false⟩))) (hb : Below w2.heap.size w2 w3)
    (hr : ((mx : Int) < (wt f : Int) ∧ A' = none ∧ n' = 0 ∧ c' = 0) ∨ ((wt f : Int) ≤ (mx : Int) ∧ ∃ k, FitP (rvF n F) n ((mx : Int) - (wt f : Int)) k ∧ n' = k + 1 ∧ OwnV 3 52 w2.heap.size w3 (.slice A' n' c') n' (fdV (consFd ⟨f.name, f.val, false⟩ (rvF n F))))) :
    ∃ G2, TOk B w3 p g' n' mx G2 ∧ RdV 3 w3 A' n' c' (fdV (rvF n' G2)) ∧ (∀ a, A' = some a → w2.heap.size ≤ a.block ∧ a.block < w3.heap.size) ∧ n' ≤ n + 1 ∧ sumW G2 n' ≤ mx := by
  rcases hc with ⟨hbig, ht⟩ | ⟨hle, ht⟩
  · rcases hr with ⟨_, rfl, rfl, rfl⟩ | ⟨hle, _⟩
    · have e0 : n - j = 0 := by
        rcases h2 with h | h
        · omega
        · omega
      rw [e0] at ht
      exact ⟨shF j F, ht.below hb, ⟨Nat.le_refl _, by simp [maxLen], fun _ => rfl, fun h => absurd h (Nat.lt_irrefl _)⟩, fun a ha => (by cases ha), Nat.zero_le _, Nat.zero_le _⟩
    · omega
  · rcases hr with ⟨h, _⟩ | ⟨_, k, hk, rfl, ho⟩
    · omega
    · obtain rfl := fit_same hj h1 h2 hk
      refine ⟨appFd (n - j) (shF j F) ⟨f.name, f.val, false⟩, ht.below hb, ?_, ?_, by omega, ?_⟩
      · exact ho.rdS2.congr21 fun i hi => (fdV_congr (fun q hq => ((rvF_app (shF j F) ⟨f.name, f.val, false⟩ (n - j) q hq).trans (consFd_congr (rvF_sh F hj) q hq)).symm) i hi)
      · intro a ha
        subst ha
        exact World.ownsRow.lt ho a.block rfl
      · rw [sumW_app]
        have e : wt ⟨f.name, f.val, false⟩ = wt f := rfl
        rw [e]
        rcases h2 with h | h
        · rw [h, Nat.sub_self]
          show 0 + wt f ≤ mx
          omega
        · omega
set_option maxRecDepth 20000 in
set_option maxHeartbeats 6400000 in
theorem copies_walk21 (A : Option Addr) (n c : Nat) (F : Nat → Td) (A' : Option Addr) (n' c' : Nat) (F' : Nat → Td) (w : World) (ha : RdTd w A n c F) (ha' : RdTd w A' n' c' F') :
    Calls Try.prog 6 #[.slice A n c, .slice A' n' c'] w (Yes w) := by
  have Ha := hide ha
  have Hb := hide ha'
  have hn63 : (n : Int) ≤ 9223372036854775807 := by have h1 := ha.1; have h2 := ha.2.1; simp only [maxLen] at h2; omega
  have hn63' : (n' : Int) ≤ 9223372036854775807 := by have h1 := ha'.1; have h2 := ha'.2.1; simp only [maxLen] at h2; omega
  clear ha ha'
  go_enter Try.func6, Try.ntmps6
  go_wp2_with fail
  refine (large21 Ha.out).mono ?_
  rintro e w0 ⟨h1, rfl⟩
  rcases h1 with rfl | ⟨rfl, h60, hsm⟩
  · go_wp2_with fail
    refine (alive21 _).mono ?_
    rintro e w2 ⟨rfl, hb2⟩
    go_wp2_with fail
    go_ret
    exact ⟨rfl, hb2⟩
  have Hsm := hide hsm
  clear h60 hsm
  go_wp2_with fail
  refine (large21 Hb.out).mono ?_
  rintro e w0 ⟨h1, rfl⟩
  rcases h1 with rfl | ⟨rfl, h60, hsm⟩
  · go_wp2_with fail
    refine (alive21 _).mono ?_
    rintro e w2 ⟨rfl, hb2⟩
    go_wp2_with fail
    go_ret
    exact ⟨rfl, hb2⟩
  have Hsm' := hide hsm
  clear h60 hsm
  have T0 := hide (TOk.new (B := w.heap.size) w 200 (Nat.le_refl _) (by omega) fun _ => fda)
  have E0 := hide ((Below.refl w.heap.size w).alloc (Nat.le_refl _) (.cells #[.slice none 0 0, .int .i64 0, .int .i64 ((200 : Nat) : Int)] 68))
  have S0 : Hid (w.heap.size < (w.alloc (.cells #[.slice none 0 0, .int .i64 0, .int .i64 ((200 : Nat) : Int)] 68)).heap.size) := by show _ < _; simp
  go_wp2_with fail
  refine (new21 ((200 : Nat) : Int) (by omega) w).mono ?_
  rintro e z ⟨rfl, rfl⟩
  generalize w.alloc (.cells #[.slice none 0 0, .int .i64 0, .int .i64 ((200 : Nat) : Int)] 68) = z at *
  have al := (Below.refl z.heap.size z).alloc (Nat.le_refl _) (.cells #[.slice none 0 0, .int .i64 ((200 : Nat) : Int)] 50)
  have P0 : Hid (PU w.heap.size (z.alloc (.cells #[.slice none 0 0, .int .i64 ((200 : Nat) : Int)] 50)) w.heap.size none z.heap.size 0 200 (fun _ => fda) none 0) :=
    ⟨T0.out.below al, heap_alloc_new z _, nilRd21 _ _, fun a ha => (by cases ha), Nat.le_of_lt S0.out, fun hq => by
      rcases hq with hq | hq
      · have := S0.out; omega
      · cases hq⟩
  have E1 := hide (E0.out.of al)
  clear al T0 E0
  go_upto_region 7 with (fail)
  generalize hpr : z.heap.size = pr at *
  change Code.wp _ _ _ _ (z.alloc (.cells #[.slice none 0 0, .int .i64 ((200 : Nat) : Int)] 50))
  generalize z.alloc (.cells #[.slice none 0 0, .int .i64 ((200 : Nat) : Int)] 50) = Z at *
  clear hpr S0
  go_wp2_with fail
  go_loopw [34] (fun i wr => ∃ k : Nat, k ≤ n ∧ i = .int .i64 k ∧ ∃ (g : Option Nat) (m : Nat) (G : Nat → Fd) (A1 : Option Addr) (c1 : Nat), PU w.heap.size wr w.heap.size g pr m 200 G A1 c1 ∧ sumW G m ≤ 200 ∧ Below w.heap.size w wr) (fun i _ => n - (intOf i).toNat)
  case atStart => exact ⟨0, Nat.zero_le _, rfl, _, _, _, _, _, P0.out, Nat.zero_le _, E1.out⟩
  case round =>
    clear P0 E1
    obtain ⟨k, hk, rfl, g, m, G, A1, c1, hp, hsum, hbl⟩ := hrel
    have hm6 : 32 * m ≤ 200 := Nat.le_trans (sum_low21 G m) hsum
    by_cases hlt : k < n
    · have hkn' : (k : Int) < (n : Int) := by omega
      obtain ⟨b, off, rfl, hc0, hc1, hc2, hc3⟩ := (Ha.out.below (id hbl)).at_ hlt
      obtain ⟨hs1, hs2⟩ := Hsm.out k hlt
      generalize F k = Dk at *
      obtain ⟨⟨nm, vl, nv⟩, ds⟩ := Dk
      simp only at hc0 hc1 hc2 hc3 hs1 hs2
      have al := (Below.refl wr.heap.size wr).alloc (Nat.le_refl _) (.cells #[.string nm, .string vl, .bool nv, .int .i64 ds] 54)
      have P1 := hide (hp.below al)
      have E1 := hide (hbl.of al)
      have D1 := hide (heap_alloc_new wr (.cells #[.string nm, .string vl, .bool nv, .int .i64 ds] 54))
      have Hpr : Hid (wr.heap.size ≠ pr) := by show _ ≠ _; have := rowLt hp.row; omega
      have Hdl : Hid (∀ i, tfp w.heap.size g i → i ≠ wr.heap.size) := fun i hi => by show _ ≠ _; have := (hp.t.lt i hi).2; omega
      have hmx := hp.t.mx
      obtain ⟨t0, t1, t2, t3⟩ := row4U D1.out
      clear hp hbl al
      go_wp2_with fail
      refine (add21 P1.out.t E1.out.size (by omega) ⟨nm, vl, nv⟩ (by unfold wt; simp only; omega)).mono ?_
      rintro e w2 ⟨j, g', rfl, hj, hj1, hj2, hf2, hg', hcase⟩
      have E2 := hide (E1.out.trans hf2.below)
      have D2 := hide (hf2.row D1.out (fun h => Hdl.out _ h rfl))
      have HC := hide hcase
      have Hj1 := hide hj1
      have Hj2 := hide hj2
      have HX : Hid (w2.heap[pr]? = some (.cells #[.slice A1 m c1, .int .i64 ((200 : Nat) : Int)] 50 (0, 0)) ∧ RdV 3 w2 A1 m c1 (fdV (rvF m G)) ∧ (∀ a, A1 = some a → a.block < w2.heap.size ∧ ¬ tfp w.heap.size g' a.block ∧ a.block ≠ pr) ∧ ¬ tfp w.heap.size g' pr) := by
        rcases HC.out with ⟨_, ht⟩ | ⟨_, ht⟩
        · exact P1.out.rest hf2 ht hg'
        · exact P1.out.rest hf2 ht hg'
      clear hf2 hcase hj1 hj2 hg' t0 t1 t2 t3 D1 E1
      obtain ⟨d0, d1, d2, d3⟩ := row4U D2.out
      obtain ⟨r0, r1⟩ := row2 HX.out.1
      go_wp2_with fail
      refine (radd21 HX.out.2.1 (by omega) P1.out.wl (by omega) (by omega) ⟨nm, vl, nv⟩ (by unfold wt; simp only; omega)).mono ?_
      rintro e w3 ⟨A3, N, c3, rfl, hb3, hr3⟩
      obtain ⟨G3, ht3, hrd3, had3, hN, hs3⟩ := addedS21 hj Hj1.out Hj2.out HC.out hb3 hr3
      have HT3 := hide ht3
      have HR3 := hide hrd3
      have HP3 : Hid (¬ tfp w.heap.size g' pr) := HX.out.2.2.2
      have hw2 := E2.out.size
      have HA3 : Hid (∀ a, A3 = some a → a.block < w3.heap.size ∧ ¬ tfp w.heap.size g' a.block ∧ a.block ≠ pr) := fun a ha => by
        obtain ⟨h1, h2⟩ := had3 a ha
        refine ⟨h2, fun hq => ?_, fun hq => by have := rowLt HX.out.1; omega⟩
        rcases HC.out with ⟨_, ht⟩ | ⟨_, ht⟩
        · have := (ht.lt _ hq).2; omega
        · have := (ht.lt _ hq).2; omega
      have KR := hide (keepRow HX.out.1 hb3)
      have E3 := hide (E2.out.of hb3)
      clear ht3 hrd3 had3 hr3 hb3 HC Hj1 Hj2 E2 D2 HX r0 r1 d0 d1 d2 d3 hw2
      have K0 := frozenRow KR.out 0
      have K1 := frozenRow KR.out 1
      obtain ⟨r0, r1⟩ := row2 KR.out
      have P4 : Hid (PU w.heap.size ((w3.setCell ⟨pr, 0, none⟩ (.slice A3 N c3)).setCell ⟨pr, 1, none⟩ (.int .i64 ((200 : Nat) : Int))) w.heap.size g' pr N 200 G3 A3 c3) := PU.store HT3.out KR.out HR3.out HA3.out P1.out.hp HP3.out
      have E4 : Hid (Below w.heap.size w ((w3.setCell ⟨pr, 0, none⟩ (.slice A3 N c3)).setCell ⟨pr, 1, none⟩ (.int .i64 ((200 : Nat) : Int)))) := (E3.out.setCell P1.out.hp _).setCell P1.out.hp _
      go_wp2_with fail
      go_roundw
      case rel => exact ⟨k + 1, by omega, by go_num, _, _, _, _, _, P4.out, hs3, E4.out⟩
      case measure => simp [intOf]; omega
    · obtain rfl : n = k := by omega
      have HP := hide hp
      have HBL := hide hbl
      clear hp hbl
      go_wp2_with fail
      refine (copy21 HP.out.t (by omega)).mono ?_
      rintro e w1 ⟨p2, g2, rfl, ht2, hb2⟩
      have al2 := (Below.refl w1.heap.size w1).alloc (Nat.le_refl _) (.cells #[.slice A1 m c1, .int .i64 ((200 : Nat) : Int)] 50)
      have hpw := HP.out.below hb2
      have hp2 := ht2.lt
      obtain ⟨W0, hW0⟩ : ∃ W0, W0 = wr := ⟨_, rfl⟩
      have P2 : Hid (PU W0.heap.size (w1.alloc (.cells #[.slice A1 m c1, .int .i64 ((200 : Nat) : Int)] 50)) p2 g2 w1.heap.size m 200 G A1 c1) := by
        rw [hW0]
        exact ⟨ht2.below al2, heap_alloc_new w1 _, hpw.rd.below36O al2, fun a ha => ⟨Nat.lt_of_lt_of_le (hpw.ad a ha).1 al2.size, fun hq => by have h1 := (hp2 _ hq).1; have h2 := (HP.out.ad a ha).1; omega, by have := (hpw.ad a ha).1; omega⟩, hb2.size, fun hq => by have := (hp2 _ hq).2; omega⟩
      have E2 : Hid (Below W0.heap.size W0 (w1.alloc (.cells #[.slice A1 m c1, .int .i64 ((200 : Nat) : Int)] 50))) := by rw [hW0]; exact hb2.of al2
      have HP0 : Hid (PU w.heap.size W0 w.heap.size g pr m 200 G A1 c1) := by rw [hW0]; exact HP.out
      have HB0 : Hid (Below w.heap.size w W0) := by rw [hW0]; exact HBL.out
      obtain ⟨r0, r1⟩ := row2 hpw.row
      clear hp2 hpw ht2 hb2 al2 HP HBL hW0
      go_upto_region 15 with (fail)
      clear r0 r1
      generalize w1.heap.size = ps at *
      generalize w1.alloc (.cells #[.slice A1 m c1, .int .i64 ((200 : Nat) : Int)] 50) = Z1 at *
      go_wp2_with fail
      go_loopw [52] (fun i wr => ∃ k : Nat, k ≤ n' ∧ i = .int .i64 k ∧ ∃ (g : Option Nat) (m : Nat) (G : Nat → Fd) (A1 : Option Addr) (c1 : Nat), PU W0.heap.size wr p2 g ps m 200 G A1 c1 ∧ sumW G m ≤ 200 ∧ Below W0.heap.size W0 wr) (fun i _ => n' - (intOf i).toNat)
      case atStart => exact ⟨0, Nat.zero_le _, rfl, _, _, _, _, _, P2.out, hsum, E2.out⟩
      case round =>
        clear P2 E2
        have hm6o := hm6
        clear hm6 hsum
        rename_i wrO kO
        obtain ⟨k, hk, rfl, g3, m3, G4, A4, c4, hp, hsum, hbl⟩ := hrel
        have hm6 : 32 * m3 ≤ 200 := Nat.le_trans (sum_low21 G4 m3) hsum
        by_cases hlt : k < n'
        · have hkn' : (k : Int) < (n' : Int) := by omega
          obtain ⟨b, off, rfl, hc0, hc1, hc2, hc3⟩ := (Hb.out.below (HB0.out.of hbl)).at_ hlt
          obtain ⟨hs1, hs2⟩ := Hsm'.out k hlt
          generalize F' k = Dk at *
          obtain ⟨⟨nm, vl, nv⟩, ds⟩ := Dk
          simp only at hc0 hc1 hc2 hc3 hs1 hs2
          have al := (Below.refl wr.heap.size wr).alloc (Nat.le_refl _) (.cells #[.string nm, .string vl, .bool nv, .int .i64 ds] 54)
          have P1 := hide (hp.below al)
          have E1 := hide (hbl.of al)
          have D1 := hide (heap_alloc_new wr (.cells #[.string nm, .string vl, .bool nv, .int .i64 ds] 54))
          have Hpr : Hid (wr.heap.size ≠ ps) := by show _ ≠ _; have := rowLt hp.row; omega
          have Hdl : Hid (∀ i, tfp p2 g3 i → i ≠ wr.heap.size) := fun i hi => by show _ ≠ _; have := (hp.t.lt i hi).2; omega
          have hmx := hp.t.mx
          obtain ⟨t0, t1, t2, t3⟩ := row4U D1.out
          clear hp hbl al
          go_wp2_with fail
          refine (add21 P1.out.t E1.out.size (by omega) ⟨nm, vl, nv⟩ (by unfold wt; simp only; omega)).mono ?_
          rintro e w2 ⟨j, g', rfl, hj, hj1, hj2, hf2, hg', hcase⟩
          have E2 := hide (E1.out.trans hf2.below)
          have D2 := hide (hf2.row D1.out (fun h => Hdl.out _ h rfl))
          have HC := hide hcase
          have Hj1 := hide hj1
          have Hj2 := hide hj2
          have HX : Hid (w2.heap[ps]? = some (.cells #[.slice A4 m3 c4, .int .i64 ((200 : Nat) : Int)] 50 (0, 0)) ∧ RdV 3 w2 A4 m3 c4 (fdV (rvF m3 G4)) ∧ (∀ a, A4 = some a → a.block < w2.heap.size ∧ ¬ tfp p2 g' a.block ∧ a.block ≠ ps) ∧ ¬ tfp p2 g' ps) := by
            rcases HC.out with ⟨_, ht⟩ | ⟨_, ht⟩
            · exact P1.out.rest hf2 ht hg'
            · exact P1.out.rest hf2 ht hg'
          clear hf2 hcase hj1 hj2 hg' t0 t1 t2 t3 D1 E1
          obtain ⟨d0, d1, d2, d3⟩ := row4U D2.out
          obtain ⟨r0, r1⟩ := row2 HX.out.1
          go_wp2_with fail
          refine (radd21 HX.out.2.1 (by omega) P1.out.wl (by omega) (by omega) ⟨nm, vl, nv⟩ (by unfold wt; simp only; omega)).mono ?_
          rintro e w3 ⟨A3, N, c3, rfl, hb3, hr3⟩
          obtain ⟨G3, ht3, hrd3, had3, hN, hs3⟩ := addedS21 hj Hj1.out Hj2.out HC.out hb3 hr3
          have HT3 := hide ht3
          have HR3 := hide hrd3
          have HP3 : Hid (¬ tfp p2 g' ps) := HX.out.2.2.2
          have hw2 := E2.out.size
          have HA3 : Hid (∀ a, A3 = some a → a.block < w3.heap.size ∧ ¬ tfp p2 g' a.block ∧ a.block ≠ ps) := fun a ha => by
            obtain ⟨h1, h2⟩ := had3 a ha
            refine ⟨h2, fun hq => ?_, fun hq => by have := rowLt HX.out.1; omega⟩
            rcases HC.out with ⟨_, ht⟩ | ⟨_, ht⟩
            · have := (ht.lt _ hq).2; omega
            · have := (ht.lt _ hq).2; omega
          have KR := hide (keepRow HX.out.1 hb3)
          have E3 := hide (E2.out.of hb3)
          clear ht3 hrd3 had3 hr3 hb3 HC Hj1 Hj2 E2 D2 HX r0 r1 d0 d1 d2 d3 hw2
          have K0 := frozenRow KR.out 0
          have K1 := frozenRow KR.out 1
          obtain ⟨r0, r1⟩ := row2 KR.out
          have P4 : Hid (PU W0.heap.size ((w3.setCell ⟨ps, 0, none⟩ (.slice A3 N c3)).setCell ⟨ps, 1, none⟩ (.int .i64 ((200 : Nat) : Int))) p2 g' ps N 200 G3 A3 c3) := PU.store HT3.out KR.out HR3.out HA3.out P1.out.hp HP3.out
          have E4 : Hid (Below W0.heap.size W0 ((w3.setCell ⟨ps, 0, none⟩ (.slice A3 N c3)).setCell ⟨ps, 1, none⟩ (.int .i64 ((200 : Nat) : Int)))) := (E3.out.setCell P1.out.hp _).setCell P1.out.hp _
          go_wp2_with fail
          go_roundw
          case rel => exact ⟨k + 1, by omega, by go_num, _, _, _, _, _, P4.out, hs3, E4.out⟩
          case measure => simp [intOf]; omega
        · obtain rfl : n' = k := by omega
          have HPa := hide (HP0.out.below hbl)
          have HPb := hide hp
          have E3 := hide (HB0.out.of hbl)
          have hm3 : 32 * m3 ≤ 200 := hm6
          clear hp hbl HP0 HB0
          obtain ⟨r0, r1⟩ := row2 HPa.out.row
          go_wp2_with fail
          refine (alike21 HPa.out.t (by omega) HPa.out.rd ⟨#[97]⟩ ⟨#[]⟩).mono ?_
          rintro e w5 ⟨rfl, hb5⟩
          have HPc := hide (HPb.out.below hb5)
          have E5 := hide (E3.out.of hb5)
          clear hb5 HPa HPb E3 r0 r1
          obtain ⟨r0, r1⟩ := row2 HPc.out.row
          go_wp2_with fail
          refine (alike21 HPc.out.t (by omega) HPc.out.rd ⟨#[97]⟩ ⟨#[]⟩).mono ?_
          rintro e w6 ⟨rfl, hb6⟩
          have E6 := hide (E5.out.of hb6)
          clear hb6 HPc E5 r0 r1
          have TZ0 : Hid (TOk w6.heap.size (w6.alloc (.cells #[.slice none 0 0, .int .i64 0, .int .i64 0] 68)) w6.heap.size none 0 0 fun _ => fda) := TOk.new (B := w6.heap.size) w6 0 (Nat.le_refl _) (by omega) fun _ => fda
          have EZ0 := hide ((Below.refl w6.heap.size w6).alloc (Nat.le_refl _) (.cells #[.slice none 0 0, .int .i64 0, .int .i64 0] 68))
          go_upto_region 25 with (fail)
          generalize w6.alloc (.cells #[.slice none 0 0, .int .i64 0, .int .i64 0] 68) = Z2 at *
          go_wp2_with fail
          refine (addNil21 ⟨#[97]⟩ ⟨#[]⟩ false _).mono ?_
          rintro e w7 ⟨rfl, hb7⟩
          have TZ1 := hide (TZ0.out.below hb7)
          have EZ1 := hide (EZ0.out.of hb7)
          clear hb7 TZ0 EZ0
          go_wp2_with fail
          refine (add21 TZ1.out EZ1.out.size (by omega) ⟨⟨#[97]⟩, ⟨#[]⟩, false⟩ (by decide +kernel)).mono ?_
          rintro e w8 ⟨j, g', rfl, hj, hj1, hj2, hf2, hg', hcase⟩
          obtain rfl : j = 0 := by omega
          have TZ2 : Hid (TOk w6.heap.size w8 w6.heap.size g' 0 0 (shF 0 fun _ => fda)) := by
            rcases hcase with ⟨_, h⟩ | ⟨h, _⟩
            · exact h
            · exact absurd h (by decide +kernel)
          have EZ2 := hide (EZ1.out.trans hf2.below)
          clear hj hj1 hj2 hf2 hg' hcase TZ1 EZ1
          go_wp2_with fail
          refine (atNil21 _).mono ?_
          rintro e w9 ⟨rfl, hb9⟩
          have al9 := (Below.refl w9.heap.size w9).alloc (Nat.le_refl _) (.cells #[.string ⟨#[]⟩, .string ⟨#[]⟩, .bool false] 52)
          have TZ3 := hide ((TZ2.out.below hb9).below al9)
          have EZ3 := hide ((E6.out.of (EZ2.out.of (hb9.of al9))))
          clear hb9 al9 TZ2 EZ2 E6
          go_wp2_with fail
          refine (resizeNil21 5 _).mono ?_
          rintro e wl ⟨rfl, rfl⟩
          go_wp2_with fail
          refine (lenNil21 _).mono ?_
          rintro e wl ⟨rfl, rfl⟩
          go_wp2_with fail
          refine (sizeNil21 _).mono ?_
          rintro e wl ⟨rfl, rfl⟩
          go_wp2_with fail
          refine (maxNil21 _).mono ?_
          rintro e wl ⟨rfl, rfl⟩
          go_wp2_with fail
          refine (copyNil21 _).mono ?_
          rintro e wl ⟨rfl, rfl⟩
          have hz0 : ((0 : Nat) : Int) = 0 := rfl
          have hz1 : ((sumW (shF 0 fun _ => fda) 0 : Nat) : Int) = 0 := rfl
          go_wp2_with fail
          refine (len21 TZ3.out).mono ?_
          rintro e wl ⟨rfl, rfl⟩
          rw [hz0]
          go_wp2_with fail
          refine (size21 TZ3.out).mono ?_
          rintro e wl ⟨rfl, rfl⟩
          rw [hz1]
          go_wp2_with fail
          refine (max21 TZ3.out).mono ?_
          rintro e wl ⟨rfl, rfl⟩
          rw [hz0]
          go_wp2_with fail
          refine (allNil21 _).mono ?_
          rintro e wl ⟨rfl, rfl⟩
          go_wp2_with fail
          refine (alive21 _).mono ?_
          rintro e wa ⟨rfl, hba⟩
          have EZ4 := hide (EZ3.out.of hba)
          clear hba
          go_wp2_with fail
          go_ret
          exact ⟨rfl, EZ4.out⟩
end Go.Proofs.Yteikpdolickkaaa
