/- Layer 24: an encoder that is not there, and one that nobody made. -/
import Derived.Test.YtnkcbljhgcgpaaaDoorEne
namespace Go.Proofs.YtnkcbljhgcgpaaaDoor
set_option linter.unusedVariables false
set_option linter.unusedSimpArgs false
open Go.RowKit Go.Deep Go.ChangeShapes Go.WideShapes

theorem rdBk_one {w : World} {X : Bk4} (h : BkO w X) {b : Nat} {T : TypeId} (hr : w.heap[b]? = some (.cells #[.slice X.A1 X.n1 X.c1, .slice X.A2 X.n2 X.c2, .slice X.A3 X.n3 X.c3] T (0, 0))) : RdBk w (some ⟨b, 0, none⟩) 1 1 (fun _ => X) :=
  ⟨Nat.le_refl _, by simp [maxLen], fun h => (by cases h), fun _ => ⟨b, 0, rfl, fun i hi => by
    obtain rfl : i = 0 := by omega
    exact rowT hr⟩, fun _ _ => h⟩
theorem ok0 : EsOk 0 ⟨0, [], []⟩ := ⟨fun f hf => absurd hf (by simp), fun f hf => absurd hf (by simp), by decide, by decide, fun r hr => absurd hr (by simp)⟩
set_option maxRecDepth 20000 in
set_option maxHeartbeats 12800000 in
theorem nobody_walk24 (X : Bk4) (w : World) (ha : BkO w X) (T : TypeId) (fr : Nat × Nat) (hg : w.heap[0]? = some (.cells formsV T fr)) :
    Calls Tryd.prog 6 #[X.agg] w (Yes w) := by
  obtain ⟨A1, n1, c1, z, A2, n2, c2, G, A3, n3, c3, O⟩ := X
  show Calls _ _ #[.agg #[.slice A1 n1 c1, .slice A2 n2 c2, .slice A3 n3 c3]] _ _
  have al1 := (Below.refl w.heap.size w).alloc (Nat.le_refl _) (.cells #[.slice A1 n1 c1, .slice A2 n2 c2, .slice A3 n3 c3] 57)
  have al2 := al1.alloc (by simp) (.cells #[.slice A1 n1 c1, .slice A2 n2 c2, .slice A3 n3 c3] 57)
  have QA := hide (heap_alloc_new w (.cells #[.slice A1 n1 c1, .slice A2 n2 c2, .slice A3 n3 c3] 57))
  have hs1 : (w.alloc (.cells #[.slice A1 n1 c1, .slice A2 n2 c2, .slice A3 n3 c3] 57)).heap.size = w.heap.size + 1 := by simp
  have QL := heap_alloc_new (w.alloc (.cells #[.slice A1 n1 c1, .slice A2 n2 c2, .slice A3 n3 c3] 57)) (.cells #[.slice A1 n1 c1, .slice A2 n2 c2, .slice A3 n3 c3] 57)
  rw [hs1] at QL
  have L := hide (rdBk_one (ha.below al2) QL)
  have G0 := hide ((al2.block _ (rowLt hg)).trans hg)
  have E0 := hide al2
  have hf0 : Hid (0 < w.heap.size) := rowLt hg
  have HA := hide (ha.below al2)
  have QB := hide (keepRow QA.out ((Below.refl (w.alloc (.cells #[.slice A1 n1 c1, .slice A2 n2 c2, .slice A3 n3 c3] 57)).heap.size _).alloc (Nat.le_refl _) (.cells #[.slice A1 n1 c1, .slice A2 n2 c2, .slice A3 n3 c3] 57)))
  obtain ⟨b0, b1, b2⟩ := rowT QA.out
  clear al1 al2 hs1 QL hg ha
  go_enter Tryd.func6, Tryd.ntmps6
  go_wp2_with fail
  refine (large40 L.out).mono ?_
  rintro e w0 ⟨b, rfl, hd0, hsm⟩
  have hb0 := drawn_below hd0 ((w.alloc (.cells #[.slice A1 n1 c1, .slice A2 n2 c2, .slice A3 n3 c3] 57)).alloc (.cells #[.slice A1 n1 c1, .slice A2 n2 c2, .slice A3 n3 c3] 57)).heap.size
  have E1 := hide (E0.out.of hb0)
  have G1 := hide ((hb0.block _ (rowLt G0.out)).trans G0.out)
  have HA1 := hide (HA.out.below hb0)
  have QC := hide (keepRow QB.out hb0)
  have hqs : Hid (w.heap.size < w0.heap.size) := rowLt QC.out
  clear hd0 hb0 G0 E0 L HA QA QB b0 b1 b2
  cases b with
  | true =>
    go_wp2_with fail
    refine (alive24 _ T fr G1.out).mono ?_
    rintro e wz ⟨rfl, hbz⟩
    have HBz := hide hbz
    clear hbz
    go_wp2_with fail
    go_ret
    exact ⟨rfl, E1.out.of HBz.out⟩
  | false =>
  have hsm0 := (hsm rfl).2 0 (by omega)
  have hn1 : n1 ≤ 10 := hsm0.1
  have hn3 : n3 ≤ 10 := hsm0.2.1
  have hn2 : n2 ≤ 12 := hsm0.2.2.1
  have HG : Hid (∀ j, j < n2 → Sm4 (G j)) := hsm0.2.2.2
  have alz := (Below.refl w0.heap.size w0).alloc (Nat.le_refl _) (.cells #[.slice none 0 0, .int .i64 0, .int .i64 0] 62)
  have TZ0 : TL w0.heap.size (w0.alloc (.cells #[.slice none 0 0, .int .i64 0, .int .i64 0] 62)) w0.heap.size none 0 [] := TL.new w0 0 (Nat.le_refl _) (by decide) _
  have TZ := hide (TZ0.at_ (w' := (w0.alloc (.cells #[.slice none 0 0, .int .i64 0, .int .i64 0] 62)).drew) fun _ _ => rfl)
  have hp : Hid (w0.heap.size < (w0.alloc (.cells #[.slice none 0 0, .int .i64 0, .int .i64 0] 62)).heap.size) := (TZ0.lt _ (.inl rfl)).2
  have H1 : Hid (BkO (w0.alloc (.cells #[.slice none 0 0, .int .i64 0, .int .i64 0] 62)).drew ⟨A1, n1, c1, z, A2, n2, c2, G, A3, n3, c3, O⟩) := HA1.out.below alz.drew
  have E2 := hide alz.drew
  obtain ⟨q0, q1, q2⟩ := rowT (keepRow QC.out alz)
  have HO3 : Hid (RdV 4 (w0.alloc (.cells #[.slice none 0 0, .int .i64 0, .int .i64 0] 62)).drew A3 n3 c3 (opV O)) := H1.out.r3
  clear hsm hsm0 alz TZ0 QC
  go_upto_region 5 with (fail)
  generalize hW : w0.alloc (.cells #[.slice none 0 0, .int .i64 0, .int .i64 0] 62) = W1 at *
  clear hW
  go_region_held3 (fun W => W.cell? ⟨w.heap.size, 0, none⟩ = some (.slice A1 n1 c1) ∧ W.cell? ⟨w.heap.size, 1, none⟩ = some (.slice A2 n2 c2) ∧ W.cell? ⟨w.heap.size, 2, none⟩ = some (.slice A3 n3 c3))
    ((first | exact ⟨q0, q1, q2⟩ | exact S1.out | (go_keep; done)))
    ((first
      | (go_at_call 24
         (with_reducible refine (encodeNil _ _ _ _ _ _ _ _ _ _).mono ?_)
         rintro e wl ⟨rfl, rfl⟩)
      | (go_at_call 25
         (with_reducible refine (options24 HO3.out (by omega)).mono ?_)
         rintro e wa ⟨vo, rfl, ho, hb⟩
         obtain ⟨Ao, co, rfl, _, _⟩ := ho.rd
         have TZ1 := hide (TZ.out.below hb)
         have H2 := hide (H1.out.below hb)
         have E3 := hide (E2.out.of hb)
         have kc := fun {a : Addr} {v : Value} (h : W1.drew.cell? a = some v) => (hb.cell (World.block_lt_of_cell? W1.drew _ h)).trans h
         have S1 := hide (And.intro (kc q0) (And.intro (kc q1) (kc q2)))
         clear kc hb ho)))
  obtain ⟨s0, s1, s2⟩ := S1.out
  clear HO3 H1 TZ E2 q0 q1 q2
  have HO4 : Hid (RdV 4 wa.drew A3 n3 c3 (opV O)) := H2.out.r3
  have TD : Hid (TL w0.heap.size wa.drew w0.heap.size none 0 []) := TZ1.out.at_ fun _ _ => rfl
  have HD : Hid (BkO wa.drew ⟨A1, n1, c1, z, A2, n2, c2, G, A3, n3, c3, O⟩) := H2.out.below (Below.refl _ _).drew
  have ED := hide E3.out.drew
  have GD := hide ((ED.out.block _ (rowLt G1.out)).trans G1.out)
  clear TZ1 H2 E3
  go_upto_region 6 with (fail)
  go_region_held3 (fun W => W.cell? ⟨w.heap.size, 0, none⟩ = some (.slice A1 n1 c1) ∧ W.cell? ⟨w.heap.size, 1, none⟩ = some (.slice A2 n2 c2) ∧ W.cell? ⟨w.heap.size, 2, none⟩ = some (.slice A3 n3 c3))
    ((first | exact ⟨s0, s1, s2⟩ | exact S2.out | exact S3.out | (go_keep; done)))
    ((first
      | (go_at_call 25
         (with_reducible refine (options24 HO4.out (by omega)).mono ?_)
         rintro e wb ⟨vo, rfl, ho, hb⟩
         obtain ⟨Ap, cp, rfl, _, _⟩ := ho.rd
         have TZ2 := hide (TD.out.below hb)
         have H3 := hide (HD.out.below hb)
         have E4 := hide (ED.out.of hb)
         have V2 := hide ho.rdS2
         have hz : Hid (∀ a, Ap = some a → 0 < n3 → ¬ tfp w0.heap.size none a.block) := fun a ha _ hq => by
           subst ha
           have h1 := (World.ownsRow.lt ho a.block rfl).1
           have h2 := (TD.out.lt _ hq).2
           omega
         have kc := fun {a : Addr} {v : Value} (h : wa.drew.cell? a = some v) => (hb.cell (World.block_lt_of_cell? wa.drew _ h)).trans h
         have S2 := hide (And.intro (kc s0) (And.intro (kc s1) (kc s2)))
         clear kc hb ho)
      | (go_at_call 24
         have hpt : ∀ (b o : Nat) (v : Value), w0.cell? ⟨b, o, none⟩ = some v → ¬ tfp w0.heap.size none b := fun b o v hc hq => by
           have h1 := World.block_lt_of_cell? w0 _ hc
           have h2 := (TZ2.out.lt _ hq).1
           simp only at h1
           omega
         have k1 : RdV 1 wb A1 n1 c1 (izV z) := H3.out.r1
         have k2 : RdV 3 wb A2 n2 c2 (fdV G) := rdV_of_rdFd H3.out.r2
         have t1 : ∀ a, A1 = some a → 0 < n1 → ¬ tfp w0.heap.size none a.block := fun a ha hn => by
           obtain ⟨b, off, hA, hc⟩ := HA1.out.r1.2.2.2 hn
           obtain rfl := Option.some.inj (ha.symm.trans hA)
           exact hpt _ _ _ (hc 0 (by show 0 < n1 * 1; omega))
         have t2 : ∀ a, A2 = some a → 0 < n2 → ¬ tfp w0.heap.size none a.block := fun a ha hn => by
           obtain ⟨b, off, hA, hc⟩ := (rdV_of_rdFd HA1.out.r2).2.2.2 hn
           obtain rfl := Option.some.inj (ha.symm.trans hA)
           exact hpt _ _ _ (hc 0 (by show 0 < n2 * 3; omega))
         have hqp : ¬ tfp w0.heap.size none w.heap.size := fun hq => by
           rcases hq with hq | hq
           · have := hqs.out; omega
           · cases hq
         (with_reducible refine (encodeQ TZ2.out E4.out.size ok0 (by decide) A1 n1 c1 z k1 (by omega) t1 A2 n2 c2 G k2 (by omega) t2 HG.out _ n3 _ O V2.out (by omega) hz.out T fr ((E4.out.block _ (rowLt G1.out)).trans G1.out) (fun hq => by have h1 := rowLt G1.out; have h2 := (TZ2.out.lt _ hq).1; omega)).mono ?_)
         rintro e wc ⟨σ, Av, cv, g1, ok, cd, rfl, hc1, hc0, hr, hs⟩
         have HR := hide hr
         have HS := hide hs
         have HC1 := hide hc1
         have HC0 := hide hc0
         have S3 := hide (And.intro (cell_frO hs.fr S2.out.1 hqp) (And.intro (cell_frO hs.fr S2.out.2.1 hqp) (cell_frO hs.fr S2.out.2.2 hqp)))
         clear hpt t1 t2 k1 k2 hqp hr hs hc1 hc0)))
  have E5 := hide (E4.out.trans HS.out.fr.below)
  have HB3 := hide (HA1.out.below E5.out)
  have X3 := hide HS.out.ov.rdS2
  have T3 := hide HS.out.tl
  have OK3 := hide (HR.out.es ok0 (by omega) HG.out)
  obtain ⟨u0, u1, u2⟩ := S3.out
  clear HO4 TD HD ED S1 S2 S3 TZ2 H3 E4 V2 hz s0 s1 s2 HS
  have k3 : RdV 4 wc A3 n3 c3 (opV O) := HB3.out.r3
  have K3 := hide k3
  have k1 : RdV 1 wc A1 n1 c1 (izV z) := HB3.out.r1
  have K1 := hide k1
  clear k1 k3
  go_wp2_with fail
  refine (rencodeQ (tb := []) (nilRdV 3 _ _) (fun a ha => by cases ha) ok0 (by decide) A1 n1 c1 z K1.out (by omega) A2 n2 c2 G (rdV_of_rdFd HB3.out.r2) (by omega) HG.out A3 n3 c3 O K3.out (by omega)).mono ?_
  rintro e w3 ⟨σ', ok', Av', cv', An', cn', rfl, hr3, hx, ht, hal, hb3⟩
  obtain ⟨rfl, rfl⟩ := HR.out.same hr3
  have al := (Below.refl w3.heap.size w3).alloc (Nat.le_refl _) (.cells #[.slice An' σ.tb.length cn', .int .i64 (σ.mx : Int)] 37)
  have bb := hb3.of al
  have Q3 := heap_alloc_new w3 (.cells #[.slice An' σ.tb.length cn', .int .i64 (σ.mx : Int)] 37)
  have P0 := hide ((T3.out.below bb).at_ (w' := (w3.alloc (.cells #[.slice An' σ.tb.length cn', .int .i64 (σ.mx : Int)] 37)).drew) fun _ _ => rfl)
  have X5 : Hid (RdV 1 (w3.alloc (.cells #[.slice An' σ.tb.length cn', .int .i64 (σ.mx : Int)] 37)).drew Av (bN σ.rs) cv (byV (bF σ.rs))) := X3.out.below36O bb.drew
  have X5' : Hid (RdV 1 (w3.alloc (.cells #[.slice An' σ.tb.length cn', .int .i64 (σ.mx : Int)] 37)).drew Av' (bN σ.rs) cv' (byV (bF σ.rs))) := hx.below36O al.drew
  have Z5 : Hid (RdV 3 (w3.alloc (.cells #[.slice An' σ.tb.length cn', .int .i64 (σ.mx : Int)] 37)).drew An' σ.tb.length cn' (fdV (fn σ.tb))) := ht.below36O al.drew
  have E6 := hide (E5.out.of bb).drew
  have hlt : Hid (σ.tb.length ≤ 1000000) := Nat.le_trans OK3.out.len (by omega)
  obtain ⟨t0, t1⟩ := row2 Q3
  have hmm : ((σ.mx : Int) == (σ.mx : Int)) = true := by simp
  have hp0 : Hid (w3.heap.size < (w3.alloc (.cells #[.slice An' σ.tb.length cn', .int .i64 (σ.mx : Int)] 37)).heap.size) := rowLt Q3
  clear al bb hb3 hr3 hx ht hal u0 u1 u2 Q3 X3 T3 K1 K3 HB3 E5
  go_upto_region 8 with (fail)
  generalize hW : w3.alloc (.cells #[.slice An' σ.tb.length cn', .int .i64 (σ.mx : Int)] 37) = W4 at *
  generalize hP : w3.heap.size = pr at *
  clear hW hP
  cases ok
  all_goals
    first
      | (obtain rfl := HC1.out rfl)
      | (obtain rfl := HC0.out rfl)
    go_region_held3 (fun W => W.cell? ⟨pr, 0, none⟩ = some (.slice An' σ.tb.length cn') ∧ W.cell? ⟨pr, 1, none⟩ = some (.int .i64 (σ.mx : Int)))
      ((first | exact ⟨t0, t1⟩ | exact S1.out | exact S2.out | exact S3.out | exact S4.out | (go_keep; done)))
      ((first
        | (go_at_call 23; (with_reducible refine (alive24 _ T fr ((E9.out.block _ (rowLt G1.out)).trans G1.out)).mono ?_); rintro e wz ⟨rfl, hbz⟩; have EZ := hide (E9.out.of hbz); have kc := fun {a : Addr} {v : Value} (h : we.cell? a = some v) => (hbz.cell (World.block_lt_of_cell? we _ h)).trans h; have S4 := hide (And.intro (kc S3.out.1) (kc S3.out.2)); clear kc hbz)
        | (go_at_call 29; (with_reducible refine (rsameV X5.out X5'.out).mono ?_); rintro e wc ⟨rfl, hb⟩; have P1 := hide (P0.out.below hb); have E7 := hide (E6.out.of hb); have Z6 := hide (Z5.out.below36O hb); have kc := fun {a : Addr} {v : Value} (h : W4.drew.cell? a = some v) => (hb.cell (World.block_lt_of_cell? W4.drew _ h)).trans h; have S1 := hide (And.intro (kc t0) (kc t1)); clear kc hb)
        | (go_at_call 27; (with_reducible refine (emaxNil _).mono ?_); rintro e wl ⟨rfl, rfl⟩)
        | (go_at_call 28; (with_reducible refine (eallNil _).mono ?_); rintro e wl ⟨rfl, rfl⟩)
        | (go_at_call 27; (with_reducible refine (emax P1.out).mono ?_); rintro e wl ⟨rfl, rfl⟩)
        | (go_at_call 28; (with_reducible refine (eall P1.out hlt.out).mono ?_); rintro e wd ⟨v6, rfl, ho6, hb⟩; have P2 := hide (P1.out.below hb); have E8 := hide (E7.out.of hb); have Z7 := hide (Z6.out.below36O hb); have kc := fun {a : Addr} {v : Value} (h : wc.cell? a = some v) => (hb.cell (World.block_lt_of_cell? wc _ h)).trans h; have S2 := hide (And.intro (kc S1.out.1) (kc S1.out.2)); clear kc hb; obtain ⟨A6, c6, rfl, _, _⟩ := ho6.rd; have V2 := hide ho6.rdS2; clear ho6)
        | (go_at_call 15; (with_reducible refine (same21L V2.out Z7.out hlt.out).mono ?_); rintro e we ⟨rfl, hb⟩; have E9 := hide (E8.out.of hb); have kc := fun {a : Addr} {v : Value} (h : wd.cell? a = some v) => (hb.cell (World.block_lt_of_cell? wd _ h)).trans h; have S3 := hide (And.intro (kc S2.out.1) (kc S2.out.2)); clear kc hb)))
    all_goals
      go_wp2_with fail
      go_ret
      exact ⟨rfl, E1.out.of EZ.out⟩
end Go.Proofs.YtnkcbljhgcgpaaaDoor
