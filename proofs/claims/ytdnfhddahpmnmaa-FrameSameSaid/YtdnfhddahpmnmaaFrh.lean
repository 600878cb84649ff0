/- Layer 14: the walk of the law on frames that are the same. -/
import Derived.Test.YtdnfhddahpmnmaaFrg
import Derived.Deep.RegionHeld3
namespace Go.Proofs.Ytdnfhddahpmnmaa
open Go.RowKit

theorem smB_self (T fl st pd : Int) (n : Nat) (f : Nat → Int) (n2 : Nat) (s1 t1 : Nat → Int) (wt pa pm la co sp : Int) (al : Bool) : smB T fl st pd T fl st pd n n f f n2 n2 s1 t1 s1 t1 wt pa pm la co sp wt pa pm la co sp al al = true := by
  have h1 : sameB n n f f = true := sameB_yes rfl fun _ _ => rfl
  have h2 : same2B n2 n2 s1 t1 s1 t1 = true := decide_eq_true ⟨rfl, fun _ _ => ⟨rfl, rfl⟩⟩
  unfold smB
  rw [h1, h2]
  simp
theorem keepF {w w' : World} (hb : Below w.heap.size w w') {a : Addr} {v : Value} (h : w.cell? a = some v) : w'.cell? a = some v := (hb.cell (World.block_lt_of_cell? w _ h)).trans h
theorem S26keep {w1 w2 : World} (hb : Below w1.heap.size w1 w2) {a0 a1 a2 a3 a4 a5 a6 a7 a8 a9 a10 a11 a12 a13 a14 a15 a16 a17 a18 a19 a20 a21 a22 a23 a24 a25 : Addr} {v0 v1 v2 v3 v4 v5 v6 v7 v8 v9 v10 v11 v12 v13 v14 v15 v16 v17 v18 v19 v20 v21 v22 v23 v24 v25 : Value} (h : w1.cell? a0 = some v0 ∧ w1.cell? a1 = some v1 ∧ w1.cell? a2 = some v2 ∧ w1.cell? a3 = some v3 ∧ w1.cell? a4 = some v4 ∧ w1.cell? a5 = some v5 ∧ w1.cell? a6 = some v6 ∧ w1.cell? a7 = some v7 ∧ w1.cell? a8 = some v8 ∧ w1.cell? a9 = some v9 ∧ w1.cell? a10 = some v10 ∧ w1.cell? a11 = some v11 ∧ w1.cell? a12 = some v12 ∧ w1.cell? a13 = some v13 ∧ w1.cell? a14 = some v14 ∧ w1.cell? a15 = some v15 ∧ w1.cell? a16 = some v16 ∧ w1.cell? a17 = some v17 ∧ w1.cell? a18 = some v18 ∧ w1.cell? a19 = some v19 ∧ w1.cell? a20 = some v20 ∧ w1.cell? a21 = some v21 ∧ w1.cell? a22 = some v22 ∧ w1.cell? a23 = some v23 ∧ w1.cell? a24 = some v24 ∧ w1.cell? a25 = some v25) :
    w2.cell? a0 = some v0 ∧ w2.cell? a1 = some v1 ∧ w2.cell? a2 = some v2 ∧ w2.cell? a3 = some v3 ∧ w2.cell? a4 = some v4 ∧ w2.cell? a5 = some v5 ∧ w2.cell? a6 = some v6 ∧ w2.cell? a7 = some v7 ∧ w2.cell? a8 = some v8 ∧ w2.cell? a9 = some v9 ∧ w2.cell? a10 = some v10 ∧ w2.cell? a11 = some v11 ∧ w2.cell? a12 = some v12 ∧ w2.cell? a13 = some v13 ∧ w2.cell? a14 = some v14 ∧ w2.cell? a15 = some v15 ∧ w2.cell? a16 = some v16 ∧ w2.cell? a17 = some v17 ∧ w2.cell? a18 = some v18 ∧ w2.cell? a19 = some v19 ∧ w2.cell? a20 = some v20 ∧ w2.cell? a21 = some v21 ∧ w2.cell? a22 = some v22 ∧ w2.cell? a23 = some v23 ∧ w2.cell? a24 = some v24 ∧ w2.cell? a25 = some v25 :=
  ⟨keepF hb h.1, keepF hb h.2.1, keepF hb h.2.2.1, keepF hb h.2.2.2.1, keepF hb h.2.2.2.2.1, keepF hb h.2.2.2.2.2.1, keepF hb h.2.2.2.2.2.2.1, keepF hb h.2.2.2.2.2.2.2.1, keepF hb h.2.2.2.2.2.2.2.2.1, keepF hb h.2.2.2.2.2.2.2.2.2.1, keepF hb h.2.2.2.2.2.2.2.2.2.2.1, keepF hb h.2.2.2.2.2.2.2.2.2.2.2.1, keepF hb h.2.2.2.2.2.2.2.2.2.2.2.2.1, keepF hb h.2.2.2.2.2.2.2.2.2.2.2.2.2.1, keepF hb h.2.2.2.2.2.2.2.2.2.2.2.2.2.2.1, keepF hb h.2.2.2.2.2.2.2.2.2.2.2.2.2.2.2.1, keepF hb h.2.2.2.2.2.2.2.2.2.2.2.2.2.2.2.2.1, keepF hb h.2.2.2.2.2.2.2.2.2.2.2.2.2.2.2.2.2.1, keepF hb h.2.2.2.2.2.2.2.2.2.2.2.2.2.2.2.2.2.2.1, keepF hb h.2.2.2.2.2.2.2.2.2.2.2.2.2.2.2.2.2.2.2.1, keepF hb h.2.2.2.2.2.2.2.2.2.2.2.2.2.2.2.2.2.2.2.2.1, keepF hb h.2.2.2.2.2.2.2.2.2.2.2.2.2.2.2.2.2.2.2.2.2.1, keepF hb h.2.2.2.2.2.2.2.2.2.2.2.2.2.2.2.2.2.2.2.2.2.2.1, keepF hb h.2.2.2.2.2.2.2.2.2.2.2.2.2.2.2.2.2.2.2.2.2.2.2.1, keepF hb h.2.2.2.2.2.2.2.2.2.2.2.2.2.2.2.2.2.2.2.2.2.2.2.2.1, keepF hb h.2.2.2.2.2.2.2.2.2.2.2.2.2.2.2.2.2.2.2.2.2.2.2.2.2⟩
structure FB (w : World) (A C : Option Addr) (n c m d : Nat) (f g : Nat → Int) (A2 C2 : Option Addr) (n2 c2 m2 d2 : Nat) (s1 t1 s2 t2 : Nat → Int) : Prop where
  ha : Rd .u8 w A n c f
  hb : Rd .u8 w C m d g
  hs : Rd2 w A2 n2 c2 s1 t1
  ht : Rd2 w C2 m2 d2 s2 t2
theorem FB.below {w w' : World} {A C : Option Addr} {n c m d : Nat} {f g : Nat → Int} {A2 C2 : Option Addr} {n2 c2 m2 d2 : Nat} {s1 t1 s2 t2 : Nat → Int} (h : FB w A C n c m d f g A2 C2 n2 c2 m2 d2 s1 t1 s2 t2) (k : Below w.heap.size w w') : FB w' A C n c m d f g A2 C2 n2 c2 m2 d2 s1 t1 s2 t2 :=
  ⟨h.ha.below k, h.hb.below k, h.hs.below k, h.ht.below k⟩
set_option maxHeartbeats 1600000 in
theorem large14 (v0 v1 v2 v3 : Value) (A : Option Addr) (n c : Nat) (A2 : Option Addr) (n2 c2 : Nat) (v6 v7 v8 v9 v10 v11 v12 : Value) (w : World) : Calls Try.prog 17 #[.agg #[v0, v1, v2, v3, .slice A n c, .slice A2 n2 c2, v6, v7, v8, v9, v10, v11, v12]] w fun e w' => e = .returned (.bool (decide ((2000 : Int) < (n : Int)) || decide ((100 : Int) < (n2 : Int)))) ∧ Below w.heap.size w w' := by
  have R0 := hide (heap_alloc_new w (.cells #[v0, v1, v2, v3, .slice A n c, .slice A2 n2 c2, v6, v7, v8, v9, v10, v11, v12] 36))
  have E0 := hide ((Below.refl w.heap.size w).alloc (Nat.le_refl _) (.cells #[v0, v1, v2, v3, .slice A n c, .slice A2 n2 c2, v6, v7, v8, v9, v10, v11, v12] 36))
  obtain ⟨b1, h1⟩ : ∃ b, decide ((2000 : Int) < (n : Int)) = b := ⟨_, rfl⟩
  obtain ⟨b2, h2⟩ : ∃ b, decide ((100 : Int) < (n2 : Int)) = b := ⟨_, rfl⟩
  rw [h1, h2]
  obtain ⟨c0, c1, c2', c3, c4, c5, c6, c7, c8, c9, c10, c11, c12⟩ := row13 R0.out
  cases b1 with
  | true =>
    go_enter Try.func17, Try.ntmps17
    go_wp2_with fail
    go_ret
    exact ⟨rfl, E0.out⟩
  | false =>
    go_enter Try.func17, Try.ntmps17
    go_wp2_with fail
    go_ret
    exact ⟨rfl, E0.out⟩
set_option maxRecDepth 100000 in
set_option maxHeartbeats 12800000 in
theorem same_walk14 (T fl st pd T' fl' st' pd' : Int) (A C : Option Addr) (n c m d : Nat) (f g : Nat → Int) (A2 C2 : Option Addr) (n2 c2 m2 d2 : Nat) (s1 t1 s2 t2 : Nat → Int) (wt pa pm la co sp wt' pa' pm' la' co' sp' : Int) (al al' : Bool) (w : World) (ha : Rd .u8 w A n c f) (hb : Rd .u8 w C m d g) (hf : Byt n f) (hg : Byt m g) (hs : Rd2 w A2 n2 c2 s1 t1) (ht : Rd2 w C2 m2 d2 s2 t2) :
    Calls Try.prog 8 #[.agg #[.int .i64 T, .int .i64 fl, .int .i64 st, .int .i64 pd, .slice A n c, .slice A2 n2 c2, .int .i64 wt, .int .i64 pa, .bool al, .int .i64 pm, .int .i64 la, .int .i64 co, .int .i64 sp], .agg #[.int .i64 T', .int .i64 fl', .int .i64 st', .int .i64 pd', .slice C m d, .slice C2 m2 d2, .int .i64 wt', .int .i64 pa', .bool al', .int .i64 pm', .int .i64 la', .int .i64 co', .int .i64 sp']] w (Yes w) := by
  obtain ⟨x0, x1, e0⟩ := heap2f w #[.int .i64 T, .int .i64 fl, .int .i64 st, .int .i64 pd, .slice A n c, .slice A2 n2 c2, .int .i64 wt, .int .i64 pa, .bool al, .int .i64 pm, .int .i64 la, .int .i64 co, .int .i64 sp] #[.int .i64 T', .int .i64 fl', .int .i64 st', .int .i64 pd', .slice C m d, .slice C2 m2 d2, .int .i64 wt', .int .i64 pa', .bool al', .int .i64 pm', .int .i64 la', .int .i64 co', .int .i64 sp'] 36 36
  have R0 := hide x0
  have R1 := hide x1
  have E0 := hide e0
  have HF : Hid (FB _ A C n c m d f g A2 C2 n2 c2 m2 d2 s1 t1 s2 t2) := (⟨ha.below e0, hb.below e0, hs.below e0, ht.below e0⟩ : FB _ A C n c m d f g A2 C2 n2 c2 m2 d2 s1 t1 s2 t2)
  have Hf := hide hf
  have Hg := hide hg
  clear x0 x1 e0 ha hb hs ht hf hg
  obtain ⟨la1, hl1⟩ : ∃ b, (decide ((2000 : Int) < (n : Int)) || decide ((100 : Int) < (n2 : Int))) = b := ⟨_, rfl⟩
  obtain ⟨la2, hl2⟩ : ∃ b, (decide ((2000 : Int) < (m : Int)) || decide ((100 : Int) < (m2 : Int))) = b := ⟨_, rfl⟩
  have HL1 := hide hl1
  have HL2 := hide hl2
  obtain ⟨bs, hbs⟩ : ∃ b, smB T fl st pd T' fl' st' pd' n m f g n2 m2 s1 t1 s2 t2 wt pa pm la co sp wt' pa' pm' la' co' sp' al al' = b := ⟨_, rfl⟩
  have HS := hide hbs
  clear hl1 hl2 hbs
  obtain ⟨u0_, u1_, u2_, u3_, u4_, u5_, u6_, u7_, u8_, u9_, u10_, u11_, u12_⟩ := row13 R0.out
  go_enter Try.func8, Try.ntmps8
  go_wp2_with fail
  refine (large14 _ _ _ _ A n c A2 n2 c2 _ _ _ _ _ _ _ _).mono ?_
  rw [HL1.out]
  rintro e w1 ⟨rfl, hb1⟩
  have R0a := hide (keepRow R0.out hb1)
  have R1a := hide (keepRow R1.out hb1)
  have E1 := hide (E0.out.of hb1)
  have HF1 := hide (HF.out.below hb1)
  clear hb1 R0 R1 E0 HF u0_ u1_ u2_ u3_ u4_ u5_ u6_ u7_ u8_ u9_ u10_ u11_ u12_
  cases la1 with
  | true =>
    go_wp2_with fail
    refine (alive14 _).mono ?_
    rintro e w' ⟨rfl, hb⟩
    have HB := hide (E1.out.of hb)
    clear hb
    go_wp2_with fail
    go_ret
    exact ⟨rfl, HB.out⟩
  | false =>
    obtain ⟨v0_, v1_, v2_, v3_, v4_, v5_, v6_, v7_, v8_, v9_, v10_, v11_, v12_⟩ := row13 R1a.out
    go_wp2_with fail
    refine (large14 _ _ _ _ C m d C2 m2 d2 _ _ _ _ _ _ _ _).mono ?_
    rw [HL2.out]
    rintro e w2 ⟨rfl, hb1⟩
    have R0b := hide (keepRow R0a.out hb1)
    have R1b := hide (keepRow R1a.out hb1)
    have E2 := hide (E1.out.of hb1)
    have HF2 := hide (HF1.out.below hb1)
    clear hb1 R0a R1a E1 HF1 v0_ v1_ v2_ v3_ v4_ v5_ v6_ v7_ v8_ v9_ v10_ v11_ v12_
    cases la2 with
    | true =>
      go_wp2_with fail
      refine (alive14 _).mono ?_
      rintro e w' ⟨rfl, hb⟩
      have HB := hide (E2.out.of hb)
      clear hb
      go_wp2_with fail
      go_ret
      exact ⟨rfl, HB.out⟩
    | false =>
      obtain ⟨u0_, u1_, u2_, u3_, u4_, u5_, u6_, u7_, u8_, u9_, u10_, u11_, u12_⟩ := row13 R0b.out
      obtain ⟨v0_, v1_, v2_, v3_, v4_, v5_, v6_, v7_, v8_, v9_, v10_, v11_, v12_⟩ := row13 R1b.out
      have HFd : FB w2.drew A C n c m d f g A2 C2 n2 c2 m2 d2 s1 t1 s2 t2 := ⟨HF2.out.ha, HF2.out.hb, HF2.out.hs, HF2.out.ht⟩
      have HFD := hide HFd
      clear HFd
      go_upto_region 3 with (fail)
      go_region_held3 (fun W : World => W.cell? ⟨w.heap.size, 0, none⟩ = some (.int .i64 T) ∧ W.cell? ⟨w.heap.size, 1, none⟩ = some (.int .i64 fl) ∧ W.cell? ⟨w.heap.size, 2, none⟩ = some (.int .i64 st) ∧ W.cell? ⟨w.heap.size, 3, none⟩ = some (.int .i64 pd) ∧ W.cell? ⟨w.heap.size, 4, none⟩ = some (.slice A n c) ∧ W.cell? ⟨w.heap.size, 5, none⟩ = some (.slice A2 n2 c2) ∧ W.cell? ⟨w.heap.size, 6, none⟩ = some (.int .i64 wt) ∧ W.cell? ⟨w.heap.size, 7, none⟩ = some (.int .i64 pa) ∧ W.cell? ⟨w.heap.size, 8, none⟩ = some (.bool al) ∧ W.cell? ⟨w.heap.size, 9, none⟩ = some (.int .i64 pm) ∧ W.cell? ⟨w.heap.size, 10, none⟩ = some (.int .i64 la) ∧ W.cell? ⟨w.heap.size, 11, none⟩ = some (.int .i64 co) ∧ W.cell? ⟨w.heap.size, 12, none⟩ = some (.int .i64 sp) ∧ W.cell? ⟨w.heap.size + 1, 0, none⟩ = some (.int .i64 T') ∧ W.cell? ⟨w.heap.size + 1, 1, none⟩ = some (.int .i64 fl') ∧ W.cell? ⟨w.heap.size + 1, 2, none⟩ = some (.int .i64 st') ∧ W.cell? ⟨w.heap.size + 1, 3, none⟩ = some (.int .i64 pd') ∧ W.cell? ⟨w.heap.size + 1, 4, none⟩ = some (.slice C m d) ∧ W.cell? ⟨w.heap.size + 1, 5, none⟩ = some (.slice C2 m2 d2) ∧ W.cell? ⟨w.heap.size + 1, 6, none⟩ = some (.int .i64 wt') ∧ W.cell? ⟨w.heap.size + 1, 7, none⟩ = some (.int .i64 pa') ∧ W.cell? ⟨w.heap.size + 1, 8, none⟩ = some (.bool al') ∧ W.cell? ⟨w.heap.size + 1, 9, none⟩ = some (.int .i64 pm') ∧ W.cell? ⟨w.heap.size + 1, 10, none⟩ = some (.int .i64 la') ∧ W.cell? ⟨w.heap.size + 1, 11, none⟩ = some (.int .i64 co') ∧ W.cell? ⟨w.heap.size + 1, 12, none⟩ = some (.int .i64 sp'))
        ((first | (go_keep; done) | exact S26keep hbA (by assumption) | exact S26keep hbB (by assumption) | exact S26keep hbC (by assumption) | exact S26keep hbD (by assumption) | exact S26keep hbE (by assumption)))
        ((first
          | (go_at_call 34; (with_reducible refine (fsame14 T fl st pd T' fl' st' pd' A C n c m d f g A2 C2 n2 c2 m2 d2 s1 t1 s2 t2 wt pa pm la co sp wt' pa' pm' la' co' sp' al al' _ (by first | exact (FBB.out.ha) | exact (HFD.out.ha)) (by first | exact (FBB.out.hb) | exact (HFD.out.hb)) Hf.out Hg.out (by first | exact (FBB.out.hs) | exact (HFD.out.hs)) (by first | exact (FBB.out.ht) | exact (HFD.out.ht))).mono ?_); rw [HS.out]; rintro e wA ⟨rfl, hbA⟩; have FA : Hid (FB wA A C n c m d f g A2 C2 n2 c2 m2 d2 s1 t1 s2 t2) := (by first | exact FBB.out.below hbA | exact HFD.out.below hbA))
          | (go_at_call 25; (with_reducible refine (rfsame14 T fl st pd T' fl' st' pd' A C n c m d f g A2 C2 n2 c2 m2 d2 s1 t1 s2 t2 wt pa pm la co sp wt' pa' pm' la' co' sp' al al' _ (by first | exact (FA.out.ha) | exact (HFD.out.ha)) (by first | exact (FA.out.hb) | exact (HFD.out.hb)) Hf.out Hg.out (by first | exact (FA.out.hs) | exact (HFD.out.hs)) (by first | exact (FA.out.ht) | exact (HFD.out.ht))).mono ?_); rw [HS.out]; rintro e wB ⟨rfl, hbB⟩; have FBB : Hid (FB wB A C n c m d f g A2 C2 n2 c2 m2 d2 s1 t1 s2 t2) := (by first | exact FA.out.below hbB | exact HFD.out.below hbB))
          | (go_at_call 34; (with_reducible refine (fsame14 T fl st pd T fl st pd A A n c n c f f A2 A2 n2 c2 n2 c2 s1 t1 s1 t1 wt pa pm la co sp wt pa pm la co sp al al _ (by first | exact (FBB.out.ha) | exact (FA.out.ha)) (by first | exact (FBB.out.ha) | exact (FA.out.ha)) Hf.out Hf.out (by first | exact (FBB.out.hs) | exact (FA.out.hs)) (by first | exact (FBB.out.hs) | exact (FA.out.hs))).mono ?_); rw [smB_self]; rintro e wC ⟨rfl, hbC⟩; have FC : Hid (FB wC A C n c m d f g A2 C2 n2 c2 m2 d2 s1 t1 s2 t2) := (by first | exact FBB.out.below hbC | exact FA.out.below hbC))
          | (go_at_call 34; (with_reducible refine (fsame14 T' fl' st' pd' T' fl' st' pd' C C m d m d g g C2 C2 m2 d2 m2 d2 s2 t2 s2 t2 wt' pa' pm' la' co' sp' wt' pa' pm' la' co' sp' al' al' _ (by first | exact (FC.out.hb) | exact (FC.out.hb)) (by first | exact (FC.out.hb) | exact (FC.out.hb)) Hg.out Hg.out (by first | exact (FC.out.ht) | exact (FC.out.ht)) (by first | exact (FC.out.ht) | exact (FC.out.ht))).mono ?_); rw [smB_self]; rintro e wD ⟨rfl, hbD⟩)
          | (go_at_call 33; (with_reducible refine (alive14 _).mono ?_); rintro e wE ⟨rfl, hbE⟩)))
      all_goals
        have HB : Hid (Below w.heap.size w wE) := by
          first
            | exact (((((E2.out.drew.of hbA).of hbB).of hbC).of hbD).of hbE)
            | exact (((((E2.out.drew.of hbB).of hbA).of hbC).of hbD).of hbE)
        go_wp2_with fail
        go_ret
        exact ⟨rfl, HB.out⟩
end Go.Proofs.Ytdnfhddahpmnmaa
