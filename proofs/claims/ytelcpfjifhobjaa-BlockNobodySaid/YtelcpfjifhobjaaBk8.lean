/- Layer 30: the example; whether a frame is large. -/
import Derived.Test.YtelcpfjifhobjaaBk7
namespace Go.Proofs.Ytelcpfjifhobjaa
set_option linter.unusedVariables false
set_option linter.unusedSimpArgs false
open Go.RowKit

set_option maxHeartbeats 1600000 in
theorem large14Z (v0 v1 v2 v3 : Value) (A : Option Addr) (n c : Nat) (A2 : Option Addr) (n2 c2 : Nat) (v6 v7 v8 v9 v10 v11 v12 : Value) (w : World) : Calls Try.prog 28 #[.agg #[v0, v1, v2, v3, .slice A n c, .slice A2 n2 c2, v6, v7, v8, v9, v10, v11, v12]] w fun e w' => e = .returned (.bool (decide ((2000 : Int) < (n : Int)) || decide ((100 : Int) < (n2 : Int)))) ∧ Below w.heap.size w w' := by
  have R0 := hide (heap_alloc_new w (.cells #[v0, v1, v2, v3, .slice A n c, .slice A2 n2 c2, v6, v7, v8, v9, v10, v11, v12] 28))
  have E0 := hide ((Below.refl w.heap.size w).alloc (Nat.le_refl _) (.cells #[v0, v1, v2, v3, .slice A n c, .slice A2 n2 c2, v6, v7, v8, v9, v10, v11, v12] 28))
  obtain ⟨b1, h1⟩ : ∃ b, decide ((2000 : Int) < (n : Int)) = b := ⟨_, rfl⟩
  obtain ⟨b2, h2⟩ : ∃ b, decide ((100 : Int) < (n2 : Int)) = b := ⟨_, rfl⟩
  rw [h1, h2]
  obtain ⟨c0, c1, c2', c3, c4, c5, c6, c7, c8, c9, c10, c11, c12⟩ := row13 R0.out
  cases b1 with
  | true =>
    go_enter Try.func28, Try.ntmps28
    go_wp2_with fail
    go_ret
    exact ⟨rfl, E0.out⟩
  | false =>
    go_enter Try.func28, Try.ntmps28
    go_wp2_with fail
    go_ret
    exact ⟨rfl, E0.out⟩

def one2 : Nat → Int := fun i => if i = 0 then 1 else 2
def one3 : Nat → Int := fun i => if i = 0 then 1 else if i = 1 then 2 else 3
set_option maxRecDepth 100000 in
set_option maxHeartbeats 3200000 in
theorem alive30 (w : World) : Calls Try.prog 21 #[] w (Yes w) := by
  go_enter Try.func21, Try.ntmps21
  go_wp2_with fail
  refine (new30 100 100 rfl _).mono ?_
  rintro e w1 ⟨rfl, hK, hb⟩
  have hw1 := hb.size
  have hK2 := hK.hp
  have hpw := (hK.lo _ hK.hp).2
  have al := (Below.refl w1.heap.size w1).alloc (Nat.le_refl _) (.cells #[.int .u8 1, .int .u8 2] 5)
  have K1 := hide (hK.below al)
  have E1 := hide (hb.of al)
  have D1 := hide ((Own.lit .u8 5 0 w1 one2 #[.int .u8 1, .int .u8 2] 2 (Nat.zero_le _) (by simp [maxLen]) rfl).rdS)
  have hs1 : (w1.alloc (.cells #[.int .u8 1, .int .u8 2] 5)).heap.size = w1.heap.size + 1 := by simp
  clear hK hb al hK2
  go_wp2_with fail
  refine (addMore30 1 0 1 0 (some ⟨w1.heap.size, 0, none⟩) 2 2 one2 none 0 0 (oneF 0) (oneF 0) 0 0 false 0 0 0 0 w.heap.size w.heap.size (Q1 w.heap.size) 100 {} _ K1.out (by omega) rfl rfl (by decide) (by decide) D1.out (Rd2.nil _ _ _) (by decide) (by decide) (fun b off _ e => by cases e; omega) (fun b off h0 _ => absurd h0 (by decide)) (by decide) (by decide)).mono ?_
  rintro e w2 ⟨rfl, fp2, hK, hfp, hF⟩
  have al2 := (Below.refl w2.heap.size w2).alloc (Nat.le_refl _) (.cells z13 28)
  have K2 := hide (hK.below al2)
  have E2 := hide ((E1.out.trans hF.bel).of al2)
  have hw2 := hF.bel.size
  have hs2 : (w2.alloc (.cells z13 28)).heap.size = w2.heap.size + 1 := by simp
  clear hK hfp hF al2 K1 E1 D1
  go_wp2_with fail
  refine (addNo30 6 0 0 0 none 0 0 (oneF 0) none 0 0 (oneF 0) (oneF 0) 0 0 false 0 0 0 0 w.heap.size w.heap.size fp2 100 _ _ K2.out (by omega) rfl).mono ?_
  rintro e w3 ⟨rfl, hK, hF⟩
  have al3 := (Below.refl w3.heap.size w3).alloc (Nat.le_refl _) (.cells z13 28)
  have al4 := (Below.refl (w3.alloc (.cells z13 28)).heap.size (w3.alloc (.cells z13 28))).alloc (Nat.le_refl _) (.cells #[.int .u8 3] 5)
  have hs3 : (w3.alloc (.cells z13 28)).heap.size = w3.heap.size + 1 := by simp
  have hs4 : ((w3.alloc (.cells z13 28)).alloc (.cells #[.int .u8 3] 5)).heap.size = w3.heap.size + 1 + 1 := by simp
  have hw3 := hF.bel.size
  have K3 := hide ((hK.below al3).below al4)
  have E3 := hide (((E2.out.trans hF.bel).of al3).of al4)
  have D3 := Rd.one .u8 5 (w3.alloc (.cells z13 28)) 3
  rw [hs3] at D3
  have D3 := hide D3
  have hp3 := (hK.lo _ hK.hp).2
  clear hK hF al3 al4 K2 E2
  have HE : Hid (∀ W : World, AsOk w.heap.size W w.heap.size fp2 100 (takeX {} 1 0 1 0 2 one2 0 (oneF 0) (oneF 0) 0 0 false 0 0 0 0) → w.heap.size ≤ W.heap.size → Rd .u8 W (some ⟨w3.heap.size + 1, 0, none⟩) 1 1 (oneF 3) → Calls Try.prog 25 #[.pointer (some ⟨w.heap.size, 0, none⟩), .agg #[.int .i64 9, .int .i64 4, .int .i64 1, .int .i64 0, .slice (some ⟨w3.heap.size + 1, 0, none⟩) 1 1, .slice none 0 0, .int .i64 0, .int .i64 0, .bool false, .int .i64 0, .int .i64 0, .int .i64 0, .int .i64 0]] W fun e w' => ∃ A4 c4 A5 c5, e = .returned (.tuple #[.agg #[.int .i64 1, .int .i64 0, .int .i64 1, .int .i64 0, .slice A4 3 c4, .slice A5 0 c5, .int .i64 0, .int .i64 0, .bool false, .int .i64 0, .int .i64 0, .int .i64 0, .int .i64 0], .bool true, .int .i64 0]) ∧ Rd .u8 w' A4 3 c4 (catF 2 one2 (oneF 3)) ∧ Below w.heap.size W w') := fun W hk hw hd => (addEnd30 9 4 1 0 (some ⟨w3.heap.size + 1, 0, none⟩) 1 1 (oneF 3) none 0 0 (oneF 0) (oneF 0) 0 0 false 0 0 0 0 w.heap.size w.heap.size fp2 100 (takeX {} 1 0 1 0 2 one2 0 (oneF 0) (oneF 0) 0 0 false 0 0 0 0) W hk hw rfl rfl (by decide) (by decide) hd (Rd2.nil _ _ _) (by decide) (by decide) (fun b off _ e => by cases e; omega) (fun b off h0 _ => absurd h0 (by decide)) (by decide) (by decide) ⟨true, 1, 0, 1, 0, 3, catF 2 one2 (oneF 3), 0, oneF 0, oneF 0, 0, 0, false, 0, 0, 0, 0⟩ rfl).mono fun e w' ⟨A4, c4, A5, c5, h1, h2, _, _, h5⟩ => ⟨A4, c4, A5, c5, h1, h2, h5.bel⟩
  go_wp2_with fail
  refine (HE.out _ K3.out (by omega) D3.out).mono ?_
  rintro e w4 ⟨A4, c4, A5, c5, rfl, hr4, hb4⟩
  have al5 := (Below.refl w4.heap.size w4).alloc (Nat.le_refl _) (.cells #[.int .i64 1, .int .i64 0, .int .i64 1, .int .i64 0, .slice A4 3 c4, .slice A5 0 c5, .int .i64 0, .int .i64 0, .bool false, .int .i64 0, .int .i64 0, .int .i64 0, .int .i64 0] 28)
  have al6 := (Below.refl (w4.alloc (.cells #[.int .i64 1, .int .i64 0, .int .i64 1, .int .i64 0, .slice A4 3 c4, .slice A5 0 c5, .int .i64 0, .int .i64 0, .bool false, .int .i64 0, .int .i64 0, .int .i64 0, .int .i64 0] 28)).heap.size (w4.alloc (.cells #[.int .i64 1, .int .i64 0, .int .i64 1, .int .i64 0, .slice A4 3 c4, .slice A5 0 c5, .int .i64 0, .int .i64 0, .bool false, .int .i64 0, .int .i64 0, .int .i64 0, .int .i64 0] 28))).alloc (Nat.le_refl _) (.cells #[.int .u8 1, .int .u8 2, .int .u8 3] 5)
  have hs5 : (w4.alloc (.cells #[.int .i64 1, .int .i64 0, .int .i64 1, .int .i64 0, .slice A4 3 c4, .slice A5 0 c5, .int .i64 0, .int .i64 0, .bool false, .int .i64 0, .int .i64 0, .int .i64 0, .int .i64 0] 28)).heap.size = w4.heap.size + 1 := by simp
  have E5 := hide (((E3.out.trans hb4).of al5).of al6)
  have Y5 := hide ((hr4.below al5).below al6)
  have W0_ := heap_alloc_new w4 (.cells #[.int .i64 1, .int .i64 0, .int .i64 1, .int .i64 0, .slice A4 3 c4, .slice A5 0 c5, .int .i64 0, .int .i64 0, .bool false, .int .i64 0, .int .i64 0, .int .i64 0, .int .i64 0] 28)
  have W5 := hide W0_
  have W6 := hide (keepRow W0_ al6)
  have L6 := (Own.lit .u8 5 0 (w4.alloc (.cells #[.int .i64 1, .int .i64 0, .int .i64 1, .int .i64 0, .slice A4 3 c4, .slice A5 0 c5, .int .i64 0, .int .i64 0, .bool false, .int .i64 0, .int .i64 0, .int .i64 0, .int .i64 0] 28)) one3 #[.int .u8 1, .int .u8 2, .int .u8 3] 3 (Nat.zero_le _) (by simp [maxLen]) rfl).rdS
  rw [hs5] at L6
  have L6 := hide L6
  clear hr4 hb4 al5 al6 W0_ K3 E3 D3 HE
  obtain ⟨f0_, f1_, f2_, f3_, f4_, f5_, f6_, f7_, f8_, f9_, f10_, f11_, f12_⟩ := row13 W5.out
  go_wp2_with fail
  refine (rsame_any A4 (some ⟨w4.heap.size + 1, 0, none⟩) 3 3 c4 3 (catF 2 one2 (oneF 3)) one3 _ Y5.out L6.out).mono ?_
  rw [show sameB 3 3 (catF 2 one2 (oneF 3)) one3 = true by decide]
  rintro e w7 ⟨rfl, hd⟩
  have W7 := hide (keepRow W6.out (drawn_below hd _))
  have E7 := hide (E5.out.of (drawn_below hd _))
  clear hd f0_ f1_ f2_ f3_ f4_ f5_ f6_ f7_ f8_ f9_ f10_ f11_ f12_
  obtain ⟨f0_, f1_, f2_, f3_, f4_, f5_, f6_, f7_, f8_, f9_, f10_, f11_, f12_⟩ := row13 W7.out
  go_wp2_with fail
  go_ret
  exact ⟨rfl, E7.out⟩
end Go.Proofs.Ytelcpfjifhobjaa
