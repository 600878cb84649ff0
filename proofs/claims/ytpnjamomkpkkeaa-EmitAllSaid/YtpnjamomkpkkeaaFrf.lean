/- Layer 14: frames that are the same, by the reference. -/
import Derived.Test.YtpnjamomkpkkeaaFrd
namespace Go.Proofs.Ytpnjamomkpkkeaa
set_option linter.unusedVariables false
set_option linter.unusedSimpArgs false
open Go.RowKit

set_option maxRecDepth 100000 in
set_option maxHeartbeats 12800000 in
theorem rfsame14 (T fl st pd T' fl' st' pd' : Int) (A C : Option Addr) (n c m d : Nat) (f g : Nat → Int) (A2 C2 : Option Addr) (n2 c2 m2 d2 : Nat) (s1 t1 s2 t2 : Nat → Int) (wt pa pm la co sp wt' pa' pm' la' co' sp' : Int) (al al' : Bool) (w : World) (ha : Rd .u8 w A n c f) (hb : Rd .u8 w C m d g) (hf : Byt n f) (hg : Byt m g) (hs : Rd2 w A2 n2 c2 s1 t1) (ht : Rd2 w C2 m2 d2 s2 t2) :
    Calls Try.prog 20 #[.agg #[.int .i64 T, .int .i64 fl, .int .i64 st, .int .i64 pd, .slice A n c, .slice A2 n2 c2, .int .i64 wt, .int .i64 pa, .bool al, .int .i64 pm, .int .i64 la, .int .i64 co, .int .i64 sp], .agg #[.int .i64 T', .int .i64 fl', .int .i64 st', .int .i64 pd', .slice C m d, .slice C2 m2 d2, .int .i64 wt', .int .i64 pa', .bool al', .int .i64 pm', .int .i64 la', .int .i64 co', .int .i64 sp']] w fun e w' => e = .returned (.bool (smB T fl st pd T' fl' st' pd' n m f g n2 m2 s1 t1 s2 t2 wt pa pm la co sp wt' pa' pm' la' co' sp' al al')) ∧ Below w.heap.size w w' := by
  obtain ⟨x0, x1, e0⟩ := heap2f w #[.int .i64 T, .int .i64 fl, .int .i64 st, .int .i64 pd, .slice A n c, .slice A2 n2 c2, .int .i64 wt, .int .i64 pa, .bool al, .int .i64 pm, .int .i64 la, .int .i64 co, .int .i64 sp] #[.int .i64 T', .int .i64 fl', .int .i64 st', .int .i64 pd', .slice C m d, .slice C2 m2 d2, .int .i64 wt', .int .i64 pa', .bool al', .int .i64 pm', .int .i64 la', .int .i64 co', .int .i64 sp'] 25 25
  have R0 := hide x0
  have R1 := hide x1
  have E0 := hide e0
  have HA := hide (ha.below e0)
  have HB := hide (hb.below e0)
  have HS := hide (hs.below e0)
  have HT := hide (ht.below e0)
  have Hf := hide hf
  have Hg := hide hg
  obtain ⟨b4, e4⟩ : ∃ b, sameB n m f g = b := ⟨_, rfl⟩
  obtain ⟨b5, e5⟩ : ∃ b, same2B n2 m2 s1 t1 s2 t2 = b := ⟨_, rfl⟩
  have HM : Hid (smB T fl st pd T' fl' st' pd' n m f g n2 m2 s1 t1 s2 t2 wt pa pm la co sp wt' pa' pm' la' co' sp' al al' = ((T == T') && ((fl == fl') && ((st == st') && ((pd == pd') && (b4 && (b5 && ((wt == wt') && ((pa == pa') && ((al == al') && ((pm == pm') && ((la == la') && ((co == co') && (sp == sp')))))))))))))) := by show _ = _; unfold smB; rw [e4, e5]
  have HD := hide e4
  have HE := hide e5
  clear x0 x1 e0 ha hb hs ht hf hg e4 e5
  go_enter Try.func20, Try.ntmps20
  obtain ⟨u0_, u1_, u2_, u3_, u4_, u5_, u6_, u7_, u8_, u9_, u10_, u11_, u12_⟩ := row13 R0.out
  obtain ⟨v0_, v1_, v2_, v3_, v4_, v5_, v6_, v7_, v8_, v9_, v10_, v11_, v12_⟩ := row13 R1.out
  go_wp2_with fail
  all_goals try ((try subst_vars); go_ret; refine ⟨?_, E0.out⟩; rw [HM.out]; simp_all; done)
  obtain rfl : T = T' := by assumption
  obtain rfl : fl = fl' := by assumption
  obtain rfl : st = st' := by assumption
  obtain rfl : pd = pd' := by assumption
  refine (rsame_any A C n m c d f g _ HA.out HB.out).mono ?_; rw [HD.out]; rintro e w1 ⟨rfl, hd⟩; have EE1 := hide (E0.out.of (drawn_below hd _)); have R0' := hide (keepRow R0.out (drawn_below hd _)); have R1' := hide (keepRow R1.out (drawn_below hd _)); have HS' := hide (HS.out.below (drawn_below hd _)); have HT' := hide (HT.out.below (drawn_below hd _)); clear hd R0 R1 HS HT u0_ v0_ u1_ v1_ u2_ v2_ u3_ v3_ u4_ v4_ u5_ v5_ u6_ v6_ u7_ v7_ u8_ v8_ u9_ v9_ u10_ v10_ u11_ v11_ u12_ v12_; have R0 := R0'; have R1 := R1'; have HS := HS'; have HT := HT'; clear R0' R1' HS' HT'; obtain ⟨u0_, u1_, u2_, u3_, u4_, u5_, u6_, u7_, u8_, u9_, u10_, u11_, u12_⟩ := row13 R0.out; obtain ⟨v0_, v1_, v2_, v3_, v4_, v5_, v6_, v7_, v8_, v9_, v10_, v11_, v12_⟩ := row13 R1.out
  cases b4 with
  | false =>
    go_wp2_with fail
    go_ret
    refine ⟨?_, EE1.out⟩
    rw [HM.out]
    simp
  | true =>
    go_wp2_with fail
    refine (rsame2_any A2 C2 n2 m2 c2 d2 s1 t1 s2 t2 _ HS.out HT.out).mono ?_; rw [HE.out]; rintro e w2 ⟨rfl, hd⟩; have EE := hide (EE1.out.of (drawn_below hd _)); have R0' := hide (keepRow R0.out (drawn_below hd _)); have R1' := hide (keepRow R1.out (drawn_below hd _)); clear hd u0_ v0_ u1_ v1_ u2_ v2_ u3_ v3_ u4_ v4_ u5_ v5_ u6_ v6_ u7_ v7_ u8_ v8_ u9_ v9_ u10_ v10_ u11_ v11_ u12_ v12_; obtain ⟨u0_, u1_, u2_, u3_, u4_, u5_, u6_, u7_, u8_, u9_, u10_, u11_, u12_⟩ := row13 R0'.out; obtain ⟨v0_, v1_, v2_, v3_, v4_, v5_, v6_, v7_, v8_, v9_, v10_, v11_, v12_⟩ := row13 R1'.out
    cases b5 with
    | false =>
      go_wp2_with fail
      go_ret
      refine ⟨?_, EE.out⟩
      rw [HM.out]
      simp
    | true =>
      go_wp2_with fail
      all_goals
        go_ret
        refine ⟨?_, EE.out⟩
        rw [HM.out]
        simp_all
end Go.Proofs.Ytpnjamomkpkkeaa
