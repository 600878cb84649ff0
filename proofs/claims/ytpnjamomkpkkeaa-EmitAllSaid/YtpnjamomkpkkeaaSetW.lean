/- Layer 13: the reference's Put; the walks of SettingParses and SettingPuts. -/
import Derived.Test.YtpnjamomkpkkeaaMJ
namespace Go.Proofs.Ytpnjamomkpkkeaa
set_option linter.unusedVariables false
set_option linter.unusedSimpArgs false
open Go.RowKit

theorem Own.apart {k k' : IntKind} {e e' : TypeId} {B B' : Nat} {w w0 : World} {v v' : Value} {n n' : Nat} {f f' : Nat → Int} (h : Own k e B w v n f) (h' : Own k' e' B' w0 v' n' f') (hB : w0.heap.size ≤ B) : v.ownBlock = none ∨ v.ownBlock ≠ v'.ownBlock := by
  cases hv : v.ownBlock with
  | none => exact .inl rfl
  | some j =>
    refine .inr fun he => ?_
    have l1 := (World.ownsRow.lt h j hv).1
    have l2 := (World.ownsRow.lt h' j he.symm).2
    omega
theorem Own.keptG {k : IntKind} {e : TypeId} {B : Nat} {w w' : World} {v : Value} {n : Nat} {f : Nat → Int} {row : Option Nat} (h : Own k e B w v n f) (hg : w.grownBy w' row) (hne : v.ownBlock = none ∨ v.ownBlock ≠ row) : Own k e B w' v n f := World.ownsRow.kept h hg hne
set_option maxHeartbeats 6400000 in
theorem rsput_any (A : Option Addr) (n c : Nat) (F G : Nat → Int) (w : World) (ha : Rd2 w A n c F G) (hn : n ≤ 100000) :
    Calls Try.prog 106 #[.slice A n c] w (SPut w n F G (.bool false) (.bool true)) := by
  obtain ⟨i0, hi, hz0, hz1, hz2⟩ := info_parts u8_info
  have Ha := hide ha
  clear ha
  go_enter Try.func106, Try.ntmps106
  go_wp2
  go_loopw [4, 5] (fun b i wr => ∃ k : Nat, k ≤ n ∧ i = .int .i64 k ∧ (∀ j, j < k → okS F G j) ∧ Own .u8 5 w.heap.size wr b (k * 6) (sB F G) ∧ Below w.heap.size w wr) (fun _ i _ => n - (intOf i).toNat)
  case atStart => exact ⟨0, Nat.zero_le _, rfl, fun j hj => absurd hj (by omega), Own.nil _ _ _ _ _, Below.refl _ _⟩
  case round =>
    obtain ⟨k, hk, rfl, hok, hown, hB⟩ := hrel
    have Hok := hide hok
    have Hown := hide hown
    have HB := hide hB
    have hsz := hB.size
    clear hok hown hB
    by_cases hlt : k < n
    · obtain ⟨b0, off, rfl, hc0, hc1⟩ := (Ha.out.below HB.out).at_ hlt
      have hkn : (k : Int) < (n : Int) := by omega
      by_cases hf : 0 ≤ F k ∧ F k < 65536
      · obtain ⟨f0, f1⟩ := hf
        go_wp2_with fail
        refine (rputS none 0 0 2 2 _ (F k) rfl rfl (oneF 0) _ (Rd.nil _ _ _) (by omega) (by omega) (by omega) f0 (by rw [pw2]; exact f1)).mono ?_
        rintro e w1 ⟨A1, k1, rfl, ho1, hb1⟩
        have HB1 := hide (HB.out.of hb1)
        have Hob1 := hide (Hown.out.below hb1)
        have Hr1 := hide ho1.rdS
        clear ho1 hb1 hc0 hc1
        obtain ⟨b0', off', hA, hc0, hc1⟩ := (Ha.out.below HB1.out).at_ hlt
        obtain ⟨rfl, rfl⟩ : b0 = b0' ∧ off = off' := by simpa using hA
        clear hA
        by_cases hg : 0 ≤ G k ∧ G k < 4294967296
        · obtain ⟨g0, g1⟩ := hg
          have Hk : Hid (okS F G k) := ⟨⟨f0, f1⟩, g0, g1⟩
          go_wp2_with fail
          refine (rputS none 0 0 4 4 _ (G k) rfl rfl (oneF 0) _ (Rd.nil _ _ _) (by omega) (by omega) (by omega) g0 (by rw [pw4]; exact g1)).mono ?_
          rintro e w2 ⟨A2, k2, rfl, ho2, hb2⟩
          have HB2 := hide (HB1.out.of hb2)
          have Hob2 := hide (Hob1.out.below hb2)
          have Hr1' := hide (Hr1.out.below hb2)
          have Hap := hide (ho2.apart Hob1.out (Nat.le_refl _))
          have Ho2 := hide ho2
          have hs2 := HB2.out.size
          have Hk' : Hid (∀ j, j < k + 1 → okS F G j) := fun j hj => by
            by_cases h : j = k
            · subst h; exact Hk.out
            · exact Hok.out j (by omega)
          clear ho2 hb2 HB1 Hob1 Hr1 hc0 hc1
          set_option maxRecDepth 20000 in
          go_wp2_with (first
            | (at_builtin; refine wp_app (o := ⟨some 42, _, _, _, _, _⟩) rfl (.tmp 40) (.tmp 41) _ rfl i0 0 1 Try.underlying22 hi hz0 hz1 hz2 w.heap.size _ (k * 6) _ rfl Hob2.out A1 2 k1 _ rfl Hr1'.out (by simp only [maxLen]; omega) (by omega) hs2 ?_; intro v3 w3 hown3 hg3; have HB3 := hide (HB2.out.grown hg3 hs2 (fun j e => (World.ownsRow.lt Hob2.out j e).1)); have hs3 := HB3.out.size; have Ho3 := hide hown3; have Hr3 := hide (Ho2.out.keptG hg3 Hap.out).rdS; clear hown3 hg3)
            | (at_builtin; refine wp_app (o := ⟨some 44, _, _, _, _, _⟩) rfl (.tmp 42) (.tmp 43) _ rfl i0 0 1 Try.underlying22 hi hz0 hz1 hz2 w.heap.size _ (k * 6 + 2) _ rfl Ho3.out A2 4 k2 _ rfl Hr3.out (by simp only [maxLen]; omega) (by omega) hs3 ?_; intro v4 w4 hown4 hg4))
          have HB4 := hide (HB3.out.grown hg4 hs3 (fun j e => (World.ownsRow.lt Ho3.out j e).1))
          have Ho4 := hide (hown4.congr (sB_app2 F G k))
          clear hown4 hg4
          go_roundw
          case rel => exact ⟨k + 1, by omega, by go_num, Hk'.out, by rw [show (k + 1) * 6 = k * 6 + 2 + 4 by omega]; exact Ho4.out, HB4.out⟩
          case measure => simp [intOf]; omega
        · have hg' : G k < 0 ∨ pw ((4 : Nat) : Int) ≤ G k := by rw [pw4]; omega
          have Hno : Hid (¬ ∀ i, i < n → okS F G i) := fun h => hg (h k hlt).2
          have Hg := hide hg'
          clear hg hg'
          go_wp2_with fail
          refine (rputR none 0 0 4 (G k) _ rfl _ (by omega) (by omega) Hg.out).mono ?_
          rintro e w2 ⟨rfl, rfl⟩
          go_wp2_with fail
          go_ret2
          exact .inr ⟨Hno.out, rfl, HB1.out⟩
      · have hf' : F k < 0 ∨ pw ((2 : Nat) : Int) ≤ F k := by rw [pw2]; omega
        have Hno : Hid (¬ ∀ i, i < n → okS F G i) := fun h => hf (h k hlt).1
        have Hf := hide hf'
        clear hf hf'
        go_wp2_with fail
        refine (rputR none 0 0 2 (F k) _ rfl _ (by omega) (by omega) Hf.out).mono ?_
        rintro e w2 ⟨rfl, rfl⟩
        by_cases hg : 0 ≤ G k ∧ G k < 4294967296
        · obtain ⟨g0, g1⟩ := hg
          go_wp2_with fail
          refine (rputS none 0 0 4 4 _ (G k) rfl rfl (oneF 0) _ (Rd.nil _ _ _) (by omega) (by omega) (by omega) g0 (by rw [pw4]; exact g1)).mono ?_
          rintro e w2 ⟨A2, k2, rfl, ho2, hb2⟩
          have HB2 := hide (HB.out.of hb2)
          clear ho2 hb2
          go_wp2_with fail
          go_ret2
          exact .inr ⟨Hno.out, rfl, HB2.out⟩
        · have hg' : G k < 0 ∨ pw ((4 : Nat) : Int) ≤ G k := by rw [pw4]; omega
          have Hg := hide hg'
          clear hg hg'
          go_wp2_with fail
          refine (rputR none 0 0 4 (G k) _ rfl _ (by omega) (by omega) Hg.out).mono ?_
          rintro e w2 ⟨rfl, rfl⟩
          go_wp2_with fail
          go_ret2
          exact .inr ⟨Hno.out, rfl, HB.out⟩
    · obtain rfl : k = n := by omega
      obtain ⟨A2, c2, rfl, hr2, _⟩ := Hown.out.rd
      have Hr2 := hide hr2
      clear hr2
      go_wp2_with fail
      go_ret2
      exact .inl ⟨Hok.out, A2, c2, rfl, Hr2.out, HB.out⟩
end Go.Proofs.Ytpnjamomkpkkeaa
