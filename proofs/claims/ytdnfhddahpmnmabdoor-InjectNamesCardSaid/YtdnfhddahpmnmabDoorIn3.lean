/- Layer 46: the walk of the law on the kinds' names. -/
import Derived.Test.YtdnfhddahpmnmabDoorIn2
namespace Go.Proofs.YtdnfhddahpmnmabDoor
open Go.RowKit

set_option maxRecDepth 40000 in
set_option maxHeartbeats 3200000 in
theorem names_walk46 (k : Int) (s : ByteArray) (w : World) (T : TypeId) (fr : Nat × Nat) (hg : w.heap[1]? = some (.cells entV T fr)) : Calls Tryd.prog 7 #[.int .i64 k, .string s] w (Yes w) := by
  have Hg := hide hg
  have B0 := hide (Below.refl w.heap.size w)
  clear hg
  by_cases hbig : 100 < s.size
  · have hd : decide ((100 : Int) < (s.size : Int)) = true := decide_eq_true (by omega)
    clear hbig
    go_enter Tryd.func7, Tryd.ntmps7
    go_wp2_with fail
    refine (alive46 _ T fr Hg.out).mono ?_
    rintro e w' ⟨rfl, hb⟩
    have HB := hide hb
    clear hb
    go_wp2_with fail
    go_ret
    exact ⟨rfl, HB.out⟩
  have hd : decide ((100 : Int) < (s.size : Int)) = false := decide_eq_false (by omega)
  clear hbig
  by_cases hk : 1 ≤ k ∧ k ≤ 26
  · obtain ⟨a, rfl⟩ : ∃ a : Nat, k = (a : Int) + 1 := ⟨(k - 1).toNat, by omega⟩
    have ha : a < 26 := by omega
    have e1 : decide ((1 : Int) ≤ (a : Int) + 1) = true := decide_eq_true (by omega)
    have e2 : decide ((a : Int) + 1 ≤ 26) = true := decide_eq_true (by omega)
    clear hk
    go_enter Tryd.func7, Tryd.ntmps7
    go_wp2_with fail
    refine (rnames46 _).mono ?_
    rintro e w1 ⟨p, rfl, hr, hb⟩
    have c9 := st_at hr a ha
    have G1 := hide ((hb.block _ (rowLt Hg.out)).trans Hg.out)
    have B1 := hide hb
    have HN := hide (fun W h => name46 a ha W T fr h)
    have hsub : (a : Int) + 1 - 1 = a := by omega
    have hwr : IntKind.i64.wrap (a : Int) = a := IntWalk.i64_in _ (by omega)
    clear hr hb Hg B0
    obtain ⟨x, hx⟩ : ∃ x, nm46 a = x := ⟨_, rfl⟩
    rw [hx] at c9 HN
    have tx : (x.toList == x.toList) = true := by simp
    clear hx
    go_wp2_with fail
    go_loopw [6, 7] (fun q i wr => (∃ j m : Nat, j ≤ 26 ∧ q = .int .i64 m ∧ i = .int .i64 j ∧ ((m = 0 ∧ ∀ k, k < j → nm46 k ≠ s) ∨ ∃ k, m = k + 1 ∧ k < 26 ∧ nm46 k = s)) ∧ wr.heap[1]? = some (.cells entV T fr) ∧ Below w.heap.size w wr) (fun _ i _ => 26 - (intOf i).toNat)
    case atStart => exact ⟨⟨0, 0, by omega, rfl, rfl, .inl ⟨rfl, fun k hk => absurd hk (by omega)⟩⟩, G1.out, B1.out⟩
    case round =>
      obtain ⟨⟨j, m, hj, rfl, rfl, hm⟩, hG, hB⟩ := hrel
      have HM := hide hm
      have GG := hide hG
      have BB := hide hB
      clear hm hG hB
      by_cases hlt : j < 26
      · have d1 : decide ((j : Int) < 26) = true := decide_eq_true (by omega)
        go_wp2_with fail
        refine (rnames46 _).mono ?_
        rintro e w2 ⟨p, rfl, hr, hb⟩
        have c0 := st_at hr j hlt
        have G2 := hide ((hb.block _ (rowLt GG.out)).trans GG.out)
        have B2 := hide (BB.out.of hb)
        clear hr hb
        by_cases he : nm46 j = s
        · have t0 := str_eq46 he
          have HI : Hid ((((j + 1 : Nat) = 0 ∧ ∀ k, k < j + 1 → nm46 k ≠ s)) ∨ ∃ k, (j + 1 : Nat) = k + 1 ∧ k < 26 ∧ nm46 k = s) := .inr ⟨j, rfl, hlt, he⟩
          clear he
          generalize nm46 j = x at c0 t0
          go_wp2_with fail
          exact ⟨⟨⟨j + 1, j + 1, by omega, by simp, by simp, HI.out⟩, G2.out, B2.out⟩, by simp [intOf]; omega⟩
        · have t0 := str_ne46 he
          have HI : Hid ((m = 0 ∧ ∀ k, k < j + 1 → nm46 k ≠ s) ∨ ∃ k, m = k + 1 ∧ k < 26 ∧ nm46 k = s) := HM.out.imp (fun ⟨h1, h2⟩ => ⟨h1, fun k hk => by
            by_cases e : k = j
            · subst e; exact he
            · exact h2 k (by omega)⟩) id
          clear he
          generalize nm46 j = x at c0 t0
          go_wp2_with fail
          exact ⟨⟨⟨j + 1, m, by omega, rfl, by simp, HI.out⟩, G2.out, B2.out⟩, by simp [intOf]; omega⟩
      · obtain rfl : j = 26 := by omega
        have HS : Hid (Is46 s m) := HM.out
        clear HM hlt hj
        go_wp2_with fail
        refine (byname46 s _ T fr GG.out).mono ?_
        rintro e w3 ⟨⟨n, rfl, hn⟩, rfl⟩
        obtain rfl := hn.same HS.out
        clear hn HS
        go_wp2_with fail
        refine (HN.out _ GG.out).mono ?_
        rintro e w4 ⟨rfl, rfl⟩
        go_wp2_with fail
        refine (alive46 _ T fr GG.out).mono ?_
        rintro e w5 ⟨rfl, hb⟩
        have HB := hide (BB.out.of hb)
        clear hb BB GG
        go_wp2_with fail
        go_ret
        exact ⟨rfl, HB.out⟩
  · have HN := hide (fun W => name46_no k (by omega) W)
    go_enter Tryd.func7, Tryd.ntmps7
    obtain ⟨x, hx⟩ : ∃ x, decide (1 ≤ k) = x := ⟨_, rfl⟩
    obtain ⟨y, hy⟩ : ∃ y, decide (k ≤ 26) = y := ⟨_, rfl⟩
    have hxy : x = false ∨ (x = true ∧ y = false) := by
      subst hx; subst hy
      simp only [decide_eq_false_iff_not, decide_eq_true_eq]
      omega
    clear hk
    rcases hxy with rfl | ⟨rfl, rfl⟩
    all_goals
      go_wp2_with fail
      go_loopw [6, 7] (fun q i wr => (∃ j m : Nat, j ≤ 26 ∧ q = .int .i64 m ∧ i = .int .i64 j ∧ ((m = 0 ∧ ∀ k, k < j → nm46 k ≠ s) ∨ ∃ k, m = k + 1 ∧ k < 26 ∧ nm46 k = s)) ∧ wr.heap[1]? = some (.cells entV T fr) ∧ Below w.heap.size w wr) (fun _ i _ => 26 - (intOf i).toNat)
      case atStart => exact ⟨⟨0, 0, by omega, rfl, rfl, .inl ⟨rfl, fun k hk => absurd hk (by omega)⟩⟩, Hg.out, B0.out⟩
      case round =>
        obtain ⟨⟨j, m, hj, rfl, rfl, hm⟩, hG, hB⟩ := hrel
        have HM := hide hm
        have GG := hide hG
        have BB := hide hB
        clear hm hG hB
        by_cases hlt : j < 26
        · have d1 : decide ((j : Int) < 26) = true := decide_eq_true (by omega)
          go_wp2_with fail
          refine (rnames46 _).mono ?_
          rintro e w2 ⟨p, rfl, hr, hb⟩
          have c0 := st_at hr j hlt
          have G2 := hide ((hb.block _ (rowLt GG.out)).trans GG.out)
          have B2 := hide (BB.out.of hb)
          clear hr hb
          by_cases he : nm46 j = s
          · have t0 := str_eq46 he
            have HI : Hid ((((j + 1 : Nat) = 0 ∧ ∀ k, k < j + 1 → nm46 k ≠ s)) ∨ ∃ k, (j + 1 : Nat) = k + 1 ∧ k < 26 ∧ nm46 k = s) := .inr ⟨j, rfl, hlt, he⟩
            clear he
            generalize nm46 j = x at c0 t0
            go_wp2_with fail
            exact ⟨⟨⟨j + 1, j + 1, by omega, by simp, by simp, HI.out⟩, G2.out, B2.out⟩, by simp [intOf]; omega⟩
          · have t0 := str_ne46 he
            have HI : Hid ((m = 0 ∧ ∀ k, k < j + 1 → nm46 k ≠ s) ∨ ∃ k, m = k + 1 ∧ k < 26 ∧ nm46 k = s) := HM.out.imp (fun ⟨h1, h2⟩ => ⟨h1, fun k hk => by
              by_cases e : k = j
              · subst e; exact he
              · exact h2 k (by omega)⟩) id
            clear he
            generalize nm46 j = x at c0 t0
            go_wp2_with fail
            exact ⟨⟨⟨j + 1, m, by omega, rfl, by simp, HI.out⟩, G2.out, B2.out⟩, by simp [intOf]; omega⟩
        · obtain rfl : j = 26 := by omega
          have HS : Hid (Is46 s m) := HM.out
          clear HM hlt hj
          go_wp2_with fail
          refine (byname46 s _ T fr GG.out).mono ?_
          rintro e w3 ⟨⟨n, rfl, hn⟩, rfl⟩
          obtain rfl := hn.same HS.out
          clear hn HS
          go_wp2_with fail
          refine (HN.out _).mono ?_
          rintro e w4 ⟨rfl, rfl⟩
          go_wp2_with fail
          refine (alive46 _ T fr GG.out).mono ?_
          rintro e w5 ⟨rfl, hb⟩
          have HB := hide (BB.out.of hb)
          clear hb BB GG
          go_wp2_with fail
          go_ret
          exact ⟨rfl, HB.out⟩
end Go.Proofs.YtdnfhddahpmnmabDoor
