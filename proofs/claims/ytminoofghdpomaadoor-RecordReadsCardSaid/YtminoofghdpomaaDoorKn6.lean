/- Layer 8: the document's ByName; the names are all different. -/
import Derived.Test.YtminoofghdpomaaDoorKn5
namespace Go.Proofs.YtminoofghdpomaaDoor
set_option linter.unusedVariables false
set_option linter.unusedSimpArgs false
open Go.RowKit Go.PlainAid

theorem at11 {t : Int} (h : -1 ≤ t) (h2 : t < 10) : t = -1 ∨ t = 0 ∨ t = 1 ∨ t = 2 ∨ t = 3 ∨ t = 4 ∨ t = 5 ∨ t = 6 ∨ t = 7 ∨ t = 8 ∨ t = 9 := by omega
theorem no_ty {t : Int} (h : -1 ≤ t) (h2 : t < 10) : Lib.hasPrefix (nameT t).data.toList tyL = false ∧ (nameT t).size ≤ 13 ∧ 0 < (nameT t).size := by
  rcases at11 h h2 with rfl | rfl | rfl | rfl | rfl | rfl | rfl | rfl | rfl | rfl | rfl <;> exact ⟨rfl, by decide +kernel, by decide +kernel⟩
theorem name_bd {t : Int} (h : -1 ≤ t) (h2 : t ≤ 255) : (nameT t).size ≤ 30 ∧ 0 < (nameT t).size := by
  by_cases h3 : t < 10
  · have := no_ty h h3
    exact ⟨by omega, by omega⟩
  · have e := more_data (t := t) (by omega) h2
    have e2 : (nameT t).size = (nameT t).data.toList.length := by rw [Array.length_toList]; rfl
    have e3 := (decL_len 19 t.toNat (by omega) (by omega)).1
    rw [e2, e, List.length_append]
    have : tyL.length = 5 := rfl
    exact ⟨by omega, by omega⟩
def idxL : List (List UInt8) := [[80, 82, 69, 70, 65, 67, 69], [68, 65, 84, 65], [72, 69, 65, 68, 69, 82, 83], [80, 82, 73, 79, 82, 73, 84, 89], [82, 83, 84, 95, 83, 84, 82, 69, 65, 77], [83, 69, 84, 84, 73, 78, 71, 83], [80, 85, 83, 72, 95, 80, 82, 79, 77, 73, 83, 69], [80, 73, 78, 71], [71, 79, 65, 87, 65, 89], [87, 73, 78, 68, 79, 87, 95, 85, 80, 68, 65, 84, 69], [67, 79, 78, 84, 73, 78, 85, 65, 84, 73, 79, 78]]
theorem idx_at {t : Int} (h : -1 ≤ t) (h2 : t < 10) : idxL.findIdx (· == (nameT t).data.toList) = (t + 1).toNat := by
  rcases at11 h h2 with rfl | rfl | rfl | rfl | rfl | rfl | rfl | rfl | rfl | rfl | rfl <;> decide +kernel
theorem name_inj {x t : Int} (h : -1 ≤ x) (h2 : x ≤ 255) (k : -1 ≤ t) (k2 : t ≤ 255) (e : nameT x = nameT t) : x = t := by
  by_cases a : x < 10
  · by_cases b : t < 10
    · have e1 := idx_at h a
      rw [e, idx_at k b] at e1
      omega
    · have e1 := (no_ty h a).1
      rw [e, more_data (by omega) k2, prefix_ty] at e1
      cases e1
  · by_cases b : t < 10
    · have e1 := (no_ty k b).1
      rw [← e, more_data (by omega) h2, prefix_ty] at e1
      cases e1
    · have e1 : (nameT x).data.toList = (nameT t).data.toList := by rw [e]
      rw [more_data (by omega) h2, more_data (by omega) k2] at e1
      have e2 := List.append_cancel_left e1
      have e3 : decS x.toNat = decS t.toNat := by unfold decS; rw [e2]
      have f1 := (dec_natM (most := 9223372036854775807) (n := x.toNat) (by omega)).1
      have f2 := (dec_natM (most := 9223372036854775807) (n := t.toNat) (by omega)).1
      rw [e3, f2] at f1
      omega
theorem NmR.own {t z : Int} {has : Bool} (h : -1 ≤ t) (h2 : t ≤ 255) (k : NmR (nameT t) z has) : z = t ∧ has = true := by
  rcases k with ⟨rfl, k1, k2, k3, _⟩ | ⟨_, _, k4⟩
  · exact ⟨name_inj k1 k2 h h2 k3, rfl⟩
  · exact absurd rfl (k4 t h h2)
set_option maxRecDepth 20000 in
set_option maxHeartbeats 1600000 in
theorem rbyname08 (s : ByteArray) (w : World) : Calls Tryd.prog 31 #[.string s] w (NmE s w) := by
  go_enter Tryd.func31, Tryd.ntmps31
  go_wp2_with fail
  go_loopw [4] (fun i wr => ∃ u : Int, -1 ≤ u ∧ u ≤ 256 ∧ i = .int .i64 u ∧ (∀ v, -1 ≤ v → v < u → nameT v ≠ s) ∧ Below w.heap.size w wr) (fun i _ => (256 - intOf i).toNat)
  case atStart => exact ⟨-1, by omega, by omega, rfl, fun v a b => absurd b (by omega), Below.refl _ _⟩
  case round =>
    obtain ⟨u, hu1, hu2, rfl, hne, hb⟩ := hrel
    have HN := hide hne
    have HB := hide hb
    clear hne hb
    by_cases hlt : u < 256
    · have t1 : decide (u < 256) = true := decide_eq_true hlt
      go_wp2_with fail
      refine (rname08 u _).mono ?_
      rintro e w1 ⟨rfl, hb1⟩
      have HB1 := hide (HB.out.of hb1)
      clear hb1
      by_cases he : nameT u = s
      · have HE := hide he
        obtain ⟨n, hn⟩ : ∃ n, nameT u = n := ⟨_, rfl⟩
        rw [hn] at he ⊢
        have q : (n.toList == s.toList) = true := by rw [he]; exact beq_self_eq_true _
        clear hn he
        go_wp2_with fail
        go_ret2
        exact ⟨u, true, rfl, .inl ⟨rfl, hu1, by omega, HE.out, HN.out⟩, HB1.out⟩
      · have q : ((nameT u).toList == s.toList) = false := str_no he
        have HE := hide he
        obtain ⟨n, hn⟩ : ∃ n, nameT u = n := ⟨_, rfl⟩
        rw [hn] at q ⊢
        clear hn he
        go_wp2_with fail
        go_roundw
        case rel => exact ⟨u + 1, by omega, by omega, by go_num, fun v a b => by
          by_cases e : v = u
          · subst e; exact HE.out
          · exact HN.out v a (by omega), HB1.out⟩
        case measure => simp [intOf]; omega
    · have t1 : decide (u < 256) = false := decide_eq_false hlt
      go_wp2_with fail
      go_ret2
      exact ⟨0, false, rfl, .inr ⟨rfl, rfl, fun v a b => HN.out v a (by omega)⟩, HB.out⟩
end Go.Proofs.YtminoofghdpomaaDoor
