/- Layer 21: the reference's At, Find, Same; both At as one relation. -/
import Derived.Test.YteikpdolickkaaaDz2
namespace Go.Proofs.Yteikpdolickkaaa
open Go.RowKit Go.Deep

/-- What stands at a place. -/
def AtR (L : Nat → Fd) (n : Nat) (i : Int) (nm vl : ByteArray) (nv has : Bool) : Prop :=
  ((i < 1 ∨ (n : Int) < i) ∧ nm = ⟨#[]⟩ ∧ vl = ⟨#[]⟩ ∧ nv = false ∧ has = false) ∨ ∃ q : Nat, q < n ∧ i = (q : Int) + 1 ∧ nm = (L q).name ∧ vl = (L q).val ∧ nv = (L q).nev ∧ has = true
theorem AtR.same {L : Nat → Fd} {n : Nat} {i : Int} {nm vl nm2 vl2 : ByteArray} {nv has nv2 has2 : Bool} (h : AtR L n i nm vl nv has) (k : AtR L n i nm2 vl2 nv2 has2) : nm = nm2 ∧ vl = vl2 ∧ nv = nv2 ∧ has = has2 := by
  rcases h with ⟨h0, rfl, rfl, rfl, rfl⟩ | ⟨q, hq, hi, rfl, rfl, rfl, rfl⟩
  · rcases k with ⟨_, rfl, rfl, rfl, rfl⟩ | ⟨r, hr, hi, _⟩
    · exact ⟨rfl, rfl, rfl, rfl⟩
    · omega
  · rcases k with ⟨h0, _⟩ | ⟨r, hr, hi2, rfl, rfl, rfl, rfl⟩
    · omega
    · obtain rfl : q = r := by omega
      exact ⟨rfl, rfl, rfl, rfl⟩
theorem at21R {B : Nat} {w : World} {p : Nat} {g : Option Nat} {n max : Nat} {F : Nat → Fd} (h : TOk B w p g n max F) (hn : n ≤ 1000) (i : Int) :
    Calls Try.prog 29 #[.pointer (some ⟨p, 0, none⟩), .int .i64 i] w fun e w' => ∃ nm vl nv has, e = .returned (.tuple #[.agg #[.string nm, .string vl, .bool nv], .bool has]) ∧ AtR (rvF n F) n i nm vl nv has ∧ Below w.heap.size w w' := by
  by_cases hi : i < 1 ∨ (n : Int) < i
  · refine (atNo21 h i hi).mono ?_
    rintro e w' ⟨rfl, hb⟩
    exact ⟨_, _, _, _, rfl, .inl ⟨hi, rfl, rfl, rfl, rfl⟩, hb⟩
  · obtain ⟨q, hq⟩ : ∃ q : Nat, i = (q : Int) + 1 := ⟨(i - 1).toNat, by omega⟩
    refine (at21 h hn (n - 1 - q) (by omega) i (by omega)).mono ?_
    rintro e w' ⟨rfl, hb⟩
    exact ⟨_, _, _, _, rfl, .inr ⟨q, by omega, hq, rfl, rfl, rfl, rfl⟩, hb⟩
set_option maxRecDepth 20000 in
set_option maxHeartbeats 1600000 in
theorem rat21 {w : World} {A : Option Addr} {n c : Nat} {mx : Int} {L : Nat → Fd} (h : RdV 3 w A n c (fdV L)) (hn : n ≤ 1000) (i : Int) (hi0 : -9223372036854775808 ≤ i) :
    Calls Try.prog 102 #[.agg #[.slice A n c, .int .i64 mx], .int .i64 i] w fun e w' => ∃ nm vl nv has, e = .returned (.tuple #[.agg #[.string nm, .string vl, .bool nv], .bool has]) ∧ AtR L n i nm vl nv has ∧ Below w.heap.size w w' := by
  have al0 := (Below.refl w.heap.size w).alloc (Nat.le_refl _) (.cells #[.slice A n c, .int .i64 mx] 50)
  have al := al0.alloc al0.size (.cells #[.string ⟨#[]⟩, .string ⟨#[]⟩, .bool false] 52)
  have R0 := keepRow (heap_alloc_new w (.cells #[.slice A n c, .int .i64 mx] 50)) ((Below.refl _ _).alloc (Nat.le_refl _) (.cells #[.string ⟨#[]⟩, .string ⟨#[]⟩, .bool false] 52))
  have R1 := heap_alloc_new (w.alloc (.cells #[.slice A n c, .int .i64 mx] 50)) (.cells #[.string ⟨#[]⟩, .string ⟨#[]⟩, .bool false] 52)
  have hq : (w.alloc (.cells #[.slice A n c, .int .i64 mx] 50)).heap.size = w.heap.size + 1 := by simp
  rw [hq] at R1
  obtain ⟨t0, t1⟩ := row2 R0
  obtain ⟨c0, c1, c2⟩ := rowT R1
  have z0 := frozenRow R1 0
  have z1 := frozenRow R1 1
  have z2 := frozenRow R1 2
  have H := hide (h.below36O al)
  have hnc := h.1
  have E := hide al
  clear h al0 al R0 R1 hq
  by_cases h1 : i < 1
  · have hd : decide (i < 1) = true := decide_eq_true h1
    have HI := hide h1
    clear h1
    go_enter Try.func102, Try.ntmps102
    go_wp2_with fail
    refine bodyPost_ret (v := .tuple #[.agg #[.string ⟨#[]⟩, .string ⟨#[]⟩, .bool false], .bool false]) ?_ rfl ⟨_, _, _, _, rfl, .inl ⟨.inl HI.out, rfl, rfl, rfl, rfl⟩, ?_⟩
    · rw [results_cell_tmp rfl]
      go_simp
    · go_grown
  · have hd : decide (i < 1) = false := decide_eq_false h1
    by_cases h2 : (n : Int) < i
    · have hd2 : decide ((n : Int) < i) = true := decide_eq_true h2
      have HI := hide h2
      clear h1 h2
      go_enter Try.func102, Try.ntmps102
      go_wp2_with fail
      refine bodyPost_ret (v := .tuple #[.agg #[.string ⟨#[]⟩, .string ⟨#[]⟩, .bool false], .bool false]) ?_ rfl ⟨_, _, _, _, rfl, .inl ⟨.inr HI.out, rfl, rfl, rfl, rfl⟩, ?_⟩
      · rw [results_cell_tmp rfl]
        go_simp
      · go_grown
    · have hd2 : decide ((n : Int) < i) = false := decide_eq_false h2
      obtain ⟨q, rfl⟩ : ∃ q : Nat, i = (q : Int) + 1 := ⟨(i - 1).toNat, by omega⟩
      have hqn : q < n := by omega
      obtain ⟨b, off, rfl, q0, q1, q2⟩ := row_at21 H.out hqn
      have hw : IntKind.i64.wrap ((q : Int) + 1 - 1) = (q : Int) := by rw [IntWalk.i64_in _ (by omega)]; omega
      have hqn' : (q : Int) < (n : Int) := by omega
      obtain ⟨N, hN⟩ : ∃ N, N = (L q).name := ⟨_, rfl⟩
      obtain ⟨V, hV⟩ : ∃ V, V = (L q).val := ⟨_, rfl⟩
      obtain ⟨X, hX⟩ : ∃ X, X = (L q).nev := ⟨_, rfl⟩
      rw [← hN] at q0
      rw [← hV] at q1
      rw [← hX] at q2
      have HR : Hid (AtR L n ((q : Int) + 1) N V X true) := .inr ⟨q, hqn, rfl, hN, hV, hX, rfl⟩
      clear h1 h2 hN hV hX
      have hp0 := Nat.le_succ w.heap.size
      go_enter Try.func102, Try.ntmps102
      go_wp2_with fail
      refine bodyPost_ret (v := .tuple #[.agg #[.string N, .string V, .bool X], .bool true]) ?_ rfl ⟨_, _, _, _, rfl, HR.out, ?_⟩
      · rw [results_cell_tmp rfl]
        go_simp
      · first | go_grown | exact ((E.out.setCell hp0 _).setCell hp0 _).setCell hp0 _
def FiE (L : Nat → Fd) (n : Nat) (nm vl : ByteArray) (w : World) (e : Ending) (w' : World) : Prop := ∃ i b, e = .returned (.tuple #[.int .i64 i, .bool b]) ∧ FiR L n nm vl i b ∧ Below w.heap.size w w'
set_option maxRecDepth 20000 in
set_option maxHeartbeats 3200000 in
theorem rfind21 {w : World} {A : Option Addr} {n c : Nat} {mx : Int} {L : Nat → Fd} (h : RdV 3 w A n c (fdV L)) (hn : n ≤ 1000) (nm vl : ByteArray) :
    Calls Try.prog 101 #[.agg #[.slice A n c, .int .i64 mx], .string nm, .string vl] w (FiE L n nm vl w) := by
  have R0 := hide (heap_alloc_new w (.cells #[.slice A n c, .int .i64 mx] 50))
  have E0 := hide ((Below.refl w.heap.size w).alloc (Nat.le_refl _) (.cells #[.slice A n c, .int .i64 mx] 50))
  have H := hide (h.below36O E0.out)
  clear h
  go_enter Try.func101, Try.ntmps101
  go_wp2_with fail
  generalize w.alloc (.cells #[.slice A n c, .int .i64 mx] 50) = W0 at *
  obtain ⟨t0, t1⟩ := row2 R0.out
  go_loopw [8] (fun i wr => ∃ k : Nat, k ≤ n ∧ i = .int .i64 k ∧ (∀ j, j < k → ¬ ((L j).name = nm ∧ (L j).val = vl)) ∧ wr = W0) (fun i _ => n - (intOf i).toNat)
  case atStart => exact ⟨0, Nat.zero_le _, rfl, fun j h => absurd h (by omega), rfl⟩
  case round =>
    obtain ⟨k, hk, rfl, hno, hw⟩ := hrel
    obtain rfl : W0 = wr := hw.symm
    have Hno := hide hno
    clear hno
    by_cases hlt : k < n
    · have hlt' : (k : Int) < (n : Int) := by omega
      obtain ⟨b, off, rfl, q0, q1, q2⟩ := row_at21 H.out hlt
      obtain ⟨N, hN⟩ : ∃ N, N = (L k).name := ⟨_, rfl⟩
      obtain ⟨V, hV⟩ : ∃ V, V = (L k).val := ⟨_, rfl⟩
      rw [← hN] at q0
      rw [← hV] at q1
      have HN := hide hN
      have HV := hide hV
      clear hN hV
      by_cases hn1 : N = nm
      · have e1 := str_eq21 hn1
        by_cases hv : V = vl
        · have e2 := str_eq21 hv
          have HR : Hid (FiR L n nm vl ((k : Int) + 1) true) := .inl ⟨rfl, k, hlt, rfl, by rw [← HN.out, hn1], by rw [← HV.out, hv], Hno.out⟩
          clear hn1 hv
          go_wp2_with fail
          go_ret2
          exact ⟨_, _, rfl, HR.out, E0.out⟩
        · have e2 := str_ne21 hv
          have Hno' : Hid (∀ j, j < k + 1 → ¬ ((L j).name = nm ∧ (L j).val = vl)) := fun j hj => by
            by_cases e : j = k
            · subst e
              exact fun h => hv (by rw [HV.out]; exact h.2)
            · exact Hno.out j (by omega)
          clear hn1 hv
          go_wp2_with fail
          go_roundw
          case rel => exact ⟨k + 1, by omega, by go_num, Hno'.out, trivial⟩
          case measure => simp [intOf]; omega
      · have e1 := str_ne21 hn1
        have Hno' : Hid (∀ j, j < k + 1 → ¬ ((L j).name = nm ∧ (L j).val = vl)) := fun j hj => by
          by_cases e : j = k
          · subst e
            exact fun h => hn1 (by rw [HN.out]; exact h.1)
          · exact Hno.out j (by omega)
        clear hn1
        go_wp2_with fail
        go_roundw
        case rel => exact ⟨k + 1, by omega, by go_num, Hno'.out, trivial⟩
        case measure => simp [intOf]; omega
    · obtain rfl : n = k := by omega
      go_wp2_with fail
      go_loopw [9] (fun i wr => ∃ k : Nat, k ≤ n ∧ i = .int .i64 k ∧ (∀ j, j < k → (L j).name ≠ nm) ∧ wr = W0) (fun i _ => n - (intOf i).toNat)
      case atStart => exact ⟨0, Nat.zero_le _, rfl, fun j h => absurd h (by omega), rfl⟩
      case round =>
        obtain ⟨k, hk, rfl, hno, hw⟩ := hrel
        obtain rfl : W0 = wr := hw.symm
        have Hn2 := hide hno
        clear hno
        by_cases hlt : k < n
        · have hlt' : (k : Int) < (n : Int) := by omega
          obtain ⟨b, off, rfl, q0, q1, q2⟩ := row_at21 H.out hlt
          obtain ⟨N, hN⟩ : ∃ N, N = (L k).name := ⟨_, rfl⟩
          rw [← hN] at q0
          have HN := hide hN
          clear hN
          by_cases hn1 : N = nm
          · have e1 := str_eq21 hn1
            have HR : Hid (FiR L n nm vl ((k : Int) + 1) false) := .inr ⟨rfl, Hno.out, .inr ⟨k, hlt, rfl, by rw [← HN.out, hn1], Hn2.out⟩⟩
            clear hn1
            go_wp2_with fail
            go_ret2
            exact ⟨_, _, rfl, HR.out, E0.out⟩
          · have e1 := str_ne21 hn1
            have Hn3 : Hid (∀ j, j < k + 1 → (L j).name ≠ nm) := fun j hj => by
              by_cases e : j = k
              · subst e
                exact fun h => hn1 (by rw [HN.out]; exact h)
              · exact Hn2.out j (by omega)
            clear hn1
            go_wp2_with fail
            go_roundw
            case rel => exact ⟨k + 1, by omega, by go_num, Hn3.out, trivial⟩
            case measure => simp [intOf]; omega
        · obtain rfl : n = k := by omega
          go_wp2_with fail
          go_ret2
          exact ⟨_, _, rfl, .inr ⟨rfl, Hno.out, .inl ⟨rfl, Hn2.out⟩⟩, E0.out⟩
set_option maxRecDepth 20000 in
set_option maxHeartbeats 1600000 in
theorem rsame21 {w : World} {A A2 : Option Addr} {n c c2 : Nat} {L : Nat → Fd} (h : RdV 3 w A n c (fdV L)) (k : RdV 3 w A2 n c2 (fdV L)) (hn : n ≤ 1000) :
    Calls Try.prog 104 #[.slice A n c, .slice A2 n c2] w fun e w' => e = .returned (.bool true) ∧ Below w.heap.size w w' := by
  have H := hide h
  have K := hide k
  have hnn : ((n : Int) != (n : Int)) = false := by simp
  have hnn2 : (n != n) = false := by simp
  clear h k
  go_enter Try.func104, Try.ntmps104
  go_wp2_with fail
  go_loopw [5] (fun i wr => ∃ k : Nat, k ≤ n ∧ i = .int .i64 k ∧ Below w.heap.size w wr) (fun i _ => n - (intOf i).toNat)
  case atStart => exact ⟨0, Nat.zero_le _, rfl, Below.refl _ _⟩
  case round =>
    obtain ⟨k, hk, rfl, hbl⟩ := hrel
    by_cases hlt : k < n
    · have hlt' : (k : Int) < (n : Int) := by omega
      obtain ⟨b, off, rfl, q0, q1, q2⟩ := row_at21 (H.out.below36O hbl) hlt
      obtain ⟨b2, off2, rfl, r0, r1, r2⟩ := row_at21 (K.out.below36O hbl) hlt
      have HB := hide hbl
      generalize (L k).name = nm at *
      generalize (L k).val = vl at *
      generalize (L k).nev = nv at *
      have e1 := str_eq21 (rfl : nm = nm)
      have e2 := str_eq21 (rfl : vl = vl)
      have e3 : (nv == nv) = true := by simp
      clear hbl
      go_wp2_with fail
      go_quiet (fail)
      all_goals
        go_wp2_with fail
        go_roundw
        case rel => exact ⟨k + 1, by omega, by go_num, by first | exact HB.out | exact HB.out.drew | exact HB.out.of (drawn_below ⟨_, rfl⟩ _)⟩
        case measure => simp [intOf]; omega
    · obtain rfl : n = k := by omega
      go_wp2_with fail
      go_ret
      exact ⟨rfl, hbl⟩
end Go.Proofs.Yteikpdolickkaaa
