/- Layer 24: ways, copied; blocks too large; what an encoder tells; one that is not there. -/
import Derived.Test.YtnkcbljhgcgpaaaDoorEna
import Derived.Test.YtnkcbljhgcgpaaaDoorDea
import Derived.Test.YtnkcbljhgcgpaaaDoorEn7
namespace Go.Proofs.YtnkcbljhgcgpaaaDoor
set_option linter.unusedVariables false
set_option linter.unusedSimpArgs false
open Go.RowKit Go.Deep Go.ChangeShapes Go.WideShapes

theorem opt_infoE : (Tryd.prog.info? 99).map (fun i => (i.zero, i.size, i.bytes)) = some (some (.agg #[.int .i64 0, .bool false, .bool false, .bool false]), 4, 16) := by kernel_rfl
theorem opV_cat (O : Nat → Op4) (k : Nat) : ∀ i, i < (k + 1) * 4 → catV (k * 4) (opV O) (opV (fun _ => O k)) i = opV O i := fun i hi => by
  unfold catV opV
  by_cases h : i < k * 4
  · simp [h]
  · have h2 : i / 4 = k := by omega
    have h3 : (i - k * 4) % 4 = i % 4 := by omega
    simp only [h, if_false, h2, h3]
set_option maxRecDepth 20000 in
set_option maxHeartbeats 1600000 in
theorem options24 {w : World} {A : Option Addr} {n c : Nat} {O : Nat → Op4} (h : RdV 4 w A n c (opV O)) (hn : n ≤ 1000) :
    Calls Tryd.prog 25 #[.slice A n c] w fun e w' => ∃ v, e = .returned v ∧ OwnV 4 99 w.heap.size w' v n (opV O) ∧ Below w.heap.size w w' := by
  obtain ⟨iB, hiB, hB2, hB3, hB4⟩ := info_parts opt_infoE
  have H := hide h
  clear h
  go_enter Tryd.func25, Tryd.ntmps25
  go_wp2_with fail
  go_loopw [3, 8] (fun v i wr => ∃ k : Nat, k ≤ n ∧ i = .int .i64 k ∧ OwnV 4 99 w.heap.size wr v k (opV O) ∧ Below w.heap.size w wr) (fun _ i _ => n - (intOf i).toNat)
  case atStart => exact ⟨0, Nat.zero_le _, rfl, OwnV.nil _ _ _ _ _, Below.refl _ _⟩
  case round =>
    obtain ⟨k, hk, rfl, ho, hb⟩ := hrel
    obtain ⟨Av, cv, hv, _, _⟩ := ho.rd
    subst hv
    have HO := hide ho
    have HB := hide hb
    clear ho hb
    by_cases hlt : k < n
    · have hkn : (k : Int) < (n : Int) := by omega
      have HW := hide (H.out.below36O HB.out)
      obtain ⟨b, off, rfl, y0, y1, y2, y3⟩ := opt_row HW.out hlt
      have hsz := HB.out.size
      generalize hOo : O k = Oo at *
      obtain ⟨way, nn, sn, sv⟩ := Oo
      have HOo := hide hOo
      simp only at y0 y1 y2 y3
      have LIT : Hid (RdV 4 ((wr.alloc (.cells #[.int .i64 way, .bool nn, .bool sn, .bool sv] 101)).alloc (.cells #[.int .i64 way, .bool nn, .bool sn, .bool sv] 99)) (some ⟨wr.heap.size + 1, 0, none⟩) 1 1 (opV (fun _ => ⟨way, nn, sn, sv⟩))) := by
        have h := (OwnV.lit 4 99 0 (wr.alloc (.cells #[.int .i64 way, .bool nn, .bool sn, .bool sv] 101)) (opV (fun _ => ⟨way, nn, sn, sv⟩)) #[.int .i64 way, .bool nn, .bool sn, .bool sv] 1 (Nat.zero_le _) (by simp [maxLen]) rfl).rdS2
        have e : (wr.alloc (.cells #[.int .i64 way, .bool nn, .bool sn, .bool sv] 101)).heap.size = wr.heap.size + 1 := by simp
        rw [e] at h
        exact h
      clear hOo
      go_wp2_with (at_builtin; refine wp_appV rfl (.tmp 12) (.tmp 22) _ rfl 4 iB _ 16 Tryd.underlying65 hiB hB2 hB3 hB4 rfl (by omega) w.heap.size _ k (opV O) rfl ((HO.out.alloc _).alloc _) _ 1 1 _ rfl LIT.out (opV_one _ _) (by simp only [maxLen]; omega) (by omega) (by simp; omega) ?_; intro v6 w6 hown6 hg6 _; have HO6 : Hid (OwnV 4 99 w.heap.size w6 v6 (k + 1) (opV O)) := hown6.congr (fun i hi => by have e := opV_cat O k i hi; rw [HOo.out] at e; exact e); have HB6 := hide (((HB.out.alloc hsz _).alloc (by simp; omega) _).grown hg6 (by simp; omega) (fun j e => (World.ownsRow.lt HO.out j e).1)); obtain ⟨A6, c6, rfl, _, _⟩ := hown6.rd; clear hown6 hg6)
      go_roundw
      case rel => exact ⟨k + 1, by omega, by go_num, HO6.out, HB6.out⟩
      case measure => simp [intOf]; omega
    · obtain rfl : n = k := by omega
      go_wp2_with fail
      go_ret
      exact ⟨_, rfl, HO.out, HB.out⟩
def LrgE4 (F : Nat → Fd) (n m l : Nat) (w : World) (e : Ending) (w' : World) : Prop := ∃ b, e = .returned (.bool b) ∧ Drawn w w' ∧ (b = false → n ≤ m ∧ ∀ i, i < n → (F i).name.size ≤ l ∧ (F i).val.size ≤ l)
set_option maxHeartbeats 1600000 in
theorem flarge4 (A : Option Addr) (n c m l : Nat) (F : Nat → Fd) (w : World) (ha : RdFd w A n c F) :
    Calls Tryd.prog 42 #[.slice A n c, .int .i64 (m : Int), .int .i64 (l : Int)] w (LrgE4 F n m l w) := by
  by_cases hbig : m < n
  · have hd : decide ((m : Int) < (n : Int)) = true := decide_eq_true (by omega)
    have hd' : m < n := hbig
    go_enter Tryd.func42, Tryd.ntmps42
    go_wp2_with fail
    go_ret
    exact ⟨_, rfl, Drawn.refl _, fun h => by cases h⟩
  have hd : decide ((m : Int) < (n : Int)) = false := decide_eq_false (by omega)
  have hd' : n ≤ m := by omega
  clear hbig
  have Ha := hide ha
  have Hm := hide ha.le
  clear ha
  go_enter Tryd.func42, Tryd.ntmps42
  go_wp2_with fail
  go_loopw [7] (fun i wr => ∃ k : Nat, k ≤ n ∧ i = .int .i64 k ∧ (∀ j, j < k → (F j).name.size ≤ l ∧ (F j).val.size ≤ l) ∧ Drawn w wr) (fun i _ => n - (intOf i).toNat)
  case atStart => exact ⟨0, Nat.zero_le _, rfl, fun j hj => absurd hj (by omega), Drawn.refl _⟩
  case round =>
    obtain ⟨k, hk, rfl, hall, q, rfl⟩ := hrel
    have Hall := hide hall
    clear hall
    by_cases hlt : k < n
    · obtain ⟨b, off, rfl, hc0, hc1, hc2⟩ := Ha.out.at_ hlt
      have hln := Ha.out.len hlt
      have hkn : (k : Int) < (n : Int) := by omega
      have hn := Hm.out
      have Hy : Hid (((F k).name.size ≤ l ∧ (F k).val.size ≤ l) → ∀ j, j < k + 1 → (F j).name.size ≤ l ∧ (F j).val.size ≤ l) := fun h j hj => by
        by_cases e : j = k
        · subst e; exact h
        · exact Hall.out j (by omega)
      generalize F k = X at *
      obtain ⟨x0, x1, x2⟩ := X
      simp only at hc0 hc1 hc2 hln
      have Hx := hide hln
      clear hc2 hln
      by_cases h1 : l < x0.size
      · have d1 : decide ((l : Int) < (x0.size : Int)) = true := decide_eq_true (by omega)
        go_wp2_with fail
        go_ret
        exact ⟨_, rfl, ⟨_, rfl⟩, fun h => by cases h⟩
      · have d1 : decide ((l : Int) < (x0.size : Int)) = false := decide_eq_false (by omega)
        by_cases h2 : l < x1.size
        · have d2 : decide ((l : Int) < (x1.size : Int)) = true := decide_eq_true (by omega)
          go_wp2_with fail
          go_ret
          exact ⟨_, rfl, ⟨_, rfl⟩, fun h => by cases h⟩
        · have d2 : decide ((l : Int) < (x1.size : Int)) = false := decide_eq_false (by omega)
          have Hy' := hide (Hy.out ⟨by show x0.size ≤ l; omega, by show x1.size ≤ l; omega⟩)
          go_wp2_with fail
          exact ⟨⟨k + 1, by omega, by go_num, Hy'.out, _, rfl⟩, by simp [intOf]; omega⟩
    · obtain rfl : k = n := by omega
      go_wp2_with fail
      go_ret
      exact ⟨_, rfl, ⟨_, rfl⟩, fun _ => ⟨hd', Hall.out⟩⟩

set_option maxRecDepth 20000 in
set_option maxHeartbeats 1600000 in
theorem large24 {w : World} {A : Option Addr} {n c : Nat} {F : Nat → Bk4} (ha : RdBk w A n c F) (l : Nat) :
    Calls Tryd.prog 22 #[.slice A n c, .int .i64 (l : Int)] w fun e w' => ∃ b, e = .returned (.bool b) ∧ Drawn w w' ∧ (b = false → n ≤ 12 ∧ ∀ i, i < n → (F i).n1 ≤ 10 ∧ (F i).n3 ≤ 10 ∧ (F i).n2 ≤ 12 ∧ ∀ j, j < (F i).n2 → ((F i).G j).name.size ≤ l ∧ ((F i).G j).val.size ≤ l) := by
  have Ha := hide ha
  have hn63 : (n : Int) ≤ 9223372036854775807 := by have h1 := ha.1; have h2 := ha.2.1; simp only [maxLen] at h2; omega
  clear ha
  by_cases h20 : 12 < n
  · have hd : decide ((12 : Int) < (n : Int)) = true := decide_eq_true (by omega)
    clear h20
    go_enter Tryd.func22, Tryd.ntmps22
    go_wp2_with fail
    go_ret
    exact ⟨_, rfl, Drawn.refl _, fun h => by cases h⟩
  have hd : decide ((12 : Int) < (n : Int)) = false := decide_eq_false (by omega)
  have Hn : Hid (n ≤ 12) := by show _ ≤ _; omega
  clear h20
  go_enter Tryd.func22, Tryd.ntmps22
  go_wp2_with fail
  go_loopw [5] (fun i wr => ∃ k : Nat, k ≤ n ∧ i = .int .i64 k ∧ (∀ i, i < k → (F i).n1 ≤ 10 ∧ (F i).n3 ≤ 10 ∧ (F i).n2 ≤ 12 ∧ ∀ j, j < (F i).n2 → ((F i).G j).name.size ≤ l ∧ ((F i).G j).val.size ≤ l) ∧ Drawn w wr) (fun i _ => n - (intOf i).toNat)
  case atStart => exact ⟨0, Nat.zero_le _, rfl, fun j hj => absurd hj (by omega), Drawn.refl _⟩
  case round =>
    obtain ⟨k, hk, rfl, hsm, hd0⟩ := hrel
    have Hsm := hide hsm
    have HD := hide hd0
    clear hsm
    by_cases hlt : k < n
    · have hkn' : (k : Int) < (n : Int) := by omega
      have Hb := hide (Ha.out.below (drawn_below hd0 _))
      obtain ⟨b, off, rfl, c0, c1, c2⟩ := Hb.out.at_ hlt
      have hO := Hb.out.2.2.2.2 k hlt
      have l1 : (F k).n1 ≤ 9223372036854775807 := by have h1 := hO.r1.1; have h2 := hO.r1.2.1; simp only [maxLen] at h2; omega
      have l3 : (F k).n3 ≤ 9223372036854775807 := by have h1 := hO.r3.1; have h2 := hO.r3.2.1; simp only [maxLen] at h2; omega
      have Hr2 := hide hO.r2
      have Hy : Hid (((F k).n1 ≤ 10 ∧ (F k).n3 ≤ 10 ∧ (F k).n2 ≤ 12 ∧ ∀ j, j < (F k).n2 → ((F k).G j).name.size ≤ l ∧ ((F k).G j).val.size ≤ l) → ∀ i, i < k + 1 → (F i).n1 ≤ 10 ∧ (F i).n3 ≤ 10 ∧ (F i).n2 ≤ 12 ∧ ∀ j, j < (F i).n2 → ((F i).G j).name.size ≤ l ∧ ((F i).G j).val.size ≤ l) := fun h i hi => by
        by_cases e : i = k
        · subst e; exact h
        · exact Hsm.out i (by omega)
      clear hO hd0
      generalize F k = X at *
      obtain ⟨A1, n1, c1_, z, A2, n2, c2_, G, A3, n3, c3_, O⟩ := X
      simp only at c0 c1 c2 l1 l3 Hr2 Hy
      by_cases h1 : 10 < n1
      · have d1 : decide ((10 : Int) < (n1 : Int)) = true := decide_eq_true (by omega)
        go_wp2_with fail
        go_ret
        exact ⟨_, rfl, HD.out, fun h => by cases h⟩
      · have d1 : decide ((10 : Int) < (n1 : Int)) = false := decide_eq_false (by omega)
        by_cases h2 : 10 < n3
        · have d2 : decide ((10 : Int) < (n3 : Int)) = true := decide_eq_true (by omega)
          go_wp2_with fail
          go_ret
          exact ⟨_, rfl, HD.out, fun h => by cases h⟩
        · have d2 : decide ((10 : Int) < (n3 : Int)) = false := decide_eq_false (by omega)
          have C := hide (fun W (h : RdFd W A2 n2 c2_ G) => flarge4 A2 n2 c2_ 12 l G W h)
          go_wp2_with fail
          refine (C.out _ Hr2.out).mono ?_
          rintro e w1 ⟨bb, rfl, hd1, hbb⟩
          have HD1 := hide (HD.out.trans hd1)
          have Hbb := hide hbb
          clear hd1 hbb
          cases bb with
          | true =>
            go_wp2_with fail
            go_ret
            exact ⟨_, rfl, HD1.out, fun h => by cases h⟩
          | false =>
            have h3 := Hbb.out rfl
            have Hyy := hide (Hy.out ⟨by omega, by omega, h3.1, h3.2⟩)
            clear h3
            go_wp2_with fail
            exact ⟨⟨k + 1, by omega, by go_num, Hyy.out, HD1.out⟩, by simp [intOf]; omega⟩
    · obtain rfl : n = k := by omega
      go_wp2_with fail
      go_ret
      exact ⟨_, rfl, HD.out, fun _ => ⟨Hn.out, Hsm.out⟩⟩
theorem enewNo (x : Int) (h : ¬ (0 ≤ x ∧ x ≤ 2147483647)) (w : World) : Calls Tryd.prog 30 #[.int .i64 x] w fun e w' => e = .returned (.tuple #[.pointer none, .int .i64 1]) ∧ w = w' := by
  go_enter Tryd.func30, Tryd.ntmps30
  go_wp2_with fail
  refine (newNo21 x h w).mono ?_
  rintro e w1 ⟨rfl, rfl⟩
  go_wp2_with fail
  go_ret2
  exact ⟨rfl, rfl⟩
theorem enew (x : Nat) (h : x ≤ 2147483647) (w : World) : Calls Tryd.prog 30 #[.int .i64 (x : Int)] w fun e w' => ∃ p, e = .returned (.tuple #[.pointer (some ⟨p, 0, none⟩), .int .i64 0]) ∧ TL w.heap.size w' p none x [] ∧ Below w.heap.size w w' := by
  have R := heap_alloc_new w (.cells #[.slice none 0 0, .int .i64 0, .int .i64 (x : Int)] 27)
  have E := (Below.refl w.heap.size w).alloc (Nat.le_refl _) (.cells #[.slice none 0 0, .int .i64 0, .int .i64 (x : Int)] 27)
  obtain ⟨c0, c1, c2⟩ := rowT R
  have C := hide (new21 (x : Int) (by omega) w)
  have HE := hide E
  clear R E
  go_enter Tryd.func30, Tryd.ntmps30
  go_wp2_with fail
  refine C.out.mono ?_
  rintro e w1 ⟨rfl, rfl⟩
  generalize w.alloc (.cells #[.slice none 0 0, .int .i64 0, .int .i64 (x : Int)] 27) = W at *
  go_wp2_with fail
  go_ret2
  exact ⟨_, rfl, TL.new W x HE.out.size h _, HE.out.of ((Below.refl _ _).alloc (Nat.le_refl _) _)⟩
theorem emax {B : Nat} {w : World} {p : Nat} {g : Option Nat} {mx : Nat} {l : List Fd} (h : TL B w p g mx l) : Calls Tryd.prog 27 #[.pointer (some ⟨p, 0, none⟩)] w fun e w' => e = .returned (.int .i64 (mx : Int)) ∧ w = w' := by
  have C := hide (max21 h)
  clear h
  go_enter Tryd.func27, Tryd.ntmps27
  go_wp2_with fail
  refine C.out.mono ?_
  rintro e w1 ⟨rfl, rfl⟩
  go_wp2_with fail
  go_ret
  exact ⟨rfl, rfl⟩
theorem eall {B : Nat} {w : World} {p : Nat} {g : Option Nat} {mx : Nat} {l : List Fd} (h : TL B w p g mx l) (hn : l.length ≤ 1000000) : Calls Tryd.prog 28 #[.pointer (some ⟨p, 0, none⟩)] w fun e w' => ∃ v, e = .returned v ∧ OwnV 3 51 w.heap.size w' v l.length (fdV (fn l)) ∧ Below w.heap.size w w' := by
  have C := hide (allL h hn)
  clear h
  go_enter Tryd.func28, Tryd.ntmps28
  go_wp2_with fail
  refine C.out.mono ?_
  rintro e w1 ⟨v, rfl, ho, hb⟩
  have HO := hide ho
  have HB := hide hb
  clear ho hb
  go_wp2_with fail
  go_ret
  exact ⟨v, rfl, HO.out, HB.out⟩
theorem emaxNil (w : World) : Calls Tryd.prog 27 #[.pointer none] w fun e w' => e = .returned (.int .i64 0) ∧ w = w' := by
  go_enter Tryd.func27, Tryd.ntmps27
  go_wp2
  go_ret
  exact ⟨rfl, rfl⟩
theorem eallNil (w : World) : Calls Tryd.prog 28 #[.pointer none] w fun e w' => e = .returned (.slice none 0 0) ∧ w = w' := by
  go_enter Tryd.func28, Tryd.ntmps28
  go_wp2
  go_ret
  exact ⟨rfl, rfl⟩
theorem encodeNil (A1 : Option Addr) (n1 c1 : Nat) (A2 : Option Addr) (n2 c2 : Nat) (A3 : Option Addr) (n3 c3 : Nat) (w : World) : Calls Tryd.prog 24 #[.pointer none, .slice A1 n1 c1, .slice A2 n2 c2, .slice A3 n3 c3] w fun e w' => e = .returned (.tuple #[.slice none 0 0, .int .i64 2]) ∧ w = w' := by
  go_enter Tryd.func24, Tryd.ntmps24
  go_wp2_with fail
  go_ret2
  exact ⟨rfl, rfl⟩
end Go.Proofs.YtnkcbljhgcgpaaaDoor
