/- Layer 21: All. -/
import Derived.Test.YteikpdolickkaaaDy4
import Derived.BigRegion
namespace Go.Proofs.Yteikpdolickkaaa
open Go.RowKit Go.Deep

set_option maxHeartbeats 400000 in
theorem cloneF21 (A : Option Addr) (n c : Nat) (F : Nat → Fd) (w : World) (ha : RdV 3 w A n c (fdV F)) (hn : n ≤ 1000) :
    Calls Try.prog 105 #[.slice A n c] w fun e w' => ∃ v, e = .returned v ∧ OwnV 3 52 w.heap.size w' v n (fdV F) ∧ Below w.heap.size w w' := by
  have hnil := fun (a : Option Addr) (W : World) => Lib.run_eql_slice_nil (P := Try.prog) W 48 52 a n c 0 0 Try.underlying48
  rcases A with _ | ad
  · obtain rfl : c = 0 := ha.2.2.1 rfl
    obtain rfl : n = 0 := by have := ha.1; omega
    clear ha
    go_enter Try.func105, Try.ntmps105
    go_wp2
    go_ret
    exact ⟨_, rfl, OwnV.nil _ _ _ _ _, Below.refl _ _⟩
  · obtain ⟨i0, hi, hz0, hz1, hz2⟩ := info_parts field_info
    have Ha := hide ha
    clear ha
    go_enter Try.func105, Try.ntmps105
    go_wp2_with (at_builtin; refine wp_appV rfl (.tmp 5) (.tmp 6) _ rfl 3 i0 _ 40 Try.underlying48 hi hz0 hz1 hz2 rfl (by omega) w.heap.size _ 0 (fdV F) rfl (OwnV.lit 3 52 w.heap.size w (fdV F) #[] 0 (Nat.le_refl _) (by simp [maxLen]) rfl) _ n c (fdV F) rfl (Ha.out.below36O ((Below.refl _ _).alloc (Nat.le_refl _) _)) (fdV_one _ _) (by simp only [maxLen]; omega) (by omega) (by simp) ?_; intro v1 w1 hown1 hg1 hob1)
    have hb1 : Below w.heap.size w w1 := ((Below.refl _ _).alloc (Nat.le_refl _) _).grown hg1 (by simp) (fun _ e => by cases e; exact Nat.le_refl _)
    go_ret
    exact ⟨_, rfl, OwnV.congr (n := n) (F := catV (0 * 3) (fdV F) (fdV F)) (by simpa using hown1) (fun i _ => by simp [catV]), hb1⟩
def updFd (G : Nat → Fd) (a : Nat) (f : Fd) : Nat → Fd := fun i => if i = a then f else G i
theorem fdV_set3 (G : Nat → Fd) (a : Nat) (f : Fd) : setV (setV (setV (fdV G) (a * 3) (.string f.name)) (a * 3 + 1) (.string f.val)) (a * 3 + 2) (.bool f.nev) = fdV (updFd G a f) := by
  funext i
  unfold setV fdV updFd
  by_cases h2 : i = a * 3 + 2
  · subst h2
    rw [if_pos rfl, show (a * 3 + 2) / 3 = a by omega, if_neg (by omega), if_neg (by omega), if_pos rfl]
  · rw [if_neg h2]
    by_cases h1 : i = a * 3 + 1
    · subst h1
      rw [if_pos rfl, show (a * 3 + 1) / 3 = a by omega, if_neg (by omega), if_pos (by omega), if_pos rfl]
    · rw [if_neg h1]
      by_cases h0 : i = a * 3
      · subst h0
        rw [if_pos rfl, show (a * 3) / 3 = a by omega, if_pos (by omega), if_pos rfl]
      · rw [if_neg h0, if_neg (show ¬ i / 3 = a by omega)]
def swF (n k : Nat) (F : Nat → Fd) : Nat → Fd := fun i => if i < k ∨ n ≤ i + k then F (n - 1 - i) else F i
theorem swF_step (n k : Nat) (F : Nat → Fd) (h : k < n - 1 - k) : ∀ i, i < n → updFd (updFd (swF n k F) k (F (n - 1 - k))) (n - 1 - k) (F k) i = swF n (k + 1) F i := by
  intro i hi
  unfold updFd swF
  by_cases h1 : i = n - 1 - k
  · rw [if_pos h1, if_pos (by omega), h1, show n - 1 - (n - 1 - k) = k by omega]
  · rw [if_neg h1]
    by_cases h2 : i = k
    · rw [if_pos h2, if_pos (by omega), h2]
    · rw [if_neg h2]
      by_cases h3 : i < k ∨ n ≤ i + k
      · rw [if_pos h3, if_pos (by omega)]
      · rw [if_neg h3, if_neg (by omega)]
theorem swF_mid (n k : Nat) (F : Nat → Fd) (h : k < n - 1 - k) : swF n k F k = F k ∧ swF n k F (n - 1 - k) = F (n - 1 - k) := by
  unfold swF
  exact ⟨if_neg (by omega), if_neg (by omega)⟩
theorem swF_end (n k : Nat) (F : Nat → Fd) (h : n - 1 ≤ k + k) : ∀ i, i < n → swF n k F i = F (n - 1 - i) := by
  intro i hi
  unfold swF
  by_cases h3 : i < k ∨ n ≤ i + k
  · rw [if_pos h3]
  · rw [if_neg h3, show n - 1 - i = i by omega]
theorem swap_own {B b n c k jn : Nat} {W : World} {F : Nat → Fd} (e1 : jn = n - 1 - k) (h : k < n - 1 - k)
    (hW : OwnV 3 52 B W (.slice (some ⟨b, 0, none⟩) n c) n (setV (setV (setV (setV (setV (setV (fdV (swF n k F)) (k * 3) (.string (F jn).name)) (k * 3 + 1) (.string (F jn).val)) (k * 3 + 2) (.bool (F jn).nev)) (jn * 3) (.string (F k).name)) (jn * 3 + 1) (.string (F k).val)) (jn * 3 + 2) (.bool (F k).nev))) :
    OwnV 3 52 B W (.slice (some ⟨b, 0, none⟩) n c) n (fdV (swF n (k + 1) F)) := by
  rw [fdV_set3, fdV_set3] at hW
  refine hW.congr (fdV_congr fun i hi => ?_)
  rw [← swF_step n k F h i hi, e1]
theorem swap_own2 {B b n c k jn : Nat} {W : World} {F : Nat → Fd} {G0 : Nat → Value} {f1 f2 : Fd} (e1 : jn = n - 1 - k) (h : k < n - 1 - k) (hG : fdV (swF n k F) = G0) (h1 : F jn = f1) (h2 : F k = f2)
    (hW : OwnV 3 52 B W (.slice (some ⟨b, 0, none⟩) n c) n (setV (setV (setV (setV (setV (setV G0 (k * 3) (.string f1.name)) (k * 3 + 1) (.string f1.val)) (k * 3 + 2) (.bool f1.nev)) (jn * 3) (.string f2.name)) (jn * 3 + 1) (.string f2.val)) (jn * 3 + 2) (.bool f2.nev))) :
    OwnV 3 52 B W (.slice (some ⟨b, 0, none⟩) n c) n (fdV (swF n (k + 1) F)) := by
  subst hG
  subst h1
  subst h2
  exact swap_own e1 h hW
set_option maxRecDepth 20000 in
set_option maxHeartbeats 3200000 in
theorem reverse21 {B : Nat} {w : World} {A : Option Addr} {n c : Nat} {F : Nat → Fd} (h : OwnV 3 52 B w (.slice A n c) n (fdV F)) (hn : n ≤ 1000) :
    Calls Try.prog 106 #[.slice A n c] w fun e w' => e = .returned (.tuple #[]) ∧ OwnV 3 52 B w' (.slice A n c) n (fdV fun i => F (n - 1 - i)) ∧ Below B w w' := by
  have H := hide h
  clear h
  have hw0 : IntKind.i64.wrap ((n : Int) - 1) = (n : Int) - 1 := IntWalk.i64_in _ (by omega)
  go_enter Try.func106, Try.ntmps106
  go_wp2_with fail
  go_loopw [2, 3] (fun i j wr => ∃ (k : Nat) (jv : Int), k ≤ n ∧ i = .int .i64 k ∧ j = .int .i64 jv ∧ jv = (n : Int) - 1 - (k : Int) ∧ OwnV 3 52 B wr (.slice A n c) n (fdV (swF n k F)) ∧ Below B w wr) (fun i _ _ => n - (intOf i).toNat)
  case atStart =>
    refine ⟨0, (n : Int) - 1, Nat.zero_le _, rfl, rfl, by omega, H.out.congr (fdV_congr fun i hi => ?_), Below.refl _ _⟩
    unfold swF
    rw [if_neg (by omega)]
  case round =>
    obtain ⟨k, jv, hk, rfl, rfl, hjv, ho, hbl⟩ := hrel
    have HO := hide ho
    have HE := hide hbl
    have HJ := hide hjv
    clear ho hbl
    by_cases hlt : (k : Int) < jv
    · obtain ⟨jn, hjn⟩ : ∃ jn : Nat, jv = (jn : Int) := ⟨jv.toNat, by omega⟩
      have e1 : jn = n - 1 - k := by omega
      have hkj : k < n - 1 - k := by omega
      clear hjv
      subst hjn
      have hi1 : (k : Int) < (n : Int) := by omega
      have hi2 : (jn : Int) < (n : Int) := by omega
      have hd : decide ((k : Int) < (jn : Int)) = true := decide_eq_true hlt
      have hd' : decide (k < jn) = true := decide_eq_true (by omega)
      obtain ⟨b, hA⟩ : ∃ b, A = some ⟨b, 0, none⟩ := by
        rcases HO.out.2 with ⟨h1, h0⟩ | ⟨b, cap, cur, h1, _⟩
        · omega
        · injection h1 with h1 _ _
          exact ⟨b, h1⟩
      subst hA
      obtain ⟨m1, m2⟩ := swF_mid n k F hkj
      rw [← e1] at m2
      have g : ∀ (W : World) (G : Nat → Fd), OwnV 3 52 B W (.slice (some ⟨b, 0, none⟩) n c) n (fdV G) → ∀ a, a < n → W.cell? ⟨b, a * 3, none⟩ = some (.string (G a).name) ∧ W.cell? ⟨b, a * 3 + 1, none⟩ = some (.string (G a).val) ∧ W.cell? ⟨b, a * 3 + 2, none⟩ = some (.bool (G a).nev) := fun W G hW a ha => by
        rw [← fdV_0 G a, ← fdV_1 G a, ← fdV_2 G a]
        exact ⟨hW.cell (by omega), hW.cell (by omega), hW.cell (by omega)⟩
      obtain ⟨p0, p1, p2⟩ := g _ _ HO.out k (by omega)
      obtain ⟨q0, q1, q2⟩ := g _ _ HO.out jn (by omega)
      rw [m1] at p0 p1 p2
      rw [m2] at q0 q1 q2
      have O1 := HO.out.set (k * 3) (.string (F jn).name)
      have O2 := O1.set (k * 3 + 1) (.string (F jn).val)
      have O3 := O2.set (k * 3 + 2) (.bool (F jn).nev)
      have z1 := HO.out.frozen (k * 3)
      have z2 := O1.frozen (k * 3 + 1)
      have z3 := O2.frozen (k * 3 + 2)
      have y2 : _ = some (setV (fdV (swF n k F)) (k * 3) (.string (F jn).name) (k * 3 + 1)) := O1.cell (j := k * 3 + 1) (by omega)
      have y3 : _ = some (setV (setV (fdV (swF n k F)) (k * 3) (.string (F jn).name)) (k * 3 + 1) (.string (F jn).val) (k * 3 + 2)) := O2.cell (j := k * 3 + 2) (by omega)
      have O3' := O3
      rw [fdV_set3] at O3'
      obtain ⟨x0, _, _⟩ := g _ _ O3' jn (by omega)
      have O4 := O3.set (jn * 3) (.string (F k).name)
      have O5 := O4.set (jn * 3 + 1) (.string (F k).val)
      have O6 := O5.set (jn * 3 + 2) (.bool (F k).nev)
      have z4 := O3.frozen (jn * 3)
      have z5 := O4.frozen (jn * 3 + 1)
      have z6 := O5.frozen (jn * 3 + 2)
      have y5 := O4.cell (j := jn * 3 + 1) (by omega)
      have y6 := O5.cell (j := jn * 3 + 2) (by omega)
      have HO6 := hide O6
      have hBb : B ≤ b := by
        have := World.ownsRow.lt HO.out b rfl
        exact this.1
      have hw1 : IntKind.i64.wrap ((jn : Int) - 1) = (jn : Int) - 1 := IntWalk.i64_in _ (by omega)
      have He1 := hide e1
      have Hkj := hide hkj
      clear O1 O2 O3 O4 O5 O6 O3' g m1 m2 e1 hkj hlt
      generalize hG0 : fdV (swF n k F) = G0 at *
      generalize hf1 : F jn = f1 at *
      generalize hf2 : F k = f2 at *
      have HG := hide (And.intro hG0 (And.intro hf1 hf2))
      clear hG0 hf1 hf2
      go_wp2_with fail
      go_region
      all_goals
        have OD : Hid (OwnV 3 52 B ((((((wr.setCell ⟨b, k * 3, none⟩ (.string f1.name)).setCell ⟨b, k * 3 + 1, none⟩ (.string f1.val)).setCell ⟨b, k * 3 + 2, none⟩ (.bool f1.nev)).setCell ⟨b, jn * 3, none⟩ (.string f2.name)).setCell ⟨b, jn * 3 + 1, none⟩ (.string f2.val)).setCell ⟨b, jn * 3 + 2, none⟩ (.bool f2.nev)).drew (.slice (some ⟨b, 0, none⟩) n c) n (setV (setV (setV (setV (setV (setV G0 (k * 3) (.string f1.name)) (k * 3 + 1) (.string f1.val)) (k * 3 + 2) (.bool f1.nev)) (jn * 3) (.string f2.name)) (jn * 3 + 1) (.string f2.val)) (jn * 3 + 2) (.bool f2.nev))) := HO6.out
        have ED : Hid (Below B w ((((((wr.setCell ⟨b, k * 3, none⟩ (.string f1.name)).setCell ⟨b, k * 3 + 1, none⟩ (.string f1.val)).setCell ⟨b, k * 3 + 2, none⟩ (.bool f1.nev)).setCell ⟨b, jn * 3, none⟩ (.string f2.name)).setCell ⟨b, jn * 3 + 1, none⟩ (.string f2.val)).setCell ⟨b, jn * 3 + 2, none⟩ (.bool f2.nev)).drew) := ((((((HE.out.setCell hBb _).setCell hBb _).setCell hBb _).setCell hBb _).setCell hBb _).setCell hBb _).drew
        clear p0 p1 p2 q0 q1 q2 z1 z2 z3 z4 z5 z6 x0 y2 y3 y5 y6
        go_wp2_with fail
        go_roundw
        case rel => exact ⟨k + 1, (jn : Int) - 1, by omega, by go_num, rfl, by have h1 := He1.out; have h2 := Hkj.out; omega, swap_own2 He1.out Hkj.out HG.out.1 HG.out.2.1 HG.out.2.2 OD.out, ED.out⟩
        case measure => simp [intOf]; omega
    · have hd : decide ((k : Int) < jv) = false := decide_eq_false hlt
      have Hlt := hide hlt
      clear hlt hjv
      go_wp2_with fail
      first | go_end0 | (refine bodyPost_ret (results_none rfl _ _ _) rfl ?_)
      have hend := swF_end n k F (by have h1 := HJ.out; have h2 := Hlt.out; omega)
      exact ⟨rfl, HO.out.congr (fdV_congr hend), HE.out⟩
end Go.Proofs.Yteikpdolickkaaa
