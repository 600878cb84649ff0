/- Layer 18: numbers there and back: the walk of the law. -/
import Derived.Test.YteijpklepgenbaaPfx7
import Derived.Test.YteijpklepgenbaaCur1
import Derived.RegionTactic
import Derived.ChangeAlike
import Derived.Deep.RegionHeld3
namespace Go.Proofs.Yteijpklepgenbaa
open Go.RowKit

theorem cellKeep8 {w w' : World} (hb : Below w.heap.size w w') {a : Addr} {v : Value} (h : w.cell? a = some v) : w'.cell? a = some v := (hb.cell (World.block_lt_of_cell? w _ h)).trans h
section
variable {P : Program} {k : IntKind} {e : TypeId} {w : World} {ops : Array Oper} {o : Oper} {a : Act} {K : Act → World → Prop} {Q : Exit → Act → World → Prop} {E : Prop}
theorem step_app8 (hgd : o.guard = none) (s x : Operand) (t : TypeId) (ho : o.op = .call { callee := .builtin .append, args := #[s, x], argTypes := #[t, t] })
    (i : TypeInfo) (z : Int) (bytes : Nat) (ht : P.underlying t = some (.slice e)) (hi : P.info? e = some i) (hz : i.zero = some (.int k z)) (hsize : i.size = 1) (hby : i.bytes = bytes)
    (B : Nat) (v : Value) (n : Nat) (f : Nat → Int) (hs : a.eval s = v) (hown : Own k e B w v n f) (A : Option Addr) (m c : Nat) (g : Nat → Int) (hx : a.eval x = .slice A m c) (hr : Rd k w A m c g)
    (h63 : n + m ≤ maxLen) (hbytes : (n + m) * bytes ≤ 140737488355328) (hbase : B ≤ w.heap.size)
    (h : ∀ v' w', Own k e B w' v' (n + m) (catF n f g) → w.grownBy w' v.ownBlock → K (a.put o.dst v') w') :
    if Region.wanted o (yielded ops a.tmps) = true then Oper.wp P o a w K Q else E := by
  have hw : Region.wanted o (yielded ops a.tmps) = true := by simp [Region.wanted, hgd]
  rw [if_pos hw]
  obtain ⟨v', w', hrun, h2, h3⟩ := run_app (P := P) t o.type i z bytes ht hi hz hsize hby B v n f hown A m c g hr h63 hbytes hbase
  unfold Oper.wp execOp
  simp only [ho, resolve, invoke, builtin, Sem.run_bind, Sem.run_pure, Result.andThen_ok, List.map_toArray, List.map_cons, List.map_nil, hs, hx, hrun]
  exact h v' w' h2 h3
end

/-! ### digits and numbers -/
theorem mul_split (q r u : Int) : (128 * q + r) * u = r * u + q * (u * 128) := by
  have h1 : (128 * q + r) * u = 128 * (q * u) + r * u := by rw [Int.add_mul, Int.mul_assoc]
  have h2 : q * (u * 128) = 128 * (q * u) := by rw [← Int.mul_assoc, Int.mul_comm]
  omega
theorem dg_byt (k : Nat) : ∀ m, m < 128 ^ (k + 1) → Byt (dgN k m) (dgF k m) := by
  induction k with
  | zero =>
    intro m hm i hi
    have : m < 128 := by simpa using hm
    simp [dgF, oneF]
    omega
  | succ k ih =>
    intro m hm i hi
    by_cases hs : m < 128
    · rw [(dg_small (k + 1) m hs).2]
      simp [oneF]
      omega
    · obtain ⟨e1, e2⟩ := dg_big k m (by omega)
      rw [e1] at hi
      rw [e2]
      have hpw : 128 ^ (k + 1 + 1) = 128 ^ (k + 1) * 128 := Nat.pow_succ ..
      have hm2 : m / 128 < 128 ^ (k + 1) := Nat.div_lt_of_lt_mul (by rw [Nat.mul_comm]; omega)
      unfold catF
      split
      · simp [oneF]
        omega
      · exact ih (m / 128) hm2 (i - 1) (by omega)
theorem gt_dig (k : Nat) : ∀ (m p n : Nat) (acc : Int) (F : Nat → Int), 1 ≤ p → m < 128 ^ (k + 1) → (∀ i, i < dgN k m → F (p + i) = dgF k m i) → p + dgN k m ≤ n → acc + m * un p ≤ 2147483647 →
    gt F n (k + 1) p acc = (acc + m * un p, (p : Int) + dgN k m, 0) := by
  induction k with
  | zero =>
    intro m p n acc F hp hm hF hn ha
    have hm : m < 128 := by simpa using hm
    have e0 := hF 0 (by simp [dgN])
    simp only [Nat.add_zero, dgF, oneF] at e0
    have hmm : (m : Int) % 128 = m := by omega
    simp only [dgN] at hn
    rw [gt_ok (by omega) (by omega) (by rw [e0, hmm]; omega), e0, hmm]
    simp [dgN]
  | succ k ih =>
    intro m p n acc F hp hm hF hn ha
    by_cases hs : m < 128
    · obtain ⟨e1, e2⟩ := dg_small (k + 1) m hs
      rw [e1] at hF hn ⊢
      rw [e2] at hF
      have e0 := hF 0 (by omega)
      simp only [Nat.add_zero, oneF] at e0
      have hmm : (m : Int) % 128 = m := by omega
      rw [gt_ok (by omega) (by omega) (by rw [e0, hmm]; omega), e0, hmm]
      simp
    · obtain ⟨e1, e2⟩ := dg_big k m (by omega)
      rw [e1] at hF hn ⊢
      rw [e2] at hF
      have hpw : 128 ^ (k + 1 + 1) = 128 ^ (k + 1) * 128 := Nat.pow_succ ..
      have hm2 : m / 128 < 128 ^ (k + 1) := Nat.div_lt_of_lt_mul (by rw [Nat.mul_comm]; omega)
      have hbd := dgN_bd k (m / 128)
      have e0 := hF 0 (by omega)
      simp only [Nat.add_zero, catF, oneF] at e0
      simp at e0
      have hd : F p % 128 = (m : Int) % 128 := by rw [e0]; omega
      have hq : ((m / 128 : Nat) : Int) = (m : Int) / 128 := rfl
      have hsum : acc + (m : Int) % 128 * un p + ((m / 128 : Nat) : Int) * un (p + 1) = acc + m * un p := by
        rw [un_succ hp, hq]
        have := mul_split ((m : Int) / 128) ((m : Int) % 128) (un p)
        rw [show 128 * ((m : Int) / 128) + (m : Int) % 128 = m by omega] at this
        omega
      rw [gt_more (by omega) (by omega), hd, ih (m / 128) (p + 1) n _ F (by omega) hm2 (fun i hi => by
        have h := hF (i + 1) (by omega)
        rw [show p + 1 + i = p + (i + 1) by omega, h]
        simp [catF]) (by omega) (by rw [hsum]; exact ha), hsum]
      refine Prod.ext rfl (Prod.ext ?_ rfl)
      simp
      omega
theorem gt_cut (k : Nat) : ∀ (m p n : Nat) (acc : Int) (F : Nat → Int), (∀ i, i < dgN k m → F (p + i) = dgF k m i) → n + 1 = p + dgN k m → gt F n (k + 1) p acc = (0, 0, 3) := by
  induction k with
  | zero =>
    intro m p n acc F hF hn
    simp only [dgN] at hn
    exact gt_short (by omega)
  | succ k ih =>
    intro m p n acc F hF hn
    by_cases hs : m < 128
    · obtain ⟨e1, _⟩ := dg_small (k + 1) m hs
      rw [e1] at hn
      exact gt_short (by omega)
    · obtain ⟨e1, e2⟩ := dg_big k m (by omega)
      rw [e1] at hF hn
      rw [e2] at hF
      have hbd := dgN_bd k (m / 128)
      have e0 := hF 0 (by omega)
      simp only [Nat.add_zero, catF, oneF] at e0
      simp at e0
      rw [gt_more (by omega) (by omega)]
      exact ih (m / 128) (p + 1) n _ F (fun i hi => by
        have h := hF (i + 1) (by omega)
        rw [show p + 1 + i = p + (i + 1) by omega, h]
        simp [catF]) (by omega)
theorem low_p8 {x y b : Int} (b1 : 1 ≤ b) (b2 : b ≤ 8) (hx : x % p8 b = 0) (y0 : 0 ≤ y) (y1 : y < p8 b) : (x + y) % p8 b = y := by
  rcases p8_cases b1 b2 with ⟨rfl, e⟩ | ⟨rfl, e⟩ | ⟨rfl, e⟩ | ⟨rfl, e⟩ | ⟨rfl, e⟩ | ⟨rfl, e⟩ | ⟨rfl, e⟩ | ⟨rfl, e⟩ <;> rw [e] at hx y1 ⊢ <;> omega
theorem pf_byt {first b n : Int} (h : pfE first b n = 0) : Byt (pfN b n) (pfF first b n) := by
  obtain ⟨h1, h2, h3, h4, h5, h6, h7⟩ := pfE_ok h
  have hb8 := p8_bd h1 h2
  unfold pfN pfF
  by_cases hs : n < p8 b - 1
  · rw [if_pos hs, if_pos hs]
    have := p8_room h4 h1 h2 h5 (show n < p8 b by omega)
    intro i _
    simp only [oneF]
    omega
  · rw [if_neg hs, if_neg hs]
    have := p8_room h4 h1 h2 h5 (show p8 b - 1 < p8 b by omega)
    have hm : (n - (p8 b - 1)).toNat < 128 ^ (4 + 1) := by
      have : (128 : Nat) ^ (4 + 1) = 34359738368 := by decide
      omega
    intro i hi
    unfold catF
    split
    · simp only [oneF]
      omega
    · exact dg_byt 4 _ hm (i - 1) (by omega)
theorem pf_first {first b n : Int} (h : pfE first b n = 0) : first ≤ pfF first b n 0 := by
  obtain ⟨h1, h2, h3, h4, h5, h6, h7⟩ := pfE_ok h
  have hb8 := p8_bd h1 h2
  unfold pfF
  by_cases hs : n < p8 b - 1
  · rw [if_pos hs]
    simp only [oneF]
    omega
  · rw [if_neg hs]
    simp [catF, oneF]
    omega
theorem pg_back {first b n : Int} (h : pfE first b n = 0) (m : Nat) (g : Nat → Int) : pg (catF (pfN b n) (pfF first b n) g) (pfN b n + m) b = (n, (pfN b n : Int), 0) := by
  obtain ⟨h1, h2, h3, h4, h5, h6, h7⟩ := pfE_ok h
  have hb8 := p8_bd h1 h2
  have hbd := pfN_bd b n
  have e0 : ¬ (b < 1 ∨ 8 < b) := by omega
  have e1 : ¬ pfN b n + m = 0 := by omega
  have e2 : catF (pfN b n) (pfF first b n) g 0 = pfF first b n 0 := by simp [catF]; omega
  unfold pg
  rw [if_neg e0, if_neg e1, e2]
  by_cases hs : n < p8 b - 1
  · have eF : pfF first b n 0 = first + n := by simp [pfF, hs, oneF]
    have eN : pfN b n = 1 := by simp [pfN, hs]
    rw [eF, low_p8 h1 h2 h5 h6 (by omega), if_pos hs, eN]
    rfl
  · have eF : pfF first b n 0 = first + (p8 b - 1) := by simp [pfF, hs, catF, oneF]
    have eN : pfN b n = 1 + dgN 4 (n - (p8 b - 1)).toNat := by simp [pfN, hs]
    have hm : (n - (p8 b - 1)).toNat < 128 ^ (4 + 1) := by
      have : (128 : Nat) ^ (4 + 1) = 34359738368 := by decide
      omega
    have hun : un 1 = 1 := rfl
    rw [eF, low_p8 h1 h2 h5 (by omega) (by omega), if_neg (by omega), gt_dig 4 (n - (p8 b - 1)).toNat 1 _ _ _ (Nat.le_refl _) hm (fun i hi => by
      have hi1 : 1 + i < pfN b n := by omega
      simp only [catF, if_pos hi1, pfF, if_neg hs]
      simp [catF]) (by omega) (by rw [hun]; omega), hun]
    refine Prod.ext ?_ (Prod.ext ?_ rfl)
    · simp
      omega
    · simp
      omega
theorem pg_cut {first b n : Int} (h : pfE first b n = 0) (q : Nat) (hq : pfN b n = q + 1) : pg (pfF first b n) q b = (0, 0, 3) := by
  obtain ⟨h1, h2, h3, h4, h5, h6, h7⟩ := pfE_ok h
  have hb8 := p8_bd h1 h2
  have e0 : ¬ (b < 1 ∨ 8 < b) := by omega
  unfold pg
  rw [if_neg e0]
  by_cases hz : q = 0
  · rw [if_pos hz]
  rw [if_neg hz]
  by_cases hs : n < p8 b - 1
  · have eN : pfN b n = 1 := by simp [pfN, hs]
    omega
  · have eF : pfF first b n 0 = first + (p8 b - 1) := by simp [pfF, hs, catF, oneF]
    have eN : pfN b n = 1 + dgN 4 (n - (p8 b - 1)).toNat := by simp [pfN, hs]
    rw [eF, low_p8 h1 h2 h5 (by omega) (by omega), if_neg (by omega)]
    exact gt_cut 4 (n - (p8 b - 1)).toNat 1 _ _ _ (fun i hi => by
      simp only [pfF, if_neg hs]
      simp [catF]) (by omega)
end Go.Proofs.Yteijpklepgenbaa
