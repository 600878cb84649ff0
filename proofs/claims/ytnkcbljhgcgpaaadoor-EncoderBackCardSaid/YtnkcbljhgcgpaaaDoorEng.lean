/- Layer 24: what is written in any way is read as it was (no walk: what the bytes say). -/
import Derived.Test.YtnkcbljhgcgpaaaDoorEn7
import Derived.Test.YtnkcbljhgcgpaaaDoorDec
import Derived.Test.YtnkcbljhgcgpaaaDoorRpj
namespace Go.Proofs.YtnkcbljhgcgpaaaDoor
set_option linter.unusedVariables false
set_option linter.unusedSimpArgs false
open Go.RowKit Go.Deep Go.ChangeShapes Go.WideShapes

/-- Step by step through what was written. -/
def stp : List Rpv → Ds → Option Ds
  | [], σ => some σ
  | r :: l, σ => match dstep σ r.k r.i r.ns r.vs r.z with
    | .inl τ => stp l τ
    | .inr _ => none
theorem stp_app (r : Rpv) : ∀ (l : List Rpv) (σ : Ds), stp (l ++ [r]) σ = (stp l σ).bind fun τ => match dstep τ r.k r.i r.ns r.vs r.z with | .inl τ' => some τ' | .inr _ => none
  | [], σ => by
    show stp [r] σ = _
    unfold stp
    cases h : dstep σ r.k r.i r.ns r.vs r.z <;> simp [stp, h]
  | x :: l, σ => by
    show stp (x :: (l ++ [r])) σ = (stp (x :: l) σ).bind _
    unfold stp
    cases h : dstep σ x.k x.i x.ns x.vs x.z with
    | inl τ => exact stp_app r l τ
    | inr e => rfl
theorem stp_dcr : ∀ (l : List Rpv), (∀ r ∈ l, r.Ok) → ∀ (f : Nat → Int) (n t : Nat), n = t + bN l → (∀ j, j < bN l → f (t + j) = bF l j) → ∀ (σ σ' : Ds), stp l σ = some σ' → DcR f n t σ (.inl σ')
  | [], _, f, n, t, hn, _, σ, σ', h => by
    simp only [stp, Option.some.injEq] at h
    subst h
    exact .done (by have : bN [] = 0 := rfl; omega)
  | r :: l, hok, f, n, t, hn, hf, σ, σ', h => by
    have ho := hok r List.mem_cons_self
    have hb : bN (r :: l) = r.N + bN l := rfl
    have hg := gtr_back ho.b ho.n ho.v (bN l) (fun i => f (t + r.N + i))
    have hfe : catF (rpN r.k r.i r.ns r.a r.vs r.b r.z) (rpF r.k r.i r.ns r.a r.vs r.b r.z) (fun i => f (t + r.N + i)) = fun j => f (t + j) := by
      funext j
      show catF r.N r.F _ j = _
      unfold catF
      by_cases hj : j < r.N
      · rw [if_pos hj]
        have := hf j (by omega)
        rw [this]
        show _ = catF r.N r.F (bF l) j
        unfold catF
        rw [if_pos hj]
      · rw [if_neg hj]
        show f (t + r.N + (j - r.N)) = _
        rw [show t + r.N + (j - r.N) = t + j by omega]
    rw [hfe] at hg
    have hN0 : 0 < r.N := by
      have h1 := gtr_ok hg
      rcases h1 with ⟨h1, _⟩ | ⟨_, _, h1, _⟩
      · exact absurd rfl h1
      · show 0 < rpN r.k r.i r.ns r.a r.vs r.b r.z
        omega
    have hnt : n - t = rpN r.k r.i r.ns r.a r.vs r.b r.z + bN l := by show _ = r.N + bN l; omega
    unfold stp at h
    cases hd : dstep σ r.k r.i r.ns r.vs r.z with
    | inr e => simp [hd] at h
    | inl τ =>
      simp only [hd] at h
      refine .go (by omega) (by rw [hnt]; exact hg) hd ?_
      have e : ((rpN r.k r.i r.ns r.a r.vs r.b r.z : Nat) : Int).toNat = r.N := Int.toNat_natCast _
      rw [e]
      refine stp_dcr l (fun x hx => hok x (List.mem_cons_of_mem _ hx)) f n (t + r.N) (by omega) (fun j hj => ?_) τ σ' h
      have h2 := hf (r.N + j) (by omega)
      rw [Nat.add_assoc, h2]
      show catF r.N r.F (bF l) (r.N + j) = _
      unfold catF
      rw [if_neg (by omega), Nat.add_sub_cancel_left]
theorem ez_back (mx : Nat) (tb : List Fd) (z : Nat → Int) : ∀ k, stp (ezN z k ⟨mx, tb, []⟩).rs ⟨[], [], mx, tb⟩ = some ⟨[], (List.range k).map z, (ezN z k ⟨mx, tb, []⟩).mx, (ezN z k ⟨mx, tb, []⟩).tb⟩
  | 0 => rfl
  | k + 1 => by
    show stp ((ezN z k ⟨mx, tb, []⟩).rs ++ [rz5 (z k)]) _ = _
    rw [stp_app, ez_back mx tb z k]
    simp [rz5, dstep, ezN, List.range_succ]
theorem plr_at {l : List Fd} {nm vl : ByteArray} {p : Int} (h : PlR l nm vl p) (hp : 0 < p) (hnv : ∀ f ∈ l, f.nev = false) : atP l p = some ⟨nm, vl, false⟩ := by
  obtain ⟨i, b, h1, h2⟩ := h
  rcases h2 with ⟨rfl, rfl⟩ | ⟨rfl, j, d, h3, h4⟩
  · rcases h1 with ⟨_, k, hk, rfl, rfl, rfl, _⟩ | ⟨h, _⟩
    · unfold atP
      rw [if_pos (by omega), if_pos (by omega)]
      simp [sfd]
    · cases h
  · rcases h4 with ⟨rfl, rfl⟩ | ⟨rfl, rfl⟩
    · rcases h3 with ⟨_, q, hq, rfl, rfl, rfl, _⟩ | ⟨h, _⟩
      · unfold atP atT
        rw [if_neg (by omega), if_pos (by omega)]
        have e : (61 + ((q : Int) + 1) - 61 - 1).toNat = q := by omega
        rw [e, List.getElem?_eq_getElem hq]
        have e2 : fn l q = l[q] := by simp [fn, List.getD_eq_getElem?_getD, List.getElem?_eq_getElem hq]
        rw [e2]
        have e3 := hnv l[q] (List.getElem_mem hq)
        generalize l[q] = x at e3
        obtain ⟨a, b, c⟩ := x
        simp only at e3
        subst e3
        rfl
      · cases h
    · omega
theorem nmr_at {l : List Fd} {nm : ByteArray} {p : Int} (h : NmR l nm p) (hp : 0 < p) : ∃ g, atP l p = some g ∧ g.name = nm := by
  rcases h with ⟨k, hk, rfl, rfl, _⟩ | ⟨_, ⟨q, hq, rfl, rfl, _⟩ | ⟨rfl, _⟩⟩
  · refine ⟨sfd k, ?_, rfl⟩
    unfold atP
    rw [if_pos (by omega), if_pos (by omega)]
    simp
  · refine ⟨l[q], ?_, by simp [fn, List.getD_eq_getElem?_getD, List.getElem?_eq_getElem hq]⟩
    unfold atP atT
    rw [if_neg (by omega), if_pos (by omega)]
    have e : (62 + (q : Int) - 61 - 1).toNat = q := by omega
    rw [e, List.getElem?_eq_getElem hq]
  · omega
theorem wr_back {mx : Nat} {l : List Fd} {f : Fd} {way : Int} {nn sn sv : Bool} {k i : Int} {ns vs : ByteArray} {a b : Bool} {l' : List Fd} (h : WrR mx l f way nn sn sv k i ns a vs b l') (hnv : ∀ f ∈ l, f.nev = false) (fs : List Fd) (szs : List Int) :
    dstep ⟨fs, szs, mx, l⟩ k i ns vs 0 = .inl ⟨fs ++ [f], szs, mx, l'⟩ := by
  obtain ⟨p, m, hp, hm, h | h⟩ := h
  · obtain ⟨hk, h0, rfl, rfl, rfl, rfl, rfl, rfl, rfl⟩ := h
    have hf : f.nev = false := by
      unfold kd24 at hk
      by_cases e : f.nev = true
      · rw [if_pos e] at hk; exact absurd hk (by decide)
      · simpa using e
    have ha := plr_at hp h0 hnv
    obtain ⟨nm, vl, nv⟩ := f
    simp only at hf ha
    subst hf
    simp [dstep, dfld, h0, ha]
  · obtain ⟨hno, hk, hi, rfl, rfl, rfl, rfl, rfl⟩ := h
    have hk5 : k ≠ 5 ∧ k ≠ 1 ∧ ((k == 4) = f.nev) := by
      rcases hx : f.nev with _ | _
      · rw [hx] at hk
        unfold kd24 at hk
        simp only [Bool.false_eq_true, if_false] at hk
        by_cases e1 : way = 1
        · simp [e1] at hk; subst hk; exact ⟨by decide, by decide, by decide⟩
        · by_cases e2 : way = 2
          · simp [e2] at hk; subst hk; exact ⟨by decide, by decide, by decide⟩
          · simp [e1, e2] at hk; subst hk; exact ⟨by decide, by decide, by decide⟩
      · rw [hx] at hk
        unfold kd24 at hk
        simp at hk
        subst hk
        exact ⟨by decide, by decide, by decide⟩
    have hd : dfld l k i (if i = 0 then f.name else ⟨#[]⟩) f.val = some f := by
      unfold dfld
      by_cases h0 : 0 < i
      · rw [if_pos h0]
        have him : i = m := by
          by_cases e : nn = true
          · rw [if_pos e] at hi; omega
          · rw [if_neg e] at hi; exact hi
        subst him
        obtain ⟨g, hg, hgn⟩ := nmr_at hm h0
        rw [hg]
        simp only [hk5.2.1, if_false, hgn, hk5.2.2]
      · rw [if_neg h0]
        have hi0 : i = 0 := by
          have := hm.rng
          by_cases e : nn = true
          · rw [if_pos e] at hi; exact hi
          · rw [if_neg e] at hi; omega
        rw [if_pos hi0, hk5.2.2]
    unfold dstep
    rw [if_neg hk5.1]
    simp only [hd]
theorem en_back {T : Nat} {G : Nat → Fd} {O : Nat → Op4} {σ τ : Es} {k : Nat} (h : EnR G O σ k τ) (hs : EsOk T σ) (hT : T + k ≤ 900000) (hG : ∀ j, j < k → Sm4 (G j)) {D : Ds} {szs : List Int} (h0 : stp σ.rs D = some ⟨[], szs, σ.mx, σ.tb⟩) :
    stp τ.rs D = some ⟨(List.range k).map G, szs, τ.mx, τ.tb⟩ := by
  induction h with
  | zero => exact h0
  | @succ j τ k i ns vs a b l' h1 hw ih =>
    have hok := en_ok h1 hs (by omega) fun j' hj => hG j' (by omega)
    have e := ih (by omega) fun j' hj => hG j' (by omega)
    show stp (τ.rs ++ [⟨k, i, ns, a, vs, b, 0⟩]) D = _
    rw [stp_app, e]
    simp only [Option.bind_some, wr_back hw hok.nv, List.range_succ, List.map_append, List.map_cons, List.map_nil]
/-- What is written is read as it was. -/
theorem written_back {T mx : Nat} {tb : List Fd} {z : Nat → Int} {n1 : Nat} {G : Nat → Fd} {n2 : Nat} {O : Nat → Op4} {σ : Es} (hs : EsOk T ⟨mx, tb, []⟩) (hT : T + n2 ≤ 900000) (hz : szok z n1) (hG : ∀ j, j < n2 → Sm4 (G j)) (h : EnR G O (ezN z n1 ⟨mx, tb, []⟩) n2 σ) :
    DcR (bF σ.rs) (bN σ.rs) 0 ⟨[], [], mx, tb⟩ (.inl ⟨(List.range n2).map G, (List.range n1).map z, σ.mx, σ.tb⟩) := by
  have hz' := ez_ok hs n1 hz
  have hok := en_ok h hz' hT hG
  exact stp_dcr σ.rs hok.rs (bF σ.rs) (bN σ.rs) 0 (by omega) (fun j _ => by rw [Nat.zero_add]) _ _ (en_back h hz' hT hG (ez_back mx tb z n1))
theorem bF_byt : ∀ (l : List Rpv), (∀ r ∈ l, r.Ok) → Byt (bN l) (bF l)
  | [], _ => fun i hi => absurd hi (Nat.not_lt_zero _)
  | r :: l, h => cat_byt (rp_byt (h r List.mem_cons_self).b (Nat.le_trans (h r List.mem_cons_self).n (by decide)) (Nat.le_trans (h r List.mem_cons_self).v (by decide))) (bF_byt l fun x hx => h x (List.mem_cons_of_mem _ hx))
theorem fn_map (G : Nat → Fd) (n : Nat) : ∀ i, i < n → fn ((List.range n).map G) i = G i := fun i hi => by
  simp [fn, List.getD_eq_getElem?_getD, hi]
end Go.Proofs.YtnkcbljhgcgpaaaDoor
