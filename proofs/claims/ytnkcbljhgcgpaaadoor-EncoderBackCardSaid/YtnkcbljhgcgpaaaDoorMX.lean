/- De1, De2, De3, De4 in one text. -/
import Derived.Test.YtnkcbljhgcgpaaaDoorMZ
import Derived.Test.YtnkcbljhgcgpaaaDoorMV
import Derived.Test.YtnkcbljhgcgpaaaDoorMS
import Derived.Laws.ResultCell
namespace Go.Proofs.YtnkcbljhgcgpaaaDoor
set_option linter.unusedVariables false
set_option linter.unusedSimpArgs false
section
open Go.RowKit Go.Deep Go.ChangeShapes Go.WideShapes

def fn (l : List Fd) : Nat → Fd := fun i => l.getD i default
def fitL : Int → List Fd → List Fd
  | _, [] => []
  | most, f :: r => if (wt f : Int) ≤ most then f :: fitL (most - (wt f : Int)) r else []
def addL (mx : Nat) (f : Fd) (l : List Fd) : List Fd := if mx < wt f then [] else ⟨f.name, f.val, false⟩ :: fitL ((mx : Int) - (wt f : Int)) l
def sumL (l : List Fd) : Nat := sumW (fn l) l.length
theorem fn_zero (f : Fd) (r : List Fd) : fn (f :: r) 0 = f := rfl
theorem fn_succ (f : Fd) (r : List Fd) (i : Nat) : fn (f :: r) (i + 1) = fn r i := rfl
theorem fn_shift (f : Fd) (r : List Fd) : shF 1 (fn (f :: r)) = fn r := by
  funext i
  unfold shF
  rw [show 1 + i = i + 1 by omega]
  rfl
theorem fn_get {l : List Fd} {i : Nat} (h : i < l.length) : fn l i = l[i] := by
  unfold fn
  rw [List.getD_eq_getElem?_getD, List.getElem?_eq_getElem h]
  rfl
theorem fn_mem {l : List Fd} {i : Nat} (h : i < l.length) : fn l i ∈ l := by
  rw [fn_get h]
  exact List.getElem_mem _
theorem fn_take (l : List Fd) {k i : Nat} (h : i < k) : fn (l.take k) i = fn l i := by
  unfold fn
  rw [List.getD_eq_getElem?_getD, List.getD_eq_getElem?_getD, List.getElem?_take, if_pos h]
theorem fitL_cons_yes {f : Fd} {r : List Fd} {most : Int} (h : (wt f : Int) ≤ most) : fitL most (f :: r) = f :: fitL (most - (wt f : Int)) r := by
  show (if _ then _ else _) = _
  rw [if_pos h]
theorem fitL_cons_no {f : Fd} {r : List Fd} {most : Int} (h : ¬ (wt f : Int) ≤ most) : fitL most (f :: r) = [] := by
  show (if _ then _ else _) = _
  rw [if_neg h]
theorem fitP_fitL : ∀ (l : List Fd) (most : Int), FitP (fn l) l.length most (fitL most l).length ∧ fitL most l = l.take (fitL most l).length
  | [], most => ⟨⟨Nat.le_refl _, fun i hi => absurd hi (Nat.not_lt_zero _), .inl rfl⟩, rfl⟩
  | f :: r, most => by
    by_cases h : (wt f : Int) ≤ most
    · rw [fitL_cons_yes h]
      obtain ⟨⟨h1, h2, h3⟩, h4⟩ := fitP_fitL r (most - (wt f : Int))
      generalize hk : (fitL (most - (wt f : Int)) r).length = k at *
      have e : ∀ i, sumW (fn (f :: r)) (i + 1) = wt f + sumW (fn r) i := fun i => by rw [sumW_first, fn_shift, fn_zero]
      refine ⟨⟨?_, fun i hi => ?_, ?_⟩, ?_⟩
      · simp only [List.length_cons, hk]; omega
      · rw [e]
        rcases i with _ | i
        · show ((wt f + 0 : Nat) : Int) ≤ most; omega
        · have := h2 i (by simp only [List.length_cons, hk] at hi; omega); omega
      · simp only [List.length_cons, hk]
        rw [e]
        rcases h3 with h3 | h3
        · left; omega
        · right; omega
      · simp only [List.length_cons, hk, List.take_succ_cons, ← h4]
    · rw [fitL_cons_no h]
      refine ⟨⟨Nat.zero_le _, fun i hi => absurd hi (Nat.not_lt_zero _), .inr ?_⟩, rfl⟩
      show most < ((0 + wt f : Nat) : Int)
      omega
theorem FitP.uniq {L : Nat → Fd} {n k k' : Nat} {most : Int} (h : FitP L n most k) (h' : FitP L n most k') : k = k' := by
  obtain ⟨a1, a2, a3⟩ := h
  obtain ⟨b1, b2, b3⟩ := h'
  rcases Nat.lt_trichotomy k k' with e | e | e
  · have := b2 k e
    rcases a3 with a3 | a3 <;> omega
  · exact e
  · have := a2 k' e
    rcases b3 with b3 | b3 <;> omega
theorem FitP.congr {L M : Nat → Fd} {n k : Nat} {most : Int} (h : FitP L n most k) (e : ∀ i, i < n → L i = M i) : FitP M n most k := by
  obtain ⟨a1, a2, a3⟩ := h
  refine ⟨a1, fun i hi => ?_, ?_⟩
  · rw [← sumW_congr fun j hj => e j (by omega)]; exact a2 i hi
  · rcases a3 with a3 | a3
    · exact .inl a3
    · by_cases hk : k = n
      · exact .inl hk
      · right
        rw [← sumW_congr fun j hj => e j (by omega)]
        exact a3
theorem fitL_len (l : List Fd) (most : Int) : (fitL most l).length ≤ l.length := (fitP_fitL l most).1.1
theorem fitL_mem {l : List Fd} {most : Int} {f : Fd} (h : f ∈ fitL most l) : f ∈ l := by
  rw [(fitP_fitL l most).2] at h
  exact List.mem_of_mem_take h
theorem fitL_fn {l : List Fd} {most : Int} {i : Nat} (h : i < (fitL most l).length) : fn (fitL most l) i = fn l i := by
  have e := (fitP_fitL l most).2
  rw [e]
  exact fn_take l h
theorem fitL_of {l : List Fd} {most : Int} {k : Nat} (h : FitP (fn l) l.length most k) : k = (fitL most l).length := h.uniq (fitP_fitL l most).1
theorem addL_len (mx : Nat) (f : Fd) (l : List Fd) : (addL mx f l).length ≤ l.length + 1 := by
  unfold addL
  by_cases h : mx < wt f
  · rw [if_pos h]; exact Nat.zero_le _
  · rw [if_neg h]
    have := fitL_len l ((mx : Int) - (wt f : Int))
    simp only [List.length_cons]
    omega
theorem addL_mem {mx : Nat} {f g : Fd} {l : List Fd} (h : g ∈ addL mx f l) : g = ⟨f.name, f.val, false⟩ ∨ g ∈ l := by
  unfold addL at h
  by_cases e : mx < wt f
  · rw [if_pos e] at h; cases h
  · rw [if_neg e] at h
    rcases List.mem_cons.1 h with h | h
    · exact .inl h
    · exact .inr (fitL_mem h)
theorem rvF_rvF (F : Nat → Fd) (n : Nat) : ∀ i, i < n → rvF n (rvF n F) i = F i := fun i hi => by
  unfold rvF
  congr 1
  omega
theorem TOk.congrF {B : Nat} {w : World} {p : Nat} {g : Option Nat} {n mx : Nat} {F G : Nat → Fd} (h : TOk B w p g n mx F) (e : ∀ i, i < n → F i = G i) : TOk B w p g n mx G := by
  obtain ⟨⟨v, ⟨T, h1⟩, h2, h3⟩, h4, h5, h6, h7⟩ := h
  refine ⟨⟨v, ⟨T, ?_⟩, h2, h3.congr fun i hi => fdV_congr e i hi⟩, h4, h5, h6, fun i hi => by rw [← e i hi]; exact h7 i hi⟩
  rw [← sumW_congr e]
  exact h1
/-- The program's table at p. -/
def TL (B : Nat) (w : World) (p : Nat) (g : Option Nat) (mx : Nat) (l : List Fd) : Prop := TOk B w p g l.length mx (rvF l.length (fn l))
section
variable {B : Nat} {w w' : World} {p : Nat} {g : Option Nat} {mx : Nat} {l : List Fd}
theorem TL.below (h : TL B w p g mx l) (hb : Below w.heap.size w w') : TL B w' p g mx l := TOk.below h hb
theorem TL.at_ (h : TL B w p g mx l) (hb : ∀ i, tfp p g i → w'.heap[i]? = w.heap[i]?) : TL B w' p g mx l := TOk.at_ h hb
theorem TL.lt (h : TL B w p g mx l) : ∀ i, tfp p g i → B ≤ i ∧ i < w.heap.size := TOk.lt h
theorem TL.frO {S : Nat → Prop} {B' : Nat} (h : TL B w p g mx l) (hf : FrO B' S w w') (hs : ∀ i, tfp p g i → ¬ S i) : TL B w' p g mx l := h.at_ fun i hi => hf.keep i (h.lt i hi).2 (hs i hi)
theorem TL.wl (h : TL B w p g mx l) : ∀ f ∈ l, wt f ≤ 1000000 := fun f hf => by
  obtain ⟨i, hi, rfl⟩ := List.getElem_of_mem hf
  have := TOk.wl h (l.length - 1 - i) (by omega)
  unfold rvF at this
  rw [show l.length - 1 - (l.length - 1 - i) = i by omega, fn_get hi] at this
  exact this
theorem TL.mle (h : TL B w p g mx l) : mx ≤ 2147483647 := TOk.mx h
theorem TL.base {B' : Nat} (h : TL B w p g mx l) (hB : B' ≤ B) : TL B' w p g mx l := by
  obtain ⟨⟨v, h1, h2, h3⟩, h4, h5, h6, h7⟩ := h
  exact ⟨⟨v, h1, h2, h3.base hB⟩, Nat.le_trans hB h4, h5, h6, h7⟩
theorem TL.new (w : World) (x : Nat) (hB : B ≤ w.heap.size) (hx : x ≤ 2147483647) (T : TypeId) : TL B (w.alloc (.cells #[.slice none 0 0, .int .i64 0, .int .i64 (x : Int)] T)) w.heap.size none x [] := TOk.new w x hB hx _ T
theorem resizeL (h : TL B w p g mx l) (hB : B ≤ w.heap.size) (hn : l.length ≤ 1000000) (x : Nat) (hx : x ≤ 2147483647) :
    Calls Tryd.prog 43 #[.pointer (some ⟨p, 0, none⟩), .int .i64 (x : Int)] w fun e w' => e = .returned (.int .i64 0) ∧ TL B w' p g x (fitL x l) ∧ FrO B (tfp p g) w w' := by
  refine (resize21 h hB hn x hx).mono ?_
  rintro e w1 ⟨j, rfl, hj, h1, h2, ht, hf⟩
  have hk := (fitP_fitL l (x : Int)).1
  have hs := fit_same hj h1 h2 (hk.congr fun i hi => (rvF_rvF (fn l) l.length i hi).symm)
  refine ⟨rfl, ?_, hf⟩
  unfold TL
  rw [← hs] at ht
  refine ht.congrF fun i hi => ?_
  unfold shF rvF
  rw [fitL_fn (by omega)]
  congr 1
  omega
theorem addTL (h : TL B w p g mx l) (hB : B ≤ w.heap.size) (hn : l.length ≤ 900000) (f : Fd) (hf : wt f ≤ 1000000) :
    Calls Tryd.prog 54 #[.pointer (some ⟨p, 0, none⟩), .agg #[.string f.name, .string f.val, .bool f.nev]] w fun e w' => ∃ g', e = .returned (.tuple #[]) ∧ TL B w' p g' mx (addL mx f l) ∧ FrO B (tfp p g) w w' ∧ (g' = g ∨ ∀ b, g' = some b → w.heap.size ≤ b) := by
  refine (add21 h hB hn f hf).mono ?_
  rintro e w1 ⟨j, g', rfl, hj, h1, h2, hf2, hg, hc⟩
  refine ⟨g', rfl, ?_, hf2, hg⟩
  unfold TL addL
  rcases hc with ⟨hm, ht⟩ | ⟨hm, ht⟩
  · rw [if_pos hm]
    have e0 : l.length - j = 0 := by
      rcases h2 with h2 | h2
      · omega
      · omega
    rw [e0] at ht
    exact ht.congrF fun i hi => absurd hi (Nat.not_lt_zero _)
  · rw [if_neg (by omega)]
    have hk := (fitP_fitL l ((mx : Int) - (wt f : Int))).1
    have hs := fit_same hj h1 h2 (hk.congr fun i hi => (rvF_rvF (fn l) l.length i hi).symm)
    have hlen : (Fd.mk f.name f.val false :: fitL ((mx : Int) - (wt f : Int)) l).length = l.length - j + 1 := by rw [List.length_cons, hs]
    rw [hlen]
    refine ht.congrF fun i hi => ?_
    unfold appFd rvF
    by_cases hi' : i < l.length - j
    · rw [if_pos hi', show l.length - j + 1 - 1 - i = (l.length - j - 1 - i) + 1 by omega, fn_succ, fitL_fn (by omega)]
      show fn l (l.length - 1 - (j + i)) = fn l (l.length - j - 1 - i)
      rw [show l.length - 1 - (j + i) = l.length - j - 1 - i by omega]
    · rw [if_neg hi', show l.length - j + 1 - 1 - i = 0 by omega, fn_zero]
theorem sizeL (h : TL B w p g mx l) : Calls Tryd.prog 39 #[.pointer (some ⟨p, 0, none⟩)] w fun e w' => e = .returned (.int .i64 (sumL l : Int)) ∧ w = w' := by
  have := size21 h
  have e : sumW (rvF l.length (fn l)) l.length = sumL l := by unfold rvF; exact sumW_rev (fn l) l.length
  rw [e] at this
  exact this
theorem allL (h : TL B w p g mx l) (hn : l.length ≤ 1000000) : Calls Tryd.prog 40 #[.pointer (some ⟨p, 0, none⟩)] w fun e w' => ∃ v, e = .returned v ∧ OwnV 3 51 w.heap.size w' v l.length (fdV (fn l)) ∧ Below w.heap.size w w' := by
  refine (all21 h hn).mono ?_
  rintro e w1 ⟨v, rfl, ho, hb⟩
  exact ⟨v, rfl, ho.congr fun i hi => fdV_congr (rvF_rvF (fn l) l.length) i hi, hb⟩
theorem copyL (h : TL B w p g mx l) (hn : l.length ≤ 1000000) : Calls Tryd.prog 31 #[.pointer (some ⟨p, 0, none⟩)] w fun e w' => ∃ p' g', e = .returned (.pointer (some ⟨p', 0, none⟩)) ∧ TL w.heap.size w' p' g' mx l ∧ Below w.heap.size w w' := copy21 h hn
theorem FiR.at_ {L M : Nat → Fd} {m : Nat} {nm vl : ByteArray} {i : Int} {b : Bool} (h : FiR L m nm vl i b) (e : ∀ j, j < m → L j = M j) : FiR M m nm vl i b := h.congr e
theorem findL (h : TL B w p g mx l) (hn : l.length ≤ 1000000) (nm vl : ByteArray) :
    Calls Tryd.prog 87 #[.pointer (some ⟨p, 0, none⟩), .string nm, .string vl] w fun e w' => ∃ i b, e = .returned (.tuple #[.int .i64 i, .bool b]) ∧ FiR (fn l) l.length nm vl i b ∧ Below w.heap.size w w' := by
  refine (find21 h hn nm vl).mono ?_
  rintro e w1 ⟨i, b, rfl, hr, hb⟩
  exact ⟨i, b, rfl, hr.congr (rvF_rvF (fn l) l.length), hb⟩
end
/-- What stands at a place of a list. -/
def atT (l : List Fd) (i : Int) : Option Fd := if 1 ≤ i then l[(i - 1).toNat]? else none
/-- What is told of it. -/
def AtV (o : Option Fd) (nm vl : ByteArray) (nv has : Bool) : Prop := (o = none ∧ nm = ⟨#[]⟩ ∧ vl = ⟨#[]⟩ ∧ nv = false ∧ has = false) ∨ ∃ f, o = some f ∧ nm = f.name ∧ vl = f.val ∧ nv = f.nev ∧ has = true
theorem atV_of {l : List Fd} {L : Nat → Fd} {i : Int} {nm vl : ByteArray} {nv has : Bool} (e : ∀ j, j < l.length → L j = fn l j) (h : AtR L l.length i nm vl nv has) : AtV (atT l i) nm vl nv has := by
  rcases h with ⟨h1, h2, h3, h4, h5⟩ | ⟨q, hq, rfl, h2, h3, h4, h5⟩
  · refine .inl ⟨?_, h2, h3, h4, h5⟩
    unfold atT
    by_cases h : 1 ≤ i
    · rw [if_pos h, List.getElem?_eq_none (by omega)]
    · rw [if_neg h]
  · refine .inr ⟨fn l q, ?_, by rw [h2, e q hq], by rw [h3, e q hq], by rw [h4, e q hq], h5⟩
    unfold atT
    rw [if_pos (by omega), show ((q : Int) + 1 - 1).toNat = q by omega, List.getElem?_eq_getElem hq, fn_get hq]
theorem atTL {B : Nat} {w : World} {p : Nat} {g : Option Nat} {mx : Nat} {l : List Fd} (h : TL B w p g mx l) (hn : l.length ≤ 1000000) (i : Int) :
    Calls Tryd.prog 77 #[.pointer (some ⟨p, 0, none⟩), .int .i64 i] w fun e w' => ∃ nm vl nv has, e = .returned (.tuple #[.agg #[.string nm, .string vl, .bool nv], .bool has]) ∧ AtV (atT l i) nm vl nv has ∧ Below w.heap.size w w' := by
  refine (at21R h hn i).mono ?_
  rintro e w1 ⟨nm, vl, nv, has, rfl, hr, hb⟩
  exact ⟨nm, vl, nv, has, rfl, atV_of (rvF_rvF (fn l) l.length) hr, hb⟩
theorem ratL {w : World} {A : Option Addr} {c : Nat} {mx : Int} {l : List Fd} (h : RdV 3 w A l.length c (fdV (fn l))) (hn : l.length ≤ 1000000) (i : Int) (hi0 : -9223372036854775808 ≤ i) :
    Calls Tryd.prog 61 #[.agg #[.slice A l.length c, .int .i64 mx], .int .i64 i] w fun e w' => ∃ nm vl nv has, e = .returned (.tuple #[.agg #[.string nm, .string vl, .bool nv], .bool has]) ∧ AtV (atT l i) nm vl nv has ∧ Below w.heap.size w w' := by
  refine (rat21 h hn i hi0).mono ?_
  rintro e w1 ⟨nm, vl, nv, has, rfl, hr, hb⟩
  exact ⟨nm, vl, nv, has, rfl, atV_of (fun _ _ => rfl) hr, hb⟩
theorem rwl {l : List Fd} (h : ∀ f ∈ l, wt f ≤ 1000000) : ∀ i, i < l.length → wt (fn l i) ≤ 1000000 := fun i hi => h _ (fn_mem hi)
theorem rresizeL {w : World} {A : Option Addr} {c : Nat} {mx : Int} {l : List Fd} (h : RdV 3 w A l.length c (fdV (fn l))) (hA : ∀ a, A = some a → a.block < w.heap.size) (hn : l.length ≤ 1000000) (hw : ∀ f ∈ l, wt f ≤ 1000000) (x : Int) :
    Calls Tryd.prog 35 #[.agg #[.slice A l.length c, .int .i64 mx], .int .i64 x] w fun e w' => ∃ A' c', e = .returned (.agg #[.slice A' (fitL x l).length c', .int .i64 x]) ∧ RdV 3 w' A' (fitL x l).length c' (fdV (fn (fitL x l))) ∧ (∀ a, A' = some a → ∃ a0, A = some a0 ∧ a0.block = a.block) ∧ Below w.heap.size w w' := by
  refine (rresize21 h hA hn (rwl hw) x).mono ?_
  rintro e w1 ⟨A', k, c', rfl, hk, hr, ha, hb⟩
  obtain rfl := fitL_of hk
  exact ⟨A', c', rfl, hr.congr21 fun i hi => fdV_congr (fun j hj => (fitL_fn hj).symm) i hi, ha, hb⟩
theorem raddL {w : World} {A : Option Addr} {c mx : Nat} {l : List Fd} (h : RdV 3 w A l.length c (fdV (fn l))) (hn : l.length ≤ 1000000) (hw : ∀ f ∈ l, wt f ≤ 1000000) (hmx : mx ≤ 2147483647) (f : Fd) (hf : wt f ≤ 1000000) :
    Calls Tryd.prog 37 #[.agg #[.slice A l.length c, .int .i64 (mx : Int)], .agg #[.string f.name, .string f.val, .bool f.nev]] w fun e w' => ∃ A' c', e = .returned (.agg #[.slice A' (addL mx f l).length c', .int .i64 (mx : Int)]) ∧ RdV 3 w' A' (addL mx f l).length c' (fdV (fn (addL mx f l))) ∧ (∀ a, A' = some a → w.heap.size ≤ a.block ∧ a.block < w'.heap.size) ∧ Below w.heap.size w w' := by
  refine (radd21 h hn (rwl hw) (by omega) (by omega) f hf).mono ?_
  rintro e w1 ⟨A', n', c', rfl, hb, hc⟩
  rcases hc with ⟨h1, rfl, rfl, rfl⟩ | ⟨h1, k, hk, rfl, ho⟩
  · have e : addL mx f l = [] := by unfold addL; rw [if_pos (by omega)]
    rw [e]
    exact ⟨none, 0, rfl, ⟨Nat.le_refl _, by simp [maxLen], fun _ => rfl, fun h => absurd h (Nat.lt_irrefl _)⟩, (fun a ha => by cases ha), hb⟩
  · obtain rfl := fitL_of hk
    have e : addL mx f l = ⟨f.name, f.val, false⟩ :: fitL ((mx : Int) - (wt f : Int)) l := by unfold addL; rw [if_neg (by omega)]
    have hl : (addL mx f l).length = (fitL ((mx : Int) - (wt f : Int)) l).length + 1 := by rw [e, List.length_cons]
    rw [hl]
    refine ⟨A', c', rfl, (ho.congr fun i hi => fdV_congr (fun j hj => ?_) i hi).rdS2, fun a ha => ?_, hb⟩
    · rw [e]
      unfold consFd
      rcases j with _ | j
      · rw [if_pos (by omega), fn_zero]
      · rw [if_neg (by omega), fn_succ, show j + 1 - 1 = j by omega, fitL_fn (by omega)]
    · subst ha
      exact World.ownsRow.lt ho a.block rfl
theorem rfindL {w : World} {A : Option Addr} {c : Nat} {mx : Int} {l : List Fd} (h : RdV 3 w A l.length c (fdV (fn l))) (hn : l.length ≤ 1000000) (nm vl : ByteArray) :
    Calls Tryd.prog 92 #[.agg #[.slice A l.length c, .int .i64 mx], .string nm, .string vl] w (FiE (fn l) l.length nm vl w) := rfind21 h hn nm vl
theorem rsizeL {w : World} {A : Option Addr} {c : Nat} {mx : Int} {l : List Fd} (h : RdV 3 w A l.length c (fdV (fn l))) (hn : l.length ≤ 1000000) (hw : ∀ f ∈ l, wt f ≤ 1000000) :
    Calls Tryd.prog 17 #[.agg #[.slice A l.length c, .int .i64 mx]] w fun e w' => e = .returned (.int .i64 (sumL l : Int)) ∧ Below w.heap.size w w' := rsize21 h hn (rwl hw)
end

section
open Go.RowKit Go.Deep Go.ChangeShapes Go.WideShapes

/-- Where a reading stands: the fields, the sizes, the table's max and its fields, the newest first. -/
structure Ds where
  fs : List Fd
  szs : List Int
  mx : Nat
  tb : List Fd
def sfd (k : Nat) : Fd := ⟨nmB k, vlB k, false⟩
def atP (l : List Fd) (i : Int) : Option Fd := if i ≤ 61 then (if 1 ≤ i then some (sfd (i - 1).toNat) else none) else atT l (i - 61)
def dfld (tb : List Fd) (k i : Int) (ns vs : ByteArray) : Option Fd :=
  if 0 < i then match atP tb i with
    | none => none
    | some g => some (if k = 1 then g else ⟨g.name, vs, k == 4⟩)
  else some ⟨ns, vs, k == 4⟩
def dstep (σ : Ds) (k i : Int) (ns vs : ByteArray) (z : Int) : Ds ⊕ Int :=
  if k = 5 then (if σ.fs.length = 0 then .inl ⟨σ.fs, σ.szs ++ [z], z.toNat, fitL z σ.tb⟩ else .inr 13)
  else match dfld σ.tb k i ns vs with
    | none => .inr 12
    | some f => .inl ⟨σ.fs ++ [f], σ.szs, σ.mx, if k = 2 then addL σ.mx f σ.tb else σ.tb⟩
inductive DcR (f : Nat → Int) (n : Nat) : Nat → Ds → Ds ⊕ Int → Prop
  | done {t : Nat} {σ : Ds} : n ≤ t → DcR f n t σ (.inl σ)
  | bad {t : Nat} {σ : Ds} {k i z m er : Int} {ns vs : ByteArray} {a b : Bool} : t < n → GtR (fun j => f (t + j)) (n - t) k i ns a vs b z m er → er ≠ 0 → DcR f n t σ (.inr er)
  | fault {t : Nat} {σ : Ds} {k i z m er : Int} {ns vs : ByteArray} {a b : Bool} : t < n → GtR (fun j => f (t + j)) (n - t) k i ns a vs b z m 0 → dstep σ k i ns vs z = .inr er → DcR f n t σ (.inr er)
  | go {t : Nat} {σ σ' : Ds} {k i z m : Int} {ns vs : ByteArray} {a b : Bool} {r : Ds ⊕ Int} : t < n → GtR (fun j => f (t + j)) (n - t) k i ns a vs b z m 0 → dstep σ k i ns vs z = .inl σ' → DcR f n (t + m.toNat) σ' r → DcR f n t σ r
theorem DcR.same {f : Nat → Int} {n t : Nat} {σ : Ds} {r r' : Ds ⊕ Int} (h : DcR f n t σ r) (h' : DcR f n t σ r') : r = r' := by
  induction h generalizing r' with
  | done h1 =>
    cases h' with
    | done _ => rfl
    | bad h2 _ _ => omega
    | fault h2 _ _ => omega
    | go h2 _ _ _ => omega
  | bad h1 hg he =>
    cases h' with
    | done h2 => omega
    | bad _ hg' _ => obtain ⟨_, _, _, _, _, _, _, _, rfl⟩ := hg.same hg'; rfl
    | fault _ hg' _ => obtain ⟨_, _, _, _, _, _, _, _, e⟩ := hg.same hg'; exact absurd e he
    | go _ hg' _ _ => obtain ⟨_, _, _, _, _, _, _, _, e⟩ := hg.same hg'; exact absurd e he
  | fault h1 hg he =>
    cases h' with
    | done h2 => omega
    | bad _ hg' h3 => obtain ⟨_, _, _, _, _, _, _, _, e⟩ := hg.same hg'; exact absurd e.symm h3
    | fault _ hg' he' =>
      obtain ⟨rfl, rfl, rfl, rfl, rfl, rfl, rfl, rfl, _⟩ := hg.same hg'
      rw [he] at he'
      cases he'
      rfl
    | go _ hg' he' _ =>
      obtain ⟨rfl, rfl, rfl, rfl, rfl, rfl, rfl, rfl, _⟩ := hg.same hg'
      rw [he] at he'
      cases he'
  | go h1 hg he _ ih =>
    cases h' with
    | done h2 => omega
    | bad _ hg' h3 => obtain ⟨_, _, _, _, _, _, _, _, e⟩ := hg.same hg'; exact absurd e.symm h3
    | fault _ hg' he' =>
      obtain ⟨rfl, rfl, rfl, rfl, rfl, rfl, rfl, rfl, _⟩ := hg.same hg'
      rw [he] at he'
      cases he'
    | go _ hg' he' hr' =>
      obtain ⟨rfl, rfl, rfl, rfl, rfl, rfl, rfl, rfl, _⟩ := hg.same hg'
      rw [he] at he'
      cases he'
      exact ih hr'
/-- Texts are no longer than twice their bytes. -/
theorem slr_size {f : Nat → Int} {n : Nat} {most : Int} {s : ByteArray} {sh : Bool} {q er : Int} (hb : Byt n f) (h : SlR f n most s sh q er) : s.size ≤ 2 * n := by
  have z0 : (⟨#[]⟩ : ByteArray).size ≤ 2 * n := Nat.zero_le _
  obtain ⟨N, a, d, hp, h⟩ := h
  rcases h with ⟨_, rfl, _⟩ | ⟨_, _, rfl, _⟩ | ⟨_, _, _, rfl, _⟩ | ⟨hd, h1, h2, h3, rfl, _⟩ | ⟨hd, h1, h2, h3, m, h, x, hD, hx⟩
  · exact z0
  · exact z0
  · exact z0
  · subst hd
    have hq : (pg f n 7).2.2 = 0 := by rw [hp]
    have := pg_bd7 hq
    rw [hp] at this
    simp only at this
    rw [textB_size]
    omega
  · subst hd
    have hq : (pg f n 7).2.2 = 0 := by rw [hp]
    have hr := pg_bd7 hq
    rw [hp] at hr
    simp only at hr
    rcases hx with ⟨_, rfl, _⟩ | ⟨rfl, rfl, _⟩
    · exact z0
    · have := dec_enc (x := fun i => f (a.toNat + i)) (m := N.toNat) (fun i hi => hb _ (by omega)) hD
      rw [textB_size]
      omega
/-- What one that is right looks like. -/
theorem gtr_rng {f : Nat → Int} {n : Nat} {k i z m : Int} {ns vs : ByteArray} {a b : Bool} (hb : Byt n f) (h : GtR f n k i ns a vs b z m 0) :
    1 ≤ m ∧ m ≤ n ∧ (k = 1 ∨ k = 2 ∨ k = 3 ∨ k = 4 ∨ k = 5) ∧ 0 ≤ i ∧ i ≤ 2147483647 ∧ 0 ≤ z ∧ z ≤ 2147483647 ∧ (k = 1 → 0 < i) ∧ ns.size ≤ 2 * n ∧ vs.size ≤ 2 * n := by
  have z0 : (⟨#[]⟩ : ByteArray).size ≤ 2 * n := Nat.zero_le _
  rcases h with ⟨_, _, h⟩ | ⟨hn, N, t, d, hp, h⟩
  · omega
  have hK := kd_rng (f 0)
  have hbr := bit_rng (f 0)
  have hbd : d = 0 → 0 < n ∧ 0 ≤ N ∧ N ≤ 2147483647 ∧ 1 ≤ (t : Int) ∧ (t : Int) ≤ n := fun hd => by
    have := pg_bdB hbr (show (pg f n (bit22 (kd (f 0)))).2.2 = 0 by rw [hp]; exact hd)
    rw [hp] at this
    exact this
  rcases h with ⟨h1, _, h2⟩ | ⟨_, _, _, _, h2⟩ | ⟨h0, h1, h2, rfl, rfl, rfl, rfl, rfl, rfl, rfl, rfl, _⟩ | ⟨h0, h1, rfl, rfl, rfl, rfl, rfl, rfl, rfl, rfl, _⟩ | ⟨h0, h1, h2, h3, s, sh, q, e2, hs, h⟩ | ⟨h0, h1, h2, h3, s, sh, q, e1, hs, h⟩
  · omega
  · omega
  · have := hbd h0
    exact ⟨by omega, by omega, .inl rfl, by omega, by omega, by omega, by omega, fun _ => by omega, z0, z0⟩
  · have := hbd h0
    exact ⟨by omega, by omega, .inr (.inr (.inr (.inr rfl))), by omega, by omega, by omega, by omega, fun h => by omega, z0, z0⟩
  · have hq := hbd h0
    have hsz := slr_size (fun j hj => hb _ (by omega)) hs
    have hr := slr_rng hs
    rcases h with ⟨h5, _, h6⟩ | ⟨_, rfl, rfl, rfl, rfl, rfl, rfl, rfl, rfl, _⟩
    · omega
    · exact ⟨by omega, by omega, hK, by omega, by omega, by omega, by omega, fun h => by omega, z0, by omega⟩
  · have hq := hbd h0
    have hsz := slr_size (fun j hj => hb _ (by omega)) hs
    have hr := slr_rng hs
    rcases h with ⟨h5, _, h6⟩ | ⟨_, s2, sh2, q2, e2, hs2, h⟩
    · omega
    · have hsz2 := slr_size (fun j hj => hb _ (by omega)) hs2
      have hr2 := slr_rng hs2
      rcases h with ⟨h5, _, h6⟩ | ⟨_, rfl, rfl, rfl, rfl, rfl, rfl, rfl, rfl, _⟩
      · omega
      · exact ⟨by omega, by omega, hK, by omega, by omega, by omega, by omega, fun h => by omega, by omega, by omega⟩
def SmF (f : Fd) : Prop := f.name.size ≤ 200000 ∧ f.val.size ≤ 200000
theorem SmF.wt {f : Fd} (h : SmF f) : wt f ≤ 1000000 := by
  have h1 := h.1
  have h2 := h.2
  unfold Go.Proofs.YtnkcbljhgcgpaaaDoor.wt
  omega
theorem sfd_sm : ∀ k, k < 61 → SmF (sfd k) := by
  have h : ∀ k, k < 61 → (nmB k).size ≤ 200000 ∧ (vlB k).size ≤ 200000 := by decide +kernel
  exact h
/-- All fields are small; the table has at most so many. -/
structure DsOk (T : Nat) (σ : Ds) : Prop where
  fs : ∀ f ∈ σ.fs, SmF f
  tb : ∀ f ∈ σ.tb, SmF f
  len : σ.tb.length ≤ T
  mx : σ.mx ≤ 2147483647
theorem atP_sm {l : List Fd} {i : Int} {g : Fd} (h : ∀ f ∈ l, SmF f) (e : atP l i = some g) : SmF g := by
  unfold atP at e
  by_cases h1 : i ≤ 61
  · rw [if_pos h1] at e
    by_cases h2 : 1 ≤ i
    · rw [if_pos h2] at e
      cases e
      exact sfd_sm _ (by omega)
    · rw [if_neg h2] at e
      cases e
  · rw [if_neg h1] at e
    unfold atT at e
    rw [if_pos (by omega)] at e
    exact h _ (List.mem_of_getElem? e)
theorem dfld_sm {l : List Fd} {k i : Int} {ns vs : ByteArray} {g : Fd} (h : ∀ f ∈ l, SmF f) (hn : ns.size ≤ 200000) (hv : vs.size ≤ 200000) (e : dfld l k i ns vs = some g) : SmF g := by
  unfold dfld at e
  by_cases h1 : 0 < i
  · rw [if_pos h1] at e
    cases hp : atP l i with
    | none => rw [hp] at e; cases e
    | some g0 =>
      rw [hp] at e
      have hg := atP_sm h hp
      simp only [Option.some.injEq] at e
      subst e
      by_cases h2 : k = 1
      · rw [if_pos h2]; exact hg
      · rw [if_neg h2]; exact ⟨hg.1, hv⟩
  · rw [if_neg h1] at e
    cases e
    exact ⟨hn, hv⟩
theorem dstep_ok {T : Nat} {σ σ' : Ds} {k i z : Int} {ns vs : ByteArray} (h : DsOk T σ) (hn : ns.size ≤ 200000) (hv : vs.size ≤ 200000) (hz : z ≤ 2147483647) (e : dstep σ k i ns vs z = .inl σ') : DsOk (T + 1) σ' ∧ σ'.fs.length ≤ σ.fs.length + 1 ∧ σ'.szs.length ≤ σ.szs.length + 1 := by
  unfold dstep at e
  by_cases h5 : k = 5
  · rw [if_pos h5] at e
    by_cases h6 : σ.fs.length = 0
    · rw [if_pos h6] at e
      cases e
      have := fitL_len σ.tb z
      have := h.len
      exact ⟨⟨h.fs, fun f hf => h.tb f (fitL_mem hf), by show (fitL z σ.tb).length ≤ _; omega, by show z.toNat ≤ _; omega⟩, by show σ.fs.length ≤ _; omega, by simp⟩
    · rw [if_neg h6] at e
      cases e
  · rw [if_neg h5] at e
    cases hd : dfld σ.tb k i ns vs with
    | none => rw [hd] at e; cases e
    | some f =>
      rw [hd] at e
      simp only [Sum.inl.injEq] at e
      subst e
      have hf := dfld_sm h.tb hn hv hd
      have hl := h.len
      refine ⟨⟨fun g hg => ?_, fun g hg => ?_, ?_, h.mx⟩, by simp, by simp⟩
      · rcases List.mem_append.1 hg with hg | hg
        · exact h.fs g hg
        · obtain rfl := List.mem_singleton.1 hg
          exact hf
      · simp only at hg
        by_cases h2 : k = 2
        · rw [if_pos h2] at hg
          rcases addL_mem hg with rfl | hg
          · exact hf
          · exact h.tb g hg
        · rw [if_neg h2] at hg
          exact h.tb g hg
      · show (if k = 2 then _ else _ : List Fd).length ≤ _
        by_cases h2 : k = 2
        · rw [if_pos h2]
          have := addL_len σ.mx f σ.tb
          omega
        · rw [if_neg h2]
          omega
/-- A reading never ends with a large field. -/
theorem DcR.ok {f : Nat → Int} {n t T : Nat} {σ σ' : Ds} (hb : Byt n f) (hn : n ≤ 100000) (h : DcR f n t σ (.inl σ')) (ho : DsOk T σ) : DsOk (T + (n - t)) σ' := by
  generalize hr : (Sum.inl σ' : Ds ⊕ Int) = r at h
  induction h generalizing T with
  | done h1 => cases hr; exact ⟨ho.fs, ho.tb, by have := ho.len; omega, ho.mx⟩
  | bad _ _ _ => cases hr
  | fault _ _ _ => cases hr
  | go h1 hg he _ ih =>
    have hq := gtr_rng (fun j hj => hb _ (by omega)) hg
    have h2 := ih (dstep_ok ho (by omega) (by omega) (by omega) he).1 hr
    exact ⟨h2.fs, h2.tb, by have := h2.len; omega, h2.mx⟩
end

section
open Go.RowKit Go.Deep Go.ChangeShapes Go.WideShapes

/-- The cells of integers. -/
def inV (l : List Int) : Nat → Value := fun i => .int .i64 (l.getD i 0)
theorem inV_app (l : List Int) (x : Int) : ∀ i, i < (l.length + 1) * 1 → catV (l.length * 1) (inV l) (fun _ => .int .i64 x) i = inV (l ++ [x]) i := fun i hi => by
  unfold catV inV
  by_cases h : i < l.length
  · rw [if_pos (by omega), List.getD_eq_getElem?_getD, List.getD_eq_getElem?_getD, List.getElem?_append_left h]
  · rw [if_neg (by omega), List.getD_eq_getElem?_getD, List.getElem?_append_right (by omega), show i - l.length = 0 by omega]
    rfl
theorem fn_app (l : List Fd) (f : Fd) : ∀ i, i < l.length + 1 → appFd l.length (fn l) f i = fn (l ++ [f]) i := fun i hi => by
  unfold appFd fn
  by_cases h : i < l.length
  · rw [if_pos h, List.getD_eq_getElem?_getD, List.getD_eq_getElem?_getD, List.getElem?_append_left h]
  · rw [if_neg h, List.getD_eq_getElem?_getD, List.getElem?_append_right (by omega), show i - l.length = 0 by omega]
    rfl
/-- What lies behind a reading. -/
structure RGx (B : Nat) (w : World) (pr pt : Nat) (g : Option Nat) (Vf Vs : Value) (S : Nat → Prop) (σ : Ds) : Prop where
  row : w.heap[pr]? = some (.cells #[Vf, Vs, .pointer (some ⟨pt, 0, none⟩)] 77 (0, 0))
  of : OwnO 3 51 B w Vf σ.fs.length (fdV (fn σ.fs))
  os : OwnO 1 3 B w Vs σ.szs.length (inV σ.szs)
  tl : TL B w pt g σ.mx σ.tb
  nt : pt ≠ pr
  ng : g ≠ some pr
  nf : Vf.ownBlock ≠ some pr
  ns : Vs.ownBlock ≠ some pr
  ft : ∀ i, tfp pt g i → Vf.ownBlock ≠ some i
  st : ∀ i, tfp pt g i → Vs.ownBlock ≠ some i
  fs : ∀ i, Vf.ownBlock = some i → Vs.ownBlock ≠ some i
  Sp : S pr
  St : ∀ i, tfp pt g i → S i
  Sf : ∀ i, Vf.ownBlock = some i → S i
  Ss : ∀ i, Vs.ownBlock = some i → S i
  hp : B ≤ pr
def RG (B : Nat) (w : World) (pr : Nat) (S : Nat → Prop) (σ : Ds) : Prop := (∃ pt g Vf Vs, RGx B w pr pt g Vf Vs S σ) ∧ ∀ i, S i → B ≤ i ∧ i < w.heap.size
section
variable {B : Nat} {w w' : World} {pr : Nat} {S : Nat → Prop} {σ : Ds}
theorem RG.at_ (h : RG B w pr S σ) (hk : ∀ i, S i → w'.heap[i]? = w.heap[i]?) : RG B w' pr S σ := by
  obtain ⟨⟨pt, g, Vf, Vs, x⟩, hl⟩ := h
  have hsz : ∀ i, S i → i < w'.heap.size := fun i hi => by
    have h1 := hk i hi
    rw [Array.getElem?_eq_getElem (hl i hi).2] at h1
    exact rowLt h1
  exact ⟨⟨pt, g, Vf, Vs, (hk pr x.Sp).trans x.row, x.of.at_ fun b hb => hk b (x.Sf b hb), x.os.at_ fun b hb => hk b (x.Ss b hb), x.tl.at_ fun i hi => hk i (x.St i hi), x.nt, x.ng, x.nf, x.ns, x.ft, x.st, x.fs, x.Sp, x.St, x.Sf, x.Ss, x.hp⟩, fun i hi => ⟨(hl i hi).1, hsz i hi⟩⟩
theorem RG.below (h : RG B w pr S σ) (hb : Below w.heap.size w w') : RG B w' pr S σ := h.at_ fun i hi => hb.block i (h.2 i hi).2
theorem RG.lt (h : RG B w pr S σ) : ∀ i, S i → B ≤ i ∧ i < w.heap.size := h.2
end
theorem store3d {w : World} {p : Nat} {T : TypeId} {a0 a1 a2 : Value} (h : w.heap[p]? = some (.cells #[a0, a1, a2] T (0, 0))) (b0 b1 b2 : Value) :
    (w.cell? ⟨p, 0, none⟩ = some a0 ∧ w.frozen? ⟨p, 0, none⟩ = false) ∧ ((w.setCell ⟨p, 0, none⟩ b0).cell? ⟨p, 1, none⟩ = some a1 ∧ (w.setCell ⟨p, 0, none⟩ b0).frozen? ⟨p, 1, none⟩ = false) ∧
    (((w.setCell ⟨p, 0, none⟩ b0).setCell ⟨p, 1, none⟩ b1).cell? ⟨p, 2, none⟩ = some a2 ∧ ((w.setCell ⟨p, 0, none⟩ b0).setCell ⟨p, 1, none⟩ b1).frozen? ⟨p, 2, none⟩ = false) ∧
    (((w.setCell ⟨p, 0, none⟩ b0).setCell ⟨p, 1, none⟩ b1).setCell ⟨p, 2, none⟩ b2).heap[p]? = some (.cells #[b0, b1, b2] T (0, 0)) := by
  have h1 := setRow w p 0 b0 h
  have h2 := setRow _ p 1 b1 h1
  have h3 := setRow _ p 2 b2 h2
  simp only [List.setIfInBounds_toArray, List.set_cons_zero, List.set_cons_succ] at h1 h2 h3
  exact ⟨⟨(rowT h).1, frozenRow h 0⟩, ⟨(rowT h1).2.1, frozenRow h1 1⟩, ⟨(rowT h2).2.2, frozenRow h2 2⟩, h3⟩
theorem below3d {B : Nat} {w w' : World} {p : Nat} (h : Below B w w') (hp : B ≤ p) (b0 b1 b2 : Value) : Below B w (((w'.setCell ⟨p, 0, none⟩ b0).setCell ⟨p, 1, none⟩ b1).setCell ⟨p, 2, none⟩ b2) := ((h.setCell (p := ⟨p, 0, none⟩) hp _).setCell (p := ⟨p, 1, none⟩) hp _).setCell (p := ⟨p, 2, none⟩) hp _
def FdGot (o : Option Fd) (w : World) (e : Ending) (w' : World) : Prop := ∃ nm vl nv has, e = .returned (.tuple #[.agg #[.string nm, .string vl, .bool nv], .bool has]) ∧ AtV o nm vl nv has ∧ Below w.heap.size w w'
theorem sat23 (i : Int) (h : i ≤ 61) (l : List Fd) (w : World) : Calls Tryd.prog 76 #[.int .i64 i] w (FdGot (atP l i) w) := by
  have e : atP l i = if 1 ≤ i then some (sfd (i - 1).toNat) else none := by unfold atP; rw [if_pos h]
  rw [e]
  by_cases h1 : 1 ≤ i
  · rw [if_pos h1]
    obtain ⟨k, hk, rfl⟩ : ∃ k : Nat, k < 61 ∧ i = (k : Int) + 1 := ⟨(i - 1).toNat, by omega, by omega⟩
    refine (at_in k w hk).mono ?_
    rintro e w1 ⟨rfl, hb⟩
    refine ⟨_, _, _, _, rfl, .inr ⟨_, rfl, ?_, ?_, rfl, rfl⟩, hb⟩
    · rw [show ((k : Int) + 1 - 1).toNat = k by omega]; rfl
    · rw [show ((k : Int) + 1 - 1).toNat = k by omega]; rfl
  · rw [if_neg h1]
    refine (at_out i w (by omega)).mono ?_
    rintro e w1 ⟨rfl, hb⟩
    exact ⟨_, _, _, _, rfl, .inl ⟨rfl, rfl, rfl, rfl, rfl⟩, hb⟩
set_option maxRecDepth 20000 in
set_option maxHeartbeats 1600000 in
theorem dat23 {B : Nat} {w : World} {pr : Nat} {S : Nat → Prop} {σ : Ds} (h : RG B w pr S σ) (hn : σ.tb.length ≤ 1000000) (i : Int) (hi0 : 0 ≤ i) (hi1 : i ≤ 2147483647) :
    Calls Tryd.prog 53 #[.pointer (some ⟨pr, 0, none⟩), .int .i64 i] w (FdGot (atP σ.tb i) w) := by
  have al := (Below.refl w.heap.size w).alloc (Nat.le_refl _) (.cells #[.string ⟨#[]⟩, .string ⟨#[]⟩, .bool false] 51)
  have R := hide (heap_alloc_new w (.cells #[.string ⟨#[]⟩, .string ⟨#[]⟩, .bool false] 51))
  obtain ⟨⟨pt, g, Vf, Vs, x⟩, hl⟩ := h.below al
  have E := hide al
  have HX := hide x
  obtain ⟨c0, c1, c2⟩ := rowT x.row
  clear x al h
  by_cases h61 : i ≤ 61
  · have hd : decide (i ≤ 61) = true := decide_eq_true h61
    have C := hide (fun W => sat23 i h61 σ.tb W)
    clear h61
    go_enter Tryd.func53, Tryd.ntmps53
    go_wp2_with fail
    refine (C.out _).mono ?_
    rintro e w1 ⟨nm, vl, nv, has, rfl, hv, hb⟩
    have HV := hide hv
    have R1 := hide (keepRow R.out hb)
    have E1 := hide (E.out.of hb)
    clear hv hb c0 c1 c2
    obtain ⟨⟨k0, f0⟩, ⟨k1, f1⟩, ⟨k2, f2⟩, rr⟩ := store3d R1.out (.string nm) (.string vl) (.bool nv)
    have RF := hide rr
    clear rr
    go_wp2_with fail
    obtain ⟨n0, n1, n2⟩ := rowT RF.out
    refine bodyPost_ret (v := .tuple #[.agg #[.string nm, .string vl, .bool nv], .bool has]) ?_ rfl ⟨_, _, _, _, rfl, HV.out, below3d E1.out (Nat.le_refl _) _ _ _⟩
    rw [results_cell_tmp rfl]
    go_simp
  · have hd : decide (i ≤ 61) = false := decide_eq_false h61
    have hw : IntKind.i64.wrap (i - 61) = i - 61 := IntWalk.i64_in _ (by omega)
    have C := hide (fun W (x : TL B W pt g σ.mx σ.tb) => atTL x hn (i - 61))
    have hP : Hid (atP σ.tb i = atT σ.tb (i - 61)) := by show atP _ _ = _; unfold atP; rw [if_neg h61]
    clear h61
    go_enter Tryd.func53, Tryd.ntmps53
    go_wp2_with fail
    refine (C.out _ HX.out.tl).mono ?_
    rintro e w1 ⟨nm, vl, nv, has, rfl, hv, hb⟩
    have HV := hide hv
    have R1 := hide (keepRow R.out hb)
    have E1 := hide (E.out.of hb)
    clear hv hb c0 c1 c2
    obtain ⟨⟨k0, f0⟩, ⟨k1, f1⟩, ⟨k2, f2⟩, rr⟩ := store3d R1.out (.string nm) (.string vl) (.bool nv)
    have RF := hide rr
    clear rr
    go_wp2_with fail
    obtain ⟨n0, n1, n2⟩ := rowT RF.out
    refine bodyPost_ret (v := .tuple #[.agg #[.string nm, .string vl, .bool nv], .bool has]) ?_ rfl ⟨_, _, _, _, rfl, by rw [hP.out]; exact HV.out, below3d E1.out (Nat.le_refl _) _ _ _⟩
    rw [results_cell_tmp rfl]
    go_simp
theorem dnewNo (x : Int) (h : ¬ (0 ≤ x ∧ x ≤ 2147483647)) (w : World) : Calls Tryd.prog 19 #[.int .i64 x] w fun e w' => e = .returned (.tuple #[.pointer none, .int .i64 1]) ∧ w = w' := by
  go_enter Tryd.func19, Tryd.ntmps19
  go_wp2_with fail
  refine (newNo21 x h w).mono ?_
  rintro e w1 ⟨rfl, rfl⟩
  go_wp2_with fail
  go_ret2
  exact ⟨rfl, rfl⟩
theorem dnew (x : Nat) (h : x ≤ 2147483647) (w : World) : Calls Tryd.prog 19 #[.int .i64 (x : Int)] w fun e w' => ∃ p, e = .returned (.tuple #[.pointer (some ⟨p, 0, none⟩), .int .i64 0]) ∧ TL w.heap.size w' p none x [] ∧ Below w.heap.size w w' := by
  have R := heap_alloc_new w (.cells #[.slice none 0 0, .int .i64 0, .int .i64 (x : Int)] 27)
  have E := (Below.refl w.heap.size w).alloc (Nat.le_refl _) (.cells #[.slice none 0 0, .int .i64 0, .int .i64 (x : Int)] 27)
  obtain ⟨c0, c1, c2⟩ := rowT R
  have C := hide (new21 (x : Int) (by omega) w)
  have HE := hide E
  clear R E
  go_enter Tryd.func19, Tryd.ntmps19
  go_wp2_with fail
  refine C.out.mono ?_
  rintro e w1 ⟨rfl, rfl⟩
  generalize w.alloc (.cells #[.slice none 0 0, .int .i64 0, .int .i64 (x : Int)] 27) = W at *
  go_wp2_with fail
  go_ret2
  exact ⟨_, rfl, TL.new W x HE.out.size h _, HE.out.of ((Below.refl _ _).alloc (Nat.le_refl _) _)⟩
end

section
open Go.RowKit Go.Deep Go.ChangeShapes Go.WideShapes

def Snx (S : Nat → Prop) (g : Option Nat) : Nat → Prop := fun i => S i ∨ g = some i
section
variable {B : Nat} {w w4 : World} {pr pt : Nat} {g g' : Option Nat} {Vf Vs v4 : Value} {S : Nat → Prop} {σ : Ds}
theorem RGx.lt (x : RGx B w pr pt g Vf Vs S σ) : pr < w.heap.size := rowLt x.row
theorem Snx.lt {B : Nat} {w w' : World} {S : Nat → Prop} {g : Option Nat} (hl : ∀ i, S i → B ≤ i ∧ i < w.heap.size) (hs : w.heap.size ≤ w'.heap.size) (hg : ∀ i, g = some i → B ≤ i ∧ i < w'.heap.size) : ∀ i, Snx S g i → B ≤ i ∧ i < w'.heap.size := fun i hi => by
  rcases hi with hi | hi
  · exact ⟨(hl i hi).1, Nat.lt_of_lt_of_le (hl i hi).2 hs⟩
  · exact hg i hi
/-- A size is put behind. -/
theorem RGx.setS (x : RGx B w pr pt g Vf Vs S σ) (hl : ∀ i, S i → B ≤ i ∧ i < w.heap.size) (hB : B ≤ w.heap.size) (hg : w.grownBy w4 Vs.ownBlock) (z : Int) (ho : OwnO 1 3 B w4 v4 (σ.szs.length + 1) (catV (σ.szs.length * 1) (inV σ.szs) (fun _ => .int .i64 z))) (hob : v4.ownBlock = Vs.ownBlock ∨ ∀ b, v4.ownBlock = some b → w.heap.size ≤ b) :
    RGx B (w4.setCell ⟨pr, 1, none⟩ v4) pr pt g Vf v4 (Snx S v4.ownBlock) ⟨σ.fs, σ.szs ++ [z], σ.mx, σ.tb⟩ ∧ (∀ i, Snx S v4.ownBlock i → B ≤ i ∧ i < (w4.setCell ⟨pr, 1, none⟩ v4).heap.size) ∧ FrO B S w (w4.setCell ⟨pr, 1, none⟩ v4) ∧ ∀ i, Snx S v4.ownBlock i → S i ∨ w.heap.size ≤ i := by
  have hnew : ∀ i, v4.ownBlock = some i → Vs.ownBlock = some i ∨ w.heap.size ≤ i := fun i hi => by
    rcases hob with e | e
    · exact .inl (e ▸ hi)
    · exact .inr (e i hi)
  have hS : ∀ i, v4.ownBlock = some i → S i ∨ w.heap.size ≤ i := fun i hi => (hnew i hi).imp (x.Ss i) id
  have hkp : ∀ i, i < w.heap.size → Vs.ownBlock ≠ some i → w4.heap[i]? = w.heap[i]? := fun i hi hn => hg.block i hi (fun e => hn e.symm)
  have hst : ∀ i, i ≠ pr → (w4.setCell ⟨pr, 1, none⟩ v4).heap[i]? = w4.heap[i]? := fun i hi => Below.heap_setCell _ ⟨pr, 1, none⟩ _ _ hi
  have hsz : (w4.setCell ⟨pr, 1, none⟩ v4).heap.size = w4.heap.size := by simp [World.setCell]
  have hp := x.lt
  have hnp : v4.ownBlock ≠ some pr := fun e => by
    rcases hnew pr e with h | h
    · exact x.ns h
    · omega
  refine ⟨⟨?_, ?_, ?_, ?_, x.nt, x.ng, x.nf, hnp, x.ft, fun i hi e => ?_, fun i hi e => ?_, .inl x.Sp, fun i hi => .inl (x.St i hi), fun i hi => .inl (x.Sf i hi), fun i hi => .inr hi, x.hp⟩, ?_, ?_, ?_⟩
  · have h1 := setRow w4 pr 1 v4 ((hkp pr hp x.ns).trans x.row)
    simp only [List.setIfInBounds_toArray, List.set_cons_zero, List.set_cons_succ] at h1
    exact h1
  · refine x.of.at_ fun i hi => ?_
    rw [hst i (fun e => x.nf (e ▸ hi)), hkp i (hl i (x.Sf i hi)).2 (x.fs i hi)]
  · have h1 := (ho.congr (G := inV (σ.szs ++ [z])) fun i hi => inV_app σ.szs z i hi).setCell hnp 1 v4
    rw [show (σ.szs ++ [z]).length = σ.szs.length + 1 by simp]
    exact h1
  · refine x.tl.at_ fun i hi => ?_
    rw [hst i (fun e => by subst e; rcases hi with h | h; exact x.nt h.symm; exact x.ng h), hkp i (hl i (x.St i hi)).2 (x.st i hi)]
  · rcases hnew i e with h | h
    · exact x.st i hi h
    · have := (hl i (x.St i hi)).2; omega
  · rcases hnew i e with h | h
    · exact x.fs i hi h
    · have := (hl i (x.Sf i hi)).2; omega
  · refine Snx.lt hl (by rw [hsz]; exact hg.size) fun i hi => ?_
    rw [hsz]
    exact ho.lt i hi
  · exact (FrO.grown (S := S) hg hB fun b e => ⟨(hl b (x.Ss b e)).1, x.Ss b e⟩).step (FrO.set (S := S) w4 pr 1 v4 x.hp x.Sp) fun i hi => .inl hi
  · intro i hi
    rcases hi with hi | hi
    · exact .inl hi
    · exact hS i hi
/-- A field is put behind. -/
theorem RGx.setF (x : RGx B w pr pt g Vf Vs S σ) (hl : ∀ i, S i → B ≤ i ∧ i < w.heap.size) (hB : B ≤ w.heap.size) (hg : w.grownBy w4 Vf.ownBlock) (f : Fd) (ho : OwnO 3 51 B w4 v4 (σ.fs.length + 1) (catV (σ.fs.length * 3) (fdV (fn σ.fs)) (fdV fun _ => f))) (hob : v4.ownBlock = Vf.ownBlock ∨ ∀ b, v4.ownBlock = some b → w.heap.size ≤ b) :
    RGx B (w4.setCell ⟨pr, 0, none⟩ v4) pr pt g v4 Vs (Snx S v4.ownBlock) ⟨σ.fs ++ [f], σ.szs, σ.mx, σ.tb⟩ ∧ (∀ i, Snx S v4.ownBlock i → B ≤ i ∧ i < (w4.setCell ⟨pr, 0, none⟩ v4).heap.size) ∧ FrO B S w (w4.setCell ⟨pr, 0, none⟩ v4) ∧ ∀ i, Snx S v4.ownBlock i → S i ∨ w.heap.size ≤ i := by
  have hnew : ∀ i, v4.ownBlock = some i → Vf.ownBlock = some i ∨ w.heap.size ≤ i := fun i hi => by
    rcases hob with e | e
    · exact .inl (e ▸ hi)
    · exact .inr (e i hi)
  have hS : ∀ i, v4.ownBlock = some i → S i ∨ w.heap.size ≤ i := fun i hi => (hnew i hi).imp (x.Sf i) id
  have hkp : ∀ i, i < w.heap.size → Vf.ownBlock ≠ some i → w4.heap[i]? = w.heap[i]? := fun i hi hn => hg.block i hi (fun e => hn e.symm)
  have hst : ∀ i, i ≠ pr → (w4.setCell ⟨pr, 0, none⟩ v4).heap[i]? = w4.heap[i]? := fun i hi => Below.heap_setCell _ ⟨pr, 0, none⟩ _ _ hi
  have hsz : (w4.setCell ⟨pr, 0, none⟩ v4).heap.size = w4.heap.size := by simp [World.setCell]
  have hp := x.lt
  have hnp : v4.ownBlock ≠ some pr := fun e => by
    rcases hnew pr e with h | h
    · exact x.nf h
    · omega
  refine ⟨⟨?_, ?_, ?_, ?_, x.nt, x.ng, hnp, x.ns, fun i hi e => ?_, x.st, fun i hi e => ?_, .inl x.Sp, fun i hi => .inl (x.St i hi), fun i hi => .inr hi, fun i hi => .inl (x.Ss i hi), x.hp⟩, ?_, ?_, ?_⟩
  · have h1 := setRow w4 pr 0 v4 ((hkp pr hp x.nf).trans x.row)
    simp only [List.setIfInBounds_toArray, List.set_cons_zero, List.set_cons_succ] at h1
    exact h1
  · rw [fdV_app] at ho
    have h1 := (ho.congr (G := fdV (fn (σ.fs ++ [f]))) fun i hi => fdV_congr (fn_app σ.fs f) i hi).setCell hnp 0 v4
    rw [show (σ.fs ++ [f]).length = σ.fs.length + 1 by simp]
    exact h1
  · refine x.os.at_ fun i hi => ?_
    rw [hst i (fun e => x.ns (e ▸ hi)), hkp i (hl i (x.Ss i hi)).2 (fun e => x.fs i e hi)]
  · refine x.tl.at_ fun i hi => ?_
    rw [hst i (fun e => by subst e; rcases hi with h | h; exact x.nt h.symm; exact x.ng h), hkp i (hl i (x.St i hi)).2 (x.ft i hi)]
  · rcases hnew i e with h | h
    · exact x.ft i hi h
    · have := (hl i (x.St i hi)).2; omega
  · rcases hnew i hi with h | h
    · exact x.fs i h e
    · have := (hl i (x.Ss i e)).2; omega
  · refine Snx.lt hl (by rw [hsz]; exact hg.size) fun i hi => ?_
    rw [hsz]
    exact ho.lt i hi
  · exact (FrO.grown (S := S) hg hB fun b e => ⟨(hl b (x.Sf b e)).1, x.Sf b e⟩).step (FrO.set (S := S) w4 pr 0 v4 x.hp x.Sp) fun i hi => .inl hi
  · intro i hi
    rcases hi with hi | hi
    · exact .inl hi
    · exact hS i hi
/-- The table has turned. -/
theorem RGx.setT (x : RGx B w pr pt g Vf Vs S σ) (hl : ∀ i, S i → B ≤ i ∧ i < w.heap.size) {mx' : Nat} {tb' : List Fd} (ht : TL B w4 pt g' mx' tb') (hf : FrO B (tfp pt g) w w4) (hg : g' = g ∨ ∀ b, g' = some b → w.heap.size ≤ b) :
    RGx B w4 pr pt g' Vf Vs (Snx S g') ⟨σ.fs, σ.szs, mx', tb'⟩ ∧ (∀ i, Snx S g' i → B ≤ i ∧ i < w4.heap.size) ∧ FrO B S w w4 ∧ ∀ i, Snx S g' i → S i ∨ w.heap.size ≤ i := by
  have hnew : ∀ i, g' = some i → g = some i ∨ w.heap.size ≤ i := fun i hi => by
    rcases hg with e | e
    · exact .inl (e ▸ hi)
    · exact .inr (e i hi)
  have hp := x.lt
  have hkp : ∀ i, i < w.heap.size → ¬ tfp pt g i → w4.heap[i]? = w.heap[i]? := fun i hi hn => hf.keep i hi hn
  have htf : ∀ i, tfp pt g' i → tfp pt g i ∨ w.heap.size ≤ i := fun i hi => by
    rcases hi with h | h
    · exact .inl (.inl h)
    · exact (hnew i h).imp .inr id
  have hnp : ¬ tfp pt g pr := fun h => by
    rcases h with h | h
    · exact x.nt h.symm
    · exact x.ng h
  refine ⟨⟨(hkp pr hp hnp).trans x.row, ?_, ?_, ht, x.nt, fun e => ?_, x.nf, x.ns, fun i hi e => ?_, fun i hi e => ?_, x.fs, .inl x.Sp, fun i hi => ?_, fun i hi => .inl (x.Sf i hi), fun i hi => .inl (x.Ss i hi), x.hp⟩, ?_, hf.mono x.St, ?_⟩
  · exact x.of.at_ fun i hi => hkp i (hl i (x.Sf i hi)).2 fun h => x.ft i h hi
  · exact x.os.at_ fun i hi => hkp i (hl i (x.Ss i hi)).2 fun h => x.st i h hi
  · rcases hnew pr e with h | h
    · exact x.ng h
    · omega
  · rcases htf i hi with h | h
    · exact x.ft i h e
    · have := (hl i (x.Sf i e)).2; omega
  · rcases htf i hi with h | h
    · exact x.st i h e
    · have := (hl i (x.Ss i e)).2; omega
  · rcases hi with h | h
    · exact .inl (x.St i (.inl h))
    · exact .inr h
  · refine Snx.lt hl hf.below.size fun i hi => ht.lt i (.inr hi)
  · intro i hi
    rcases hi with hi | hi
    · exact .inl hi
    · exact (hnew i hi).imp (fun h => x.St i (.inr h)) id
end
/-- How a reading goes on: what is done, and with which blocks. -/
def RGo (B : Nat) (w : World) (pr : Nat) (S : Nat → Prop) (r : Ds ⊕ Int) (e : Ending) (w' : World) : Prop :=
  match r with
  | .inl σ => e = .returned (.int .i64 0) ∧ ∃ S', RG B w' pr S' σ ∧ FrO B S w w' ∧ ∀ i, S' i → S i ∨ w.heap.size ≤ i
  | .inr er => e = .returned (.int .i64 er) ∧ Below w.heap.size w w'
theorem int_infoD : (Tryd.prog.info? 3).map (fun i => (i.zero, i.size, i.bytes)) = some (some (.int .i64 0), 1, 8) := by kernel_rfl
set_option maxRecDepth 20000 in
set_option maxHeartbeats 1600000 in
theorem dresize {B : Nat} {w : World} {pr : Nat} {S : Nat → Prop} {σ : Ds} (h : RG B w pr S σ) (hB : B ≤ w.heap.size) (hn : σ.tb.length ≤ 1000000) (hs : σ.szs.length ≤ 1000000) (i : Int) (ns vs : ByteArray) (z : Int) (hz0 : 0 ≤ z) (hz1 : z ≤ 2147483647) :
    Calls Tryd.prog 52 #[.pointer (some ⟨pr, 0, none⟩), .int .i64 z] w (RGo B w pr S (dstep σ 5 i ns vs z)) := by
  obtain ⟨⟨pt, g, Vf, Vs, x⟩, hl⟩ := h
  obtain ⟨Af, cf, rfl, rF, _⟩ := x.of.rd
  obtain ⟨As, cs, rfl, rS, _⟩ := x.os.rd
  obtain ⟨c0, c1, c2⟩ := rowT x.row
  have hd : dstep σ 5 i ns vs z = if σ.fs.length = 0 then .inl ⟨σ.fs, σ.szs ++ [z], z.toNat, fitL z σ.tb⟩ else .inr 13 := by unfold dstep; rw [if_pos rfl]
  rw [hd]
  by_cases h0 : σ.fs.length = 0
  · rw [if_pos h0]
    obtain ⟨i0, hi, hz2, hz3, hz4⟩ := info_parts int_infoD
    have hd0 : decide (0 < σ.fs.length) = false := decide_eq_false (by omega)
    have hd1 : decide ((0 : Int) < (σ.fs.length : Int)) = false := decide_eq_false (by omega)
    have HX := hide x
    have Hl := hide hl
    have HB := hide hB
    have al := (Below.refl w.heap.size w).alloc (Nat.le_refl _) (.cells #[.int .i64 z] 3)
    have XA : Hid (RGx B (w.alloc (.cells #[.int .i64 z] 3)) pr pt g (.slice Af σ.fs.length cf) (.slice As σ.szs.length cs) S σ) := by
      have h1 : ∀ i, S i → (w.alloc (.cells #[.int .i64 z] 3)).heap[i]? = w.heap[i]? := fun i hi => al.block i (hl i hi).2
      exact ⟨(h1 pr x.Sp).trans x.row, x.of.at_ fun b hb => h1 b (x.Sf b hb), x.os.at_ fun b hb => h1 b (x.Ss b hb), x.tl.at_ fun i hi => h1 i (x.St i hi), x.nt, x.ng, x.nf, x.ns, x.ft, x.st, x.fs, x.Sp, x.St, x.Sf, x.Ss, x.hp⟩
    have hlA : Hid (∀ i, S i → B ≤ i ∧ i < (w.alloc (.cells #[.int .i64 z] 3)).heap.size) := fun i hi => ⟨(hl i hi).1, by have := (hl i hi).2; simp; omega⟩
    have EA := hide al
    have Lx : Hid (RdV 1 (w.alloc (.cells #[.int .i64 z] 3)) (some ⟨w.heap.size, 0, none⟩) 1 1 (fun _ => .int .i64 z)) := (OwnV.lit 1 3 0 w (fun _ => .int .i64 z) #[.int .i64 z] 1 (Nat.zero_le _) (by simp [maxLen]) rfl).rdS2
    have hBA : Hid (B ≤ (w.alloc (.cells #[.int .i64 z] 3)).heap.size) := by show _ ≤ _; simp; omega
    obtain ⟨d0, d1, d2⟩ := rowT XA.out.row
    clear x hl h0 al hB
    go_enter Tryd.func52, Tryd.ntmps52
    go_wp2_with (at_builtin; refine wp_appO rfl (.tmp 17) (.tmp 19) _ rfl 1 i0 _ 8 Tryd.underlying30 hi hz2 hz3 hz4 rfl (by omega) B _ σ.szs.length (inV σ.szs) rfl XA.out.os w.heap.size 0 1 1 (fun _ => .int .i64 z) rfl Lx.out (by omega) (fun _ _ => rfl) (by simp only [maxLen]; omega) (by omega) hBA.out ?_; intro v4 w4 hown4 hg4 hob4; have K4 : w4.heap[pr]? = some (.cells #[.slice Af σ.fs.length cf, .slice As σ.szs.length cs, .pointer (some ⟨pt, 0, none⟩)] 77 (0, 0)) := (hg4.block pr XA.out.lt (fun e => XA.out.ns e.symm)).trans XA.out.row; obtain ⟨hx4, hl4, hf4, hS4⟩ := XA.out.setS hlA.out hBA.out hg4 z hown4 hob4; have X4 := hide hx4; have L4 := hide hl4; have F4 := hide hf4; have S4 := hide hS4; obtain ⟨A4, c4, rfl, _, _⟩ := hown4.rd; clear hx4 hl4 hf4 hS4 hown4 hg4 hob4; obtain ⟨x0, x1, x2⟩ := rowT K4; have fz := frozenRow K4 1; clear K4; obtain ⟨y0, y1, y2⟩ := rowT X4.out.row)
    obtain ⟨zn, hzn⟩ : ∃ zn : Nat, z = (zn : Int) := ⟨z.toNat, by omega⟩
    have hB4 : B ≤ (w4.setCell ⟨pr, 1, none⟩ (.slice A4 (σ.szs.length + 1) c4)).heap.size := Nat.le_trans hBA.out F4.out.below.size
    have C := resizeL X4.out.tl hB4 hn zn (by omega)
    rw [← hzn] at C
    refine C.mono ?_
    rintro e w5 ⟨rfl, ht5, hf5⟩
    obtain ⟨hx5, hl5, hF5, hS5⟩ := X4.out.setT L4.out ht5 hf5 (.inl rfl)
    have X5 := hide hx5
    have L5 := hide hl5
    have F5 := hide hF5
    have S5 := hide hS5
    have Hzn := hide hzn
    clear hx5 hl5 hF5 hS5 ht5 hf5 C hzn
    go_wp2_with fail
    go_ret
    refine ⟨rfl, _, ⟨⟨pt, g, .slice Af σ.fs.length cf, .slice A4 (σ.szs.length + 1) c4, ?_⟩, L5.out⟩, ?_, ?_⟩
    · have := X5.out
      rw [show z.toNat = zn by have := Hzn.out; omega]
      exact this
    · exact (FrO.of (S := S) EA.out HB.out).step (F4.out.step F5.out S4.out) fun i hi => .inl hi
    · intro i hi
      rcases S5.out i hi with h | h
      · rcases S4.out i h with h | h
        · exact .inl h
        · exact .inr (Nat.le_trans EA.out.size h)
      · exact .inr (Nat.le_trans (Nat.le_trans EA.out.size F4.out.below.size) h)
  · rw [if_neg h0]
    have hd0 : decide (0 < σ.fs.length) = true := decide_eq_true (by omega)
    have hd1 : decide ((0 : Int) < (σ.fs.length : Int)) = true := decide_eq_true (by omega)
    clear x h0
    go_enter Tryd.func52, Tryd.ntmps52
    go_wp2_with fail
    go_ret
    exact ⟨rfl, Below.refl _ _⟩
end
end Go.Proofs.YtnkcbljhgcgpaaaDoor
