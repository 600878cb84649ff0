/- Layer 21: both sides side by side; whatever is added. -/
import Derived.Test.YteikpdolickkaaaDz5
import Derived.Test.YteikpdolickkaaaDz6
import Derived.Test.YteikpdolickkaaaDy7
namespace Go.Proofs.Yteikpdolickkaaa
open Go.RowKit Go.Deep Go.ChangeShapes Go.WideShapes

/-- The program's table at p, the document's in a variable at pr. -/
structure PT (B : Nat) (w : World) (p : Nat) (g : Option Nat) (pr n mx : Nat) (F : Nat → Fd) (A : Option Addr) (c : Nat) : Prop where
  t : TOk B w p g n mx F
  row : w.heap[pr]? = some (.cells #[.slice A n c, .int .i64 (mx : Int)] 50 (0, 0))
  rd : RdV 3 w A n c (fdV (rvF n F))
  ad : ∀ a, A = some a → B ≤ a.block ∧ a.block < w.heap.size ∧ ¬ tfp p g a.block ∧ a.block ≠ pr
  hp : B ≤ pr
  ap : ¬ tfp p g pr
section
variable {B : Nat} {w w' : World} {p : Nat} {g : Option Nat} {pr n mx : Nat} {F : Nat → Fd} {A : Option Addr} {c : Nat}
theorem PT.below (h : PT B w p g pr n mx F A c) (hb : Below w.heap.size w w') : PT B w' p g pr n mx F A c :=
  ⟨h.t.below hb, keepRow h.row hb, h.rd.below36O hb, fun a ha => ⟨(h.ad a ha).1, Nat.lt_of_lt_of_le (h.ad a ha).2.1 hb.size, (h.ad a ha).2.2⟩, h.hp, h.ap⟩
theorem RdV.at21 {s : Nat} {F : Nat → Value} (h : RdV s w A n c F) (hk : ∀ a, A = some a → w'.heap[a.block]? = w.heap[a.block]?) : RdV s w' A n c F :=
  ⟨h.1, h.2.1, h.2.2.1, fun hn => by
    obtain ⟨b, off, hA, hc⟩ := h.2.2.2 hn
    refine ⟨b, off, hA, fun i hi => ?_⟩
    have h1 := hk _ hA
    have h2 := hc i hi
    rw [← h2]
    unfold World.cell?
    simp only at h1 ⊢
    rw [h1]⟩
theorem RdV.congr21 {F G : Nat → Value} {s : Nat} (h : RdV s w A n c F) (e : ∀ i, i < n * s → F i = G i) : RdV s w A n c G :=
  ⟨h.1, h.2.1, h.2.2.1, fun hn => by
    obtain ⟨b, off, hA, hc⟩ := h.2.2.2 hn
    exact ⟨b, off, hA, fun i hi => by rw [hc i hi, e i hi]⟩⟩
theorem PT.wl (h : PT B w p g pr n mx F A c) : ∀ i, i < n → wt (rvF n F i) ≤ 500 := fun i hi => h.t.wl _ (by omega)
/-- The document's side is untouched by what is done with the program's. -/
theorem PT.rest {G : Nat → Fd} {g' : Option Nat} {n' mx' : Nat} (h : PT B w p g pr n mx F A c) (hf : FrO B (tfp p g) w w') (ht : TOk B w' p g' n' mx' G) (hg : g' = g ∨ ∀ b, g' = some b → w.heap.size ≤ b) :
    w'.heap[pr]? = some (.cells #[.slice A n c, .int .i64 (mx : Int)] 50 (0, 0)) ∧ RdV 3 w' A n c (fdV (rvF n F)) ∧ (∀ a, A = some a → B ≤ a.block ∧ a.block < w'.heap.size ∧ ¬ tfp p g' a.block ∧ a.block ≠ pr) ∧ ¬ tfp p g' pr := by
  have hlt := rowLt h.row
  refine ⟨hf.row h.row h.ap, h.rd.at21 fun a ha => hf.keep _ (h.ad a ha).2.1 (h.ad a ha).2.2.1, fun a ha => ⟨(h.ad a ha).1, Nat.lt_of_lt_of_le (h.ad a ha).2.1 hf.below.size, fun hq => ?_, (h.ad a ha).2.2.2⟩, fun hq => ?_⟩
  · rcases hq with hq | hq
    · exact (h.ad a ha).2.2.1 (.inl hq)
    · rcases hg with e | e
      · exact (h.ad a ha).2.2.1 (.inr (e ▸ hq))
      · have := e _ hq
        have := (h.ad a ha).2.1
        omega
  · rcases hq with hq | hq
    · exact h.ap (.inl hq)
    · rcases hg with e | e
      · exact h.ap (.inr (e ▸ hq))
      · have := e _ hq
        omega
/-- A new table is put into the document's variable. -/
theorem PT.store {x0 x1 : Value} {A' : Option Addr} {c' : Nat} (ht : TOk B w p g n mx F) (hr : w.heap[pr]? = some (.cells #[x0, x1] 50 (0, 0))) (rd : RdV 3 w A' n c' (fdV (rvF n F))) (ad : ∀ a, A' = some a → B ≤ a.block ∧ a.block < w.heap.size ∧ ¬ tfp p g a.block ∧ a.block ≠ pr) (hp : B ≤ pr) (ap : ¬ tfp p g pr) :
    PT B ((w.setCell ⟨pr, 0, none⟩ (.slice A' n c')).setCell ⟨pr, 1, none⟩ (.int .i64 (mx : Int))) p g pr n mx F A' c' :=
  ⟨ht.at_ fun i hi => by rw [Below.heap_setCell _ ⟨pr, 1, none⟩ _ _ (fun e => by subst e; exact ap hi), Below.heap_setCell _ ⟨pr, 0, none⟩ _ _ (fun e => by subst e; exact ap hi)],
   set2t hr _ _, (rd.set21 (fun a ha => (ad a ha).2.2.2) 0 _).set21 (fun a ha => (ad a ha).2.2.2) 1 _, fun a ha => ⟨(ad a ha).1, by simpa [World.setCell] using (ad a ha).2.1, (ad a ha).2.2⟩, hp, ap⟩
end
theorem ad_below {B : Nat} {w w' : World} {p : Nat} {g : Option Nat} {pr : Nat} {A : Option Addr} (h : ∀ a, A = some a → B ≤ a.block ∧ a.block < w.heap.size ∧ ¬ tfp p g a.block ∧ a.block ≠ pr) (hb : Below w.heap.size w w') : ∀ a, A = some a → B ≤ a.block ∧ a.block < w'.heap.size ∧ ¬ tfp p g a.block ∧ a.block ≠ pr :=
  fun a ha => ⟨(h a ha).1, Nat.lt_of_lt_of_le (h a ha).2.1 hb.size, (h a ha).2.2⟩
/-- What was resized on both sides is the same. -/
theorem resized21 {F : Nat → Fd} {n j k : Nat} {x : Int} (hj : j ≤ n) (h1 : ∀ i, i < j → x < (sumW (shF i F) (n - i) : Int)) (h2 : j = n ∨ (sumW (shF j F) (n - j) : Int) ≤ x) (hk : FitP (rvF n F) n x k) : k = n - j ∧ ∀ i, i < (n - j) * 3 → fdV (rvF n F) i = fdV (rvF (n - j) (shF j F)) i :=
  ⟨fit_same hj h1 h2 hk, fun i hi => (fdV_congr (rvF_sh F hj) i hi).symm⟩
theorem added21 {B : Nat} {w2 w3 : World} {p : Nat} {g' : Option Nat} {n mx j : Nat} {F : Nat → Fd} {f : Fd} {A' : Option Addr} {n' c' : Nat} (hj : j ≤ n) (h1 : ∀ i, i < j → (mx : Int) - (wt f : Int) < (sumW (shF i F) (n - i) : Int)) (h2 : j = n ∨ (sumW (shF j F) (n - j) : Int) ≤ (mx : Int) - (wt f : Int))
    (hc : (mx < wt f ∧ TOk B w2 p g' (n - j) mx (shF j F)) ∨ (wt f ≤ mx ∧ TOk B w2 p g' (n - j + 1) mx (appFd (n - j) (shF j F) ⟨f.name, f.val, false⟩))) (hb : Below w2.heap.size w2 w3)
    (hr : ((mx : Int) < (wt f : Int) ∧ A' = none ∧ n' = 0 ∧ c' = 0) ∨ ((wt f : Int) ≤ (mx : Int) ∧ ∃ k, FitP (rvF n F) n ((mx : Int) - (wt f : Int)) k ∧ n' = k + 1 ∧ OwnV 3 52 w2.heap.size w3 (.slice A' n' c') n' (fdV (consFd ⟨f.name, f.val, false⟩ (rvF n F))))) :
    ∃ G2, TOk B w3 p g' n' mx G2 ∧ RdV 3 w3 A' n' c' (fdV (rvF n' G2)) ∧ (∀ a, A' = some a → w2.heap.size ≤ a.block ∧ a.block < w3.heap.size) ∧ n' ≤ n + 1 := by
  rcases hc with ⟨hbig, ht⟩ | ⟨hle, ht⟩
  · rcases hr with ⟨_, rfl, rfl, rfl⟩ | ⟨hle, _⟩
    · have e0 : n - j = 0 := by
        rcases h2 with h | h
        · omega
        · omega
      rw [e0] at ht
      exact ⟨shF j F, ht.below hb, ⟨Nat.le_refl _, by simp [maxLen], fun _ => rfl, fun h => absurd h (Nat.lt_irrefl _)⟩, fun a ha => (by cases ha), Nat.zero_le _⟩
    · omega
  · rcases hr with ⟨h, _⟩ | ⟨_, k, hk, rfl, ho⟩
    · omega
    · obtain rfl := fit_same hj h1 h2 hk
      refine ⟨appFd (n - j) (shF j F) ⟨f.name, f.val, false⟩, ht.below hb, ?_, ?_, by omega⟩
      · exact ho.rdS2.congr21 fun i hi => (fdV_congr (fun q hq => ((rvF_app (shF j F) ⟨f.name, f.val, false⟩ (n - j) q hq).trans (consFd_congr (rvF_sh F hj) q hq)).symm) i hi)
      · intro a ha
        subst ha
        exact World.ownsRow.lt ho a.block rfl
theorem resizedB21 {B : Nat} {w2 w3 : World} {p : Nat} {g : Option Nat} {n x j : Nat} {F : Nat → Fd} {A' : Option Addr} {k c' : Nat} (hj : j ≤ n) (h1 : ∀ i, i < j → (x : Int) < (sumW (shF i F) (n - i) : Int)) (h2 : j = n ∨ (sumW (shF j F) (n - j) : Int) ≤ (x : Int))
    (ht : TOk B w2 p g (n - j) x (shF j F)) (hb : Below w2.heap.size w2 w3) (hk : FitP (rvF n F) n (x : Int) k) (hr : RdV 3 w3 A' k c' (fdV (rvF n F))) : TOk B w3 p g k x (shF j F) ∧ RdV 3 w3 A' k c' (fdV (rvF k (shF j F))) ∧ k ≤ n := by
  obtain rfl := fit_same hj h1 h2 hk
  exact ⟨ht.below hb, hr.congr21 fun i hi => (fdV_congr (rvF_sh F hj) i hi).symm, by omega⟩
end Go.Proofs.Yteikpdolickkaaa
