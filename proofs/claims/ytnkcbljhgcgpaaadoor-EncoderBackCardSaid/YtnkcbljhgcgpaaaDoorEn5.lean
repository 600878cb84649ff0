/- Layer 24: what is written, as a list; put. -/
import Derived.Test.YtnkcbljhgcgpaaaDoorEn4
import Derived.Test.YtnkcbljhgcgpaaaDoorMV
namespace Go.Proofs.YtnkcbljhgcgpaaaDoor
set_option linter.unusedVariables false
set_option linter.unusedSimpArgs false
open Go.RowKit Go.Deep Go.ChangeShapes Go.WideShapes

/-- One that is written. -/
structure Rpv where
  k : Int
  i : Int
  ns : ByteArray
  a : Bool
  vs : ByteArray
  b : Bool
  z : Int
def Rpv.N (r : Rpv) : Nat := rpN r.k r.i r.ns r.a r.vs r.b r.z
def Rpv.F (r : Rpv) : Nat → Int := rpF r.k r.i r.ns r.a r.vs r.b r.z
structure Rpv.Ok (r : Rpv) : Prop where
  b : rpB r.k r.i r.ns r.a r.vs r.b r.z = true
  n : r.ns.size ≤ 400
  v : r.vs.size ≤ 400
def bN : List Rpv → Nat
  | [] => 0
  | r :: l => r.N + bN l
def bF : List Rpv → Nat → Int
  | [] => fun _ => 0
  | r :: l => catF r.N r.F (bF l)
theorem bN_app (r : Rpv) : ∀ l, bN (l ++ [r]) = bN l + r.N
  | [] => by simp [bN]
  | x :: l => by show x.N + bN (l ++ [r]) = x.N + bN l + r.N; rw [bN_app r l]; omega
theorem bF_app (r : Rpv) : ∀ l i, i < bN l + r.N → bF (l ++ [r]) i = catF (bN l) (bF l) r.F i
  | [], i, h => by
    show catF r.N r.F (fun _ => 0) i = catF 0 (fun _ => 0) r.F i
    unfold catF
    have h' : i < r.N := by have : bN [] = 0 := rfl; omega
    rw [if_pos h', if_neg (Nat.not_lt_zero _), Nat.sub_zero]
  | x :: l, i, h => by
    show catF x.N x.F (bF (l ++ [r])) i = catF (x.N + bN l) (catF x.N x.F (bF l)) r.F i
    have hb : bN (x :: l) = x.N + bN l := rfl
    unfold catF
    by_cases h1 : i < x.N
    · rw [if_pos h1, if_pos (show i < x.N + bN l by omega)]
      show _ = (if i < x.N then _ else _)
      rw [if_pos h1]
    · rw [if_neg h1, bF_app r l (i - x.N) (by omega)]
      unfold catF
      by_cases h2 : i < x.N + bN l
      · rw [if_pos (show i - x.N < bN l by omega), if_pos h2]
        show _ = (if i < x.N then _ else _)
        rw [if_neg h1]
      · rw [if_neg (show ¬ i - x.N < bN l by omega), if_neg h2, show i - x.N - bN l = i - (x.N + bN l) by omega]
theorem Rpv.Ok.top {r : Rpv} (h : r.Ok) : r.N ≤ 4000 := by
  have h1 := h.n
  have h2 := h.v
  have h3 : ∀ (s : ByteArray) (sh : Bool), slN s sh ≤ 6 + 4 * s.size := fun s sh => by
    have := txN_le s sh
    have h := (pfN_bd 7 (txN s sh : Nat)).2
    unfold slN
    omega
  have h4 : ∀ n, pfN (bit22 r.k) n ≤ 6 := fun n => (pfN_bd _ n).2
  unfold Rpv.N rpN
  split
  · have := h4 r.i; omega
  · split
    · have := h4 r.z; omega
    · split
      · have := h4 0; have := h3 r.ns r.a; have := h3 r.vs r.b; omega
      · have := h4 r.i; have := h3 r.vs r.b; omega
theorem bN_top {l : List Rpv} (h : ∀ r ∈ l, r.Ok) : bN l ≤ 4000 * l.length := by
  induction l with
  | nil => exact Nat.zero_le _
  | cons r l ih =>
    have h1 := (h r (by simp)).top
    have h2 := ih fun x hx => h x (by simp [hx])
    show r.N + bN l ≤ _
    rw [List.length_cons]
    omega
def Rpv.agg (r : Rpv) : Value := .agg #[.int .i64 r.k, .int .i64 r.i, .string r.ns, .bool r.a, .string r.vs, .bool r.b, .int .i64 r.z]
/-- Bytes as cells. -/
def byV (f : Nat → Int) : Nat → Value := fun i => .int .u8 (f i)
theorem own_V {e : TypeId} {B : Nat} {w : World} {v : Value} {n : Nat} {f : Nat → Int} : Own .u8 e B w v n f ↔ OwnV 1 e B w v n (byV f) := by
  unfold Own OwnV
  have h : row .u8 n f = rowV (n * 1) (byV f) := by rw [Nat.mul_one]; rfl
  rw [h]
theorem rd_V {w : World} {A : Option Addr} {n c : Nat} {f : Nat → Int} (h : Rd .u8 w A n c f) : RdV 1 w A n c (byV f) :=
  ⟨h.1, h.2.1, h.2.2.1, fun hn => by
    obtain ⟨b, off, hA, hc⟩ := h.2.2.2 hn
    exact ⟨b, off, hA, fun i hi => hc i (by omega)⟩⟩
theorem V_rd {w : World} {A : Option Addr} {n c : Nat} {f : Nat → Int} (h : RdV 1 w A n c (byV f)) : Rd .u8 w A n c f :=
  ⟨h.1, h.2.1, h.2.2.1, fun hn => by
    obtain ⟨b, off, hA, hc⟩ := h.2.2.2 hn
    exact ⟨b, off, hA, fun i hi => hc i (by omega)⟩⟩
theorem byV_cat (n : Nat) (f g : Nat → Int) : catV (n * 1) (byV f) (byV g) = byV (catF n f g) := by
  funext i
  unfold catV byV catF
  rw [Nat.mul_one]
  split <;> rfl
theorem u8_infoE : (Tryd.prog.info? 5).map (fun i => (i.zero, i.size, i.bytes)) = some (some (.int .u8 0), 1, 1) := by kernel_rfl
/-- What put does. -/
def PutE (B : Nat) (v : Value) (N : Nat) (F : Nat → Int) (r : Rpv) (w : World) (e : Ending) (w' : World) : Prop :=
  ∃ v', e = .returned v' ∧ OwnV 1 5 B w' v' (N + r.N) (byV (catF N F r.F)) ∧ FrO B (fun i => v.ownBlock = some i) w w' ∧ (v'.ownBlock = v.ownBlock ∨ ∀ i, v'.ownBlock = some i → w.heap.size ≤ i)
set_option maxRecDepth 20000 in
set_option maxHeartbeats 1600000 in
theorem put24 {B : Nat} {w : World} {v : Value} {N : Nat} {F : Nat → Int} (ho : OwnV 1 5 B w v N (byV F)) (hB : B ≤ w.heap.size) (hN : N ≤ 1000000000) (r : Rpv) (hr : r.Ok) (T : TypeId) (fr : Nat × Nat) (hg : w.heap[0]? = some (.cells formsV T fr)) :
    Calls Tryd.prog 44 #[v, r.agg] w (PutE B v N F r w) := by
  obtain ⟨k, i, ns, a, vs, b, z⟩ := r
  have htop := hr.top
  obtain ⟨hb, hns, hvs⟩ := hr
  simp only at hb hns hvs
  obtain ⟨A, c, rfl, hrd, _⟩ := ho.rd
  obtain ⟨i0, hi, hz2, hz3, hz4⟩ := info_parts u8_infoE
  show Calls _ _ #[_, .agg #[.int .i64 k, .int .i64 i, .string ns, .bool a, .string vs, .bool b, .int .i64 z]] w _
  have al := (Below.refl w.heap.size w).alloc (Nat.le_refl _) (.cells #[.int .i64 k, .int .i64 i, .string ns, .bool a, .string vs, .bool b, .int .i64 z] 81)
  have R0 := hide (heap_alloc_new w (.cells #[.int .i64 k, .int .i64 i, .string ns, .bool a, .string vs, .bool b, .int .i64 z] 81))
  have O0 := hide (ho.below al)
  have E0 := hide al
  have G0 := hide ((al.block _ (rowLt hg)).trans hg)
  have HB := hide hB
  have C := hide (fun W (hg : W.heap[0]? = some (.cells formsV T fr)) => put22 k i ns a vs b z (by omega) (by omega) W hb T fr hg)
  obtain ⟨M, hM⟩ : ∃ M, M = Rpv.N ⟨k, i, ns, a, vs, b, z⟩ := ⟨_, rfl⟩
  rw [← hM] at htop
  have HM := hide hM
  obtain ⟨q0, q1, q2, q3, q4, q5, q6⟩ := row7D R0.out
  clear ho al hg hB hb hrd hM hns hvs
  go_enter Tryd.func44, Tryd.ntmps44
  go_wp2_with fail
  generalize hW : w.alloc (.cells #[.int .i64 k, .int .i64 i, .string ns, .bool a, .string vs, .bool b, .int .i64 z] 81) = W at *
  clear hW
  refine (C.out _ G0.out).mono ?_
  rintro e w1 ⟨v1, rfl, ho1, hb1⟩
  obtain ⟨A1, c1, rfl, hrd1, _⟩ := ho1.rd
  have O1 := hide (O0.out.below hb1)
  have E1 := hide (E0.out.of hb1)
  have RD1 := hide (rd_V hrd1)
  have hMM : rpN k i ns a vs b z = M := by rw [HM.out]; rfl
  have BB : Hid (B ≤ w1.heap.size) := Nat.le_trans HB.out E1.out.size
  rw [hMM] at RD1 ⊢
  clear ho1 hb1 hrd1 C G0 O0 E0 q0 q1 q2 q3 q4 q5 q6 R0 hMM
  go_wp2_with (at_builtin; refine wp_appV rfl (.tmp 12) (.tmp 13) _ rfl 1 i0 _ 1 Tryd.underlying22 hi hz2 hz3 hz4 rfl (by omega) B _ N (byV F) rfl O1.out A1 M c1 (byV (rpF k i ns a vs b z)) rfl RD1.out (fun _ _ => rfl) (by simp only [maxLen]; omega) (by omega) BB.out ?_; intro v4 w4 hown4 hg4 hob4; have HO4 := hide hown4; have HG4 := hide hg4; have HOB4 := hide hob4; obtain ⟨A4, c4, rfl, _, _⟩ := hown4.rd; clear hown4 hg4 hob4)
  go_ret
  refine ⟨_, rfl, ?_, (FrO.of (S := fun i => (Value.slice A N c).ownBlock = some i) E1.out HB.out).step (FrO.grown (S := fun i => (Value.slice A N c).ownBlock = some i) HG4.out BB.out fun j hj => ⟨(World.ownsRow.lt O1.out j hj).1, hj⟩) fun i hi => .inl hi, ?_⟩
  · have h := HO4.out
    rw [byV_cat] at h
    have e1 : Rpv.N ⟨k, i, ns, a, vs, b, z⟩ = M := HM.out.symm
    rw [e1]
    exact h
  · rcases HOB4.out with h | h
    · exact .inl h
    · refine .inr fun i hi => ?_
      obtain rfl : w1.heap.size = i := Option.some.inj (h.symm.trans hi)
      exact E1.out.size
end Go.Proofs.YtnkcbljhgcgpaaaDoor
