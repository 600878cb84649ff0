/- Layer 12: frames as bytes, and back. -/
import Derived.Test.YtpnjamomkpkkeaaCte
import Derived.Test.YtpnjamomkpkkeaaCtf
import Derived.Test.YtpnjamomkpkkeaaHeaC
namespace Go.Proofs.Ytpnjamomkpkkeaa
set_option linter.unusedVariables false
set_option linter.unusedSimpArgs false
open Go.RowKit

set_option maxRecDepth 100000 in
set_option maxHeartbeats 3200000 in
theorem rhbytes_own (fr t f s : Int) (r : Bool) (A : Option Addr) (n c : Nat) (g : Nat → Int) (w : World) (ha : Rd .u8 w A n c g) (hn : n ≤ 100000) (h : HdR n t f s) : Calls Try.prog 30 #[.agg #[.int .i64 fr, .int .i64 t, .int .i64 f, .int .i64 s, .bool r, .slice A n c]] w fun e w' =>
    ∃ A' c', e = .returned (.tuple #[.slice A' (9 + n) c', .bool true]) ∧ Own .u8 5 w.heap.size w' (.slice A' (9 + n) c') (9 + n) (catF 9 (hdF n t f (hdX s r)) g) ∧ Below w.heap.size w w' := by
  obtain ⟨i0, hi, hz0, hz1, hz2⟩ := info_parts u8_info
  have hd : (t == -1) = false := by have := h.2.1.1; simp; omega
  have H := hide h
  have Ha := hide ha
  clear h ha
  obtain ⟨W, hW⟩ : ∃ W, W = ((w.alloc (.cells #[.int .i64 fr, .int .i64 t, .int .i64 f, .int .i64 s, .bool r, .slice A n c] 29)).alloc (.cells #[.int .i64 n, .int .i64 t, .int .i64 f, .int .i64 s, .bool r] 154)).alloc (.cells #[.int .i64 n, .int .i64 t, .int .i64 f, .int .i64 s, .bool r] 154) := ⟨_, rfl⟩
  have R0 : Hid (W.heap[w.heap.size]? = some (.cells #[.int .i64 fr, .int .i64 t, .int .i64 f, .int .i64 s, .bool r, .slice A n c] 29 (0, 0))) := by
    rw [hW]
    exact keepRow (keepRow (heap_alloc_new w _) ((Below.refl _ _).alloc (Nat.le_refl _) _)) ((Below.refl _ _).alloc (Nat.le_refl _) _)
  have R1 : Hid (W.heap[w.heap.size + 1]? = some (.cells #[.int .i64 n, .int .i64 t, .int .i64 f, .int .i64 s, .bool r] 154 (0, 0))) := by
    rw [hW]
    have := heap_alloc_new (w.alloc (.cells #[.int .i64 fr, .int .i64 t, .int .i64 f, .int .i64 s, .bool r, .slice A n c] 29)) (.cells #[.int .i64 n, .int .i64 t, .int .i64 f, .int .i64 s, .bool r] 154)
    rw [show (w.alloc (.cells #[.int .i64 fr, .int .i64 t, .int .i64 f, .int .i64 s, .bool r, .slice A n c] 29)).heap.size = w.heap.size + 1 by simp] at this
    exact keepRow this ((Below.refl _ _).alloc (Nat.le_refl _) _)
  have hB0 : Hid (Below w.heap.size w W) := by
    rw [hW]
    exact (((Below.refl w.heap.size w).alloc (Nat.le_refl _) _).alloc (by simp) _).alloc (by simp; omega) _
  have HW := hide hW
  clear hW
  go_enter Try.func30, Try.ntmps30
  go_wp2_with fail
  refine (rright_yesX n t f s r _ H.out).mono ?_
  rintro e w1 ⟨rfl, rfl⟩
  rw [← HW.out]
  obtain ⟨q0, q1, q2, q3, q4, q5⟩ := row6 R0.out
  obtain ⟨a0, a1, a2, a3, a4⟩ := row5 R1.out
  have hs : w.heap.size + 2 < W.heap.size := by rw [HW.out]; simp
  go_wp2_with fail
  go_region_held3 (fun w' : World => w'.cell? ⟨w.heap.size, 5, none⟩ = some (.slice A n c) ∧ w'.cell? ⟨w.heap.size + 1, 0, none⟩ = some (.int .i64 n) ∧ w'.cell? ⟨w.heap.size + 1, 1, none⟩ = some (.int .i64 t) ∧ w'.cell? ⟨w.heap.size + 1, 2, none⟩ = some (.int .i64 f) ∧ w'.cell? ⟨w.heap.size + 1, 3, none⟩ = some (.int .i64 s) ∧ w'.cell? ⟨w.heap.size + 1, 4, none⟩ = some (.bool r))
    ((first | (go_keep; done) | exact S6keep hb1 (by assumption) | exact S6grow hg2 Hne.out (by simp) (by simp) (by simp) (by simp) (by simp) (by simp) (by assumption)))
    ((first | (go_at_call 76; refine (hrput n t f s r _ H.out).mono ?_; rintro e w1 ⟨A1, k1, rfl, ho1, hb1⟩; have hs1 := hb1.size; (simp at hs1); have Hne : Hid (∀ b, b < w.heap.size + 2 → (Value.slice A1 9 k1).ownBlock ≠ some b) := (fun b hb => ho1.ne (by simp; omega)); have Ho1 := hide (ho1.baseB (B' := w.heap.size) (by simp; omega)); have hB1 := hide (hB0.out.drew.of hb1); have Ha1 := hide (Ha.out.below hB1.out)) | (refine step_app (by rfl) _ _ _ (by rfl) i0 0 1 Try.underlying22 hi hz0 hz1 hz2 w.heap.size (.slice A1 9 k1) 9 _ (by rfl) Ho1.out A n c g (by rfl) Ha1.out (by simp only [maxLen]; omega) (by omega) (by omega) ?_; intro v2 w2 hown2 hg2)))
  all_goals
    have hB2 := hide (hB1.out.grown hg2 hB1.out.size (fun j e => (World.ownsRow.lt Ho1.out j e).1))
    obtain ⟨A2, k2, rfl, hr2, _⟩ := hown2.rd
    have Hr2 := hide hown2
    clear hown2 hg2 hr2
    go_wp2_with fail
    go_ret2
    exact ⟨A2, k2, rfl, Hr2.out, hB2.out⟩


theorem ownV_ne_ty {s s2 : Nat} {e e2 : TypeId} {B B2 n m : Nat} {w : World} {v u : Value} {F F2 : Nat → Value} (h : OwnV s e B w v n F) (h2 : OwnV s2 e2 B2 w u m F2) (he : e ≠ e2) {j : Nat} (hj : v.ownBlock = some j) : u.ownBlock ≠ some j := fun hu => by
  rcases h.2 with ⟨rfl, _⟩ | ⟨g, cap, cur, rfl, _, hh, _⟩
  · cases hj
  · rcases h2.2 with ⟨rfl, _⟩ | ⟨g2, cap2, cur2, rfl, _, hh2, _⟩
    · cases hu
    · have e1 : g = j := Option.some.inj hj
      have e3 : g2 = j := Option.some.inj hu
      subst e1 e3
      rw [hh] at hh2
      injection hh2 with hh2
      injection hh2 with _ h4 _
      exact he h4
theorem PcS.frQ {S : Nat → Prop} {B : Nat} {w w' : World} {v : Value} {n : Nat} {X : Nat → Int} {V : Nat → Value} {N : Nat → Nat} {G : Nat → Nat → Int} (h : PcS B w v n X V N G) (hf : FrQ S w w') (hS : ∀ i, S i → v.ownBlock ≠ some i) (hb : ∀ j, j < n → ∀ i, S i → (V j).ownBlock ≠ some i) : PcS B w' v n X V N G :=
  ⟨h.row.frQ hf fun i hi e => hS i e hi, fun j hj => (h.bytes j hj).frQ hf fun i hi e => hb j hj i e hi⟩
theorem map_cat (f g : Nat → Int) (a b : Nat) : (List.range (a + b)).map (catF a f g) = (List.range a).map f ++ (List.range b).map g := by
  apply List.ext_getElem
  · simp
  · intro i h1 h2
    simp only [List.getElem_map, List.getElem_range]
    by_cases hi : i < a
    · rw [List.getElem_append_left (by simpa using hi)]
      simp [catF, hi]
    · rw [List.getElem_append_right (by simpa using hi)]
      simp [catF, hi]
def xOf (R : Rw) : Rl := ⟨R.fm, R.T, R.fl, R.st, R.rs, (List.range R.n).map R.b⟩
theorem xOf_is {w : World} {R : Rw} (h : Rd .u8 w R.A R.n R.c R.b) : RwIs w R (xOf R) := ⟨rfl, rfl, rfl, rfl, rfl, by simp [xOf], h.congr fun i hi => (lyF_map hi).symm⟩
theorem xOf_enc {R : Rw} (h : HdR R.n R.T R.fl R.st) : (List.range (9 + R.n)).map (catF 9 (hdF R.n R.T R.fl (hdX R.st R.rs)) R.b) = (xOf R).enc := by
  have hok : (xOf R).Ok R.fm := ⟨rfl, by show HdR (((List.range R.n).map R.b).length : Int) R.T R.fl R.st; simpa using h⟩
  rw [hok.enc, map_cat]
  simp [xOf, Rl.hd]
theorem flF_encQ {gs : List Rl} {X : Nat → Int} {N : Nat → Nat} {G : Nat → Nat → Int} (h : ∀ i x, gs[i]? = some x → X i = x.fm ∧ (List.range (N i)).map (G i) = x.enc) : ∀ k, k ≤ gs.length → flF X N G k = encQ (gs.take k)
  | 0, _ => by simp [flF, encQ]
  | k + 1, hk => by
    have hx : gs[k]? = some gs[k] := List.getElem?_eq_getElem (by omega)
    obtain ⟨h1, h2⟩ := h k _ hx
    show flF X N G k ++ flC _ _ _ = _
    rw [flF_encQ h k (by omega), flC_map, h1, h2, List.take_succ_eq_append_getElem (by omega : k < gs.length), encQ_snoc]
/-- The frames that are wanted, and their bytes as pieces. -/
structure BkOk (q : Nat) (w1 : World) (gs : List Rl) (vw vi : Value) (R : Nat → Rw) (X : Nat → Int) (V : Nat → Value) (N : Nat → Nat) (G : Nat → Nat → Int) : Prop where
  br : BkR gs
  fm : ∀ x ∈ gs, x.fm = 0 ∨ x.fm = 1
  ow : OwnV 6 29 (q + 3) w1 vw gs.length (rwV R)
  bw : ∀ i x, gs[i]? = some x → RwIs w1 (R i) x ∧ (0 < (R i).n → ∀ a, (R i).A = some a → a.block < q + 3)
  oi : PcS q w1 vi gs.length X V N G
  hvi : ∀ b, vi.ownBlock = some b → q + 3 ≤ b
  bi : ∀ i x, gs[i]? = some x → X i = x.fm ∧ (List.range (N i)).map (G i) = x.enc
  hby : ∀ j, j < gs.length → Byt (N j) (G j)
  hq : q + 3 ≤ w1.heap.size
section
variable {q : Nat} {w1 : World} {gs : List Rl} {vw vi : Value} {R : Nat → Rw} {X : Nat → Int} {V : Nat → Value} {N : Nat → Nat} {G : Nat → Nat → Int}
theorem BkOk.below (h : BkOk q w1 gs vw vi R X V N G) {w2 : World} (hb : Below w1.heap.size w1 w2) : BkOk q w2 gs vw vi R X V N G :=
  ⟨h.br, h.fm, h.ow.below hb, fun i x hx => ⟨(h.bw i x hx).1.below hb, (h.bw i x hx).2⟩, h.oi.below hb, h.hvi, h.bi, h.hby, Nat.le_trans h.hq hb.size⟩
/-- One frame more on both sides. -/
theorem BkOk.more (h : BkOk q w1 gs vw vi R X V N G) {x : Rl} {Rx : Rw} {m : Nat} {gb : Nat → Int} {y : Value} {sd : Int} (hsd : sd = 0 ∨ sd = 1) (hx : x.Ok sd) (hxb : ByL x.b) (hR : RwIs w1 Rx x) (hRb : 0 < Rx.n → ∀ a, Rx.A = some a → a.block < q + 3) (hy : Own .u8 5 q w1 y m gb) (hm : (List.range m).map gb = x.enc) (hgb : Byt m gb)
    {vw' vi' : Value} {w2 w3 w4 : World} (h2 : OwnV 6 29 (q + 3) w2 vw' (gs.length + 1) (catV (gs.length * 6) (rwV R) (rwV fun _ => Rx))) (g2 : w1.grownBy w2 vw.ownBlock) (hb3 : Below w2.heap.size w2 w3)
    (h4 : OwnV 2 52 q w4 vi' (gs.length + 1) (catV (gs.length * 2) (pcF X V) (litC2 x.fm y))) (g4 : w3.grownBy w4 vi.ownBlock) (b4 : vi'.ownBlock = vi.ownBlock ∨ vi'.ownBlock = some w3.heap.size) :
    BkOk q w4 (gs ++ [x]) vw' vi' (catRw gs.length R fun _ => Rx) (upd X gs.length x.fm) (upd V gs.length y) (upd N gs.length m) (upd G gs.length gb) := by
  have hq2 : FrQ (fun i => vw.ownBlock = some i) w1 w2 := FrQ.grown g2 fun g e => e
  have hq4 : FrQ (fun i => vi.ownBlock = some i) w3 w4 := FrQ.grown g4 fun g e => e
  have oi2 : PcS q w3 vi gs.length X V N G := (h.oi.frQ hq2 (fun i hi => ownV_ne_ty h.ow h.oi.row (by decide) hi) fun j hj i hi e => own_ne_type (h.oi.bytes j hj) h.ow (by decide) e hi).below hb3
  have y2 : Own .u8 5 q w3 y m gb := (hy.frQ hq2 fun i hi e => own_ne_type hy h.ow (by decide) hi e).below hb3
  have ow3 := h2.below hb3
  have hlow : ∀ i, vw.ownBlock = some i → q + 3 ≤ i := fun i hi => (World.ownsRow.lt h.ow i hi).1
  have hsz : q + 3 ≤ w3.heap.size := Nat.le_trans (Nat.le_trans h.hq hq2.size) hb3.size
  have keepR : ∀ (Z : Rw) (z : Rl), RwIs w1 Z z → (0 < Z.n → ∀ a, Z.A = some a → a.block < q + 3) → RwIs w4 Z z := fun Z z hz hZ => by
    have k2 : RwIs w2 Z z := hz.frQ hq2 fun hn a ha e => by have := hlow _ e; have := hZ hn a ha; omega
    exact (k2.below hb3).frQ hq4 fun hn a ha e => by have := h.hvi _ e; have := hZ hn a ha; omega
  refine ⟨h.br.snoc hsd hx hxb, fun z hz => ?_, ?_, fun i z hz => ?_, ?_, fun b hb => ?_, fun i z hz => ?_, fun j hj => ?_, Nat.le_trans hsz hq4.size⟩
  · rcases List.mem_append.1 hz with hz | hz
    · exact h.fm z hz
    · rw [List.mem_singleton.1 hz, hx.1]; exact hsd
  · rw [List.length_append, ← rwV_cat]
    exact ow3.frQ hq4 fun i hi e => ownV_ne_ty ow3 oi2.row (by decide) hi e
  · unfold catRw
    by_cases hi : i < gs.length
    · rw [if_pos hi]
      rw [List.getElem?_append_left hi] at hz
      exact ⟨keepR _ _ (h.bw i z hz).1 (h.bw i z hz).2, (h.bw i z hz).2⟩
    · rw [if_neg hi]
      rw [List.getElem?_append_right (by omega)] at hz
      obtain rfl : x = z := by
        match hm : i - gs.length, hz with
        | 0, hz => simpa using hz
        | j + 1, hz => simp at hz
      exact ⟨keepR _ _ hR hRb, hRb⟩
  · rw [List.length_append]
    exact oi2.push y2 h4 g4
  · rcases b4 with e | e
    · exact h.hvi b (e ▸ hb)
    · rw [e] at hb
      have := Option.some.inj hb
      omega
  · unfold upd
    by_cases hi : i < gs.length
    · rw [if_neg (by omega), if_neg (by omega), if_neg (by omega)]
      rw [List.getElem?_append_left hi] at hz
      exact h.bi i z hz
    · rw [List.getElem?_append_right (by omega)] at hz
      obtain ⟨e, rfl⟩ : i = gs.length ∧ x = z := by
        match hm : i - gs.length, hz with
        | 0, hz => exact ⟨by omega, by simpa using hz⟩
        | j + 1, hz => simp at hz
      rw [if_pos e, if_pos e, if_pos e]
      exact ⟨rfl, hm⟩
  · rw [List.length_append] at hj
    unfold upd
    by_cases e : j = gs.length
    · rw [if_pos e, if_pos e]; exact hgb
    · rw [if_neg e, if_neg e]; exact h.hby j (by simp at hj; omega)
theorem BkOk.mid (h : BkOk q w1 gs vw vi R X V N G) {w2 w3 : World} (g2 : w1.grownBy w2 vw.ownBlock) (hb3 : Below w2.heap.size w2 w3) : PcS q w3 vi gs.length X V N G :=
  have hq2 : FrQ (fun i => vw.ownBlock = some i) w1 w2 := FrQ.grown g2 fun g e => e
  (h.oi.frQ hq2 (fun i hi => ownV_ne_ty h.ow h.oi.row (by decide) hi) fun j hj i hi e => own_ne_type (h.oi.bytes j hj) h.ow (by decide) e hi).below hb3
end
theorem chunk_info12 : (Try.prog.info? 52).map (fun i => (i.zero, i.size, i.bytes)) = some (some (.agg #[.int .i64 0, .slice none 0 0]), 2, 32) := by kernel_rfl
set_option maxRecDepth 100000 in
set_option maxHeartbeats 6400000 in
theorem back_walk12 (A S : Option Addr) (n c d dc : Nat) (F : Nat → Rw) (g : Nat → Int) (w : World) (ha : RdRw w A n c F) (hS : Rd .i64 w S d dc g) (hg : ∀ i, i < d → -9223372036854775808 ≤ g i ∧ g i ≤ 9223372036854775807) :
    Calls Try.prog 7 #[.slice A n c, .slice S d dc] w (Yes w) := by
  obtain ⟨i0, hi, hz0, hz1, hz2⟩ := info_parts u8_info
  obtain ⟨iR, hiR, zR0, zR1, zR2⟩ := info_parts raw_info12
  obtain ⟨iC, hiC, zC0, zC1, zC2⟩ := info_parts chunk_info12
  have Ha := hide ha
  have HS := hide hS
  have Hg := hide hg
  have hd63 : (d : Int) ≤ 9223372036854775807 := by have h1 := hS.1; have h2 := hS.2.1; simp only [maxLen] at h2; omega
  have hn63 : (n : Int) ≤ 9223372036854775807 := by have h1 := ha.1; have h2 := ha.2.1; simp only [maxLen] at h2; omega
  clear ha hS hg
  have HALIVE : Hid (∀ w1, Below w.heap.size w w1 → Calls Try.prog 25 #[] w1 fun e w' => e = .returned (.bool true) ∧ Below w.heap.size w w') := hide fun w1 hb => (alive12 w1).mono fun e w' h => ⟨h.1, hb.trans (h.2.mono hb.size)⟩
  by_cases hbig : 40 < n ∨ 40 < d
  · have hd1 : (40 < n ∧ decide ((40 : Int) < (n : Int)) = true) ∨ (decide ((40 : Int) < (n : Int)) = false ∧ decide ((40 : Int) < (d : Int)) = true) := by
      by_cases h1 : 40 < n
      · exact .inl ⟨h1, by simp; omega⟩
      · exact .inr ⟨by simp; omega, by simp; omega⟩
    clear hbig
    rcases hd1 with ⟨_, d1⟩ | ⟨d1, d2⟩ <;>
    · go_enter Try.func7, Try.ntmps7
      go_wp2_with fail
      refine (HALIVE.out _ (Below.refl _ _)).mono ?_
      rintro e w2 ⟨rfl, hb2⟩
      have HB2 := hide hb2
      clear hb2
      go_wp2_with fail
      go_ret
      exact ⟨rfl, HB2.out⟩
  have d1 : decide ((40 : Int) < (n : Int)) = false := by simp; omega
  have d2 : decide ((40 : Int) < (d : Int)) = false := by simp; omega
  have HN : Hid (n ≤ 40) := hide (by omega)
  have HD : Hid (d ≤ 40) := hide (by omega)
  have hn40 : n ≤ 40 := HN.out
  clear hbig
  go_enter Try.func7, Try.ntmps7
  go_wp2_with (first
    | (at_make; refine wp_mk rfl _ _ _ rfl i0 0 1 Try.underlying22 hi hz0 hz1 hz2 w.heap.size _ _ _ _ 24 rfl rfl rfl rfl (by decide) (by simp [maxLen]) (Nat.le_refl _) ?_; intro w1 hown1 hg1 hs1; have HO1 := hide hown1; have HG1 := hide hg1; have HS1 := hide hs1; have HR1 := hide (heap_alloc_new w1 (.cells #[.int .i64 0, .slice (some ⟨w.heap.size, 0, none⟩) 24 24] 52)); have hq2 : w.heap.size + 2 ≤ (w1.alloc (.cells #[.int .i64 0, .slice (some ⟨w.heap.size, 0, none⟩) 24 24] 52)).heap.size := (by rw [show (w1.alloc (.cells #[.int .i64 0, .slice (some ⟨w.heap.size, 0, none⟩) 24 24] 52)).heap.size = w1.heap.size + 1 by simp, hs1]; exact Nat.le_refl _); clear hown1 hg1 hs1)
    | (at_make; refine wp_mk rfl _ _ _ rfl i0 0 1 Try.underlying22 hi hz0 hz1 hz2 (w.heap.size + 2) _ _ _ _ 24 rfl rfl rfl rfl (by decide) (by simp [maxLen]) hq2 ?_; intro w2 hown2 hg2 hs2; have HO2 := hide hown2; have HG2 := hide hg2; have HS2 := hide hs2; have hr2 := (hg2.block _ (rowLt HR1.out) (fun e => by cases e)).trans HR1.out; have hr3 := keepRow hr2 ((Below.refl w2.heap.size w2).alloc (Nat.le_refl _) (.cells #[.int .i64 0, .int .i64 (-1), .int .i64 0, .int .i64 0, .bool false, .slice (some ⟨w1.heap.size + 1, 0, none⟩) 24 24] 29)); obtain ⟨r0, r1⟩ := row2 hr3; clear hown2 hg2 hs2 hq2 hr2 hr3))
  have hs0 : w1.heap.size = w.heap.size + 1 := HS1.out
  have hs2 : w2.heap.size = w.heap.size + 3 := by
    have h1 := HS2.out
    have h2 : (w1.alloc (.cells #[.int .i64 0, .slice (some ⟨w.heap.size, 0, none⟩) 24 24] 52)).heap.size = w1.heap.size + 1 := by simp
    omega
  have hbz : ∀ (a b : World), a.grownBy b none → a.heap.size ≤ b.heap.size → Below a.heap.size a b := fun a b hg hz => ⟨hg.os, hg.tape, hg.output, hz, fun i hi => hg.block i hi (fun e => by cases e)⟩
  have b1 : Below w.heap.size w w1 := hbz _ _ HG1.out (by omega)
  have b2 : Below w1.heap.size w1 w2 := ((Below.refl w1.heap.size w1).alloc (Nat.le_refl _) _).trans ((hbz _ _ HG2.out HG2.out.size).mono (by simp))
  have b3 : Below w2.heap.size w2 ((w2.alloc (.cells #[.int .i64 0, .int .i64 (-1), .int .i64 0, .int .i64 0, .bool false, .slice (some ⟨w1.heap.size + 1, 0, none⟩) 24 24] 29)).alloc (.cells #[.int .i64 0, .slice (some ⟨w.heap.size, 0, none⟩) 24 24] 52)) := ((Below.refl _ _).alloc (Nat.le_refl _) _).alloc (by simp) _
  have HK0 : Hid (BkOk w.heap.size ((w2.alloc (.cells #[.int .i64 0, .int .i64 (-1), .int .i64 0, .int .i64 0, .bool false, .slice (some ⟨w1.heap.size + 1, 0, none⟩) 24 24] 29)).alloc (.cells #[.int .i64 0, .slice (some ⟨w.heap.size, 0, none⟩) 24 24] 52)) [⟨0, -1, 0, 0, false, (List.range 24).map (oneF 0)⟩] (.slice (some ⟨w2.heap.size, 0, none⟩) 1 1) (.slice (some ⟨w2.heap.size + 1, 0, none⟩) 1 1) (fun _ => ⟨0, -1, 0, 0, false, some ⟨w1.heap.size + 1, 0, none⟩, 24, 24, oneF 0⟩) (fun _ => 0) (fun _ => .slice (some ⟨w.heap.size, 0, none⟩) 24 24) (fun _ => 24) (fun _ => oneF 0)) := by
    have hpre : (⟨0, -1, 0, 0, false, (List.range 24).map (oneF 0)⟩ : Rl).Pre := ⟨rfl, rfl, rfl, rfl, rfl, by simp⟩
    have hq4 : (w2.alloc (.cells #[.int .i64 0, .int .i64 (-1), .int .i64 0, .int .i64 0, .bool false, .slice (some ⟨w1.heap.size + 1, 0, none⟩) 24 24] 29)).heap.size = w2.heap.size + 1 := by simp
    have hq5 : ((w2.alloc (.cells #[.int .i64 0, .int .i64 (-1), .int .i64 0, .int .i64 0, .bool false, .slice (some ⟨w1.heap.size + 1, 0, none⟩) 24 24] 29)).alloc (.cells #[.int .i64 0, .slice (some ⟨w.heap.size, 0, none⟩) 24 24] 52)).heap.size = w2.heap.size + 2 := by simp
    have h1 := HO1.out.below (b2.trans (b3.mono b2.size))
    have h2 := HO2.out.below b3
    have o6 := (OwnV.lit 6 29 (w.heap.size + 3) w2 (rwV fun _ => ⟨0, -1, 0, 0, false, some ⟨w1.heap.size + 1, 0, none⟩, 24, 24, oneF 0⟩) #[.int .i64 0, .int .i64 (-1), .int .i64 0, .int .i64 0, .bool false, .slice (some ⟨w1.heap.size + 1, 0, none⟩) 24 24] 1 (by omega) (by simp [maxLen]) rfl).alloc (.cells #[.int .i64 0, .slice (some ⟨w.heap.size, 0, none⟩) 24 24] 52)
    have o2 := OwnV.lit 2 52 w.heap.size (w2.alloc (.cells #[.int .i64 0, .int .i64 (-1), .int .i64 0, .int .i64 0, .bool false, .slice (some ⟨w1.heap.size + 1, 0, none⟩) 24 24] 29)) (pcF (fun _ => 0) fun _ => .slice (some ⟨w.heap.size, 0, none⟩) 24 24) #[.int .i64 0, .slice (some ⟨w.heap.size, 0, none⟩) 24 24] 1 (by omega) (by simp [maxLen]) rfl
    rw [hq4] at o2
    refine ⟨BkR.pre hpre (byl_of fun i _ => by simp [oneF]), fun x hx => by rw [List.mem_singleton.1 hx]; exact .inl rfl, o6, fun i x hx => ?_, ⟨o2, fun j hj => h1⟩, fun b hb => ?_, fun i x hx => ?_, fun j _ => fun i _ => by simp [oneF], by omega⟩
    · obtain rfl : (⟨0, -1, 0, 0, false, (List.range 24).map (oneF 0)⟩ : Rl) = x := by
        match i, hx with
        | 0, hx => simpa using hx
        | i + 1, hx => simp at hx
      refine ⟨⟨rfl, rfl, rfl, rfl, rfl, by simp, ?_⟩, fun _ a e => ?_⟩
      · have h3 : (w1.alloc (.cells #[.int .i64 0, .slice (some ⟨w.heap.size, 0, none⟩) 24 24] 52)).heap.size = w1.heap.size + 1 := by simp
        rw [h3] at h2
        obtain ⟨A', c', e, hr, _⟩ := h2.rd
        injection e with e1 e2 e3
        subst e1 e3
        exact hr.congr fun i hi => (lyF_map hi).symm
      · cases e
        show w1.heap.size + 1 < w.heap.size + 3
        omega
    · have := Option.some.inj hb
      show w.heap.size + 3 ≤ b
      have h4 : w2.heap.size + 1 = b := this
      omega
    · obtain rfl : (⟨0, -1, 0, 0, false, (List.range 24).map (oneF 0)⟩ : Rl) = x := by
        match i, hx with
        | 0, hx => simpa using hx
        | i + 1, hx => simp at hx
      exact ⟨rfl, hpre.enc.symm⟩
  have HB5 : Hid (Below w.heap.size w ((w2.alloc (.cells #[.int .i64 0, .int .i64 (-1), .int .i64 0, .int .i64 0, .bool false, .slice (some ⟨w1.heap.size + 1, 0, none⟩) 24 24] 29)).alloc (.cells #[.int .i64 0, .slice (some ⟨w.heap.size, 0, none⟩) 24 24] 52))) := hide ((b1.trans (b2.mono b1.size)).trans (b3.mono (by omega)))
  clear hs0 hs2 hbz b1 b2 b3 HO1 HO2 HG1 HG2 HS1 HS2 HR1 r0 r1
  generalize (w2.alloc (.cells #[.int .i64 0, .int .i64 (-1), .int .i64 0, .int .i64 0, .bool false, .slice (some ⟨w1.heap.size + 1, 0, none⟩) 24 24] 29)).alloc (.cells #[.int .i64 0, .slice (some ⟨w.heap.size, 0, none⟩) 24 24] 52) = W5 at *
  go_loopw [6, 7, 32] (fun vw vi i wr => ∃ (k : Nat) (gs : List Rl) (R : Nat → Rw) (X : Nat → Int) (V : Nat → Value) (N : Nat → Nat) (G : Nat → Nat → Int), k ≤ n ∧ i = .int .i64 k ∧ BkOk w.heap.size wr gs vw vi R X V N G ∧ Below w.heap.size w wr ∧ gs.length ≤ k + 1 ∧ (encQ gs).length ≤ 24 + 309 * k) (fun _ _ i _ => n - (intOf i).toNat)
  case atStart => exact ⟨0, _, _, _, _, _, _, Nat.zero_le _, rfl, HK0.out, HB5.out, Nat.le_refl _, by simp [encQ, Rl.enc]⟩
  case round =>
    obtain ⟨k, gs, R, X, V, N, G, hk, rfl, hK, hB, hgl, hel⟩ := hrel
    clear HK0 HB5
    obtain ⟨Aw, cw, hvw, _⟩ := hK.ow.rd
    obtain ⟨Ai, ci, hvi, _⟩ := hK.oi.row.rd
    subst hvw hvi
    have HK := hide hK
    have HB := hide hB
    have HGL := hide hgl
    have HEL := hide hel
    clear hK hB hgl hel
    by_cases hlt : k < n
    · have har := Ha.out.below HB.out
      obtain ⟨b, off, rfl, e0, e1, e2, e3, e4, e5⟩ := har.at_ hlt
      obtain ⟨hrd, hbyt, hfm⟩ := har.2.2.2.2 k hlt
      obtain ⟨hrw, _⟩ := Ha.out.2.2.2.2 k hlt
      have HRD := hide hrd
      have HBY := hide hbyt
      have HRW := hide hrw
      have hxn := hrd.1
      have hxn2 := hrd.2.1
      simp only [maxLen] at hxn2
      have hi0 : (0 : Int) ≤ (k : Int) := by omega
      have hi1 : (k : Int) < (n : Int) := by omega
      clear har hrd hbyt hfm hrw
      generalize hZ : F k = Z at *
      clear hZ
      obtain ⟨X0, X1, X2, X3, X4, XA, xn, Xc, xb⟩ := Z
      simp only at *
      have a9 := (Below.refl wr.heap.size wr).alloc (Nat.le_refl _) (.cells #[.int .i64 X0, .int .i64 X1, .int .i64 X2, .int .i64 X3, .bool X4, .slice XA xn Xc] 29)
      have HA9 := hide a9
      have HQ9 := hide (heap_alloc_new wr (.cells #[.int .i64 X0, .int .i64 X1, .int .i64 X2, .int .i64 X3, .bool X4, .slice XA xn Xc] 29))
      obtain ⟨q0, q1, q2, q3, q4, q5⟩ := row6c HQ9.out
      clear a9
      by_cases hlong : 300 < xn
      · go_wp2_with fail
        refine (HALIVE.out _ (HB.out.trans (HA9.out.mono HB.out.size))).mono ?_
        rintro e w9 ⟨rfl, hb9⟩
        have HB9 := hide hb9
        clear hb9
        go_wp2_with fail
        go_ret
        exact ⟨rfl, HB9.out⟩
      have hqr : w.heap.size ≤ wr.heap.size := HB.out.size
      have hqa : w.heap.size ≤ (wr.alloc (.cells #[.int .i64 X0, .int .i64 X1, .int .i64 X2, .int .i64 X3, .bool X4, .slice XA xn Xc] 29)).heap.size := Nat.le_trans hqr HA9.out.size
      have hvwlt : ∀ i, (Value.slice Aw gs.length cw).ownBlock = some i → i < wr.heap.size := fun i e => (World.ownsRow.lt HK.out.ow i e).2
      have HVW := hide hvwlt
      have hgl := HGL.out
      clear hvwlt
      by_cases hT : X1 = -1
      · subst hT
        go_wp2_with fail
        refine (rhbytes_pre X0 X2 X3 X4 XA xn Xc _).mono ?_
        rintro e wb ⟨rfl, hbb⟩
        have HKB := hide ((HK.out.below HA9.out).below hbb)
        have HBB := hide ((HB.out.trans (HA9.out.mono hqr)).trans (hbb.mono hqa))
        obtain ⟨r0, r1, r2, r3, r4, r5⟩ := row6c (keepRow HQ9.out hbb)
        clear hbb q0 q1 q2 q3 q4 q5
        go_wp2_with fail
        go_roundw
        case rel => exact ⟨k + 1, gs, R, X, V, N, G, by omega, by go_num, HKB.out, HBB.out, by have := HGL.out; omega, by have := HEL.out; omega⟩
        case measure => simp [intOf]; omega
      have dT : (X1 == -1) = false := by simpa using hT
      by_cases hH : HdR xn X1 X2 X3
      rotate_left
      · go_wp2_with fail
        refine (rhbytes_bad X0 X1 X2 X3 X4 XA xn Xc _ hT hH).mono ?_
        rintro e wb ⟨rfl, hbb⟩
        clear hT hH
        have HKB := hide ((HK.out.below HA9.out).below hbb)
        have HBB := hide ((HB.out.trans (HA9.out.mono hqr)).trans (hbb.mono hqa))
        obtain ⟨r0, r1, r2, r3, r4, r5⟩ := row6c (keepRow HQ9.out hbb)
        clear hbb q0 q1 q2 q3 q4 q5
        go_wp2_with fail
        go_roundw
        case rel => exact ⟨k + 1, gs, R, X, V, N, G, by omega, by go_num, HKB.out, HBB.out, by have := HGL.out; omega, by have := HEL.out; omega⟩
        case measure => simp [intOf]; omega
      by_cases hF : X0 = 0 ∨ X0 = 1
      rotate_left
      · have dF0 : (X0 != 0) = true := by simp; omega
        have dF1 : (X0 != 1) = true := by simp; omega
        have HH := hide hH
        clear hT hH hF
        go_wp2_with fail
        refine (rhbytes_own X0 X1 X2 X3 X4 XA xn Xc xb _ (HRD.out.below HA9.out) (by omega) HH.out).mono ?_
        rintro e wb ⟨Ab, cb, rfl, _, hbb⟩
        have HKB := hide ((HK.out.below HA9.out).below hbb)
        have HBB := hide ((HB.out.trans (HA9.out.mono hqr)).trans (hbb.mono hqa))
        obtain ⟨r0, r1, r2, r3, r4, r5⟩ := row6c (keepRow HQ9.out hbb)
        clear hbb q0 q1 q2 q3 q4 q5
        go_wp2_with fail
        go_roundw
        case rel => exact ⟨k + 1, gs, R, X, V, N, G, by omega, by go_num, HKB.out, HBB.out, by have := HGL.out; omega, by have := HEL.out; omega⟩
        case measure => simp [intOf]; omega
      have HH := hide hH
      have HF := hide hF
      have hx2 : ∀ (X0 : Int), X0 = 0 ∨ X0 = 1 → ((X0 != 0) = false ∧ X0 = 0) ∨ ((X0 != 0) = true ∧ (X0 != 1) = false) := fun X0 h => by
        rcases h with rfl | rfl
        · exact .inl ⟨rfl, rfl⟩
        · exact .inr ⟨rfl, rfl⟩
      rcases hx2 X0 hF with ⟨dF0, -⟩ | ⟨dF0, dF1⟩
      all_goals
        clear hT hH hF hx2
        go_wp2_with fail
        refine (rhbytes_own X0 X1 X2 X3 X4 XA xn Xc xb _ (HRD.out.below HA9.out) (by omega) HH.out).mono ?_
        rintro e wb ⟨Ab, cb, rfl, hown, hbb⟩
        have a10 := (Below.refl wb.heap.size wb).alloc (Nat.le_refl _) (.cells #[.int .i64 X0, .int .i64 X1, .int .i64 X2, .int .i64 X3, .bool X4, .slice XA xn Xc] 29)
        have HKB := hide (((HK.out.below HA9.out).below hbb).below a10)
        have HBB := hide (((HB.out.trans (HA9.out.mono hqr)).trans (hbb.mono hqa)).trans (a10.mono (Nat.le_trans hqa hbb.size)))
        have HOY := hide ((hown.low12 hqa).below a10)
        have HRX : Hid (RdV 6 (wb.alloc (.cells #[.int .i64 X0, .int .i64 X1, .int .i64 X2, .int .i64 X3, .bool X4, .slice XA xn Xc] 29)) (some ⟨wb.heap.size, 0, none⟩) 1 1 (rwV fun _ => ⟨X0, X1, X2, X3, X4, XA, xn, Xc, xb⟩)) := hide (rdV_raw (X := ⟨X0, X1, X2, X3, X4, XA, xn, Xc, xb⟩) (heap_alloc_new wb _))
        have HQB := hide (keepRow (keepRow HQ9.out hbb) a10)
        obtain ⟨r0, r1, r2, r3, r4, r5⟩ := row6c (keepRow HQ9.out hbb)
        have HRDB := hide (((HRD.out.below HA9.out).below hbb).below a10)
        have HRWB : Hid (0 < xn → ∀ a, XA = some a → a.block < w.heap.size + 3) := hide fun hn a e => by
          obtain ⟨b2, o2, hA, h1, _⟩ := HRW.out.block hn
          obtain rfl := Option.some.inj (e.symm.trans hA)
          have h2 : b2 < w.heap.size := h1
          show b2 < w.heap.size + 3
          omega
        have h3 := HKB.out.hq
        clear hown hbb a10 q0 q1 q2 q3 q4 q5
        go_wp2_with (first
          | (at_builtin; refine wp_appV rfl _ _ _ rfl 6 iR _ 64 Try.underlying61 hiR zR0 zR1 zR2 rfl (by omega) (w.heap.size + 3) (.slice Aw gs.length cw) gs.length (rwV R) rfl HKB.out.ow _ 1 1 (rwV fun _ => ⟨X0, X1, X2, X3, X4, XA, xn, Xc, xb⟩) rfl HRX.out (rwV_one _ _) (by simp only [maxLen]; omega) (by omega) h3 ?_; intro v7 w7 h7 hg7 hb7; have HQ7 := hide ((hg7.block _ (rowLt HQB.out) (fun e => by have := HVW.out _ e.symm; omega)).trans HQB.out); have HP8 := hide (BkOk.mid HKB.out hg7 ((Below.refl w7.heap.size w7).alloc (Nat.le_refl _) (.cells #[.int .i64 X0, .slice Ab (9 + xn) cb] 52))); have hs8 : w.heap.size ≤ (w7.alloc (.cells #[.int .i64 X0, .slice Ab (9 + xn) cb] 52)).heap.size := (Nat.le_trans (Nat.le_trans (by omega) h3) (Nat.le_trans hg7.size (by simp))); have H7 := hide h7; have G7 := hide hg7; obtain ⟨A7, c7, rfl, _, _⟩ := h7.rd; clear h7 hg7 hb7 r0 r1 r2 r3 r4 r5; obtain ⟨r0, r1, r2, r3, r4, r5⟩ := row6c HQ7.out)
          | (at_builtin; refine wp_appV rfl _ _ _ rfl 2 iC _ 32 Try.underlying69 hiC zC0 zC1 zC2 rfl (by omega) w.heap.size (.slice Ai gs.length ci) gs.length _ rfl HP8.out.row _ 1 1 _ rfl (RdV.litK _ X0 _) (fun i _ => by unfold litC2; split <;> rfl) (by simp only [maxLen]; omega) (by omega) hs8 ?_; intro v8 w8 h8 hg8 hb8; obtain ⟨A8, c8, rfl, _, _⟩ := h8.rd; have H8 := hide h8; have G8 := hide hg8; have B8 := hide hb8; clear h8 hg8 hb8))
        have hm := xOf_enc (R := ⟨X0, X1, X2, X3, X4, XA, xn, Xc, xb⟩) HH.out
        have hml := congrArg List.length hm
        simp only [List.length_map, List.length_range] at hml
        have hok : (xOf ⟨X0, X1, X2, X3, X4, XA, xn, Xc, xb⟩).Ok X0 := ⟨rfl, by show HdR (((List.range xn).map xb).length : Int) X1 X2 X3; simpa using HH.out⟩
        have hbc : Byt (9 + xn) (catF 9 (hdF xn X1 X2 (hdX X3 X4)) xb) := fun i hi => by
          unfold catF
          split
          · rename_i h9; exact hdF_byt _ _ _ _ i h9
          · exact HBY.out _ (by omega)
        have HK8 := hide (HKB.out.more HF.out hok (byl_of HBY.out) (xOf_is HRDB.out) HRWB.out HOY.out hm hbc H7.out G7.out ((Below.refl w7.heap.size w7).alloc (Nat.le_refl _) (.cells #[.int .i64 X0, .slice Ab (9 + xn) cb] 52)) H8.out G8.out B8.out)
        have HB8 : Hid (Below w.heap.size w w8) := hide (((HBB.out.grown G7.out HBB.out.size (fun j e => by have := (World.ownsRow.lt HKB.out.ow j e).1; omega)).alloc (by have := G7.out.size; omega) (.cells #[.int .i64 X0, .slice Ab (9 + xn) cb] 52)).grown G8.out hs8 (fun j e => by have := HKB.out.hvi j e; omega))
        go_roundw
        case rel => exact ⟨k + 1, gs ++ [xOf ⟨X0, X1, X2, X3, X4, XA, xn, Xc, xb⟩], _, _, _, _, _, by omega, by go_num, HK8.out, HB8.out, by rw [List.length_append]; simp; omega, by rw [encQ_snoc, List.length_append, List.length_map, ← hml]; have := HEL.out; omega⟩
        case measure => simp [intOf]; omega
    · obtain rfl : k = n := by omega
      obtain ⟨A5, c5, F5, hv5, hr5, hf5⟩ := HK.out.oi.rd HK.out.hby
      injection hv5 with e1 e2 e3
      subst e1 e3
      have hfl : flK F5 gs.length = encQ gs := by
        have h1 := flF_encQ HK.out.bi gs.length (Nat.le_refl _)
        rw [List.take_length] at h1
        rw [← h1]
        exact flF_congr _ fun i hi => ⟨(hf5 i hi).1, (hf5 i hi).2.1, fun j _ => by rw [(hf5 i hi).2.2]⟩
      have hft : ∀ i, i < gs.length → (F5 i).from_ = 0 ∨ (F5 i).from_ = 1 := fun i hi => by
        rw [(hf5 i hi).1]
        have hx : gs[i]? = some gs[i] := List.getElem?_eq_getElem hi
        rw [(HK.out.bi i _ hx).1]
        exact HK.out.fm _ (List.getElem_mem hi)
      have hsum : sumC F5 gs.length ≤ 20000 := by
        rw [← flK_len, hfl]
        have := HEL.out
        omega
      have HFL := hide hfl
      have HFT := hide hft
      have HR5 := hide hr5
      have hgl := HGL.out
      have HSm := hide (HS.out.below HB.out)
      have HOUT : Hid (RwsR wr Aw gs.length cw gs) := hide ⟨R, by
        obtain ⟨A', c', e, h1, _⟩ := HK.out.ow.rd
        injection e with e1 e2 e3
        subst e1 e3
        exact h1, rfl, fun i x hx => (HK.out.bw i x hx).1⟩
      have HBR := hide HK.out.br
      clear hfl hft hf5 hr5
      go_wp2_with fail
      refine (rct12 Ai S gs.length ci d dc F5 g _ HR5.out HSm.out (by omega) hsum (by have := HD.out; omega) Hg.out HFT.out).mono ?_
      rintro e w5 ⟨A6, c6, m6, F6, rfl, hr6, hfl6, hft6, hm6, hb6⟩
      have HC6 := hide hr6
      have HF6 := hide hfl6
      have HT6 := hide hft6
      have HM6 := hide hm6
      have HB6 := hide (HB.out.trans (hb6.mono HB.out.size))
      have HO6 := hide (HOUT.out.below hb6)
      clear hr6 hfl6 hft6 hm6 hb6
      go_wp2_with fail
      refine (all12 A6 m6 c6 F6 _ HC6.out HT6.out HM6.out (by rw [AllP.sum HF6.out]; omega)).mono ?_
      rintro e w7 ⟨A7, c7, gs7, x7, y7, rfl, hgs7, hx7, hy7, hr7, hb7⟩
      rw [HF6.out, HFL.out] at hgs7 hx7 hy7
      rw [HBR.out.out] at hgs7
      obtain rfl : x7 = 0 := by rw [hx7, HBR.out.left.1]; rfl
      obtain rfl : y7 = 0 := by rw [hy7, HBR.out.left.2]; rfl
      obtain rfl : gs = gs7 := hgs7.symm
      have HB7 := hide (HB6.out.trans (hb7.mono HB6.out.size))
      have HO7 := hide (HO6.out.below hb7)
      have b8 := (Below.refl w7.heap.size w7).alloc (Nat.le_refl _) (.cells #[.int .i64 0, .int .i64 0] 71)
      have HQ8 := hide (heap_alloc_new w7 (.cells #[.int .i64 0, .int .i64 0] 71))
      have HB8 := hide (HB7.out.trans (b8.mono HB7.out.size))
      have HO8 := hide (HO7.out.below b8)
      have HR8 := hide (hr7.below b8)
      clear hgs7 hx7 hy7 hr7 hb7 b8
      go_wp2_with fail
      refine (rall07 _ _ _ _ _ _ gs _ HR8.out HO8.out).mono ?_
      rintro e w9 ⟨rfl, hb9⟩
      have HB9 := hide (HB8.out.trans (hb9.mono HB8.out.size))
      obtain ⟨k0, k1⟩ := row2 (keepRow HQ8.out hb9)
      have eq2 := eqTwo12 0 0
      clear hb9
      go_wp2_with fail
      refine (HALIVE.out _ HB9.out).mono ?_
      rintro e w10 ⟨rfl, hb10⟩
      have HB10 := hide hb10
      clear hb10
      go_wp2_with fail
      go_ret
      exact ⟨rfl, HB10.out⟩
end Go.Proofs.Ytpnjamomkpkkeaa
