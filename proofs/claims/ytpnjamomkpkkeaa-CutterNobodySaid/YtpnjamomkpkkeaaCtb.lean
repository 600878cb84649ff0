/- Layer 12: a cutter that is not there cuts nothing; one that nobody made cuts as a new one. -/
import Derived.Test.YtpnjamomkpkkeaaCta
namespace Go.Proofs.Ytpnjamomkpkkeaa
set_option linter.unusedVariables false
set_option linter.unusedSimpArgs false
open Go.RowKit

/-- What a new cutter answers to one piece. -/
def NewR (x : Int) (M : List Int) (gs : List Rl) (z : Int) : Prop := gs = (if x = 0 ∨ x = 1 then frs x M else []) ∧ z = (if x = 0 ∨ x = 1 then 0 else 1)
theorem NewR.same {x : Int} {M : List Int} {gs hs : List Rl} {y z : Int} (h : NewR x M gs y) (k : NewR x M hs z) : gs = hs ∧ y = z := ⟨h.1.trans k.1.symm, h.2.trans k.2.symm⟩
def FeedN (x : Int) (p : Nat) (M : List Int) (w : World) (e : Ending) (w' : World) : Prop :=
  ∃ (gs : List Rl) (A : Option Addr) (c : Nat) (z : Int), NewR x M gs z ∧ e = .returned (.tuple #[.slice A gs.length c, .int .i64 z]) ∧ RwsR w' A gs.length c gs ∧ FrQ (fun i => i = p) w w'
theorem feedN12 (x : Int) (p : Nat) (M : List Int) (A : Option Addr) (c : Nat) (w : World) (h : w.heap[p]? = some zeroCt) (hM : ByL M) (hr : Rd .u8 w A M.length c (lyF M)) (hA : 0 < M.length → ∀ a, A = some a → a.block ≠ p) (hsz : M.length ≤ 1000) :
    Calls Try.prog 26 #[.pointer (some ⟨p, 0, none⟩), .agg #[.int .i64 x, .slice A M.length c]] w (FeedN x p M w) := by
  by_cases hx : x = 0 ∨ x = 1
  · have hc := ctOk_zero (B := 0) h (Nat.zero_le _)
    have hN : NewR x M (frs x M) 0 := by unfold NewR; rw [if_pos hx, if_pos hx]; exact ⟨rfl, rfl⟩
    rcases hx with rfl | rfl
    · refine (feedF0 hc M A c hM hr (fun hn a e => ⟨fun e2 => (by cases e2), hA hn a e⟩) (by show 0 + M.length ≤ 10000000; omega)).mono ?_
      rintro e W ⟨t, u, ve, F, rfl, hC, hq, hu, hO⟩
      have e2 : (frs 0 ([] ++ M)).drop (frs 0 []).length = frs 0 M := by rw [List.nil_append, frs_nil]; rfl
      rw [e2] at hO
      obtain ⟨Ae, ce, rfl, hR⟩ := hO.rws
      exact ⟨_, Ae, ce, 0, hN, rfl, hR, hq.wide fun i _ e => e.elim id fun e => (by cases e)⟩
    · refine (feedF1 hc M A c hM hr (fun hn a e => ⟨fun e2 => (by cases e2), hA hn a e⟩) (by show 0 + M.length ≤ 10000000; omega)).mono ?_
      rintro e W ⟨t, u, ve, F, rfl, hC, hq, hu, hO⟩
      have e2 : (frs 1 ([] ++ M)).drop (frs 1 []).length = frs 1 M := by rw [List.nil_append, frs_nil]; rfl
      rw [e2] at hO
      obtain ⟨Ae, ce, rfl, hR⟩ := hO.rws
      exact ⟨_, Ae, ce, 0, hN, rfl, hR, hq.wide fun i _ e => e.elim id fun e => (by cases e)⟩
  · have hN : NewR x M [] 1 := by unfold NewR; rw [if_neg hx, if_neg hx]; exact ⟨rfl, rfl⟩
    refine (feedNo12 x A M.length c p w hx).mono ?_
    rintro e W ⟨rfl, hb⟩
    exact ⟨[], none, 0, 1, hN, rfl, ⟨default, ⟨Nat.le_refl _, by simp [maxLen], fun _ => rfl, fun h => absurd h (Nat.lt_irrefl _)⟩, rfl, fun i x hx => by simp at hx⟩, FrQ.ofBelow _ hb⟩
set_option maxRecDepth 20000 in
set_option maxHeartbeats 1600000 in
theorem nobody_walk12 (x : Int) (A : Option Addr) (n c : Nat) (f : Nat → Int) (w : World) (ha : Rd .u8 w A n c f) (hb : Byt n f) : Calls Try.prog 6 #[.agg #[.int .i64 x, .slice A n c]] w (Yes w) := by
  have a0 := (Below.refl w.heap.size w).alloc (Nat.le_refl _) (.cells #[.int .i64 x, .slice A n c] 52)
  have R0 := heap_alloc_new w (.cells #[.int .i64 x, .slice A n c] 52)
  obtain ⟨r0, r1⟩ := row2 R0
  have hn63 : n ≤ 9223372036854775807 := by have h1 := ha.1; have h2 := ha.2.1; simp only [maxLen] at h2; omega
  have A0 := hide a0
  have HS0 : Hid ((w.alloc (.cells #[.int .i64 x, .slice A n c] 52)).heap.size = w.heap.size + 1) := hide (by simp)
  have HR0 := hide R0
  have HA := hide ha
  have HBY := hide hb
  clear a0 R0 ha hb
  by_cases hbig : 1000 < n
  · go_enter Try.func6, Try.ntmps6
    go_wp2_with fail
    refine (alive12 _).mono ?_
    rintro e w' ⟨rfl, hb⟩
    have hB := A0.out.trans (hb.mono A0.out.size)
    clear hb
    go_wp2_with fail
    go_ret
    exact ⟨rfl, hB⟩
  · obtain ⟨M, hM⟩ : ∃ M, (List.range n).map f = M := ⟨_, rfl⟩
    have hlen : M.length = n := by rw [← hM]; simp
    have hByM : ByL M := by rw [← hM]; exact byl_of HBY.out
    have hRd : Rd .u8 w A M.length c (lyF M) := by
      rw [hlen]
      exact HA.out.congr fun i hi => by rw [← hM]; exact (lyF_map hi).symm
    subst hlen
    have hlt : 0 < M.length → ∀ a, A = some a → a.block < w.heap.size := fun hn a ha => by
      obtain ⟨b, off, hA, h1, _⟩ := hRd.block hn
      obtain rfl := Option.some.inj (ha.symm.trans hA)
      exact h1
    have a1 := A0.out.alloc A0.out.size zeroCt
    have c1 := (Below.refl (w.alloc (.cells #[.int .i64 x, .slice A M.length c] 52)).heap.size (w.alloc (.cells #[.int .i64 x, .slice A M.length c] 52))).alloc (Nat.le_refl _) zeroCt
    have z1 : ((w.alloc (.cells #[.int .i64 x, .slice A M.length c] 52)).alloc zeroCt).heap[w.heap.size + 1]? = some zeroCt := by
      have h1 := heap_alloc_new (w.alloc (.cells #[.int .i64 x, .slice A M.length c] 52)) zeroCt
      rw [HS0.out] at h1
      exact h1
    have q1 := keepRow HR0.out c1
    have s1 : ((w.alloc (.cells #[.int .i64 x, .slice A M.length c] 52)).alloc zeroCt).heap.size = w.heap.size + 2 := by simp
    have HA1 := hide a1
    have HZ1 := hide z1
    have HQ1 := hide q1
    have HS1 := hide s1
    have HRD1 := hide (hRd.below a1)
    have HLT := hide hlt
    have HM := hide hByM
    have hsz : M.length ≤ 1000 := by omega
    clear hM HBY HA a1 c1 z1 q1 s1 hRd hlt hByM HR0 r0 r1 A0 HS0
    go_enter Try.func6, Try.ntmps6
    go_wp2_with fail
    generalize hW1 : (w.alloc (.cells #[.int .i64 x, .slice A M.length c] 52)).alloc zeroCt = W1 at *
    generalize hp : w.heap.size = q at *
    clear hW1
    refine (feedNil12 x A M.length c _).mono ?_
    rintro e w2 ⟨rfl, hb2⟩
    have HS2 := hide hb2.size
    have hq1 : q ≤ W1.heap.size := by rw [← hp]; exact HA1.out.size
    have HA2 := hide (HA1.out.trans (hb2.mono hq1))
    have HZ2 := hide (keepRow HZ1.out hb2)
    have HQ2 := hide (keepRow HQ1.out hb2)
    have HRD2 := hide (HRD1.out.below hb2)
    clear hb2
    obtain ⟨r0, r1⟩ := row2 HQ2.out
    go_wp2_with fail
    refine (feedN12 x (q + 1) M A c w2 HZ2.out HM.out HRD2.out (fun hn a e => by have := HLT.out hn a e; omega) hsz).mono ?_
    rintro e w3 ⟨gs, Az, cz, z, hz, rfl, hRz, hq3⟩
    have hB3 : Below q w w3 := HA2.out.trans (hq3.bel (Nat.le_trans (by have := HS1.out; omega) HS2.out) fun i _ e => by omega)
    have HQ3 := hide (hq3.row HQ2.out (by show ¬ q = q + 1; omega))
    have HRD3 := hide (HRD2.out.frQ hq3 fun hn a e => by have := HLT.out hn a e; show ¬ a.block = q + 1; omega)
    have HS3 := hide hq3.size
    have HB3 := hide hB3
    have HRz := hide hRz
    have HZZ := hide hz
    clear hq3 hB3 hRz hz r0 r1
    obtain ⟨r0, r1⟩ := row2 HQ3.out
    go_wp2_with fail
    have c4 := (Below.refl w3.heap.size w3).alloc (Nat.le_refl _) zeroCt
    have z4 := heap_alloc_new w3 zeroCt
    have HQ4 := hide (keepRow HQ3.out c4)
    have HRz4 := hide (HRz.out.below c4)
    have hq0 : q ≤ w3.heap.size := by rw [← hp]; exact HB3.out.size
    have hqs : q < w3.heap.size := rowLt HQ3.out
    have HB4 := hide (HB3.out.trans (c4.mono hq0))
    have HF := hide (feedN12 x w3.heap.size M A c (w3.alloc zeroCt).drew z4 HM.out ((HRD3.out.below c4).drew) (fun hn a e => by have := HLT.out hn a e; omega) hsz)
    have HQS := hide hqs
    clear c4 z4 hq0 hqs
    go_region_held3 (fun V => V.cell? ⟨q, 0, none⟩ = some (.int .i64 x) ∧ V.cell? ⟨q, 1, none⟩ = some (.slice A M.length c)) (go_keep) (first
      | ((with_reducible refine (new12 _).mono ?_); (rintro e w' ⟨rfl, rfl⟩))
      | ((with_reducible refine HF.out.mono ?_); (rintro e w5 ⟨gs5, A5, c5, z5, hz5, rfl, hR5, hq5⟩); (have hQ5 := hq5.row (p := q) HQ4.out (by have := HQS.out; show ¬ q = w3.heap.size; omega)); (obtain ⟨k0, k1⟩ := row2 hQ5)))
    obtain ⟨e1, e2⟩ := NewR.same HZZ.out hz5
    subst e1 e2
    have b5 : Below w3.heap.size w3 w5 := ((Below.refl w3.heap.size w3).alloc (Nat.le_refl _) zeroCt).trans ((show Below w3.heap.size (w3.alloc zeroCt) (w3.alloc zeroCt).drew from ⟨rfl, rfl, rfl, Nat.le_refl _, fun _ _ => rfl⟩).trans (hq5.bel (by show w3.heap.size ≤ (w3.alloc zeroCt).heap.size; simp) fun i _ e => Nat.le_of_eq e.symm))
    have HR6 := hide (HRz.out.below b5)
    have HR5 := hide hR5
    have HB5 : Hid (Below q w w5) := hide (HB3.out.trans (b5.mono (by rw [← hp]; exact HB3.out.size)))
    have HQ5 := hide (by rw [← hp]; exact HB5.out.size : q ≤ w5.heap.size)
    clear b5 hR5 hq5 hz5 k0 k1 hQ5
    go_wp2_with fail
    refine (leftNil12 0 _).mono ?_
    rintro e w6 ⟨rfl, rfl⟩
    go_wp2_with fail
    refine (leftNil12 1 _).mono ?_
    rintro e w6 ⟨rfl, rfl⟩
    go_wp2_with fail
    refine (rall07 _ _ _ _ _ _ gs _ HR6.out HR5.out).mono ?_
    rintro e w6 ⟨rfl, hb6⟩
    have hB6 := HB5.out.trans (hb6.mono HQ5.out)
    have HB6 := hide hB6
    have HQ6 := hide (Nat.le_trans HQ5.out hb6.size)
    clear hb6 hB6
    go_wp2_with fail
    refine (alive12 _).mono ?_
    rintro e w7 ⟨rfl, hb7⟩
    have hB7 := HB6.out.trans (hb7.mono HQ6.out)
    clear hb7
    go_wp2_with fail
    go_ret
    exact ⟨rfl, by rw [hp]; exact hB7⟩
end Go.Proofs.Ytpnjamomkpkkeaa
