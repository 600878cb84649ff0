/- Layer 17: Decode, the reference's: the whole. -/
import Derived.Test.YteijpklepgenbaaHuD
namespace Go.Proofs.Yteijpklepgenbaa
open Go.RowKit

def DcdE (f : Nat → Int) (n : Nat) (w : World) (e : Ending) (w' : World) : Prop :=
  ∃ v m h er, e = .returned (.tuple #[v, .int .i64 er]) ∧ Own .u8 5 w.heap.size w' v m h ∧ Dcd (bitF f) (8 * n) m h er ∧ Below w.heap.size w w'
theorem DcdE.bad {f : Nat → Int} {n k : Nat} {p s : Nat → Nat} {w w' : World} {er : Int} (hc : Chn (bitF f) (8 * n) k p s) (h : (er = 10 ∧ (∀ S, ¬ Mt (bitF f) (8 * n) (p k) S) ∧ ¬ (8 * n - p k ≤ 7 ∧ ∀ i, p k ≤ i → i < 8 * n → bitF f i = 1)) ∨ (er = 11 ∧ Mt (bitF f) (8 * n) (p k) 256)) (hb : Below w.heap.size w w') :
    DcdE f n w (.returned (.tuple #[.slice none 0 0, .int .i64 er])) w' :=
  ⟨_, 0, fun _ => 0, er, rfl, Own.nil _ _ _ _ _, ⟨k, p, s, hc, by
    rcases h with ⟨rfl, h1, h2⟩ | ⟨rfl, h1⟩
    · exact .inr (.inl ⟨rfl, rfl, h1, h2⟩)
    · exact .inr (.inr ⟨rfl, rfl, h1⟩)⟩, hb⟩
def sliceN : Value → Nat
  | .slice _ n _ => n
  | _ => 0
theorem mt_shift {g : Nat → Int} {N t S : Nat} (h : t ≤ N) : Mt (fun i => g (t + i)) (N - t) 0 S ↔ Mt g N t S := by
  unfold Mt
  rw [bnum_zero (fun i => g (t + i))]
  constructor
  · rintro ⟨a, b, c⟩
    exact ⟨a, by omega, c⟩
  · rintro ⟨a, b, c⟩
    exact ⟨a, by omega, c⟩
theorem bitF_bits (f : Nat → Int) (N : Nat) : Bits (bitF f) N := fun i _ => bitF_bd i
set_option maxRecDepth 20000 in
set_option maxHeartbeats 3200000 in
theorem rdecode_any (A : Option Addr) (n c : Nat) (f : Nat → Int) (w : World) (ha : Rd .u8 w A n c f) (hf : Byt n f) (hn : n ≤ 1000) :
    Calls Try.prog 19 #[.slice A n c] w (DcdE f n w) := by
  obtain ⟨i0, hi, hz0, hz1, hz2⟩ := info_parts c8_info
  have Ha := hide ha
  have Hf := hide hf
  clear ha hf
  go_enter Try.func19, Try.ntmps19
  go_wp2_with fail
  refine (rbits_any A n c f _ Ha.out Hf.out (by omega)).mono ?_
  rintro e w1 ⟨v1, rfl, ho1, hb1⟩
  obtain ⟨A1, c1, rfl, hr1, _⟩ := ho1.rd
  have Hr1 := hide hr1
  have HB1 := hide hb1
  clear ho1 hr1 hb1
  go_wp2_with fail
  refine (codes_any _).mono ?_
  rintro e w2 ⟨v2, rfl, ho2, hb2⟩
  obtain ⟨C, cc, rfl, hr2, _⟩ := ho2.rd
  have Hc2 := hide hr2
  have Hr2 := hide (Hr1.out.below hb2)
  have HB2 := hide (HB1.out.of hb2)
  clear ho2 hr2 hb2
  go_wp2_with fail
  refine (lens_any _).mono ?_
  rintro e w3 ⟨v3, rfl, ho3, hb3⟩
  obtain ⟨D, dc, rfl, hr3, _⟩ := ho3.rd
  have Hd3 := hide hr3
  have Hc3 := hide (Hc2.out.below hb3)
  have Hr3 := hide (Hr2.out.below hb3)
  have HB3 := hide (HB2.out.of hb3)
  have hs3 := HB3.out.size
  clear ho3 hr3 hb3
  go_wp2_with fail
  go_loopw [4, 7] (fun bs out wr => ∃ (k : Nat) (p s : Nat → Nat) (E : Option Addr) (ec : Nat), Chn (bitF f) (8 * n) k p s ∧ bs = .slice E (8 * n - p k) ec ∧ Rd .i64 w3 E (8 * n - p k) ec (fun i => bitF f (p k + i)) ∧ Own .u8 5 w3.heap.size wr out k (fun i => (s i : Int)) ∧ Below w3.heap.size w3 wr) (fun bs _ _ => sliceN bs)
  case atStart => exact ⟨0, fun _ => 0, fun _ => 0, A1, c1, ⟨rfl, fun i hi => by omega⟩, rfl, Hr3.out.congr (fun i _ => by rw [Nat.zero_add]), Own.nil _ _ _ _ _, Below.refl _ _⟩
  case round =>
    obtain ⟨k, p, s, E, ec, hch, rfl, hbs, hown, hB⟩ := hrel
    have Hch := hide hch
    have Hbs := hide hbs
    have Hown := hide hown
    have HB := hide hB
    have hsz := hB.size
    obtain ⟨hp1, hp2⟩ := hch.pos k (Nat.le_refl _)
    clear hch hbs hown
    have Hsh : Hid (∀ S, Mt (fun i => bitF f (p k + i)) (8 * n - p k) 0 S ↔ Mt (bitF f) (8 * n) (p k) S) := fun S => mt_shift hp1
    have hk5 : k ≤ 8 * n := by omega
    obtain ⟨M, hM⟩ : ∃ M, 8 * n - p k = M := ⟨_, rfl⟩
    have HM := hide hM
    rw [hM] at Hbs Hsh ⊢
    have hMn : M ≤ 8000 := by omega
    clear hM
    go_wp2_with fail
    refine (begins_any E C D M ec cc dc _ _ (Hbs.out.below hB) (fun i _ => bitF_bd _) (Hc3.out.below hB) (Hd3.out.below hB) (by omega)).mono ?_
    rintro e w4 ⟨rfl, hcase⟩
    clear hB
    rcases hcase with ⟨S, hMt, rfl⟩ | ⟨hno, rfl⟩
    · have HMt := hide ((Hsh.out S).1 hMt)
      have hS := hMt.1
      have hlM : len S ≤ M := by have := hMt.2.1; omega
      have hl5 := (len_bd S hS).1
      clear hMt
      by_cases h256 : S = 256
      · subst h256
        obtain ⟨L, hL⟩ : ∃ L, len 256 = L := ⟨_, rfl⟩
        rw [hL]
        clear hL hlM hl5
        go_wp2_with fail
        go_ret2
        exact DcdE.bad Hch.out (.inr ⟨rfl, HMt.out⟩) (HB3.out.of HB.out)
      · have d1 : ((S : Int) == 256) = false := by simp; omega
        have d2 : decide ((S : Int) < 0) = false := decide_eq_false (by omega)
        have s0 : (0 : Int) ≤ (S : Int) := by omega
        have s1 : (S : Int) ≤ 255 := by omega
        obtain ⟨L, hL⟩ : ∃ L, len S = L := ⟨_, rfl⟩
        have HL := hide hL
        rw [hL] at hlM hl5 ⊢
        clear hL
        have hcut := fun W => cut_l (P := Try.prog) 52 3 Try.underlying52 (by kernel_rfl) (by kernel_rfl) E M ec L hlM .i64 W
        go_wp2_with (at_builtin; refine wp_app rfl (.tmp 26) (.tmp 29) _ rfl i0 0 1 Try.underlying24 hi hz0 hz1 hz2 w3.heap.size _ k _ rfl (Hown.out.alloc _) _ 1 1 _ rfl (Rd.one .u8 5 _ _) (by simp only [maxLen]; omega) (by omega) (by simp; omega) ?_; intro v5 w5 hown5 hg5)
        have hb5 : Below w3.heap.size w3 w5 := (HB.out.alloc hsz _).grown hg5 (by simp; omega) (fun j e => (World.ownsRow.lt Hown.out j e).1)
        have Hch' : Hid (Chn (bitF f) (8 * n) (k + 1) (fun i => if i ≤ k then p i else p k + len S) (fun i => if i < k then s i else S)) := Hch.out.more HMt.out (by omega)
        have hpk : (if k + 1 ≤ k then p (k + 1) else p k + len S) = p k + L := by rw [if_neg (by omega), HL.out]
        have hN : 8 * n - (if k + 1 ≤ k then p (k + 1) else p k + len S) = M - L := by have := HM.out; omega
        refine ⟨⟨k + 1, _, _, cutA E ec L, ec - L, Hch'.out, by rw [hN], ?_, hown5.congr (fun i hi => ?_), hb5⟩, ?_⟩
        · rw [hN]
          refine ((Hbs.out.cutR (lo := L) (hi := M) hlM (Nat.le_refl _)).congr fun i _ => ?_)
          show bitF f (p k + (L + i)) = bitF f ((if k + 1 ≤ k then p (k + 1) else p k + len S) + i)
          rw [hpk, Nat.add_assoc]
        · by_cases h : i < k
          · simp [catF, h]
          · simp [catF, oneF, h]
        · show M - L < M
          omega
    · have Hno : Hid (∀ S, ¬ Mt (bitF f) (8 * n) (p k) S) := fun S hS => hno S ((Hsh.out S).2 hS)
      clear hno
      by_cases h7 : 7 < M
      · have d1 : decide ((7 : Int) < (M : Int)) = true := decide_eq_true (by omega)
        have hbad : Hid (¬ (8 * n - p k ≤ 7 ∧ ∀ i, p k ≤ i → i < 8 * n → bitF f i = 1)) := fun h => by have := HM.out; omega
        clear h7
        go_wp2_with fail
        go_ret2
        exact DcdE.bad Hch.out (.inl ⟨rfl, Hno.out, hbad.out⟩) (HB3.out.of HB.out)
      · have d1 : decide ((7 : Int) < (M : Int)) = false := decide_eq_false (by omega)
        have hbs := Hbs.out.below HB.out
        have Hb2 := hide hbs
        clear hbs
        go_wp2_with fail
        go_loop [10] (fun i => ∃ q : Nat, q ≤ M ∧ i = .int .i64 q ∧ ∀ j, j < q → bitF f (p k + j) = 1) (fun i => M - (intOf i).toNat)
        case atStart => exact ⟨0, Nat.zero_le _, rfl, fun j hj => by omega⟩
        case round =>
          obtain ⟨q, hq, rfl, hall⟩ := hrel
          have Hall := hide hall
          clear hall
          by_cases hlt : q < M
          · obtain ⟨b, off, rfl, hc⟩ := Hb2.out.at_ hlt
            have hqM : (q : Int) < (M : Int) := by omega
            obtain ⟨x, hX⟩ : ∃ x, bitF f (p k + q) = x := ⟨_, rfl⟩
            have HX := hide hX
            have hbd := bitF_bd (f := f) (p k + q)
            rw [hX] at hc hbd
            clear hX
            by_cases hx : x = 0
            · have t1 : (x == 0) = true := by simpa using hx
              have hbad : Hid (¬ (8 * n - p k ≤ 7 ∧ ∀ i, p k ≤ i → i < 8 * n → bitF f i = 1)) := fun h => by
                have := h.2 (p k + q) (by omega) (by have := HM.out; omega)
                rw [HX.out] at this
                omega
              clear hx
              go_wp2_with fail
              go_ret2
              exact DcdE.bad Hch.out (.inl ⟨rfl, Hno.out, hbad.out⟩) (HB3.out.of HB.out)
            · have t1 : (x == 0) = false := by simpa using hx
              have HA : Hid (∀ j, j < q + 1 → bitF f (p k + j) = 1) := fun j hj => by
                by_cases e : j = q
                · subst e; rw [HX.out]; omega
                · exact Hall.out j (by omega)
              clear hx
              go_wp2_with fail
              exact ⟨⟨q + 1, by omega, by go_num, HA.out⟩, by simp [intOf]; omega⟩
          · obtain rfl : q = M := by omega
            go_wp2_with fail
            go_ret2
            refine ⟨_, k, _, 0, rfl, Own.baseB Hown.out hs3, ⟨k, p, s, Hch.out, .inl ⟨rfl, rfl, fun i _ => rfl, Hno.out, by have := HM.out; omega, fun i hi1 hi2 => ?_⟩⟩, HB3.out.of HB.out⟩
            have := Hall.out (i - p k) (by have := HM.out; omega)
            rw [show p k + (i - p k) = i by omega] at this
            exact this
end Go.Proofs.Yteijpklepgenbaa
