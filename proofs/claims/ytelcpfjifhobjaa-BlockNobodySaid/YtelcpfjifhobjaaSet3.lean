/- Layer 13: alive; the contracts of 'setting.Put' and of its reference. -/
import Derived.Test.YtelcpfjifhobjaaSet2
namespace Go.Proofs.Ytelcpfjifhobjaa
set_option linter.unusedVariables false
set_option linter.unusedSimpArgs false
open Go.RowKit

theorem results_cellS {fn : Func} {p : Tmp} {ty : TypeId} (h : fn.results = #[.cell p ty]) (tmps : Array Value) (P : Program) (w : World) :
    (results fn tmps).run P w = ((asAddr (tmps.getD p undef)).run P w).andThen fun a w' => (loadVar ty a).run P w' := by
  simp [results, h]
abbrev ini : Value := .agg #[.int .i64 4096, .int .i64 1, .int .i64 4294967296, .int .i64 65535, .int .i64 16384, .int .i64 4294967296]
def lit6 : Nat → Int := fun i => if i = 1 then 5 else if i = 4 then 64 else 0
theorem lit6_byt : Byt 6 lit6 := by intro i _; unfold lit6; repeat' split <;> omega
theorem Rd.litS (w : World) (cs : Array Value) (n : Nat) (f : Nat → Int) (hn : n ≤ maxLen) (h : cs.toList = row .u8 n f) {b : Nat} (hb : b = w.heap.size) : Rd .u8 (w.alloc (.cells cs 5)) (some ⟨b, 0, none⟩) n n f := by
  subst hb
  exact (Own.lit .u8 5 0 w f cs n (Nat.zero_le _) hn h).rdS
/-! ### Put -/
def okS (F G : Nat → Int) (i : Nat) : Prop := (0 ≤ F i ∧ F i < 65536) ∧ (0 ≤ G i ∧ G i < 4294967296)
instance okS_dec (F G : Nat → Int) (i : Nat) : Decidable (okS F G i) := by unfold okS; infer_instance
/-- The bytes of settings. -/
def sB (F G : Nat → Int) (j : Nat) : Int := if j % 6 < 2 then byteAt (F (j / 6)) 2 (j % 6) else byteAt (G (j / 6)) 4 (j % 6 - 2)
theorem sB_app (F G : Nat → Int) (k : Nat) : ∀ i, i < k * 6 + 6 → catF (k * 6) (sB F G) (putF 2 (putF 0 (oneF 0) 2 (F k)) 4 (G k)) i = sB F G i := by
  intro i hi
  by_cases h : i < k * 6
  · simp [catF, h]
  · have e1 : i / 6 = k := by omega
    have e2 : i % 6 = i - k * 6 := by omega
    have e3 : catF (k * 6) (sB F G) (putF 2 (putF 0 (oneF 0) 2 (F k)) 4 (G k)) i = putF 2 (putF 0 (oneF 0) 2 (F k)) 4 (G k) (i - k * 6) := by simp [catF, h]
    rw [e3]
    unfold sB
    rw [e1, e2]
    by_cases h2 : i - k * 6 < 2
    · simp [putF, catF, h2]
    · simp [putF, catF, h2]
theorem sB_app2 (F G : Nat → Int) (k : Nat) : ∀ i, i < k * 6 + 2 + 4 → catF (k * 6 + 2) (catF (k * 6) (sB F G) (putF 0 (oneF 0) 2 (F k))) (putF 0 (oneF 0) 4 (G k)) i = sB F G i := by
  intro i hi
  rw [← sB_app F G k i (by omega)]
  by_cases h : i < k * 6
  · have h2 : i < k * 6 + 2 := by omega
    simp [catF, h, h2]
  · by_cases h2 : i < k * 6 + 2
    · have h3 : i - k * 6 < 2 := by omega
      simp [catF, putF, h, h2, h3]
    · have h3 : ¬ i - k * 6 < 2 := by omega
      have e : i - (k * 6 + 2) = i - k * 6 - 2 := by omega
      simp [catF, putF, h, h2, h3, e]
def SPut (w : World) (n : Nat) (F G : Nat → Int) (no : Value) (yes : Value) (e : Ending) (w' : World) : Prop :=
  ((∀ i, i < n → okS F G i) ∧ ∃ A c, e = .returned (.tuple #[.slice A (n * 6) c, yes]) ∧ Rd .u8 w' A (n * 6) c (sB F G) ∧ Below w.heap.size w w') ∨
  (¬ (∀ i, i < n → okS F G i) ∧ e = .returned (.tuple #[.slice none 0 0, no]) ∧ Below w.heap.size w w')
theorem putR (A : Option Addr) (n c s : Nat) (v size : Int) (hs : size = (s : Int)) (w : World) (h1 : 1 ≤ s) (h2 : s ≤ 4) (h : v < 0 ∨ pw s ≤ v) :
    Calls Try.prog 144 #[.slice A n c, .int .i64 v, .int .i64 size] w fun e w' => e = .returned (.tuple #[.slice none 0 0, .int .i64 5]) ∧ w = w' := by
  subst hs
  have e : putE v s = 5 := by unfold putE; rw [if_neg (by omega), if_pos h]
  have := put_bad A n c v s w (by rw [e]; decide)
  rw [e] at this
  exact this
theorem putS (A : Option Addr) (n c s m : Nat) (size v : Int) (hs : size = (s : Int)) (hm : m = n + s) (f : Nat → Int) (w : World) (ha : Rd .u8 w A n c f) (hn : n ≤ 140737488350000) (h1 : 1 ≤ s) (h2 : s ≤ 4) (h3 : 0 ≤ v) (h4 : v < pw s) :
    Calls Try.prog 144 #[.slice A n c, .int .i64 v, .int .i64 size] w (GaveO w m (putF n f s v)) := by
  subst hs
  subst hm
  exact put_own A n c s v f w ha hn h1 h2 h3 h4
theorem pw2 : pw ((2 : Nat) : Int) = 65536 := by decide
theorem pw4 : pw ((4 : Nat) : Int) = 4294967296 := by decide

set_option maxHeartbeats 3200000 in
theorem sput_any (A : Option Addr) (n c : Nat) (F G : Nat → Int) (w : World) (ha : Rd2 w A n c F G) (hn : n ≤ 100000) :
    Calls Try.prog 141 #[.slice A n c] w (SPut w n F G (.int .i64 5) (.int .i64 0)) := by
  obtain ⟨i0, hi, hz0, hz1, hz2⟩ := info_parts u8_info
  have Ha := hide ha
  clear ha
  go_enter Try.func141, Try.ntmps141
  go_wp2
  go_loopw [4, 11] (fun b i wr => ∃ k : Nat, k ≤ n ∧ i = .int .i64 k ∧ (∀ j, j < k → okS F G j) ∧ Own .u8 5 w.heap.size wr b (k * 6) (sB F G) ∧ Below w.heap.size w wr) (fun _ i _ => n - (intOf i).toNat)
  case atStart => exact ⟨0, Nat.zero_le _, rfl, fun j hj => absurd hj (by omega), Own.nil _ _ _ _ _, Below.refl _ _⟩
  case round =>
    obtain ⟨k, hk, rfl, hok, hown, hB⟩ := hrel
    have Hok := hide hok
    have Hown := hide hown
    have HB := hide hB
    have hsz := hB.size
    clear hok hown hB
    by_cases hlt : k < n
    · obtain ⟨b0, off, rfl, hc0, hc1⟩ := (Ha.out.below HB.out).at_ hlt
      have hkn : (k : Int) < (n : Int) := by omega
      have R0 := hide (heap_alloc_new wr (.cells #[.int .i64 (F k), .int .i64 (G k)] 170))
      have HBb := hide (HB.out.alloc hsz (.cells #[.int .i64 (F k), .int .i64 (G k)] 170))
      have Hob := hide (Hown.out.alloc (.cells #[.int .i64 (F k), .int .i64 (G k)] 170))
      by_cases hf : 0 ≤ F k ∧ F k < 65536
      · obtain ⟨f0, f1⟩ := hf
        go_wp2_with fail
        refine (putS none 0 0 2 2 _ (F k) rfl rfl (oneF 0) _ (Rd.nil _ _ _) (by omega) (by omega) (by omega) f0 (by rw [pw2]; exact f1)).mono ?_
        rintro e w1 ⟨A1, k1, rfl, ho1, hb1⟩
        have R1 := hide (keepRow R0.out hb1)
        have HB1 := hide (HBb.out.of hb1)
        have Hob1 := hide (Hob.out.below hb1)
        have Hr1 := hide ho1.rdS
        clear ho1 hb1 R0 HBb Hob hc0 hc1
        obtain ⟨q0, q1⟩ := row2 R1.out
        by_cases hg : 0 ≤ G k ∧ G k < 4294967296
        · obtain ⟨g0, g1⟩ := hg
          have Hk : Hid (okS F G k) := ⟨⟨f0, f1⟩, g0, g1⟩
          go_wp2_with fail
          refine (putS A1 2 k1 4 6 _ (G k) rfl rfl _ _ Hr1.out (by omega) (by omega) (by omega) g0 (by rw [pw4]; exact g1)).mono ?_
          rintro e w2 ⟨A2, k2, rfl, ho2, hb2⟩
          have HB2 := hide (HB1.out.of hb2)
          have Hob2 := hide (Hob1.out.below hb2)
          have Hr2 := hide ho2.rdS
          have hs2 := HB2.out.size
          clear ho2 hb2 R1 HB1 Hob1 Hr1 q0 q1
          go_wp2_with (at_builtin; refine wp_app rfl (.tmp 34) (.tmp 35) _ rfl i0 0 1 Try.underlying22 hi hz0 hz1 hz2 w.heap.size _ (k * 6) _ rfl Hob2.out A2 6 k2 _ rfl Hr2.out (by simp only [maxLen]; omega) (by omega) hs2 ?_; intro v3 w3 hown3 hg3)
          have HB3 := hide (HB2.out.grown hg3 hs2 (fun j e => (World.ownsRow.lt Hob2.out j e).1))
          have Ho3 := hide (hown3.congr (sB_app F G k))
          clear hown3 hg3
          go_roundw
          case rel => exact ⟨k + 1, by omega, by go_num, fun j hj => (by
            by_cases h : j = k
            · subst h; exact Hk.out
            · exact Hok.out j (by omega)), by rw [show (k + 1) * 6 = k * 6 + 6 by omega]; exact Ho3.out, HB3.out⟩
          case measure => simp [intOf]; omega
        · have hg' : G k < 0 ∨ pw ((4 : Nat) : Int) ≤ G k := by rw [pw4]; omega
          have Hno : Hid (¬ ∀ i, i < n → okS F G i) := fun h => hg (h k hlt).2
          have Hg := hide hg'
          clear hg hg'
          go_wp2_with fail
          refine (putR A1 2 k1 4 (G k) _ rfl _ (by omega) (by omega) Hg.out).mono ?_
          rintro e w2 ⟨rfl, rfl⟩
          go_wp2_with fail
          go_ret2
          exact .inr ⟨Hno.out, rfl, HB1.out⟩
      · have hf' : F k < 0 ∨ pw ((2 : Nat) : Int) ≤ F k := by rw [pw2]; omega
        have Hno : Hid (¬ ∀ i, i < n → okS F G i) := fun h => hf (h k hlt).1
        have Hf := hide hf'
        clear hf hf'
        go_wp2_with fail
        refine (putR none 0 0 2 (F k) _ rfl _ (by omega) (by omega) Hf.out).mono ?_
        rintro e w2 ⟨rfl, rfl⟩
        go_wp2_with fail
        go_ret2
        exact .inr ⟨Hno.out, rfl, HBb.out⟩
    · obtain rfl : k = n := by omega
      obtain ⟨A2, c2, rfl, hr2, _⟩ := Hown.out.rd
      have Hr2 := hide hr2
      clear hr2
      go_wp2_with fail
      go_ret2
      exact .inl ⟨Hok.out, A2, c2, rfl, Hr2.out, HB.out⟩
end Go.Proofs.Ytelcpfjifhobjaa
