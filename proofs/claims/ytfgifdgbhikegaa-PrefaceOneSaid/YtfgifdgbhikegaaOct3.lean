/- The contracts of 'octet.Put' and of its reference: a number's bytes behind those that are there, or why not. -/
import Derived.Test.YtfgifdgbhikegaaOct2
namespace Go.Proofs.Ytfgifdgbhikegaa
open Go.RowKit

theorem u8_info : (Try.prog.info? 5).map (fun i => (i.zero, i.size, i.bytes)) = some (some (.int .u8 0), 1, 1) := by kernel_rfl
theorem u8_size : (Try.prog.info? 5).map (·.size) = some 1 := by kernel_rfl

def putE (v size : Int) : Int := if size < 1 ∨ 4 < size then 1 else if v < 0 ∨ pw size ≤ v then 5 else 0
/-- The i-th byte of a number's s bytes. -/
def byteAt (v : Int) (s i : Nat) : Int := v / 2 ^ (8 * (s - 1 - i)) % 256
def putF (n : Nat) (f : Nat → Int) (s : Nat) (v : Int) : Nat → Int := catF n f (byteAt v s)

set_option maxHeartbeats 400000 in
theorem put_bad (A : Option Addr) (n c : Nat) (v size : Int) (w : World) (h : putE v size ≠ 0) :
    Calls Try.prog 62 #[.slice A n c, .int .i64 v, .int .i64 size] w fun e w' => e = .returned (.tuple #[.slice none 0 0, .int .i64 (putE v size)]) ∧ w = w' := by
  by_cases h1 : size < 1 ∨ 4 < size
  · have H : Hid (putE v size = 1) := by simp [putE, h1, Hid]
    have H1 := hide h1
    clear h h1
    go_enter Try.func62, Try.ntmps62
    go_wp2_with (go_at_call 80; refine (size_no _ _ H1.out).mono ?_; rintro e w' ⟨rfl, rfl⟩)
    go_ret2
    exact ⟨by rw [H.out]; rfl, rfl⟩
  · have h1a : 1 ≤ size := by omega
    have h1b : size ≤ 4 := by omega
    have h3 : v < 0 ∨ pw size ≤ v := by
      rcases Classical.em (v < 0 ∨ pw size ≤ v) with h3 | h3
      · exact h3
      · exact absurd (by simp [putE, h1, h3]) h
    have H : Hid (putE v size = 5) := by simp [putE, h1, h3, Hid]
    have H3 := hide h3
    clear h h1 h3
    go_enter Try.func62, Try.ntmps62
    go_wp2_with (first | (go_at_call 80; refine (size_yes _ _ h1a h1b).mono ?_; rintro e w' ⟨rfl, rfl⟩) | (go_at_call 81; refine (fits_no _ _ _ h1a h1b H3.out).mono ?_; rintro e w' ⟨rfl, rfl⟩))
    go_ret2
    exact ⟨by rw [H.out]; rfl, rfl⟩

/-- What the loop has written behind k rounds. -/
def putK (n : Nat) (f : Nat → Int) (s : Nat) (v : Int) (k : Nat) : Nat → Int := fun i => if i < n then f i else if i < n + k then byteAt v s (i - n) else 0
theorem putK_zero (n : Nat) (f : Nat → Int) (s : Nat) (v : Int) : ∀ i, catF n f (fun j => oneF 0 (n + j)) i = putK n f s v 0 i := by
  intro i
  unfold catF putK oneF
  by_cases h : i < n <;> simp [h]
theorem putK_succ (n : Nat) (f : Nat → Int) (s : Nat) (v : Int) (k : Nat) : setF (putK n f s v k) (n + k) (byteAt v s k) = putK n f s v (k + 1) := by
  funext i
  unfold setF putK
  by_cases h : i = n + k
  · subst h
    have : ¬ n + k < n := by omega
    simp [this]
  · by_cases h1 : i < n
    · simp [h, h1]
    · by_cases h2 : i < n + k
      · have : i < n + (k + 1) := by omega
        simp [h, h1, h2, this]
      · have : ¬ i < n + (k + 1) := by omega
        simp [h, h1, h2, this]
theorem putK_end (n : Nat) (f : Nat → Int) (s : Nat) (v : Int) : ∀ i, i < n + s → putK n f s v s i = putF n f s v i := by
  intro i hi
  unfold putK putF catF
  by_cases h1 : i < n <;> simp [h1, hi]

/-- What a function that hands back bytes and no error leaves. -/
def Gave (w : World) (n : Nat) (f : Nat → Int) (e : Ending) (w' : World) : Prop :=
  ∃ A c, e = .returned (.tuple #[.slice A n c, .int .i64 0]) ∧ Rd .u8 w' A n c f ∧ Below w.heap.size w w'
/-- The same, and the bytes are a row of the call's own. -/
def GaveO (w : World) (n : Nat) (f : Nat → Int) (e : Ending) (w' : World) : Prop :=
  ∃ A c, e = .returned (.tuple #[.slice A n c, .int .i64 0]) ∧ Own .u8 5 w.heap.size w' (.slice A n c) n f ∧ Below w.heap.size w w'
theorem GaveO.gave {w : World} {n : Nat} {f : Nat → Int} {e : Ending} {w' : World} (h : GaveO w n f e w') : Gave w n f e w' := by
  obtain ⟨A, c, h1, h2, h3⟩ := h
  obtain ⟨A', c', e', h4, _⟩ := h2.rd
  injection e' with e1 _ e2
  subst e1
  subst e2
  exact ⟨A, c, h1, h4, h3⟩

set_option maxHeartbeats 1000000 in
theorem put_own (A : Option Addr) (n c s : Nat) (v : Int) (f : Nat → Int) (w : World) (ha : Rd .u8 w A n c f) (hn : n ≤ 140737488350000) (h1 : 1 ≤ s) (h2 : s ≤ 4) (h3 : 0 ≤ v) (h4 : v < pw s) :
    Calls Try.prog 62 #[.slice A n c, .int .i64 v, .int .i64 (s : Int)] w (GaveO w (n + s) (putF n f s v)) := by
  obtain ⟨i0, hi, hz0, hz1, hz2⟩ := info_parts u8_info
  have Ha := hide ha
  have H4 := hide h4
  clear ha h4
  go_enter Try.func62, Try.ntmps62
  go_wp2_with (first
    | (go_at_call 80; refine (size_yes _ _ (by omega) (by omega)).mono ?_; rintro e w' ⟨rfl, rfl⟩)
    | (go_at_call 81; refine (fits_yes _ _ _ (by omega) (by omega) h3 H4.out).mono ?_; rintro e w' ⟨rfl, rfl⟩)
    | (at_make; refine wp_mk rfl _ _ _ rfl i0 0 1 Try.underlying49 hi hz0 hz1 hz2 w.heap.size _ _ _ _ (n + s) rfl rfl (by omega) (by omega) (by omega) (by simp only [maxLen]; omega) (Nat.le_refl _) ?_; intro w1 hown1 hg1 _; have hb1 : Below w.heap.size w w1 := (Below.refl _ _).grown hg1 (Nat.le_refl _) (fun _ e => by cases e))
    | (with_reducible refine wp_copy rfl (.tmp 22) (.tmp 23) _ _ 5 rfl Try.underlying49 u8_size w.heap.size w.heap.size (n + s) (n + s) (oneF 0) rfl hown1 A n c f rfl (Ha.out.below hb1) (Nat.le_add_right _ _) ?_; intro w2 hown2 hg2))
  have hb2 : Below w.heap.size w w2 := hb1.grown hg2 hb1.size (fun _ e => by cases e; exact Nat.le_refl _)
  clear hown1 hg1 hg2 hb1
  go_loopw [26] (fun i wr => ∃ k : Nat, k ≤ s ∧ i = .int .i64 k ∧ Own .u8 5 w.heap.size wr (.slice (some ⟨w.heap.size, 0, none⟩) (n + s) (n + s)) (n + s) (putK n f s v k) ∧ Below w.heap.size w wr) (fun i _ => s - (intOf i).toNat)
  case atStart => exact ⟨0, Nat.zero_le _, rfl, hown2.congr fun i _ => putK_zero n f s v i, hb2⟩
  case round =>
    obtain ⟨k, hk, rfl, hown, hb⟩ := hrel
    clear hown2 hb2
    by_cases hlt : k < s
    · have hcell := hown.cell (j := n + k) (by omega)
      have hfz := hown.frozen (n + k)
      have Hown := hide (hown.set (n + k) (byteAt v s k))
      clear hown
      go_wp2
      go_roundw
      case rel => exact ⟨k + 1, by omega, by go_num, by rw [← putK_succ]; exact Hown.out, hb.setCell (Nat.le_refl _) _⟩
      case measure => simp [intOf]; omega
    · obtain rfl : k = s := by omega
      have Hr := hide (hown.congr (putK_end n f k v))
      clear hown
      go_wp2
      go_ret2
      exact ⟨_, _, rfl, Hr.out, hb⟩
theorem put_ok (A : Option Addr) (n c s : Nat) (v : Int) (f : Nat → Int) (w : World) (ha : Rd .u8 w A n c f) (hn : n ≤ 140737488350000) (h1 : 1 ≤ s) (h2 : s ≤ 4) (h3 : 0 ≤ v) (h4 : v < pw s) :
    Calls Try.prog 62 #[.slice A n c, .int .i64 v, .int .i64 (s : Int)] w (Gave w (n + s) (putF n f s v)) := (put_own A n c s v f w ha hn h1 h2 h3 h4).mono fun _ _ h => h.gave

/-! ### its reference -/
set_option maxHeartbeats 400000 in
theorem rput_bad (A : Option Addr) (n c : Nat) (v size : Int) (w : World) (h : putE v size ≠ 0) :
    Calls Try.prog 67 #[.slice A n c, .int .i64 v, .int .i64 size] w fun e w' => e = .returned (.tuple #[.slice none 0 0, .int .i64 (putE v size)]) ∧ w = w' := by
  by_cases h1 : size < 1
  · have H : Hid (putE v size = 1) := by simp [putE, h1, Hid]
    have hd : decide (size < 1) = true := by simpa using h1
    clear h
    go_enter Try.func67, Try.ntmps67
    go_wp2
    go_ret2
    exact ⟨by rw [H.out]; rfl, rfl⟩
  have hd1 : decide (size < 1) = false := by simpa using h1
  by_cases h2 : 4 < size
  · have H : Hid (putE v size = 1) := by simp [putE, h2, Hid]
    have hd : decide (4 < size) = true := by simpa using h2
    clear h
    go_enter Try.func67, Try.ntmps67
    go_wp2
    go_ret2
    exact ⟨by rw [H.out]; rfl, rfl⟩
  have hd2 : decide (4 < size) = false := by simpa using h2
  have h1a : 1 ≤ size := by omega
  have h1b : size ≤ 4 := by omega
  by_cases h3 : v < 0
  · have H : Hid (putE v size = 5) := by simp [putE, h1, h2, h3, Hid]
    have hd3 : decide (v < 0) = true := by simpa using h3
    clear h
    go_enter Try.func67, Try.ntmps67
    go_wp2
    go_ret2
    exact ⟨by rw [H.out]; rfl, rfl⟩
  · have h4 : pw size ≤ v := by
      rcases Classical.em (pw size ≤ v) with h4 | h4
      · exact h4
      · exact absurd (by simp [putE, h1, h2, h3, h4]) h
    have H : Hid (putE v size = 5) := by simp [putE, h1, h2, h4, Hid]
    have hd3 : decide (v < 0) = false := by simpa using h3
    have hd4 : decide (pw size ≤ v) = true := by simpa using h4
    clear h
    go_enter Try.func67, Try.ntmps67
    go_wp2_with (go_at_call 84; refine (pow_size _ _ h1a h1b).mono ?_; rintro e w' ⟨rfl, rfl⟩)
    go_ret2
    exact ⟨by rw [H.out]; rfl, rfl⟩

theorem p2_pow (t : Nat) (h : t ≤ 4) : p2 t = 2 ^ (8 * t) := by
  have : t = 0 ∨ t = 1 ∨ t = 2 ∨ t = 3 ∨ t = 4 := by omega
  rcases this with rfl | rfl | rfl | rfl | rfl <;> simp [p2]
theorem p2_pos (t : Nat) : 0 < p2 t := by unfold p2; repeat' split <;> omega
theorem byteAt_p2 (v : Int) (s i : Nat) (h : s ≤ 4) : byteAt v s i = v / p2 (s - 1 - i) % 256 := by
  unfold byteAt
  rw [p2_pow _ (by omega)]

/-- What the reference's loop has written behind k rounds. -/
def rputK (n : Nat) (f : Nat → Int) (s : Nat) (v : Int) : Nat → Int := catF n f (byteAt v s)
theorem rput_succ (n : Nat) (f : Nat → Int) (s k : Nat) (v : Int) : ∀ i, i < n + k + 1 → catF (n + k) (putF n f s v) (oneF (byteAt v s k)) i = putF n f s v i := by
  intro i hi
  by_cases h : i < n + k
  · simp [catF, h]
  · have e : i = n + k := by omega
    subst e
    have : ¬ n + k < n := by omega
    simp [catF, putF, oneF, this]
theorem Gave.congr {w w' : World} {n : Nat} {f g : Nat → Int} {e : Ending} (h : Gave w n f e w') (hf : ∀ i, i < n → f i = g i) : Gave w n g e w' := by
  obtain ⟨A, c, h1, h2, h3⟩ := h
  exact ⟨A, c, h1, h2.congr hf, h3⟩

set_option maxHeartbeats 1000000 in
theorem rput_own (A : Option Addr) (n c s : Nat) (v : Int) (f : Nat → Int) (w : World) (ha : Rd .u8 w A n c f) (hn : n ≤ 140737488350000) (h1 : 1 ≤ s) (h2 : s ≤ 4) (h3 : 0 ≤ v) (h4 : v < pw s) :
    Calls Try.prog 67 #[.slice A n c, .int .i64 v, .int .i64 (s : Int)] w (GaveO w (n + s) (putF n f s v)) := by
  obtain ⟨i0, hi, hz0, hz1, hz2⟩ := info_parts u8_info
  have hd1 : decide ((s : Int) < 1) = false := by simp; omega
  have hd2 : decide (4 < (s : Int)) = false := by simp; omega
  have hd3 : decide (v < 0) = false := by simp; omega
  have hd4 : decide (pw s ≤ v) = false := by simp; omega
  have hv : v < 4294967296 := by have := pw_cases (s := s) (by omega) (by omega); omega
  have Ha := hide ha
  clear ha h4
  go_enter Try.func67, Try.ntmps67
  go_wp2_with (first
    | (go_at_call 84; refine (pow_size _ _ (by omega) (by omega)).mono ?_; rintro e w' ⟨rfl, rfl⟩)
    | (at_builtin; refine wp_app rfl (.tmp 24) (.tmp 25) _ rfl i0 0 1 Try.underlying49 hi hz0 hz1 hz2 w.heap.size _ 0 (oneF 0) rfl (Own.lit .u8 5 w.heap.size w (oneF 0) #[] 0 (Nat.le_refl _) (by simp [maxLen]) rfl) A n c f rfl (Ha.out.alloc _) (by simp only [maxLen]; omega) (by omega) (by simp) ?_; intro v1 w1 hown1 hg1))
  have hb1 : Below w.heap.size w w1 := ((Below.refl _ _).alloc (Nat.le_refl _) _).grown hg1 (by simp) (fun _ e => by cases e; exact Nat.le_refl _)
  clear hg1
  go_loopw [8, 9] (fun sl i wr => ∃ k : Nat, k ≤ s ∧ i = .int .i64 k ∧ Own .u8 5 w.heap.size wr sl (n + k) (putF n f s v) ∧ Below w.heap.size w wr) (fun _ i _ => s - (intOf i).toNat)
  case atStart => exact ⟨0, Nat.zero_le _, rfl, Own.congr (n := n + 0) (f := catF 0 (oneF 0) f) (by simpa using hown1) (fun i hi => by
    have hi' : i < n := by omega
    simp [catF, putF, hi']), hb1⟩
  case round =>
    obtain ⟨k, hk, rfl, hown, hb⟩ := hrel
    clear hown1 hb1
    by_cases hlt : k < s
    · have hp := p2_cases (s - 1 - k) (by omega)
      have hcs : (((s - 1 - k : Nat) : Int)) = (s : Int) - 1 - (k : Int) := by omega
      rw [hcs] at hp
      have Hp := hide hp
      have hpos := p2_pos (s - 1 - k)
      have hq : 0 ≤ v / p2 (s - 1 - k) := Int.ediv_nonneg h3 (by omega)
      have hq2 : v / p2 (s - 1 - k) ≤ 4294967296 := Int.le_trans (Int.ediv_le_self _ h3) (by omega)
      have Hby := hide (byteAt_p2 v s k h2)
      have Hown := hide hown
      have hsz := hb.size
      clear hp hcs hown
      go_wp2_with (first
        | (go_at_call 84; refine (pow_any _ _ _ Hp.out).mono ?_; rintro e w' ⟨rfl, rfl⟩)
        | (at_builtin; refine wp_app rfl (.tmp 32) (.tmp 42) _ rfl i0 0 1 Try.underlying49 hi hz0 hz1 hz2 w.heap.size _ (n + k) (putF n f s v) rfl (Hown.out.alloc _) _ 1 1 _ rfl (Rd.one .u8 5 _ _) (by simp only [maxLen]; omega) (by omega) (by simp; omega) ?_; intro v2 w2 hown2 hg2))
      have hb2 : Below w.heap.size w w2 := (hb.alloc hb.size _).grown hg2 (by simp; omega) (fun j e => (World.ownsRow.lt Hown.out j e).1)
      go_roundw
      case rel => exact ⟨k + 1, by omega, by go_num, hown2.congr (fun i hi => by rw [← Hby.out]; exact rput_succ n f s k v i hi), hb2⟩
      case measure => simp [intOf]; omega
    · obtain rfl : k = s := by omega
      obtain ⟨A', c', rfl, _, _⟩ := hown.rd
      have Hr := hide hown
      clear hown
      go_wp2
      go_ret2
      exact ⟨_, _, rfl, Hr.out, hb⟩
theorem rput_ok (A : Option Addr) (n c s : Nat) (v : Int) (f : Nat → Int) (w : World) (ha : Rd .u8 w A n c f) (hn : n ≤ 140737488350000) (h1 : 1 ≤ s) (h2 : s ≤ 4) (h3 : 0 ≤ v) (h4 : v < pw s) :
    Calls Try.prog 67 #[.slice A n c, .int .i64 v, .int .i64 (s : Int)] w (Gave w (n + s) (putF n f s v)) := (rput_own A n c s v f w ha hn h1 h2 h3 h4).mono fun _ _ h => h.gave
end Go.Proofs.Ytfgifdgbhikegaa
