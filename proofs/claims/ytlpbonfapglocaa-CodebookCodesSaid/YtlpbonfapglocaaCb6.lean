/- Layer 16: books that are not there, or that nobody made: the walk of the law. -/
import Derived.Test.YtlpbonfapglocaaCb4
namespace Go.Proofs.Ytlpbonfapglocaa
open Go.RowKit

def zeroC : Nat → Value := fun i => if i = 514 then .slice none 0 0 else .int .i64 0
theorem zero_cells : (List.replicate 514 (.int .i64 0) ++ [.slice none 0 0] ++ List.replicate 32 (.int .i64 0) : List Value) = rowV 547 zeroC := by kernel_rfl
/-- A book that nobody made. -/
def Zero (W : World) (B : Nat) : Prop := Blk W B 45 547 zeroC
theorem Zero.int {W : World} {B : Nat} (h : Zero W B) (j : Nat) (hj : j < 547) (hne : j ≠ 514) : W.cell? ⟨B, j, none⟩ = some (.int .i64 0) := by
  rw [Blk.cell h hj]
  simp [zeroC, hne]
theorem Zero.sl {W : World} {B : Nat} (h : Zero W B) : W.cell? ⟨B, 514, none⟩ = some (.slice none 0 0) := by
  rw [Blk.cell h (j := 514) (by omega)]
  rfl
theorem code_zero (B : Nat) (s : Int) (w : World) (h : Zero w B) : Calls Try.prog 24 #[.pointer (some ⟨B, 0, none⟩), .int .i64 s] w (Coded w 0 0) := by
  by_cases hs : 0 ≤ s ∧ s < 257
  · obtain ⟨S, rfl⟩ := Int.eq_ofNat_of_zero_le hs.1
    have hS : S < 257 := by omega
    exact code_at B S hS 0 0 w (Blk.lt h) (h.int (257 + S) (by omega) (by omega)) (h.int S (by omega) (by omega))
  · exact code_out B s w hs
def NotFound (w : World) (e : Ending) (w' : World) : Prop := e = .returned (.tuple #[.int .i64 0, .bool false]) ∧ Drawn w w'
theorem find_none (c n : Int) (w : World) : Calls Try.prog 25 #[.pointer none, .int .i64 c, .int .i64 n] w (NotFound w) := by
  go_enter Try.func25, Try.ntmps25
  go_wp2_with fail
  go_ret2
  exact ⟨rfl, Drawn.refl _⟩
theorem find_out (B : Nat) (c n : Int) (w : World) (h : n < 1 ∨ 30 < n) : Calls Try.prog 25 #[.pointer (some ⟨B, 0, none⟩), .int .i64 c, .int .i64 n] w (NotFound w) := by
  by_cases h0 : n < 1
  · have d0 : decide (n < 1) = true := by simpa using h0
    go_enter Try.func25, Try.ntmps25
    go_wp2_with fail
    go_ret2
    exact ⟨rfl, Drawn.refl _⟩
  · have d0 : decide (n < 1) = false := by simpa using h0
    have d1 : decide (30 < n) = true := by simp; omega
    go_enter Try.func25, Try.ntmps25
    go_wp2_with fail
    go_ret2
    exact ⟨rfl, Drawn.refl _⟩
theorem ints_elem : Try.prog.elem 42 = 3 := by kernel_rfl
theorem int_size : (Try.prog.info? 3).map (·.size) = some 1 := by kernel_rfl
theorem ints_cut (A : Option Addr) (n c lo hi : Nat) (h1 : lo ≤ hi) (hc : hi ≤ c) (W : World) :
    (Instr.slice 42 (.slice A n c) (some (.int .i64 (lo : Int))) (some (.int .i64 (hi : Int))) none).run Try.prog W = .ok (.slice (cutA A c lo) (hi - lo) (c - lo)) W :=
  cut_lh 42 3 Try.underlying42 ints_elem int_size A n c lo hi h1 hc .i64 .i64 W
theorem find_zero (B L : Nat) (c : Int) (w : World) (h : Zero w B) (h1 : 1 ≤ L) (h2 : L ≤ 30) : Calls Try.prog 25 #[.pointer (some ⟨B, 0, none⟩), .int .i64 c, .int .i64 (L : Int)] w (NotFound w) := by
  have d0 : decide ((L : Int) < 1) = false := by simp; omega
  have d1 : decide (30 < (L : Int)) = false := by simp; omega
  have c1 := h.sl
  have c2 := h.int (515 + L) (by omega) (by omega)
  have c3 := h.int (515 + (L + 1)) (by omega) (by omega)
  have hB := Blk.lt h
  have l0 : (0 : Int) ≤ (L : Int) := by omega
  have l1 : (L : Int) < 32 := by omega
  have l2 : (0 : Int) ≤ (L : Int) + 1 := by omega
  have l3 : (L : Int) + 1 < 32 := by omega
  have l4 : ((L : Int) + 1).toNat = L + 1 := by omega
  have hw : IntKind.i64.wrap ((L : Int) + 1) = (L : Int) + 1 := IntWalk.i64_in _ (by omega)
  have hcut : ∀ W, (Instr.slice 42 (.slice none 0 0) (some (.int .i64 0)) (some (.int .i64 0)) none).run Try.prog W = .ok (.slice none 0 0) W := fun W => ints_cut none 0 0 0 0 (Nat.le_refl _) (Nat.le_refl _) W
  clear h
  go_enter Try.func25, Try.ntmps25
  go_wp2_with fail
  go_quiet (fail)
  go_wp2_with fail
  go_ret2
  exact ⟨rfl, Drawn.of _ _⟩
theorem find_zeroI (B : Nat) (c n : Int) (w : World) (h : Zero w B) : Calls Try.prog 25 #[.pointer (some ⟨B, 0, none⟩), .int .i64 c, .int .i64 n] w (NotFound w) := by
  by_cases hn : n < 1 ∨ 30 < n
  · exact find_out B c n w hn
  · obtain ⟨L, rfl⟩ := Int.eq_ofNat_of_zero_le (show 0 ≤ n by omega)
    exact find_zero B L c w h (by omega) (by omega)
theorem order_none (w : World) : Calls Try.prog 27 #[.pointer none] w fun e w' => e = .returned (.slice none 0 0) ∧ w = w' := by
  go_enter Try.func27, Try.ntmps27
  go_wp2_with fail
  go_ret
  exact ⟨rfl, rfl⟩
theorem int_info : (Try.prog.info? 3).map (fun i => (i.zero, i.size, i.bytes)) = some (some (.int .i64 0), 1, 8) := by kernel_rfl
/-- 'Order' hands back a row of the call's own. -/
theorem order_of (B n c : Nat) (A : Option Addr) (f : Nat → Int) (w : World) (hB : B < w.heap.size) (h : w.cell? ⟨B, 514, none⟩ = some (.slice A n c)) (hr : Rd .i64 w A n c f) (hn : n ≤ 100000) :
    Calls Try.prog 27 #[.pointer (some ⟨B, 0, none⟩)] w fun e w' => ∃ v, e = .returned v ∧ Own .i64 3 w.heap.size w' v n f ∧ Below w.heap.size w w' := by
  obtain ⟨i0, hi, hz0, hz1, hz2⟩ := info_parts int_info
  have Hr := hide hr
  clear hr
  go_enter Try.func27, Try.ntmps27
  go_wp2_with (at_builtin; refine wp_app rfl _ (.tmp 8) _ rfl i0 0 8 Try.underlying42 hi hz0 hz1 hz2 w.heap.size _ 0 (oneF 0) rfl (Own.nil _ _ _ _ _) A n c f rfl Hr.out (by simp only [maxLen]; omega) (by omega) (Nat.le_refl _) ?_; intro v1 w1 hown1 hg1)
  have HB1 := hide ((Below.refl w.heap.size w).grown hg1 (Nat.le_refl _) (fun j e => by cases e))
  have Hown : Hid (Own .i64 3 w.heap.size w1 v1 n f) := by
    have h := hown1
    rw [Nat.zero_add] at h
    exact h.congr (fun i _ => by simp [catF])
  clear hown1 hg1
  go_ret
  exact ⟨_, rfl, Hown.out, HB1.out⟩

set_option maxRecDepth 100000 in
set_option maxHeartbeats 3200000 in
theorem nobody_walk (s n : Int) (w : World) : Calls Try.prog 7 #[.int .i64 s, .int .i64 n] w (Yes w) := by
  obtain ⟨zs, hzs⟩ : ∃ zs : List Value, zs = List.replicate 514 (.int .i64 0) ++ [.slice none 0 0] ++ List.replicate 32 (.int .i64 0) := ⟨_, rfl⟩
  have hZ : Zero (w.alloc (.cells ⟨zs⟩ 45)) w.heap.size := Blk.new w _ _ _ (by rw [hzs, zero_cells])
  have HZ := hide hZ
  have HB0 : Hid (Below w.heap.size w (w.alloc (.cells ⟨zs⟩ 45))) := (Below.refl _ _).alloc (Nat.le_refl _) _
  have Hzs := hide hzs
  clear hzs hZ
  go_enter Try.func7, Try.ntmps7
  go_wp2_with (refine Go.Great.wpList_runTo (o := ⟨some 6, .alloc _, _, _, _, _⟩) rfl _ rfl (.pointer (some ⟨w.heap.size, 0, none⟩)) (w.alloc (.cells ⟨zs⟩ 45)) (by rw [Hzs.out]; kernel_rfl) ?_)
  generalize w.alloc (.cells ⟨zs⟩ 45) = W0 at *
  refine (code_none s _).mono ?_
  rintro e w1 ⟨rfl, hd1⟩
  have HZ1 := hide (Blk.below HZ.out (drawn_below hd1 _))
  have HB1 := hide (HB0.out.trans (drawn_below hd1 _))
  clear hd1 HZ HB0
  go_wp2_with fail
  refine (code_zero w.heap.size s _ HZ1.out).mono ?_
  rintro e w2 ⟨rfl, hd2⟩
  have HZ2 := hide (Blk.below HZ1.out (drawn_below hd2 _))
  have HB2 := hide (HB1.out.trans (drawn_below hd2 _))
  clear hd2 HZ1 HB1
  go_wp2_with fail
  refine (find_none s n _).mono ?_
  rintro e w3 ⟨rfl, hd3⟩
  have HZ3 := hide (Blk.below HZ2.out (drawn_below hd3 _))
  have HB3 := hide (HB2.out.trans (drawn_below hd3 _))
  clear hd3 HZ2 HB2
  go_wp2_with fail
  refine (find_zeroI w.heap.size s n _ HZ3.out).mono ?_
  rintro e w4 ⟨rfl, hd4⟩
  have HZ4 := hide (Blk.below HZ3.out (drawn_below hd4 _))
  have HB4 := hide (HB3.out.trans (drawn_below hd4 _))
  clear hd4 HZ3 HB3
  go_wp2_with fail
  refine (length_of _ s _ _ _ (code_none s _)).mono ?_
  rintro e w5 ⟨rfl, hd5⟩
  have HZ5 := hide (Blk.below HZ4.out (drawn_below hd5 _))
  have HB5 := hide (HB4.out.trans (drawn_below hd5 _))
  clear hd5 HZ4 HB4
  go_wp2_with fail
  refine (length_of _ s _ _ _ (code_zero w.heap.size s _ HZ5.out)).mono ?_
  rintro e w6 ⟨rfl, hd6⟩
  have HZ6 := hide (Blk.below HZ5.out (drawn_below hd6 _))
  have HB6 := hide (HB5.out.trans (drawn_below hd6 _))
  clear hd6 HZ5 HB5
  go_wp2_with fail
  refine (order_none _).mono ?_
  rintro e w7 ⟨rfl, rfl⟩
  go_wp2_with fail
  refine (order_of w.heap.size 0 0 none (oneF 0) _ (Blk.lt HZ6.out) (Zero.sl HZ6.out) (Rd.nil _ _ _) (by omega)).mono ?_
  rintro e w8 ⟨v8, rfl, ho8, hb8⟩
  obtain ⟨A8, c8, rfl, _, _⟩ := ho8.rd
  have HB8 := hide (HB6.out.of hb8)
  clear ho8 hb8 HZ6 HB6
  go_wp2_with fail
  refine (alive16 _).mono ?_
  rintro e w9 ⟨rfl, hb9⟩
  go_wp2_with fail
  go_ret
  exact ⟨rfl, HB8.out.of hb9⟩
end Go.Proofs.Ytlpbonfapglocaa
