/- The contracts of layer 2's calls by their number, of the program and of its reference. -/
import Derived.Test.YtgjnmjakpiceiaaCur1
import Derived.Test.YtgjnmjakpiceiaaMem2
namespace Go.Proofs.Ytgjnmjakpiceiaa
open Go.RowKit

theorem numberNil (s : Int) (w : World) : Calls Try.prog 32 #[.pointer none, .int .i64 s] w fun e w' => e = .returned (.tuple #[.int .i64 0, .int .i64 (getE 0 s)]) ∧ w = w' := by
  have he : getE 0 s ≠ 0 := by unfold getE; split <;> (try split) <;> omega
  have hne : (getE 0 s != 0) = true := by simpa using he
  have He := hide he
  clear he
  go_enter Try.func32, Try.ntmps32
  go_wp2_with fail
  refine (aheadNil _).mono ?_
  rintro e w1 ⟨rfl, rfl⟩
  go_wp2_with fail
  refine (get_bad none 0 0 s _ (by omega) He.out).mono ?_
  rintro e w2 ⟨rfl, rfl⟩
  go_wp2_with fail
  go_ret2
  exact ⟨rfl, rfl⟩

/-! ### Bytes -/
theorem bytes_neg (P : Option Addr) (s : Int) (w : World) (h : s < 0) : Calls Try.prog 26 #[.pointer P, .int .i64 s] w fun e w' => e = .returned (.tuple #[.slice none 0 0, .int .i64 1]) ∧ w = w' := by
  go_enter Try.func26, Try.ntmps26
  go_wp2_with fail
  go_ret2
  exact ⟨rfl, rfl⟩
theorem bytes_short (p n t : Nat) (s : Int) (f : Nat → Int) (w : World) (h : Cur w p n f t) (h0 : 0 ≤ s) (h1 : ((n - t : Nat) : Int) < s) :
    Calls Try.prog 26 #[.pointer (some ⟨p, 0, none⟩), .int .i64 s] w fun e w' => e = .returned (.tuple #[.slice none 0 0, .int .i64 3]) ∧ Drawn w w' := by
  have H := hide h
  clear h
  obtain ⟨q, hq⟩ : ∃ q, q = n - t := ⟨_, rfl⟩
  have Hq := hide hq
  rw [← hq] at h1
  clear hq
  go_enter Try.func26, Try.ntmps26
  go_wp2_with fail
  refine (left_any p n t f _ H.out).mono ?_
  rintro e w1 ⟨rfl, hd1⟩
  rw [← Hq.out]
  go_wp2_with fail
  go_ret2
  exact ⟨rfl, hd1⟩
theorem bytes_ok (p n t s : Nat) (f : Nat → Int) (w : World) (h : Cur w p n f t) (h1 : t + s ≤ n) :
    Calls Try.prog 26 #[.pointer (some ⟨p, 0, none⟩), .int .i64 (s : Int)] w fun e w' =>
      ∃ A c, e = .returned (.tuple #[.slice A s c, .int .i64 0]) ∧ Rd .u8 w' A s c (fun i => f (t + i)) ∧ (∀ a, A = some a → w.heap.size ≤ a.block ∧ a.off = 0 ∧ a.spot = none) ∧ Cur w' p n f (t + s) ∧ w.grownBy w' (some p) ∧ Own .u8 5 w.heap.size w' (.slice A s c) s (fun i => f (t + i)) ∧ Later w p n (t + s) f w' := by
  have H := hide h
  clear h
  obtain ⟨q, hq⟩ : ∃ q, q = n - t := ⟨_, rfl⟩
  have Hq := hide hq
  have hsq : s ≤ q := by omega
  clear hq
  go_enter Try.func26, Try.ntmps26
  go_wp2_with fail
  refine (left_any p n t f _ H.out).mono ?_
  rintro e w1 ⟨rfl, hd1⟩
  rw [← Hq.out]
  have hb1 := drawn_below hd1 w.heap.size
  go_wp2_with fail
  refine (take_any p n t s f _ (H.out.drawn hd1) h1).mono ?_
  rintro e w2 ht
  obtain ⟨A, c, rfl, h2⟩ := ht.start hb1 (drawn_size hd1)
  have H2 := hide h2
  clear h2
  go_wp2_with fail
  go_ret2
  exact ⟨A, c, rfl, H2.out⟩
theorem bytesNil_short (s : Int) (w : World) (h0 : 0 < s) : Calls Try.prog 26 #[.pointer none, .int .i64 s] w fun e w' => e = .returned (.tuple #[.slice none 0 0, .int .i64 3]) ∧ w = w' := by
  go_enter Try.func26, Try.ntmps26
  go_wp2_with (go_at_call 25; refine (leftNil _).mono ?_; rintro e w' ⟨rfl, rfl⟩)
  go_ret2
  exact ⟨rfl, rfl⟩
theorem bytesNil_none (w : World) : Calls Try.prog 26 #[.pointer none, .int .i64 0] w fun e w' => e = .returned (.tuple #[.slice none 0 0, .int .i64 0]) ∧ w = w' := by
  go_enter Try.func26, Try.ntmps26
  go_wp2_with (first | (go_at_call 25; refine (leftNil _).mono ?_; rintro e w' ⟨rfl, rfl⟩) | (go_at_call 35; refine (take_none _ _).mono ?_; rintro e w' ⟨rfl, rfl⟩))
  go_ret2
  exact ⟨rfl, rfl⟩
theorem restNil (w : World) : Calls Try.prog 27 #[.pointer none] w fun e w' => e = .returned (.slice none 0 0) ∧ w = w' := by
  go_enter Try.func27, Try.ntmps27
  go_wp2_with (first | (go_at_call 25; refine (leftNil _).mono ?_; rintro e w' ⟨rfl, rfl⟩) | (go_at_call 35; refine (take_none _ _).mono ?_; rintro e w' ⟨rfl, rfl⟩))
  go_ret
  exact ⟨rfl, rfl⟩

/-! ### the law's step -/
/-- What a step answers and leaves. -/
def StepRes (w : World) (p n t : Nat) (f : Nat → Int) (x : Int) (y k : Nat) (er : Int) (e : Ending) (w' : World) : Prop :=
  ∃ A c, e = .returned (.tuple #[.int .i64 x, .slice A y c, .int .i64 er]) ∧ Rd .u8 w' A y c (fun i => f (t + i)) ∧ Cur w' p n f (t + k) ∧ w.grownBy w' (some p)
theorem grown_start {w w1 w2 : World} {row : Option Nat} (hd : Below w.heap.size w w1) (h5 : w1.grownBy w2 row) : w.grownBy w2 row :=
  ⟨h5.os.trans hd.os, h5.tape.trans hd.tape, h5.output.trans hd.output, Nat.le_trans hd.size h5.size, fun i hi hne => (h5.block i (Nat.lt_of_lt_of_le hi hd.size) hne).trans (hd.block i hi)⟩

set_option maxHeartbeats 400000 in
theorem stp_num (p n t : Nat) (s : Nat)  (h1 : 1 ≤ s) (h2 : s ≤ 4) (h3 : t + s ≤ n) (f : Nat → Int) (w : World) (h : Cur w p n f t) (hb : Byt n f) :
    Calls Try.prog 22 #[.pointer (some ⟨p, 0, none⟩), .agg #[.int .i64 0, .int .i64 (s : Int)]] w (StepRes w p n t f (num (fun i => f (t + i)) s) 0 s 0) := by
  have H := hide h
  have hbx : Below w.heap.size w (w.alloc (.cells #[.int .i64 0, .int .i64 (s : Int)] 41)) := (Below.refl _ _).alloc (Nat.le_refl _) _
  have Hx := hide hbx
  clear h hbx
  have Hb := hide hb
  clear hb
  generalize hX : num (fun i => f (t + i)) s = X
  have HX := hide hX
  clear hX
  go_enter Try.func22, Try.ntmps22
  go_wp2_with fail
  refine (number_ok p n t s f _ (H.out.below Hx.out) Hb.out h1 h2 h3).mono ?_
  rintro e w1 ⟨rfl, hc, hg⟩
  rw [HX.out]
  have Hc := hide hc
  have Hg := hide hg
  clear hc hg
  go_wp2_with fail
  go_ret3
  exact ⟨none, 0, rfl, Rd.nil _ _ _, Hc.out, grown_start Hx.out Hg.out⟩

set_option maxHeartbeats 400000 in
theorem step_numbad (p n t : Nat) (s : Int) (he : getE (n - t) s ≠ 0) (f : Nat → Int) (w : World) (h : Cur w p n f t) :
    Calls Try.prog 22 #[.pointer (some ⟨p, 0, none⟩), .agg #[.int .i64 0, .int .i64 s]] w (StepRes w p n t f 0 0 0 (getE (n - t) s)) := by
  have H := hide h
  have hbx : Below w.heap.size w (w.alloc (.cells #[.int .i64 0, .int .i64 s] 41)) := (Below.refl _ _).alloc (Nat.le_refl _) _
  have Hx := hide hbx
  clear h hbx
  have He := hide he
  clear he
  go_enter Try.func22, Try.ntmps22
  go_wp2_with fail
  refine (number_bad p n t s f _ (H.out.below Hx.out) He.out).mono ?_
  rintro e w1 ⟨rfl, hd⟩
  have Hd := hide hd
  clear hd
  go_wp2_with fail
  go_ret3
  exact ⟨none, 0, rfl, Rd.nil _ _ _, (H.out.below Hx.out).drawn Hd.out, grown_start Hx.out (drawn_grown Hd.out _)⟩

set_option maxHeartbeats 400000 in
theorem step_neg (p n t : Nat) (s : Int) (h1 : s < 0) (f : Nat → Int) (w : World) (h : Cur w p n f t) :
    Calls Try.prog 22 #[.pointer (some ⟨p, 0, none⟩), .agg #[.int .i64 1, .int .i64 s]] w (StepRes w p n t f 0 0 0 1) := by
  have H := hide h
  have hbx : Below w.heap.size w (w.alloc (.cells #[.int .i64 1, .int .i64 s] 41)) := (Below.refl _ _).alloc (Nat.le_refl _) _
  have Hx := hide hbx
  clear h hbx
  go_enter Try.func22, Try.ntmps22
  go_wp2_with fail
  refine (bytes_neg _ s _ h1).mono ?_
  rintro e w1 ⟨rfl, rfl⟩
  go_wp2_with fail
  go_ret3
  exact ⟨none, 0, rfl, Rd.nil _ _ _, H.out.below Hx.out, below_grown Hx.out _⟩

set_option maxHeartbeats 400000 in
theorem step_short (p n t : Nat) (s : Int) (h0 : 0 ≤ s) (h1 : ((n - t : Nat) : Int) < s) (f : Nat → Int) (w : World) (h : Cur w p n f t) :
    Calls Try.prog 22 #[.pointer (some ⟨p, 0, none⟩), .agg #[.int .i64 1, .int .i64 s]] w (StepRes w p n t f 0 0 0 3) := by
  have H := hide h
  have hbx : Below w.heap.size w (w.alloc (.cells #[.int .i64 1, .int .i64 s] 41)) := (Below.refl _ _).alloc (Nat.le_refl _) _
  have Hx := hide hbx
  clear h hbx
  have H1 := hide h1
  clear h1
  go_enter Try.func22, Try.ntmps22
  go_wp2_with fail
  refine (bytes_short p n t s f _ (H.out.below Hx.out) h0 H1.out).mono ?_
  rintro e w1 ⟨rfl, hd⟩
  have Hd := hide hd
  clear hd
  go_wp2_with fail
  go_ret3
  exact ⟨none, 0, rfl, Rd.nil _ _ _, (H.out.below Hx.out).drawn Hd.out, grown_start Hx.out (drawn_grown Hd.out _)⟩

set_option maxHeartbeats 400000 in
theorem step_bytes (p n t : Nat) (s : Nat) (h1 : t + s ≤ n) (f : Nat → Int) (w : World) (h : Cur w p n f t) :
    Calls Try.prog 22 #[.pointer (some ⟨p, 0, none⟩), .agg #[.int .i64 1, .int .i64 (s : Int)]] w (StepRes w p n t f 0 s s 0) := by
  have H := hide h
  have hbx : Below w.heap.size w (w.alloc (.cells #[.int .i64 1, .int .i64 (s : Int)] 41)) := (Below.refl _ _).alloc (Nat.le_refl _) _
  have Hx := hide hbx
  clear h hbx
  go_enter Try.func22, Try.ntmps22
  go_wp2_with fail
  refine (bytes_ok p n t s f _ (H.out.below Hx.out) h1).mono ?_
  rintro e w1 ⟨A, c, rfl, h2⟩
  obtain ⟨hr, _, hc, hg, _⟩ := h2
  have Hr := hide hr
  have Hc := hide hc
  have Hg := hide hg
  clear hr hc hg
  go_wp2_with fail
  go_ret3
  exact ⟨A, c, rfl, Hr.out, Hc.out, grown_start Hx.out Hg.out⟩

set_option maxHeartbeats 400000 in
theorem step_rest (p n t : Nat) (call s : Int) (h0 : (call == 0) = false) (h1 : (call == 1) = false) (f : Nat → Int) (w : World) (h : Cur w p n f t) :
    Calls Try.prog 22 #[.pointer (some ⟨p, 0, none⟩), .agg #[.int .i64 call, .int .i64 s]] w (StepRes w p n t f 0 (n - t) (n - t) 0) := by
  have H := hide h
  have hbx : Below w.heap.size w (w.alloc (.cells #[.int .i64 call, .int .i64 s] 41)) := (Below.refl _ _).alloc (Nat.le_refl _) _
  have Hx := hide hbx
  clear h hbx
  go_enter Try.func22, Try.ntmps22
  go_wp2_with fail
  refine (rest_any p n t f _ (H.out.below Hx.out)).mono ?_
  rintro e w1 ⟨A, c, rfl, h2⟩
  obtain ⟨hr, _, hc, hg, _⟩ := h2
  have Hr := hide hr
  have Hc := hide hc
  have Hg := hide hg
  clear hr hc hg
  go_wp2_with fail
  go_ret3
  exact ⟨A, c, rfl, Hr.out, Hc.out, grown_start Hx.out Hg.out⟩

/-! ### the reference's step -/
theorem results_tmp4 {fn : Func} {t u v x : Tmp} (h : fn.results = #[.tmp t, .tmp u, .tmp v, .tmp x]) (tmps : Array Value) (P : Program) (w : World) :
    (results fn tmps).run P w = .ok (.tuple #[tmps.getD t undef, tmps.getD u undef, tmps.getD v undef, tmps.getD x undef]) w := by simp [results, h]

set_option maxHeartbeats 400000 in
theorem rstep_num (A : Option Addr) (n c : Nat) (s : Nat) (h1 : 1 ≤ s) (h2 : s ≤ 4) (h3 : s ≤ n) (f : Nat → Int) (w : World) (ha : Rd .u8 w A n c f) (hn : n ≤ 100000000) (hb : Byt n f) :
    Calls Try.prog 23 #[.slice A n c, .int .i64 0, .int .i64 (s : Int)] w fun e w' => e = .returned (.tuple #[.int .i64 (num f s), .slice none 0 0, .int .i64 s, .int .i64 0]) ∧ Drawn w w' := by
  have Ha := hide ha
  clear ha
  have Hb := hide hb
  clear hb
  go_enter Try.func23, Try.ntmps23
  go_wp2_with fail
  refine (rget_ok A n c s f _ Ha.out Hb.out h1 h2 h3).mono ?_
  rintro e w1 ⟨rfl, hd⟩
  go_wp2_with fail
  refine bodyPost_ret (results_tmp4 rfl _ _ _) rfl ?_
  exact ⟨rfl, hd⟩

set_option maxHeartbeats 400000 in
theorem rstep_numbad (A : Option Addr) (n c : Nat) (s : Int) (he : getE n s ≠ 0) (f : Nat → Int) (w : World) (ha : Rd .u8 w A n c f) (hn : n ≤ 100000000) :
    Calls Try.prog 23 #[.slice A n c, .int .i64 0, .int .i64 s] w fun e w' => e = .returned (.tuple #[.int .i64 0, .slice none 0 0, .int .i64 0, .int .i64 (getE n s)]) ∧ Drawn w w' := by
  have Ha := hide ha
  clear ha
  have hne : (getE n s != 0) = true := by simpa using he
  have He := hide he
  clear he
  go_enter Try.func23, Try.ntmps23
  go_wp2_with fail
  refine (rget_bad A n c s _ (by omega) He.out).mono ?_
  rintro e w1 ⟨rfl, rfl⟩
  go_wp2_with fail
  refine bodyPost_ret (results_tmp4 rfl _ _ _) rfl ?_
  exact ⟨rfl, Drawn.refl _⟩

set_option maxHeartbeats 400000 in
theorem rstep_neg (A : Option Addr) (n c : Nat) (s : Int) (h1 : s < 0) (f : Nat → Int) (w : World) (ha : Rd .u8 w A n c f) (hn : n ≤ 100000000) :
    Calls Try.prog 23 #[.slice A n c, .int .i64 1, .int .i64 s] w fun e w' => e = .returned (.tuple #[.int .i64 0, .slice none 0 0, .int .i64 0, .int .i64 1]) ∧ Drawn w w' := by
  have Ha := hide ha
  clear ha
  go_enter Try.func23, Try.ntmps23
  go_wp2_with fail
  refine bodyPost_ret (results_tmp4 rfl _ _ _) rfl ?_
  exact ⟨rfl, Drawn.refl _⟩

set_option maxHeartbeats 400000 in
theorem rstep_short (A : Option Addr) (n c : Nat) (s : Int) (h0 : 0 ≤ s) (h1 : (n : Int) < s) (f : Nat → Int) (w : World) (ha : Rd .u8 w A n c f) (hn : n ≤ 100000000) :
    Calls Try.prog 23 #[.slice A n c, .int .i64 1, .int .i64 s] w fun e w' => e = .returned (.tuple #[.int .i64 0, .slice none 0 0, .int .i64 0, .int .i64 3]) ∧ Drawn w w' := by
  have Ha := hide ha
  clear ha
  go_enter Try.func23, Try.ntmps23
  go_wp2_with fail
  refine bodyPost_ret (results_tmp4 rfl _ _ _) rfl ?_
  exact ⟨rfl, Drawn.refl _⟩

set_option maxHeartbeats 400000 in
theorem rstep_bytes (A : Option Addr) (n c : Nat) (s : Nat) (h1 : s ≤ n) (f : Nat → Int) (w : World) (ha : Rd .u8 w A n c f) (hn : n ≤ 100000000) :
    Calls Try.prog 23 #[.slice A n c, .int .i64 1, .int .i64 (s : Int)] w fun e w' => e = .returned (.tuple #[.int .i64 0, .slice (cutA A c 0) s c, .int .i64 s, .int .i64 0]) ∧ Drawn w w' := by
  have Ha := hide ha
  clear ha
  have hcut := bytes_cut_h A n c s (by have := Ha.out.1; omega)
  go_enter Try.func23, Try.ntmps23
  go_wp2_with fail
  go_quiet (fail)
  go_wp2_with fail
  refine bodyPost_ret (results_tmp4 rfl _ _ _) rfl ?_
  exact ⟨rfl, Drawn.of _ _⟩

set_option maxHeartbeats 400000 in
theorem rstep_rest (A : Option Addr) (n c : Nat) (call s : Int) (h0 : (call == 0) = false) (h1 : (call != 1) = true) (f : Nat → Int) (w : World) (ha : Rd .u8 w A n c f) (hn : n ≤ 100000000) :
    Calls Try.prog 23 #[.slice A n c, .int .i64 call, .int .i64 s] w fun e w' => e = .returned (.tuple #[.int .i64 0, .slice A n c, .int .i64 n, .int .i64 0]) ∧ Drawn w w' := by
  have Ha := hide ha
  clear ha
  go_enter Try.func23, Try.ntmps23
  go_wp2_with fail
  refine bodyPost_ret (results_tmp4 rfl _ _ _) rfl ?_
  exact ⟨rfl, Drawn.refl _⟩
end Go.Proofs.Ytgjnmjakpiceiaa
