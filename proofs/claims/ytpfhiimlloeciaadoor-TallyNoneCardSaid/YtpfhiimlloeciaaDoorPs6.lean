/- Layer 27: the reference's Request. -/
import Derived.Test.YtpfhiimlloeciaaDoorPs5
import Derived.Test.YtpfhiimlloeciaaDoorPs3
namespace Go.Proofs.YtpfhiimlloeciaaDoor
open Go.RowKit Go.PlainAid

set_option maxRecDepth 100000 in
set_option maxHeartbeats 6400000 in
theorem rrequest_any (A : Option Addr) (n c : Nat) (F : Nat → Fd) (w : World) (ha : RdFd w A n c F) (hnn : n ≤ 1000000) : Calls Tryd.prog 69 #[.slice A n c] w fun e w' => e = .returned (reqV F n) ∧ Below w.heap.size w w' := by
  have R0 := hide (heap_alloc_new w (.cells #[.string ⟨#[]⟩, .string ⟨#[]⟩, .string ⟨#[]⟩, .string ⟨#[]⟩, .int .i64 0] 118))
  have B0 := hide ((Below.refl w.heap.size w).alloc (Nat.le_refl _) (.cells #[.string ⟨#[]⟩, .string ⟨#[]⟩, .string ⟨#[]⟩, .string ⟨#[]⟩, .int .i64 0] 118))
  have A1 := hide ((ha.below ((Below.refl _ _).alloc (Nat.le_refl _) (.cells #[.string ⟨#[]⟩, .string ⟨#[]⟩, .string ⟨#[]⟩, .string ⟨#[]⟩, .int .i64 0] 118))).below ((Below.refl _ _).alloc (Nat.le_refl _) (.cells #[.string ⟨#[58, 109, 101, 116, 104, 111, 100]⟩, .string ⟨#[58, 115, 99, 104, 101, 109, 101]⟩, .string ⟨#[58, 97, 117, 116, 104, 111, 114, 105, 116, 121]⟩, .string ⟨#[58, 112, 97, 116, 104]⟩] 9)))
  have hN := (OwnV.lit 1 9 0 (w.alloc (.cells #[.string ⟨#[]⟩, .string ⟨#[]⟩, .string ⟨#[]⟩, .string ⟨#[]⟩, .int .i64 0] 118)) (fun i => .string (rqN.getD i sE)) #[.string nMethod, .string nScheme, .string nAuth, .string nPath] 4 (Nat.zero_le _) (by simp [maxLen]) rfl).rdS2
  rw [show (w.alloc (.cells #[.string ⟨#[]⟩, .string ⟨#[]⟩, .string ⟨#[]⟩, .string ⟨#[]⟩, .int .i64 0] 118)).heap.size = w.heap.size + 1 by simp] at hN
  unfold nMethod nScheme nAuth nPath at hN
  have HN := hide hN
  have B1 := hide (B0.out.alloc B0.out.size (.cells #[.string ⟨#[58, 109, 101, 116, 104, 111, 100]⟩, .string ⟨#[58, 115, 99, 104, 101, 109, 101]⟩, .string ⟨#[58, 97, 117, 116, 104, 111, 114, 105, 116, 121]⟩, .string ⟨#[58, 112, 97, 116, 104]⟩] 9))
  have R1 := hide (keepRow R0.out ((Below.refl _ _).alloc (Nat.le_refl _) (.cells #[.string ⟨#[58, 109, 101, 116, 104, 111, 100]⟩, .string ⟨#[58, 115, 99, 104, 101, 109, 101]⟩, .string ⟨#[58, 97, 117, 116, 104, 111, 114, 105, 116, 121]⟩, .string ⟨#[58, 112, 97, 116, 104]⟩] 9)))
  clear ha R0 B0 hN
  have hord := fun (W : World) (h1 : RdFd W A n c F) (h2 : RdV 1 W (some ⟨w.heap.size + 1, 0, none⟩) 4 4 (fun i => .string (rqN.getD i sE))) => rordered_any A (some ⟨w.heap.size + 1, 0, none⟩) n c 4 F rqN W h1 h2 (by decide) hnn
  rw [show rqN.length = 4 from rfl] at hord
  go_enter Tryd.func69, Tryd.ntmps69
  go_wp2_with fail
  refine (hord _ A1.out HN.out).mono ?_
  rintro e w3 ⟨rfl, hb⟩
  have R3 := hide (keepRow R1.out hb)
  have B3 := hide (B1.out.of hb)
  have A3 := hide (A1.out.below hb)
  clear hb R1 B1 A1 HN hord
  obtain ⟨ok, hok⟩ : ∃ ok, ok = okF rqN F n := ⟨_, rfl⟩
  rw [← hok]
  cases ok with
  | false =>
    have ho := hok.symm
    clear hok
    have hreq : reqB F n = false := by
      unfold reqB
      rw [ho]
      rfl
    obtain ⟨⟨c0, f0⟩, ⟨c1, f1⟩, ⟨c2, f2⟩, ⟨c3, f3⟩, ⟨c4, f4⟩, r5⟩ := store5p R3.out (.string ⟨#[]⟩) (.string ⟨#[]⟩) (.string ⟨#[]⟩) (.string ⟨#[]⟩) (.int .i64 0)
    have R4 := hide r5
    have B4 := hide (below5p B3.out (p := w.heap.size) (Nat.le_refl _) (.string ⟨#[]⟩) (.string ⟨#[]⟩) (.string ⟨#[]⟩) (.string ⟨#[]⟩) (.int .i64 0))
    clear r5
    go_wp2_with fail
    obtain ⟨d0, d1, d2, d3, d4⟩ := row5 R4.out
    refine bodyPost_ret (v := .tuple #[.agg #[.string ⟨#[]⟩, .string ⟨#[]⟩, .string ⟨#[]⟩, .string ⟨#[]⟩, .int .i64 0], .bool false]) ?_ rfl ⟨?_, B4.out⟩
    · rw [results_cell_tmp rfl]
      go_simp
    · unfold reqV reqS
      rw [hreq]
      rfl
  | true =>
    have ho := hok.symm
    clear hok
    go_wp2_with fail
    refine (rvalF_any _ n c F nMethod _ A3.out).mono ?_
    rintro e w4 ⟨rfl, hd4⟩
    have B4 := hide (B3.out.trans (drawn_below hd4 _))
    have R4 := hide (keepRow R3.out (drawn_below hd4 _))
    have A4 := hide (A3.out.below (drawn_below hd4 _))
    clear hd4
    go_wp2_with fail
    refine (rvalF_any _ n c F nScheme _ A4.out).mono ?_
    rintro e w5 ⟨rfl, hd5⟩
    have B5 := hide (B4.out.trans (drawn_below hd5 _))
    have R5 := hide (keepRow R4.out (drawn_below hd5 _))
    have A5 := hide (A4.out.below (drawn_below hd5 _))
    clear hd5
    go_wp2_with fail
    refine (rvalF_any _ n c F nAuth _ A5.out).mono ?_
    rintro e w6 ⟨rfl, hd6⟩
    have B6 := hide (B5.out.trans (drawn_below hd6 _))
    have R6 := hide (keepRow R5.out (drawn_below hd6 _))
    have A6 := hide (A5.out.below (drawn_below hd6 _))
    clear hd6
    go_wp2_with fail
    refine (rvalF_any _ n c F nPath _ A6.out).mono ?_
    rintro e w7 ⟨rfl, hd7⟩
    have B7 := hide (B6.out.trans (drawn_below hd7 _))
    have R7 := hide (keepRow R6.out (drawn_below hd7 _))
    have A7 := hide (A6.out.below (drawn_below hd7 _))
    clear hd7
    clear B3 R3 A3 B4 R4 A4 B5 R5 A5 B6 R6 A6
    obtain ⟨mt, hmt⟩ : ∃ x, x = valF F nMethod n := ⟨_, rfl⟩
    obtain ⟨st, hst⟩ : ∃ x, x = valF F nScheme n := ⟨_, rfl⟩
    obtain ⟨au, hau⟩ : ∃ x, x = valF F nAuth n := ⟨_, rfl⟩
    obtain ⟨pa, hpa⟩ : ∃ x, x = valF F nPath n := ⟨_, rfl⟩
    have hz1 : cntF F nScheme n = 0 ↔ st = none := by rw [hst]; exact cntF_zero
    have hz2 : cntF F nPath n = 0 ↔ pa = none := by rw [hpa]; exact cntF_zero
    have Hz := hide (And.intro hz1 hz2)
    clear hz1 hz2
    rw [← hmt, ← hst, ← hau, ← hpa]
    have Hmt := hide hmt
    have Hst := hide hst
    have Hau := hide hau
    have Hpa := hide hpa
    clear hmt hst hau hpa
    have Rh := hide (heap_alloc_new w7 (.cells #[.string (txt mt), .string (txt st), .string (txt au), .string (txt pa), .int .i64 0] 118))
    have B8 := hide (B7.out.alloc B7.out.size (.cells #[.string (txt mt), .string (txt st), .string (txt au), .string (txt pa), .int .i64 0] 118))
    have R8 := hide (keepRow R7.out ((Below.refl _ _).alloc (Nat.le_refl _) (.cells #[.string (txt mt), .string (txt st), .string (txt au), .string (txt pa), .int .i64 0] 118)))
    have A8 := hide (A7.out.below ((Below.refl _ _).alloc (Nat.le_refl _) (.cells #[.string (txt mt), .string (txt st), .string (txt au), .string (txt pa), .int .i64 0] 118)))
    clear A7 B7 R7
    obtain ⟨p0, p1, p2, p3, p4⟩ := row5 Rh.out
    by_cases hC : ((txt mt).toList == [67, 79, 78, 78, 69, 67, 84]) = true
    · have tC := hC
      clear hC
      go_wp2_with fail
      refine (rmany_any _ n c F nScheme _ A8.out).mono ?_
      rintro e w9 ⟨rfl, hd9⟩
      have B9 := hide (B8.out.trans (drawn_below hd9 _))
      have R9 := hide (keepRow R8.out (drawn_below hd9 _))
      have Rh9 := hide (keepRow Rh.out (drawn_below hd9 _))
      have A9 := hide (A8.out.below (drawn_below hd9 _))
      clear hd9 p0 p1 p2 p3 p4
      go_wp2_with fail
      refine (rmany_any _ n c F nPath _ A9.out).mono ?_
      rintro e w10 ⟨rfl, hd10⟩
      have B10 := hide (B9.out.trans (drawn_below hd10 _))
      have R10 := hide (keepRow R9.out (drawn_below hd10 _))
      have Rh10 := hide (keepRow Rh9.out (drawn_below hd10 _))
      clear hd10 B9 R9 Rh9 A9 B8 R8 Rh A8
      obtain ⟨p0, p1, p2, p3, p4⟩ := row5 Rh10.out
      have hle1 : cntF F nScheme n ≤ n := cntF_le
      have hle2 : cntF F nPath n ≤ n := cntF_le
      obtain ⟨c1, hc1⟩ : ∃ c1, c1 = cntF F nScheme n := ⟨_, rfl⟩
      obtain ⟨c2, hc2⟩ : ∃ c2, c2 = cntF F nPath n := ⟨_, rfl⟩
      rw [← hc1] at Hz hle1 ⊢
      rw [← hc2] at Hz hle2 ⊢
      clear hc1 hc2
      by_cases h0 : c1 + c2 = 0
      · have e1 : st = none := Hz.out.1.1 (by omega)
        have e2 : pa = none := Hz.out.2.1 (by omega)
        have dz : decide ((0 : Int) < (c1 : Int) + (c2 : Int)) = false := decide_eq_false (by omega)
        have dz2 : decide (0 < c1 + c2) = false := decide_eq_false (by omega)
        have hle3 : (c1 : Int) + (c2 : Int) ≤ 9223372036854775807 := by omega
        have E1 := hide e1
        have E2 := hide e2
        clear h0 e1 e2
        by_cases hE : (txt au).toList.isEmpty = true
        · have t3 := hE
          clear hE
          have hreq : reqB F n = false := by
            unfold reqB
            rw [ho, ← Hmt.out, ← Hst.out, ← Hau.out, ← Hpa.out, eq_connect, eq_empty, eq_empty, eq_empty, eq_empty]
            simp [tC, t3]
          obtain ⟨⟨c0, f0⟩, ⟨c1, f1⟩, ⟨c2, f2⟩, ⟨c3, f3⟩, ⟨c4, f4⟩, r5⟩ := store5p R10.out (.string ⟨#[]⟩) (.string ⟨#[]⟩) (.string ⟨#[]⟩) (.string ⟨#[]⟩) (.int .i64 0)
          have R4 := hide r5
          have B4 := hide (below5p B10.out (p := w.heap.size) (Nat.le_refl _) (.string ⟨#[]⟩) (.string ⟨#[]⟩) (.string ⟨#[]⟩) (.string ⟨#[]⟩) (.int .i64 0))
          clear r5
          go_wp2_with fail
          obtain ⟨d0, d1, d2, d3, d4⟩ := row5 R4.out
          refine bodyPost_ret (v := .tuple #[.agg #[.string ⟨#[]⟩, .string ⟨#[]⟩, .string ⟨#[]⟩, .string ⟨#[]⟩, .int .i64 0], .bool false]) ?_ rfl ⟨?_, B4.out⟩
          · rw [results_cell_tmp rfl]
            go_simp
          · unfold reqV reqS
            rw [hreq]
            rfl
        · have t3 : (txt au).toList.isEmpty = false := by simpa using hE
          clear hE
          have hreq : reqB F n = true := by
            unfold reqB
            rw [ho, ← Hmt.out, ← Hst.out, ← Hau.out, ← Hpa.out, eq_connect, eq_empty, eq_empty, eq_empty, eq_empty]
            simp [tC, E1.out, E2.out, t3]
          obtain ⟨⟨c0, f0⟩, ⟨c1, f1⟩, ⟨c2, f2⟩, ⟨c3, f3⟩, ⟨c4, f4⟩, r5⟩ := store5p R10.out (.string (txt mt)) (.string (txt st)) (.string (txt au)) (.string (txt pa)) (.int .i64 0)
          have R4 := hide r5
          have B4 := hide (below5p B10.out (p := w.heap.size) (Nat.le_refl _) (.string (txt mt)) (.string (txt st)) (.string (txt au)) (.string (txt pa)) (.int .i64 0))
          clear r5
          go_wp2_with fail
          obtain ⟨d0, d1, d2, d3, d4⟩ := row5 R4.out
          refine bodyPost_ret (v := .tuple #[.agg #[.string (txt mt), .string (txt st), .string (txt au), .string (txt pa), .int .i64 0], .bool true]) ?_ rfl ⟨?_, B4.out⟩
          · rw [results_cell_tmp rfl]
            go_simp
          · unfold reqV reqS
            rw [hreq, Hmt.out, Hst.out, Hau.out, Hpa.out]
            rfl
      · have dz : decide ((0 : Int) < (c1 : Int) + (c2 : Int)) = true := decide_eq_true (by omega)
        have dz2 : decide (0 < c1 + c2) = true := decide_eq_true (by omega)
        have hle3 : (c1 : Int) + (c2 : Int) ≤ 9223372036854775807 := by omega
        have HNS : Hid (st.isNone = false ∨ pa.isNone = false) := by
          show _ ∨ _
          cases hs : st with
          | some v => exact .inl rfl
          | none =>
            cases hp : pa with
            | some v => exact .inr rfl
            | none => exact absurd (by have a := Hz.out.1.2 hs; have b := Hz.out.2.2 hp; omega) h0
        clear h0
        have hreq : reqB F n = false := by
          unfold reqB
          rw [ho, ← Hmt.out, ← Hst.out, ← Hau.out, ← Hpa.out, eq_connect, eq_empty, eq_empty, eq_empty, eq_empty]
          rcases HNS.out with h | h <;> simp [tC, h]
        obtain ⟨⟨c0, f0⟩, ⟨c1, f1⟩, ⟨c2, f2⟩, ⟨c3, f3⟩, ⟨c4, f4⟩, r5⟩ := store5p R10.out (.string ⟨#[]⟩) (.string ⟨#[]⟩) (.string ⟨#[]⟩) (.string ⟨#[]⟩) (.int .i64 0)
        have R4 := hide r5
        have B4 := hide (below5p B10.out (p := w.heap.size) (Nat.le_refl _) (.string ⟨#[]⟩) (.string ⟨#[]⟩) (.string ⟨#[]⟩) (.string ⟨#[]⟩) (.int .i64 0))
        clear r5
        go_wp2_with fail
        obtain ⟨d0, d1, d2, d3, d4⟩ := row5 R4.out
        refine bodyPost_ret (v := .tuple #[.agg #[.string ⟨#[]⟩, .string ⟨#[]⟩, .string ⟨#[]⟩, .string ⟨#[]⟩, .int .i64 0], .bool false]) ?_ rfl ⟨?_, B4.out⟩
        · rw [results_cell_tmp rfl]
          go_simp
        · unfold reqV reqS
          rw [hreq]
          rfl
    · have tC : ((txt mt).toList == [67, 79, 78, 78, 69, 67, 84]) = false := by simpa using hC
      clear hC
      by_cases h1 : (txt mt).toList.isEmpty = true
      · have t1 := h1
        clear h1
        have hreq : reqB F n = false := by
          unfold reqB
          rw [ho, ← Hmt.out, ← Hst.out, ← Hau.out, ← Hpa.out, eq_connect, eq_empty, eq_empty, eq_empty, eq_empty]
          simp [tC, t1]
        obtain ⟨⟨c0, f0⟩, ⟨c1, f1⟩, ⟨c2, f2⟩, ⟨c3, f3⟩, ⟨c4, f4⟩, r5⟩ := store5p R8.out (.string ⟨#[]⟩) (.string ⟨#[]⟩) (.string ⟨#[]⟩) (.string ⟨#[]⟩) (.int .i64 0)
        have R4 := hide r5
        have B4 := hide (below5p B8.out (p := w.heap.size) (Nat.le_refl _) (.string ⟨#[]⟩) (.string ⟨#[]⟩) (.string ⟨#[]⟩) (.string ⟨#[]⟩) (.int .i64 0))
        clear r5
        go_wp2_with fail
        obtain ⟨d0, d1, d2, d3, d4⟩ := row5 R4.out
        refine bodyPost_ret (v := .tuple #[.agg #[.string ⟨#[]⟩, .string ⟨#[]⟩, .string ⟨#[]⟩, .string ⟨#[]⟩, .int .i64 0], .bool false]) ?_ rfl ⟨?_, B4.out⟩
        · rw [results_cell_tmp rfl]
          go_simp
        · unfold reqV reqS
          rw [hreq]
          rfl
      · have t1 : (txt mt).toList.isEmpty = false := by simpa using h1
        clear h1
        by_cases h2 : (txt st).toList.isEmpty = true
        · have t2 := h2
          clear h2
          have hreq : reqB F n = false := by
            unfold reqB
            rw [ho, ← Hmt.out, ← Hst.out, ← Hau.out, ← Hpa.out, eq_connect, eq_empty, eq_empty, eq_empty, eq_empty]
            simp [tC, t1, t2]
          obtain ⟨⟨c0, f0⟩, ⟨c1, f1⟩, ⟨c2, f2⟩, ⟨c3, f3⟩, ⟨c4, f4⟩, r5⟩ := store5p R8.out (.string ⟨#[]⟩) (.string ⟨#[]⟩) (.string ⟨#[]⟩) (.string ⟨#[]⟩) (.int .i64 0)
          have R4 := hide r5
          have B4 := hide (below5p B8.out (p := w.heap.size) (Nat.le_refl _) (.string ⟨#[]⟩) (.string ⟨#[]⟩) (.string ⟨#[]⟩) (.string ⟨#[]⟩) (.int .i64 0))
          clear r5
          go_wp2_with fail
          obtain ⟨d0, d1, d2, d3, d4⟩ := row5 R4.out
          refine bodyPost_ret (v := .tuple #[.agg #[.string ⟨#[]⟩, .string ⟨#[]⟩, .string ⟨#[]⟩, .string ⟨#[]⟩, .int .i64 0], .bool false]) ?_ rfl ⟨?_, B4.out⟩
          · rw [results_cell_tmp rfl]
            go_simp
          · unfold reqV reqS
            rw [hreq]
            rfl
        · have t2 : (txt st).toList.isEmpty = false := by simpa using h2
          clear h2
          by_cases h3 : (txt pa).toList.isEmpty = true
          · have t3 := h3
            clear h3
            have hreq : reqB F n = false := by
              unfold reqB
              rw [ho, ← Hmt.out, ← Hst.out, ← Hau.out, ← Hpa.out, eq_connect, eq_empty, eq_empty, eq_empty, eq_empty]
              simp [tC, t1, t2, t3]
            obtain ⟨⟨c0, f0⟩, ⟨c1, f1⟩, ⟨c2, f2⟩, ⟨c3, f3⟩, ⟨c4, f4⟩, r5⟩ := store5p R8.out (.string ⟨#[]⟩) (.string ⟨#[]⟩) (.string ⟨#[]⟩) (.string ⟨#[]⟩) (.int .i64 0)
            have R4 := hide r5
            have B4 := hide (below5p B8.out (p := w.heap.size) (Nat.le_refl _) (.string ⟨#[]⟩) (.string ⟨#[]⟩) (.string ⟨#[]⟩) (.string ⟨#[]⟩) (.int .i64 0))
            clear r5
            go_wp2_with fail
            obtain ⟨d0, d1, d2, d3, d4⟩ := row5 R4.out
            refine bodyPost_ret (v := .tuple #[.agg #[.string ⟨#[]⟩, .string ⟨#[]⟩, .string ⟨#[]⟩, .string ⟨#[]⟩, .int .i64 0], .bool false]) ?_ rfl ⟨?_, B4.out⟩
            · rw [results_cell_tmp rfl]
              go_simp
            · unfold reqV reqS
              rw [hreq]
              rfl
          · have t3 : (txt pa).toList.isEmpty = false := by simpa using h3
            clear h3
            have hreq : reqB F n = true := by
              unfold reqB
              rw [ho, ← Hmt.out, ← Hst.out, ← Hau.out, ← Hpa.out, eq_connect, eq_empty, eq_empty, eq_empty, eq_empty]
              simp [tC, t1, t2, t3]
            obtain ⟨⟨c0, f0⟩, ⟨c1, f1⟩, ⟨c2, f2⟩, ⟨c3, f3⟩, ⟨c4, f4⟩, r5⟩ := store5p R8.out (.string (txt mt)) (.string (txt st)) (.string (txt au)) (.string (txt pa)) (.int .i64 0)
            have R4 := hide r5
            have B4 := hide (below5p B8.out (p := w.heap.size) (Nat.le_refl _) (.string (txt mt)) (.string (txt st)) (.string (txt au)) (.string (txt pa)) (.int .i64 0))
            clear r5
            go_wp2_with fail
            obtain ⟨d0, d1, d2, d3, d4⟩ := row5 R4.out
            refine bodyPost_ret (v := .tuple #[.agg #[.string (txt mt), .string (txt st), .string (txt au), .string (txt pa), .int .i64 0], .bool true]) ?_ rfl ⟨?_, B4.out⟩
            · rw [results_cell_tmp rfl]
              go_simp
            · unfold reqV reqS
              rw [hreq, Hmt.out, Hst.out, Hau.out, Hpa.out]
              rfl
end Go.Proofs.YtpfhiimlloeciaaDoor
