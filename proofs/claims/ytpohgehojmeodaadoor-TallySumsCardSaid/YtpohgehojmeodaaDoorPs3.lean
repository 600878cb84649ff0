/- Layer 27: the program's Request. -/
import Derived.Test.YtpohgehojmeodaaDoorPs3a
import Derived.Deep.RegionHeld3
import Derived.Deep.Cut
import Derived.Deep.CutRange
namespace Go.Proofs.YtpohgehojmeodaaDoor
set_option linter.unusedVariables false
set_option linter.unusedSimpArgs false
open Go.RowKit Go.PlainAid

set_option maxRecDepth 100000 in
set_option maxHeartbeats 6400000 in
theorem request_any (A : Option Addr) (n c : Nat) (F : Nat → Fd) (w : World) (ha : RdFd w A n c F) : Calls Tryd.prog 186 #[.slice A n c] w fun e w' => e = .returned (reqV F n) ∧ Below w.heap.size w w' := by
  have R0 := hide (heap_alloc_new w HdZ)
  have B0 := hide ((Below.refl w.heap.size w).alloc (Nat.le_refl _) HdZ)
  have Ha := hide ((ha.below ((Below.refl _ _).alloc (Nat.le_refl _) HdZ)).below ((Below.refl _ _).alloc (Nat.le_refl _) (.cells #[.string nMethod, .string nScheme, .string nAuth, .string nPath] 9)))
  have hN := (OwnV.lit 1 9 0 (w.alloc HdZ) (fun i => .string (rqN.getD i sE)) #[.string nMethod, .string nScheme, .string nAuth, .string nPath] 4 (Nat.zero_le _) (by simp [maxLen]) rfl).rdS2
  rw [show (w.alloc HdZ).heap.size = w.heap.size + 1 by simp] at hN
  have HN := hide hN
  clear hN
  have B1 := hide (B0.out.alloc B0.out.size (.cells #[.string nMethod, .string nScheme, .string nAuth, .string nPath] 9))
  have R1 := hide (keepRow R0.out ((Below.refl _ _).alloc (Nat.le_refl _) (.cells #[.string nMethod, .string nScheme, .string nAuth, .string nPath] 9)))
  clear ha R0 B0
  unfold HdZ nMethod nScheme nAuth nPath at Ha HN R1 B1
  have hread := fun (W : World) (h1 : RdFd W A n c F) (h2 : RdV 1 W (some ⟨w.heap.size + 1, 0, none⟩) 4 4 (fun i => .string (rqN.getD i sE))) => read_any A (some ⟨w.heap.size + 1, 0, none⟩) n c 4 F rqN W h1 h2 (by decide) rq_apart rq_col
  rw [show rqN.length = 4 from rfl] at hread
  go_enter Tryd.func186, Tryd.ntmps186
  go_wp2_with fail
  refine (hread _ Ha.out HN.out).mono ?_
  rintro e w3 ⟨h1 | h1, hb⟩
  · obtain ⟨ho, rfl⟩ := h1
    have hreq : reqB F n = false := by unfold reqB; rw [ho]; rfl
    have R3 := hide (keepRow R1.out hb)
    have B3 := hide (B1.out.of hb)
    obtain ⟨⟨c0, f0⟩, ⟨c1, f1⟩, ⟨c2, f2⟩, ⟨c3, f3⟩, ⟨c4, f4⟩, r5⟩ := store5p R3.out (.string ⟨#[]⟩) (.string ⟨#[]⟩) (.string ⟨#[]⟩) (.string ⟨#[]⟩) (.int .i64 0)
    have B4 := hide (below5p B3.out (p := w.heap.size) (Nat.le_refl _) (.string ⟨#[]⟩) (.string ⟨#[]⟩) (.string ⟨#[]⟩) (.string ⟨#[]⟩) (.int .i64 0))
    have R4 := hide r5
    clear hb r5
    go_wp2_with fail
    obtain ⟨d0, d1, d2, d3, d4⟩ := row5 R4.out
    refine bodyPost_ret (v := reqV F n) ?_ rfl ⟨rfl, B4.out⟩
    rw [results_cell_tmp rfl]
    unfold reqV reqS
    rw [hreq]
    go_simp
    rfl
  · obtain ⟨ho, he, hown⟩ := h1
    have R3 := hide (keepRow R1.out hb)
    have B3 := hide (B1.out.of hb)
    have hz : ((w.alloc (.cells #[.string ⟨#[]⟩, .string ⟨#[]⟩, .string ⟨#[]⟩, .string ⟨#[]⟩, .int .i64 0] 160)).alloc (.cells #[.string ⟨#[58, 109, 101, 116, 104, 111, 100]⟩, .string ⟨#[58, 115, 99, 104, 101, 109, 101]⟩, .string ⟨#[58, 97, 117, 116, 104, 111, 114, 105, 116, 121]⟩, .string ⟨#[58, 112, 97, 116, 104]⟩] 9)).heap.size = w.heap.size + 2 := by simp
    rw [hz] at he hown
    simp only [show rqN.length = 4 from rfl] at he hown
    obtain ⟨gb, hgb⟩ : ∃ gb, gb = w.heap.size + 2 := ⟨_, rfl⟩
    rw [← hgb] at he hown
    subst he
    have HO := hide (show OwnV 2 194 gb w3 (.slice (some ⟨gb, 0, none⟩) 4 4) 4 (gotV rqN F n) from hown)
    have hgl := (World.ownsRow.lt HO.out gb rfl).2
    have hwg : w.heap.size < gb := by omega
    clear hb hown hz hgb
    obtain ⟨mt, hmt⟩ : ∃ x, x = valF F nMethod n := ⟨_, rfl⟩
    obtain ⟨st, hst⟩ : ∃ x, x = valF F nScheme n := ⟨_, rfl⟩
    obtain ⟨au, hau⟩ : ∃ x, x = valF F nAuth n := ⟨_, rfl⟩
    obtain ⟨pa, hpa⟩ : ∃ x, x = valF F nPath n := ⟨_, rfl⟩
    have g0 : w3.cell? ⟨gb, 0, none⟩ = some (.string (txt mt)) := by rw [hmt]; exact HO.out.cell (j := 0) (by decide)
    have g1 : w3.cell? ⟨gb, 1, none⟩ = some (.bool mt.isSome) := by rw [hmt]; exact HO.out.cell (j := 1) (by decide)
    have g2 : w3.cell? ⟨gb, 2, none⟩ = some (.string (txt st)) := by rw [hst]; exact HO.out.cell (j := 2) (by decide)
    have g3 : w3.cell? ⟨gb, 3, none⟩ = some (.bool st.isSome) := by rw [hst]; exact HO.out.cell (j := 3) (by decide)
    have g4 : w3.cell? ⟨gb, 4, none⟩ = some (.string (txt au)) := by rw [hau]; exact HO.out.cell (j := 4) (by decide)
    have g5 : w3.cell? ⟨gb, 5, none⟩ = some (.bool au.isSome) := by rw [hau]; exact HO.out.cell (j := 5) (by decide)
    have g6 : w3.cell? ⟨gb, 6, none⟩ = some (.string (txt pa)) := by rw [hpa]; exact HO.out.cell (j := 6) (by decide)
    have g7 : w3.cell? ⟨gb, 7, none⟩ = some (.bool pa.isSome) := by rw [hpa]; exact HO.out.cell (j := 7) (by decide)
    have Hmt := hide hmt
    have Hst := hide hst
    have Hau := hide hau
    have Hpa := hide hpa
    clear hmt hst hau hpa
    have hs3 := B3.out.size
    go_wp2_with fail
    go_cut [6, 7, 8, 9] from 19 to 30 (fun a b c d W => ∃ p q r s, a = .pointer (some ⟨p, 0, none⟩) ∧ b = .pointer (some ⟨q, 0, none⟩) ∧ c = .pointer (some ⟨r, 0, none⟩) ∧ d = .pointer (some ⟨s, 0, none⟩) ∧ Txt2 W p mt ∧ Txt2 W q st ∧ Txt2 W r au ∧ Txt2 W s pa ∧ W.heap[w.heap.size]? = some (.cells #[.string ⟨#[]⟩, .string ⟨#[]⟩, .string ⟨#[]⟩, .string ⟨#[]⟩, .int .i64 0] 160 (0, 0)) ∧ Below w.heap.size w W)
    case first =>
      go_region_held3 (fun W => (W.cell? ⟨gb, 0, none⟩ = some (.string (txt mt)) ∧ W.cell? ⟨gb, 1, none⟩ = some (.bool mt.isSome) ∧ W.cell? ⟨gb, 2, none⟩ = some (.string (txt st)) ∧ W.cell? ⟨gb, 3, none⟩ = some (.bool st.isSome) ∧ W.cell? ⟨gb, 4, none⟩ = some (.string (txt au)) ∧ W.cell? ⟨gb, 5, none⟩ = some (.bool au.isSome) ∧ W.cell? ⟨gb, 6, none⟩ = some (.string (txt pa)) ∧ W.cell? ⟨gb, 7, none⟩ = some (.bool pa.isSome)) ∧ gb < W.heap.size) (((try dsimp only); (repeat' apply And.intro) <;> (first | (go_keep; done) | (exact cellKeepT (w := w3) (by go_grown) (by assumption)) | (simp; omega)))) (fail)
      all_goals
        go_wp2_with fail
        go_meet
        refine ⟨_, _, _, _, rfl, rfl, rfl, rfl, ?_, ?_, ?_, ?_, ?_, ?_⟩
        · (first | exact heap4a _ _ _ _ _ | exact heap4b _ _ _ _ _ | exact heap4c _ _ _ _ _ | exact heap4d _ _ _ _ _)
        · (first | exact heap4a _ _ _ _ _ | exact heap4b _ _ _ _ _ | exact heap4c _ _ _ _ _ | exact heap4d _ _ _ _ _)
        · (first | exact heap4a _ _ _ _ _ | exact heap4b _ _ _ _ _ | exact heap4c _ _ _ _ _ | exact heap4d _ _ _ _ _)
        · (first | exact heap4a _ _ _ _ _ | exact heap4b _ _ _ _ _ | exact heap4c _ _ _ _ _ | exact heap4d _ _ _ _ _)
        · exact keepRow R3.out (below4 (Below.refl _ _) (Nat.le_refl _) _ _ _ _)
        · exact below4 B3.out hs3 _ _ _ _
    case rest =>
      obtain ⟨p, q, r, s, rfl, rfl, rfl, rfl, hp, hq, hr, hs, hR, hB⟩ := hcut
      unfold Txt2 at hp hq hr hs
      obtain ⟨p0, p1⟩ := row2 hp
      obtain ⟨q0, q1⟩ := row2 hq
      obtain ⟨r0, r1⟩ := row2 hr
      obtain ⟨s0, s1⟩ := row2 hs
      by_cases hC : ((txt mt).toList == [67, 79, 78, 78, 69, 67, 84]) = true
      · have tC := hC
        clear hC
        by_cases x0 : st.isSome = true
        · have t1 : st.isSome = true := x0
          clear x0
          by_cases x1 : pa.isSome = true
          · have t2 : pa.isSome = true := x1
            clear x1
            by_cases x2 : (txt au).toList.isEmpty = true
            · have t3 : (txt au).toList.isEmpty = true := x2
              clear x2
              have hreq : reqB F n = false := by
                unfold reqB
                rw [ho, ← Hmt.out, ← Hst.out, ← Hau.out, ← Hpa.out, eq_connect, eq_empty, eq_empty, eq_empty, eq_empty, isn, isn]
                simp [tC, t1, t2, t3]
              obtain ⟨⟨c0, f0⟩, ⟨c1, f1⟩, ⟨c2, f2⟩, ⟨c3, f3⟩, ⟨c4, f4⟩, r5⟩ := store5p hR (.string ⟨#[]⟩) (.string ⟨#[]⟩) (.string ⟨#[]⟩) (.string ⟨#[]⟩) (.int .i64 0)
              have R4 := hide r5
              have B4 := hide (below5p hB (p := w.heap.size) (Nat.le_refl _) (.string ⟨#[]⟩) (.string ⟨#[]⟩) (.string ⟨#[]⟩) (.string ⟨#[]⟩) (.int .i64 0))
              clear r5
              go_wp2_with fail
              obtain ⟨d0, d1, d2, d3, d4⟩ := row5 R4.out
              refine bodyPost_ret (v := .tuple #[.agg #[.string ⟨#[]⟩, .string ⟨#[]⟩, .string ⟨#[]⟩, .string ⟨#[]⟩, .int .i64 0], .bool false]) ?_ rfl ⟨?_, B4.out⟩
              · rw [results_cell_tmp rfl]
                go_simp
              · unfold reqV reqS
                rw [hreq]
                rfl
            · have t3 : (txt au).toList.isEmpty = false := by simpa using x2
              clear x2
              have hreq : reqB F n = false := by
                unfold reqB
                rw [ho, ← Hmt.out, ← Hst.out, ← Hau.out, ← Hpa.out, eq_connect, eq_empty, eq_empty, eq_empty, eq_empty, isn, isn]
                simp [tC, t1, t2, t3]
              obtain ⟨⟨c0, f0⟩, ⟨c1, f1⟩, ⟨c2, f2⟩, ⟨c3, f3⟩, ⟨c4, f4⟩, r5⟩ := store5p hR (.string ⟨#[]⟩) (.string ⟨#[]⟩) (.string ⟨#[]⟩) (.string ⟨#[]⟩) (.int .i64 0)
              have R4 := hide r5
              have B4 := hide (below5p hB (p := w.heap.size) (Nat.le_refl _) (.string ⟨#[]⟩) (.string ⟨#[]⟩) (.string ⟨#[]⟩) (.string ⟨#[]⟩) (.int .i64 0))
              clear r5
              go_wp2_with fail
              obtain ⟨d0, d1, d2, d3, d4⟩ := row5 R4.out
              refine bodyPost_ret (v := .tuple #[.agg #[.string ⟨#[]⟩, .string ⟨#[]⟩, .string ⟨#[]⟩, .string ⟨#[]⟩, .int .i64 0], .bool false]) ?_ rfl ⟨?_, B4.out⟩
              · rw [results_cell_tmp rfl]
                go_simp
              · unfold reqV reqS
                rw [hreq]
                rfl
          · have t2 : pa.isSome = false := by simpa using x1
            clear x1
            by_cases x2 : (txt au).toList.isEmpty = true
            · have t3 : (txt au).toList.isEmpty = true := x2
              clear x2
              have hreq : reqB F n = false := by
                unfold reqB
                rw [ho, ← Hmt.out, ← Hst.out, ← Hau.out, ← Hpa.out, eq_connect, eq_empty, eq_empty, eq_empty, eq_empty, isn, isn]
                simp [tC, t1, t2, t3]
              obtain ⟨⟨c0, f0⟩, ⟨c1, f1⟩, ⟨c2, f2⟩, ⟨c3, f3⟩, ⟨c4, f4⟩, r5⟩ := store5p hR (.string ⟨#[]⟩) (.string ⟨#[]⟩) (.string ⟨#[]⟩) (.string ⟨#[]⟩) (.int .i64 0)
              have R4 := hide r5
              have B4 := hide (below5p hB (p := w.heap.size) (Nat.le_refl _) (.string ⟨#[]⟩) (.string ⟨#[]⟩) (.string ⟨#[]⟩) (.string ⟨#[]⟩) (.int .i64 0))
              clear r5
              go_wp2_with fail
              obtain ⟨d0, d1, d2, d3, d4⟩ := row5 R4.out
              refine bodyPost_ret (v := .tuple #[.agg #[.string ⟨#[]⟩, .string ⟨#[]⟩, .string ⟨#[]⟩, .string ⟨#[]⟩, .int .i64 0], .bool false]) ?_ rfl ⟨?_, B4.out⟩
              · rw [results_cell_tmp rfl]
                go_simp
              · unfold reqV reqS
                rw [hreq]
                rfl
            · have t3 : (txt au).toList.isEmpty = false := by simpa using x2
              clear x2
              have hreq : reqB F n = false := by
                unfold reqB
                rw [ho, ← Hmt.out, ← Hst.out, ← Hau.out, ← Hpa.out, eq_connect, eq_empty, eq_empty, eq_empty, eq_empty, isn, isn]
                simp [tC, t1, t2, t3]
              obtain ⟨⟨c0, f0⟩, ⟨c1, f1⟩, ⟨c2, f2⟩, ⟨c3, f3⟩, ⟨c4, f4⟩, r5⟩ := store5p hR (.string ⟨#[]⟩) (.string ⟨#[]⟩) (.string ⟨#[]⟩) (.string ⟨#[]⟩) (.int .i64 0)
              have R4 := hide r5
              have B4 := hide (below5p hB (p := w.heap.size) (Nat.le_refl _) (.string ⟨#[]⟩) (.string ⟨#[]⟩) (.string ⟨#[]⟩) (.string ⟨#[]⟩) (.int .i64 0))
              clear r5
              go_wp2_with fail
              obtain ⟨d0, d1, d2, d3, d4⟩ := row5 R4.out
              refine bodyPost_ret (v := .tuple #[.agg #[.string ⟨#[]⟩, .string ⟨#[]⟩, .string ⟨#[]⟩, .string ⟨#[]⟩, .int .i64 0], .bool false]) ?_ rfl ⟨?_, B4.out⟩
              · rw [results_cell_tmp rfl]
                go_simp
              · unfold reqV reqS
                rw [hreq]
                rfl
        · have t1 : st.isSome = false := by simpa using x0
          clear x0
          by_cases x1 : pa.isSome = true
          · have t2 : pa.isSome = true := x1
            clear x1
            by_cases x2 : (txt au).toList.isEmpty = true
            · have t3 : (txt au).toList.isEmpty = true := x2
              clear x2
              have hreq : reqB F n = false := by
                unfold reqB
                rw [ho, ← Hmt.out, ← Hst.out, ← Hau.out, ← Hpa.out, eq_connect, eq_empty, eq_empty, eq_empty, eq_empty, isn, isn]
                simp [tC, t1, t2, t3]
              obtain ⟨⟨c0, f0⟩, ⟨c1, f1⟩, ⟨c2, f2⟩, ⟨c3, f3⟩, ⟨c4, f4⟩, r5⟩ := store5p hR (.string ⟨#[]⟩) (.string ⟨#[]⟩) (.string ⟨#[]⟩) (.string ⟨#[]⟩) (.int .i64 0)
              have R4 := hide r5
              have B4 := hide (below5p hB (p := w.heap.size) (Nat.le_refl _) (.string ⟨#[]⟩) (.string ⟨#[]⟩) (.string ⟨#[]⟩) (.string ⟨#[]⟩) (.int .i64 0))
              clear r5
              go_wp2_with fail
              obtain ⟨d0, d1, d2, d3, d4⟩ := row5 R4.out
              refine bodyPost_ret (v := .tuple #[.agg #[.string ⟨#[]⟩, .string ⟨#[]⟩, .string ⟨#[]⟩, .string ⟨#[]⟩, .int .i64 0], .bool false]) ?_ rfl ⟨?_, B4.out⟩
              · rw [results_cell_tmp rfl]
                go_simp
              · unfold reqV reqS
                rw [hreq]
                rfl
            · have t3 : (txt au).toList.isEmpty = false := by simpa using x2
              clear x2
              have hreq : reqB F n = false := by
                unfold reqB
                rw [ho, ← Hmt.out, ← Hst.out, ← Hau.out, ← Hpa.out, eq_connect, eq_empty, eq_empty, eq_empty, eq_empty, isn, isn]
                simp [tC, t1, t2, t3]
              obtain ⟨⟨c0, f0⟩, ⟨c1, f1⟩, ⟨c2, f2⟩, ⟨c3, f3⟩, ⟨c4, f4⟩, r5⟩ := store5p hR (.string ⟨#[]⟩) (.string ⟨#[]⟩) (.string ⟨#[]⟩) (.string ⟨#[]⟩) (.int .i64 0)
              have R4 := hide r5
              have B4 := hide (below5p hB (p := w.heap.size) (Nat.le_refl _) (.string ⟨#[]⟩) (.string ⟨#[]⟩) (.string ⟨#[]⟩) (.string ⟨#[]⟩) (.int .i64 0))
              clear r5
              go_wp2_with fail
              obtain ⟨d0, d1, d2, d3, d4⟩ := row5 R4.out
              refine bodyPost_ret (v := .tuple #[.agg #[.string ⟨#[]⟩, .string ⟨#[]⟩, .string ⟨#[]⟩, .string ⟨#[]⟩, .int .i64 0], .bool false]) ?_ rfl ⟨?_, B4.out⟩
              · rw [results_cell_tmp rfl]
                go_simp
              · unfold reqV reqS
                rw [hreq]
                rfl
          · have t2 : pa.isSome = false := by simpa using x1
            clear x1
            by_cases x2 : (txt au).toList.isEmpty = true
            · have t3 : (txt au).toList.isEmpty = true := x2
              clear x2
              have hreq : reqB F n = false := by
                unfold reqB
                rw [ho, ← Hmt.out, ← Hst.out, ← Hau.out, ← Hpa.out, eq_connect, eq_empty, eq_empty, eq_empty, eq_empty, isn, isn]
                simp [tC, t1, t2, t3]
              obtain ⟨⟨c0, f0⟩, ⟨c1, f1⟩, ⟨c2, f2⟩, ⟨c3, f3⟩, ⟨c4, f4⟩, r5⟩ := store5p hR (.string ⟨#[]⟩) (.string ⟨#[]⟩) (.string ⟨#[]⟩) (.string ⟨#[]⟩) (.int .i64 0)
              have R4 := hide r5
              have B4 := hide (below5p hB (p := w.heap.size) (Nat.le_refl _) (.string ⟨#[]⟩) (.string ⟨#[]⟩) (.string ⟨#[]⟩) (.string ⟨#[]⟩) (.int .i64 0))
              clear r5
              go_wp2_with fail
              obtain ⟨d0, d1, d2, d3, d4⟩ := row5 R4.out
              refine bodyPost_ret (v := .tuple #[.agg #[.string ⟨#[]⟩, .string ⟨#[]⟩, .string ⟨#[]⟩, .string ⟨#[]⟩, .int .i64 0], .bool false]) ?_ rfl ⟨?_, B4.out⟩
              · rw [results_cell_tmp rfl]
                go_simp
              · unfold reqV reqS
                rw [hreq]
                rfl
            · have t3 : (txt au).toList.isEmpty = false := by simpa using x2
              clear x2
              have hreq : reqB F n = true := by
                unfold reqB
                rw [ho, ← Hmt.out, ← Hst.out, ← Hau.out, ← Hpa.out, eq_connect, eq_empty, eq_empty, eq_empty, eq_empty, isn, isn]
                simp [tC, t1, t2, t3]
              obtain ⟨⟨c0, f0⟩, ⟨c1, f1⟩, ⟨c2, f2⟩, ⟨c3, f3⟩, ⟨c4, f4⟩, r5⟩ := store5p hR (.string (txt mt)) (.string (txt st)) (.string (txt au)) (.string (txt pa)) (.int .i64 0)
              have R4 := hide r5
              have B4 := hide (below5p hB (p := w.heap.size) (Nat.le_refl _) (.string (txt mt)) (.string (txt st)) (.string (txt au)) (.string (txt pa)) (.int .i64 0))
              clear r5
              go_wp2_with fail
              obtain ⟨d0, d1, d2, d3, d4⟩ := row5 R4.out
              refine bodyPost_ret (v := .tuple #[.agg #[.string (txt mt), .string (txt st), .string (txt au), .string (txt pa), .int .i64 0], .bool true]) ?_ rfl ⟨?_, B4.out⟩
              · rw [results_cell_tmp rfl]
                go_simp
              · unfold reqV reqS
                rw [hreq, Hmt.out, Hst.out, Hau.out, Hpa.out]
                rfl
      · have tC : ((txt mt).toList == [67, 79, 78, 78, 69, 67, 84]) = false := by simpa using hC
        clear hC
        by_cases x0 : (txt mt).toList.isEmpty = true
        · have t1 : (txt mt).toList.isEmpty = true := x0
          clear x0
          by_cases x1 : (txt st).toList.isEmpty = true
          · have t2 : (txt st).toList.isEmpty = true := x1
            clear x1
            by_cases x2 : (txt pa).toList.isEmpty = true
            · have t3 : (txt pa).toList.isEmpty = true := x2
              clear x2
              have hreq : reqB F n = false := by
                unfold reqB
                rw [ho, ← Hmt.out, ← Hst.out, ← Hau.out, ← Hpa.out, eq_connect, eq_empty, eq_empty, eq_empty, eq_empty, isn, isn]
                simp [tC, t1, t2, t3]
              obtain ⟨⟨c0, f0⟩, ⟨c1, f1⟩, ⟨c2, f2⟩, ⟨c3, f3⟩, ⟨c4, f4⟩, r5⟩ := store5p hR (.string ⟨#[]⟩) (.string ⟨#[]⟩) (.string ⟨#[]⟩) (.string ⟨#[]⟩) (.int .i64 0)
              have R4 := hide r5
              have B4 := hide (below5p hB (p := w.heap.size) (Nat.le_refl _) (.string ⟨#[]⟩) (.string ⟨#[]⟩) (.string ⟨#[]⟩) (.string ⟨#[]⟩) (.int .i64 0))
              clear r5
              go_wp2_with fail
              obtain ⟨d0, d1, d2, d3, d4⟩ := row5 R4.out
              refine bodyPost_ret (v := .tuple #[.agg #[.string ⟨#[]⟩, .string ⟨#[]⟩, .string ⟨#[]⟩, .string ⟨#[]⟩, .int .i64 0], .bool false]) ?_ rfl ⟨?_, B4.out⟩
              · rw [results_cell_tmp rfl]
                go_simp
              · unfold reqV reqS
                rw [hreq]
                rfl
            · have t3 : (txt pa).toList.isEmpty = false := by simpa using x2
              clear x2
              have hreq : reqB F n = false := by
                unfold reqB
                rw [ho, ← Hmt.out, ← Hst.out, ← Hau.out, ← Hpa.out, eq_connect, eq_empty, eq_empty, eq_empty, eq_empty, isn, isn]
                simp [tC, t1, t2, t3]
              obtain ⟨⟨c0, f0⟩, ⟨c1, f1⟩, ⟨c2, f2⟩, ⟨c3, f3⟩, ⟨c4, f4⟩, r5⟩ := store5p hR (.string ⟨#[]⟩) (.string ⟨#[]⟩) (.string ⟨#[]⟩) (.string ⟨#[]⟩) (.int .i64 0)
              have R4 := hide r5
              have B4 := hide (below5p hB (p := w.heap.size) (Nat.le_refl _) (.string ⟨#[]⟩) (.string ⟨#[]⟩) (.string ⟨#[]⟩) (.string ⟨#[]⟩) (.int .i64 0))
              clear r5
              go_wp2_with fail
              obtain ⟨d0, d1, d2, d3, d4⟩ := row5 R4.out
              refine bodyPost_ret (v := .tuple #[.agg #[.string ⟨#[]⟩, .string ⟨#[]⟩, .string ⟨#[]⟩, .string ⟨#[]⟩, .int .i64 0], .bool false]) ?_ rfl ⟨?_, B4.out⟩
              · rw [results_cell_tmp rfl]
                go_simp
              · unfold reqV reqS
                rw [hreq]
                rfl
          · have t2 : (txt st).toList.isEmpty = false := by simpa using x1
            clear x1
            by_cases x2 : (txt pa).toList.isEmpty = true
            · have t3 : (txt pa).toList.isEmpty = true := x2
              clear x2
              have hreq : reqB F n = false := by
                unfold reqB
                rw [ho, ← Hmt.out, ← Hst.out, ← Hau.out, ← Hpa.out, eq_connect, eq_empty, eq_empty, eq_empty, eq_empty, isn, isn]
                simp [tC, t1, t2, t3]
              obtain ⟨⟨c0, f0⟩, ⟨c1, f1⟩, ⟨c2, f2⟩, ⟨c3, f3⟩, ⟨c4, f4⟩, r5⟩ := store5p hR (.string ⟨#[]⟩) (.string ⟨#[]⟩) (.string ⟨#[]⟩) (.string ⟨#[]⟩) (.int .i64 0)
              have R4 := hide r5
              have B4 := hide (below5p hB (p := w.heap.size) (Nat.le_refl _) (.string ⟨#[]⟩) (.string ⟨#[]⟩) (.string ⟨#[]⟩) (.string ⟨#[]⟩) (.int .i64 0))
              clear r5
              go_wp2_with fail
              obtain ⟨d0, d1, d2, d3, d4⟩ := row5 R4.out
              refine bodyPost_ret (v := .tuple #[.agg #[.string ⟨#[]⟩, .string ⟨#[]⟩, .string ⟨#[]⟩, .string ⟨#[]⟩, .int .i64 0], .bool false]) ?_ rfl ⟨?_, B4.out⟩
              · rw [results_cell_tmp rfl]
                go_simp
              · unfold reqV reqS
                rw [hreq]
                rfl
            · have t3 : (txt pa).toList.isEmpty = false := by simpa using x2
              clear x2
              have hreq : reqB F n = false := by
                unfold reqB
                rw [ho, ← Hmt.out, ← Hst.out, ← Hau.out, ← Hpa.out, eq_connect, eq_empty, eq_empty, eq_empty, eq_empty, isn, isn]
                simp [tC, t1, t2, t3]
              obtain ⟨⟨c0, f0⟩, ⟨c1, f1⟩, ⟨c2, f2⟩, ⟨c3, f3⟩, ⟨c4, f4⟩, r5⟩ := store5p hR (.string ⟨#[]⟩) (.string ⟨#[]⟩) (.string ⟨#[]⟩) (.string ⟨#[]⟩) (.int .i64 0)
              have R4 := hide r5
              have B4 := hide (below5p hB (p := w.heap.size) (Nat.le_refl _) (.string ⟨#[]⟩) (.string ⟨#[]⟩) (.string ⟨#[]⟩) (.string ⟨#[]⟩) (.int .i64 0))
              clear r5
              go_wp2_with fail
              obtain ⟨d0, d1, d2, d3, d4⟩ := row5 R4.out
              refine bodyPost_ret (v := .tuple #[.agg #[.string ⟨#[]⟩, .string ⟨#[]⟩, .string ⟨#[]⟩, .string ⟨#[]⟩, .int .i64 0], .bool false]) ?_ rfl ⟨?_, B4.out⟩
              · rw [results_cell_tmp rfl]
                go_simp
              · unfold reqV reqS
                rw [hreq]
                rfl
        · have t1 : (txt mt).toList.isEmpty = false := by simpa using x0
          clear x0
          by_cases x1 : (txt st).toList.isEmpty = true
          · have t2 : (txt st).toList.isEmpty = true := x1
            clear x1
            by_cases x2 : (txt pa).toList.isEmpty = true
            · have t3 : (txt pa).toList.isEmpty = true := x2
              clear x2
              have hreq : reqB F n = false := by
                unfold reqB
                rw [ho, ← Hmt.out, ← Hst.out, ← Hau.out, ← Hpa.out, eq_connect, eq_empty, eq_empty, eq_empty, eq_empty, isn, isn]
                simp [tC, t1, t2, t3]
              obtain ⟨⟨c0, f0⟩, ⟨c1, f1⟩, ⟨c2, f2⟩, ⟨c3, f3⟩, ⟨c4, f4⟩, r5⟩ := store5p hR (.string ⟨#[]⟩) (.string ⟨#[]⟩) (.string ⟨#[]⟩) (.string ⟨#[]⟩) (.int .i64 0)
              have R4 := hide r5
              have B4 := hide (below5p hB (p := w.heap.size) (Nat.le_refl _) (.string ⟨#[]⟩) (.string ⟨#[]⟩) (.string ⟨#[]⟩) (.string ⟨#[]⟩) (.int .i64 0))
              clear r5
              go_wp2_with fail
              obtain ⟨d0, d1, d2, d3, d4⟩ := row5 R4.out
              refine bodyPost_ret (v := .tuple #[.agg #[.string ⟨#[]⟩, .string ⟨#[]⟩, .string ⟨#[]⟩, .string ⟨#[]⟩, .int .i64 0], .bool false]) ?_ rfl ⟨?_, B4.out⟩
              · rw [results_cell_tmp rfl]
                go_simp
              · unfold reqV reqS
                rw [hreq]
                rfl
            · have t3 : (txt pa).toList.isEmpty = false := by simpa using x2
              clear x2
              have hreq : reqB F n = false := by
                unfold reqB
                rw [ho, ← Hmt.out, ← Hst.out, ← Hau.out, ← Hpa.out, eq_connect, eq_empty, eq_empty, eq_empty, eq_empty, isn, isn]
                simp [tC, t1, t2, t3]
              obtain ⟨⟨c0, f0⟩, ⟨c1, f1⟩, ⟨c2, f2⟩, ⟨c3, f3⟩, ⟨c4, f4⟩, r5⟩ := store5p hR (.string ⟨#[]⟩) (.string ⟨#[]⟩) (.string ⟨#[]⟩) (.string ⟨#[]⟩) (.int .i64 0)
              have R4 := hide r5
              have B4 := hide (below5p hB (p := w.heap.size) (Nat.le_refl _) (.string ⟨#[]⟩) (.string ⟨#[]⟩) (.string ⟨#[]⟩) (.string ⟨#[]⟩) (.int .i64 0))
              clear r5
              go_wp2_with fail
              obtain ⟨d0, d1, d2, d3, d4⟩ := row5 R4.out
              refine bodyPost_ret (v := .tuple #[.agg #[.string ⟨#[]⟩, .string ⟨#[]⟩, .string ⟨#[]⟩, .string ⟨#[]⟩, .int .i64 0], .bool false]) ?_ rfl ⟨?_, B4.out⟩
              · rw [results_cell_tmp rfl]
                go_simp
              · unfold reqV reqS
                rw [hreq]
                rfl
          · have t2 : (txt st).toList.isEmpty = false := by simpa using x1
            clear x1
            by_cases x2 : (txt pa).toList.isEmpty = true
            · have t3 : (txt pa).toList.isEmpty = true := x2
              clear x2
              have hreq : reqB F n = false := by
                unfold reqB
                rw [ho, ← Hmt.out, ← Hst.out, ← Hau.out, ← Hpa.out, eq_connect, eq_empty, eq_empty, eq_empty, eq_empty, isn, isn]
                simp [tC, t1, t2, t3]
              obtain ⟨⟨c0, f0⟩, ⟨c1, f1⟩, ⟨c2, f2⟩, ⟨c3, f3⟩, ⟨c4, f4⟩, r5⟩ := store5p hR (.string ⟨#[]⟩) (.string ⟨#[]⟩) (.string ⟨#[]⟩) (.string ⟨#[]⟩) (.int .i64 0)
              have R4 := hide r5
              have B4 := hide (below5p hB (p := w.heap.size) (Nat.le_refl _) (.string ⟨#[]⟩) (.string ⟨#[]⟩) (.string ⟨#[]⟩) (.string ⟨#[]⟩) (.int .i64 0))
              clear r5
              go_wp2_with fail
              obtain ⟨d0, d1, d2, d3, d4⟩ := row5 R4.out
              refine bodyPost_ret (v := .tuple #[.agg #[.string ⟨#[]⟩, .string ⟨#[]⟩, .string ⟨#[]⟩, .string ⟨#[]⟩, .int .i64 0], .bool false]) ?_ rfl ⟨?_, B4.out⟩
              · rw [results_cell_tmp rfl]
                go_simp
              · unfold reqV reqS
                rw [hreq]
                rfl
            · have t3 : (txt pa).toList.isEmpty = false := by simpa using x2
              clear x2
              have hreq : reqB F n = true := by
                unfold reqB
                rw [ho, ← Hmt.out, ← Hst.out, ← Hau.out, ← Hpa.out, eq_connect, eq_empty, eq_empty, eq_empty, eq_empty, isn, isn]
                simp [tC, t1, t2, t3]
              obtain ⟨⟨c0, f0⟩, ⟨c1, f1⟩, ⟨c2, f2⟩, ⟨c3, f3⟩, ⟨c4, f4⟩, r5⟩ := store5p hR (.string (txt mt)) (.string (txt st)) (.string (txt au)) (.string (txt pa)) (.int .i64 0)
              have R4 := hide r5
              have B4 := hide (below5p hB (p := w.heap.size) (Nat.le_refl _) (.string (txt mt)) (.string (txt st)) (.string (txt au)) (.string (txt pa)) (.int .i64 0))
              clear r5
              go_wp2_with fail
              obtain ⟨d0, d1, d2, d3, d4⟩ := row5 R4.out
              refine bodyPost_ret (v := .tuple #[.agg #[.string (txt mt), .string (txt st), .string (txt au), .string (txt pa), .int .i64 0], .bool true]) ?_ rfl ⟨?_, B4.out⟩
              · rw [results_cell_tmp rfl]
                go_simp
              · unfold reqV reqS
                rw [hreq, Hmt.out, Hst.out, Hau.out, Hpa.out]
                rfl
end Go.Proofs.YtpohgehojmeodaaDoor
