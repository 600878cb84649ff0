/- Layer 27: no fields are both; the walk of PseudoOne. -/
import Derived.Test.YtnjmkbaddeeniaaPs9
namespace Go.Proofs.Ytnjmkbaddeeniaa
open Go.RowKit Go.PlainAid

theorem same_more {F K : Nat → Fd} {n c : Nat} (h : ∀ i, i < n → K i = F i) (hc : ∀ i, n ≤ i → i < n + c → colB (K i).name = false) : reqV K (n + c) = reqV F n ∧ resV K (n + c) = resV F n := by
  have hv : ∀ x, colB x = true → valF K x (n + c) = valF F x n := fun x hx => (valF_more hx hc).trans (valF_congr h)
  have ho : ∀ NM, okF NM K (n + c) = okF NM F n := fun NM => (okF_more hc).trans (okF_congr h)
  have c1 := hv nMethod (by decide +kernel)
  have c2 := hv nScheme (by decide +kernel)
  have c3 := hv nAuth (by decide +kernel)
  have c4 := hv nPath (by decide +kernel)
  have c5 := hv nStatus (by decide +kernel)
  have hr : reqB K (n + c) = reqB F n := by unfold reqB; rw [ho, c1, c2, c3, c4]
  have hs : resB K (n + c) = resB F n := by unfold resB; rw [ho, c5]
  exact ⟨by unfold reqV reqS; rw [hr, c1, c2, c3, c4], by unfold resV resN; rw [hs, c5]⟩
theorem req_at {F : Nat → Fd} {n : Nat} (h : reqB F n = true) : ∃ j, j < n ∧ (F j).name = nMethod := by
  cases hv : valF F nMethod n with
  | some v => exact valF_some hv
  | none =>
    unfold reqB at h
    rw [hv, show eqN (txt none) sConnect = false by decide +kernel, show eqN (txt none) sE = true by decide +kernel] at h
    simp at h
theorem res_at {F : Nat → Fd} {n : Nat} (h : resB F n = true) : ∃ j, j < n ∧ (F j).name = nStatus := by
  cases hv : valF F nStatus n with
  | some v => exact valF_some hv
  | none =>
    unfold resB at h
    rw [hv, show decide ((txt none).size = 3) = false by decide +kernel] at h
    simp at h
theorem req_res {F : Nat → Fd} {n : Nat} (h : reqB F n = true) : resB F n = false := by
  cases hs : resB F n with
  | false => rfl
  | true =>
    obtain ⟨j, hj, e⟩ := req_at h
    have ho : okF rsN F n = true := by
      unfold resB at hs
      simp only [Bool.and_eq_true] at hs
      exact hs.1.1.1.1
    have h1 := okF_iff.1 ho j hj (by rw [e]; decide +kernel)
    unfold hitB at h1
    rw [e, show rsN.any (eqN nMethod ·) = false by decide +kernel] at h1
    simp at h1
theorem req_tr {F : Nat → Fd} {n : Nat} (h : reqB F n = true) : okF [] F n = false := by
  cases ho : okF [] F n with
  | false => rfl
  | true =>
    obtain ⟨j, hj, e⟩ := req_at h
    have := okF_nil.1 ho j hj
    rw [e, show colB nMethod = true by decide +kernel] at this
    cases this
theorem res_tr {F : Nat → Fd} {n : Nat} (h : resB F n = true) : okF [] F n = false := by
  cases ho : okF [] F n with
  | false => rfl
  | true =>
    obtain ⟨j, hj, e⟩ := res_at h
    have := okF_nil.1 ho j hj
    rw [e, show colB nStatus = true by decide +kernel] at this
    cases this
theorem field_info : (Try.prog.info? 46).map (fun i => (i.zero, i.size, i.bytes)) = some (some (.agg #[.string ⟨#[]⟩, .string ⟨#[]⟩, .bool false]), 3, 40) := by kernel_rfl
theorem okF_one (x : Fd) : okF [] (fun _ => x) 1 = !colB x.name := by
  unfold okF hitB
  simp [okF]
def okH (H : Nat → Fd) (c : Nat) : Prop := ∀ i, i < c → colB (H i).name = false ∧ (H i).name.size ≤ maxLen ∧ (H i).val.size ≤ maxLen
set_option maxRecDepth 100000 in
set_option maxHeartbeats 6400000 in
theorem one_walk (A C : Option Addr) (n c m d : Nat) (F G : Nat → Fd) (w : World) (ha : RdFd w A n c F) (hg : RdFd w C m d G) : Calls Try.prog 7 #[.slice A n c, .slice C m d] w (Yes w) := by
  have Ha := hide ha
  have Hg := hide hg
  clear ha hg
  obtain ⟨i0, hi, hz0, hz1, hz2⟩ := info_parts field_info
  go_enter Try.func7, Try.ntmps7
  go_wp2_with fail
  refine (flarge_any A n c 60 200 F _ Ha.out).mono ?_
  rintro e w1 ⟨b, rfl, hd, hb⟩
  have B1 := hide (drawn_below hd w.heap.size)
  have A1 := hide (Ha.out.below (drawn_below hd _))
  have G1 := hide (Hg.out.below (drawn_below hd _))
  cases b with
  | true =>
    clear hd hb
    go_wp2_with fail
    refine (alive27 _).mono ?_
    rintro e w2 ⟨rfl, hb2⟩
    have B2 := hide (B1.out.of hb2)
    clear hb2
    go_wp2_with fail
    go_ret
    exact ⟨rfl, B2.out⟩
  | false =>
    have hn := (hb rfl).1
    clear hd hb
    go_wp2_with fail
    refine (flarge_any C m d 60 200 G _ G1.out).mono ?_
    rintro e w2 ⟨b, rfl, hd, hb⟩
    have B2 := hide (B1.out.trans (drawn_below hd w.heap.size))
    have A2 := hide (A1.out.below (drawn_below hd _))
    have G2 := hide (G1.out.below (drawn_below hd _))
    clear B1 A1 G1
    cases b with
    | true =>
      clear hd hb
      go_wp2_with fail
      refine (alive27 _).mono ?_
      rintro e w3 ⟨rfl, hb2⟩
      have B3 := hide (B2.out.of hb2)
      clear hb2
      go_wp2_with fail
      go_ret
      exact ⟨rfl, B3.out⟩
    | false =>
      have hm := (hb rfl).1
      clear hd hb
      have hs2 := B2.out.size
      have O0 := hide (OwnV.lit 3 46 w.heap.size w2 (fdV F) #[] 0 hs2 (by simp [maxLen]) rfl)
      have B3 := hide (B2.out.alloc hs2 (.cells #[] 46))
      have A3 := hide (A2.out.below ((Below.refl _ _).alloc (Nat.le_refl _) (.cells #[] 46)))
      have G3 := hide (G2.out.below ((Below.refl _ _).alloc (Nat.le_refl _) (.cells #[] 46)))
      clear B2 A2 G2
      go_wp2_with (at_builtin; refine wp_appV rfl (.tmp 23) (.tmp 24) _ rfl 3 i0 _ 40 Try.underlying43 hi hz0 hz1 hz2 rfl (by omega) w.heap.size _ 0 (fdV F) rfl O0.out A n c _ rfl (rdV_of_rdFd A3.out) (fdV_one _ _) (by simp only [maxLen]; omega) (by omega) B3.out.size ?_; intro v4 w4 hown4 hg4 _)
      have B4 := hide (B3.out.grown hg4 B3.out.size (fun j e => (World.ownsRow.lt O0.out j e).1))
      have O4 := hide (show OwnV 3 46 w.heap.size w4 v4 (n + 0) (fdV (catFd n F G)) from by
        rw [Nat.zero_add] at hown4
        exact hown4.congr fun i hi' => by
          unfold catV
          rw [if_neg (by omega)]
          rw [Nat.zero_mul, Nat.sub_zero]
          exact fdV_congr (F := F) (G := catFd n F G) (n := n) (fun j hj => by simp [catFd, hj]) i hi')
      clear hown4 hg4 A3 G3 B3 O0
      go_loopw [5, 28] (fun v i wr => ∃ (k q : Nat) (H : Nat → Fd), k ≤ m ∧ q ≤ k ∧ i = .int .i64 k ∧ OwnV 3 46 w.heap.size wr v (n + q) (fdV (catFd n F H)) ∧ okH H q ∧ Below w.heap.size w wr) (fun _ i _ => m - (intOf i).toNat)
      case atStart => exact ⟨0, 0, G, Nat.zero_le _, Nat.le_refl _, rfl, O4.out, fun i hi => absurd hi (by omega), B4.out⟩
      case round =>
        obtain ⟨k, q, H, hk, hqk, rfl, hO, hH, hB⟩ := hrel
        have HO := hide hO
        have HH := hide hH
        have HB := hide hB
        clear hO hH hB B4 O4
        by_cases hlt : k < m
        · obtain ⟨b, off, rfl, hc0, hc1, hc2⟩ := (Hg.out.below HB.out).at_ hlt
          have hsz := Hg.out.2.2.2.2 k hlt
          have hkn : (k : Int) < (m : Int) := by omega
          obtain ⟨X, hX⟩ : ∃ X, G k = X := ⟨_, rfl⟩
          rw [hX] at hc0 hc1 hc2 hsz
          have Hsz := hide hsz
          clear hX hsz
          obtain ⟨nm, vl, nv⟩ := X
          simp only at hc0 hc1 hc2 Hsz
          have R1 := hide (heap_alloc_new wr (.cells #[.string nm, .string vl, .bool nv] 46))
          obtain ⟨r0, r1, r2⟩ := row3F R1.out
          have B1 := hide (HB.out.alloc HB.out.size (.cells #[.string nm, .string vl, .bool nv] 46))
          have O1 := hide (HO.out.below ((Below.refl _ _).alloc (Nat.le_refl _) (.cells #[.string nm, .string vl, .bool nv] 46)))
          have O2 := hide (O1.out.below ((Below.refl _ _).alloc (Nat.le_refl _) (.cells #[.string nm, .string vl, .bool nv] 46)))
          have B2 := hide (B1.out.alloc B1.out.size (.cells #[.string nm, .string vl, .bool nv] 46))
          have R2 := hide (keepRow R1.out ((Below.refl _ _).alloc (Nat.le_refl _) (.cells #[.string nm, .string vl, .bool nv] 46)))
          have F2 := hide (rdFd_of_rdV (rdV_oneFd (wr.alloc (.cells #[.string nm, .string vl, .bool nv] 46)) ⟨nm, vl, nv⟩ 46) (fun i _ => Hsz.out))
          rw [show (wr.alloc (.cells #[.string nm, .string vl, .bool nv] 46)).heap.size = wr.heap.size + 1 by simp] at F2
          clear HO HB
          go_wp2_with fail
          refine (rtrailer_any _ 1 1 (fun _ => ⟨nm, vl, nv⟩) _ F2.out).mono ?_
          rintro e w5 ⟨rfl, hb5⟩
          have B5 := hide (B2.out.of hb5)
          have O5 := hide (O2.out.below hb5)
          have R5 := hide (keepRow R2.out hb5)
          rw [okF_one]
          obtain ⟨cb, hcb⟩ : ∃ cb, cb = colB nm := ⟨_, rfl⟩
          simp only [← hcb]
          have Hcb := hide hcb
          generalize wr.heap.size = pb at *
          clear hb5 hcb r0 r1 r2 R1 R2 B1 B2 O1 O2 F2 hc0 hc1 hc2
          obtain ⟨r0, r1, r2⟩ := row3F R5.out
          cases cb with
          | true =>
            go_wp2_with fail
            go_roundw
            case rel => exact ⟨k + 1, q, H, by omega, by omega, by go_num, O5.out, HH.out, B5.out⟩
            case measure => simp [intOf]; omega
          | false =>
            have B6 := hide (B5.out.alloc B5.out.size (.cells #[.string nm, .string vl, .bool nv] 46))
            have O6 := hide (O5.out.alloc (.cells #[.string nm, .string vl, .bool nv] 46))
            go_wp2_with (at_builtin; refine wp_appV rfl (.tmp 35) (.tmp 37) _ rfl 3 i0 _ 40 Try.underlying43 hi hz0 hz1 hz2 rfl (by omega) w.heap.size _ (n + q) _ rfl O6.out _ 1 1 _ rfl (rdV_oneFd w5 ⟨nm, vl, nv⟩ 46) (fdV_one _ _) (by simp only [maxLen]; omega) (by omega) B6.out.size ?_; intro v7 w7 hown7 hg7 _)
            have B7 := hide (B6.out.grown hg7 B6.out.size (fun j e => (World.ownsRow.lt O6.out j e).1))
            have O7 := hide (show OwnV 3 46 w.heap.size w7 v7 (n + (q + 1)) (fdV (catFd n F (catFd q H (fun _ => ⟨nm, vl, nv⟩)))) from by
              rw [fdV_cat] at hown7
              refine hown7.congr (fdV_congr fun i hi' => ?_)
              unfold catFd
              by_cases h1 : i < n
              · rw [if_pos (by omega), if_pos h1, if_pos h1]
              · rw [if_neg h1, if_neg h1]
                by_cases h2 : i < n + q
                · rw [if_pos h2, if_pos (by omega)]
                · rw [if_neg h2, if_neg (by omega)])
            have H7 : Hid (okH (catFd q H (fun _ => ⟨nm, vl, nv⟩)) (q + 1)) := fun i hi' => by
              unfold catFd
              by_cases h1 : i < q
              · rw [if_pos h1]; exact HH.out i h1
              · rw [if_neg h1]; exact ⟨Hcb.out.symm, Hsz.out⟩
            clear hown7 hg7
            go_roundw
            case rel => exact ⟨k + 1, q + 1, _, by omega, by omega, by go_num, O7.out, H7.out, B7.out⟩
            case measure => simp [intOf]; omega
        · obtain rfl : k = m := by omega
          obtain ⟨Av, cv, rfl, hrv, _⟩ := HO.out.rd
          have V0 := hide (rdFd_of_rdV hrv (fun i hi' => by
            unfold catFd
            by_cases h1 : i < n
            · rw [if_pos h1]; exact Ha.out.2.2.2.2 i h1
            · rw [if_neg h1]; exact (HH.out (i - n) (by omega)).2))
          obtain ⟨hsr, hss⟩ := same_more (F := F) (K := catFd n F H) (n := n) (c := q) (fun i hi' => by simp [catFd, hi']) (fun i h1 h2 => by
            unfold catFd
            rw [if_neg (by omega)]
            exact (HH.out (i - n) (by omega)).1)
          have h1 := fun W (h : RdFd W A n c F) => request_any A n c F W h
          have h2 := fun W (h : RdFd W A n c F) => response_any A n c F W h
          have h3 := fun W (h : RdFd W Av (n + q) cv (catFd n F H)) => request_any Av (n + q) cv (catFd n F H) W h
          have h4 := fun W (h : RdFd W Av (n + q) cv (catFd n F H)) => response_any Av (n + q) cv (catFd n F H) W h
          have h5 := fun W (h : RdFd W A n c F) => trailer_any A n c F W h
          have h6 := fun W (h : RdFd W A n c F) => rtrailer_any A n c F W h
          rw [hsr] at h3
          rw [hss] at h4
          have a1 := req_res (F := F) (n := n)
          have a2 := req_tr (F := F) (n := n)
          have a3 := res_tr (F := F) (n := n)
          unfold reqV at h1 h3
          unfold resV at h2 h4
          obtain ⟨x0, hx0⟩ : ∃ x, x = reqS F n nMethod := ⟨_, rfl⟩
          obtain ⟨x1, hx1⟩ : ∃ x, x = reqS F n nScheme := ⟨_, rfl⟩
          obtain ⟨x2, hx2⟩ : ∃ x, x = reqS F n nAuth := ⟨_, rfl⟩
          obtain ⟨x3, hx3⟩ : ∃ x, x = reqS F n nPath := ⟨_, rfl⟩
          obtain ⟨y0, hy0⟩ : ∃ x : ByteArray, x = ⟨#[]⟩ := ⟨_, rfl⟩
          obtain ⟨y4, hy4⟩ : ∃ x, x = resN F n := ⟨_, rfl⟩
          obtain ⟨bq, hbq⟩ : ∃ x, x = reqB F n := ⟨_, rfl⟩
          obtain ⟨bs, hbs⟩ : ∃ x, x = resB F n := ⟨_, rfl⟩
          obtain ⟨bt', hbt⟩ : ∃ x, x = okF [] F n := ⟨_, rfl⟩
          simp only [← hx0, ← hx1, ← hx2, ← hx3, ← hbq] at h1 h3
          simp only [← hy0, ← hy4, ← hbs] at h2 h4
          simp only [← hbt] at h5 h6
          rw [← hbq, ← hbs] at a1
          rw [← hbq, ← hbt] at a2
          rw [← hbs, ← hbt] at a3
          have C1 := hide h1
          have C2 := hide h2
          have C3 := hide h3
          have C4 := hide h4
          have C5 := hide h5
          have C6 := hide h6
          have W0 := hide (Ha.out.below HB.out)
          have Y0 := HB
          clear h1 h2 h3 h4 h5 h6 hsr hss hx0 hx1 hx2 hx3 hy0 hy4 hbq hbs hbt hrv HO HH HB Ha Hg
          rcases (show (bq = true ∧ bs = false ∧ bt' = false) ∨ (bq = false ∧ bs = true ∧ bt' = false) ∨ (bq = false ∧ bs = false) by
            cases bq with
            | true => exact .inl ⟨rfl, a1 rfl, a2 rfl⟩
            | false =>
              cases bs with
              | true => exact .inr (.inl ⟨rfl, rfl, a3 rfl⟩)
              | false => exact .inr (.inr ⟨rfl, rfl⟩)) with ⟨rfl, rfl, rfl⟩ | ⟨rfl, rfl, rfl⟩ | ⟨rfl, rfl⟩
          · clear a1 a2 a3
            go_wp2_with fail
            refine (C1.out _ W0.out).mono ?_
            rintro e z1 ⟨rfl, hb1⟩
            have Y1 := hide (Y0.out.of hb1)
            have V1 := hide (V0.out.below hb1)
            have W1 := hide (W0.out.below hb1)
            clear hb1 Y0 V0 W0 
            have Y2 := hide (Y1.out.alloc Y1.out.size (.cells #[.string x0, .string x1, .string x2, .string x3, .int .i64 0] 49))
            have V2 := hide (V1.out.below ((Below.refl _ _).alloc (Nat.le_refl _) (.cells #[.string x0, .string x1, .string x2, .string x3, .int .i64 0] 49)))
            have W2 := hide (W1.out.below ((Below.refl _ _).alloc (Nat.le_refl _) (.cells #[.string x0, .string x1, .string x2, .string x3, .int .i64 0] 49)))
            have Qa_2 := hide (heap_alloc_new z1 (.cells #[.string x0, .string x1, .string x2, .string x3, .int .i64 0] 49))
            clear Y1 V1 W1 
            go_wp2_with fail
            refine (C2.out _ W2.out).mono ?_
            rintro e z3 ⟨rfl, hb3⟩
            have Y3 := hide (Y2.out.of hb3)
            have V3 := hide (V2.out.below hb3)
            have W3 := hide (W2.out.below hb3)
            have Qa_3 := hide (keepRow Qa_2.out hb3)
            clear hb3 Y2 V2 W2 Qa_2
            have Y4 := hide (Y3.out.alloc Y3.out.size (.cells #[.string y0, .string y0, .string y0, .string y0, .int .i64 y4] 49))
            have V4 := hide (V3.out.below ((Below.refl _ _).alloc (Nat.le_refl _) (.cells #[.string y0, .string y0, .string y0, .string y0, .int .i64 y4] 49)))
            have W4 := hide (W3.out.below ((Below.refl _ _).alloc (Nat.le_refl _) (.cells #[.string y0, .string y0, .string y0, .string y0, .int .i64 y4] 49)))
            have Qa_4 := hide (keepRow Qa_3.out ((Below.refl _ _).alloc (Nat.le_refl _) (.cells #[.string y0, .string y0, .string y0, .string y0, .int .i64 y4] 49)))
            have Qb_4 := hide (heap_alloc_new z3 (.cells #[.string y0, .string y0, .string y0, .string y0, .int .i64 y4] 49))
            clear Y3 V3 W3 Qa_3
            go_wp2_with fail
            refine (C3.out _ V4.out).mono ?_
            rintro e z5 ⟨rfl, hb5⟩
            have Y5 := hide (Y4.out.of hb5)
            have V5 := hide (V4.out.below hb5)
            have W5 := hide (W4.out.below hb5)
            have Qa_5 := hide (keepRow Qa_4.out hb5)
            have Qb_5 := hide (keepRow Qb_4.out hb5)
            clear hb5 Y4 V4 W4 Qa_4 Qb_4
            have Y6 := hide (Y5.out.alloc Y5.out.size (.cells #[.string x0, .string x1, .string x2, .string x3, .int .i64 0] 49))
            have V6 := hide (V5.out.below ((Below.refl _ _).alloc (Nat.le_refl _) (.cells #[.string x0, .string x1, .string x2, .string x3, .int .i64 0] 49)))
            have W6 := hide (W5.out.below ((Below.refl _ _).alloc (Nat.le_refl _) (.cells #[.string x0, .string x1, .string x2, .string x3, .int .i64 0] 49)))
            have Qa_6 := hide (keepRow Qa_5.out ((Below.refl _ _).alloc (Nat.le_refl _) (.cells #[.string x0, .string x1, .string x2, .string x3, .int .i64 0] 49)))
            have Qb_6 := hide (keepRow Qb_5.out ((Below.refl _ _).alloc (Nat.le_refl _) (.cells #[.string x0, .string x1, .string x2, .string x3, .int .i64 0] 49)))
            have Qc_6 := hide (heap_alloc_new z5 (.cells #[.string x0, .string x1, .string x2, .string x3, .int .i64 0] 49))
            clear Y5 V5 W5 Qa_5 Qb_5
            go_wp2_with fail
            refine (C4.out _ V6.out).mono ?_
            rintro e z7 ⟨rfl, hb7⟩
            have Y7 := hide (Y6.out.of hb7)
            have V7 := hide (V6.out.below hb7)
            have W7 := hide (W6.out.below hb7)
            have Qa_7 := hide (keepRow Qa_6.out hb7)
            have Qb_7 := hide (keepRow Qb_6.out hb7)
            have Qc_7 := hide (keepRow Qc_6.out hb7)
            clear hb7 Y6 V6 W6 Qa_6 Qb_6 Qc_6
            have Y8 := hide (Y7.out.alloc Y7.out.size (.cells #[.string y0, .string y0, .string y0, .string y0, .int .i64 y4] 49))
            have V8 := hide (V7.out.below ((Below.refl _ _).alloc (Nat.le_refl _) (.cells #[.string y0, .string y0, .string y0, .string y0, .int .i64 y4] 49)))
            have W8 := hide (W7.out.below ((Below.refl _ _).alloc (Nat.le_refl _) (.cells #[.string y0, .string y0, .string y0, .string y0, .int .i64 y4] 49)))
            have Qa_8 := hide (keepRow Qa_7.out ((Below.refl _ _).alloc (Nat.le_refl _) (.cells #[.string y0, .string y0, .string y0, .string y0, .int .i64 y4] 49)))
            have Qb_8 := hide (keepRow Qb_7.out ((Below.refl _ _).alloc (Nat.le_refl _) (.cells #[.string y0, .string y0, .string y0, .string y0, .int .i64 y4] 49)))
            have Qc_8 := hide (keepRow Qc_7.out ((Below.refl _ _).alloc (Nat.le_refl _) (.cells #[.string y0, .string y0, .string y0, .string y0, .int .i64 y4] 49)))
            have Qd_8 := hide (heap_alloc_new z7 (.cells #[.string y0, .string y0, .string y0, .string y0, .int .i64 y4] 49))
            clear Y7 V7 W7 Qa_7 Qb_7 Qc_7
            go_wp2_with fail
            refine (C5.out _ W8.out).mono ?_
            rintro e z9 ⟨rfl, hb9⟩
            have Y9 := hide (Y8.out.of hb9)
            have V9 := hide (V8.out.below hb9)
            have W9 := hide (W8.out.below hb9)
            have Qa_9 := hide (keepRow Qa_8.out hb9)
            have Qb_9 := hide (keepRow Qb_8.out hb9)
            have Qc_9 := hide (keepRow Qc_8.out hb9)
            have Qd_9 := hide (keepRow Qd_8.out hb9)
            clear hb9 Y8 V8 W8 Qa_8 Qb_8 Qc_8 Qd_8
            go_wp2_with fail
            refine (C5.out _ W9.out).mono ?_
            rintro e z10 ⟨rfl, hb10⟩
            have Y10 := hide (Y9.out.of hb10)
            have V10 := hide (V9.out.below hb10)
            have W10 := hide (W9.out.below hb10)
            have Qa_10 := hide (keepRow Qa_9.out hb10)
            have Qb_10 := hide (keepRow Qb_9.out hb10)
            have Qc_10 := hide (keepRow Qc_9.out hb10)
            have Qd_10 := hide (keepRow Qd_9.out hb10)
            clear hb10 Y9 V9 W9 Qa_9 Qb_9 Qc_9 Qd_9
            go_wp2_with fail
            refine (C6.out _ W10.out).mono ?_
            rintro e z11 ⟨rfl, hb11⟩
            have Y11 := hide (Y10.out.of hb11)
            have V11 := hide (V10.out.below hb11)
            have W11 := hide (W10.out.below hb11)
            have Qa_11 := hide (keepRow Qa_10.out hb11)
            have Qb_11 := hide (keepRow Qb_10.out hb11)
            have Qc_11 := hide (keepRow Qc_10.out hb11)
            have Qd_11 := hide (keepRow Qd_10.out hb11)
            clear hb11 Y10 V10 W10 Qa_10 Qb_10 Qc_10 Qd_10
            obtain ⟨e0', e1', e2', e3', e4'⟩ := row5 Qa_11.out
            obtain ⟨f0', f1', f2', f3', f4'⟩ := row5 Qb_11.out
            obtain ⟨g0', g1', g2', g3', g4'⟩ := row5 Qc_11.out
            obtain ⟨h0', h1', h2', h3', h4'⟩ := row5 Qd_11.out
            go_wp2_with fail
            refine (alive27 _).mono ?_
            rintro e z12 ⟨rfl, hb12⟩
            have YE := hide (Y11.out.of hb12)
            clear hb12
            go_wp2_with fail
            go_ret
            exact ⟨rfl, YE.out⟩
          · clear a1 a2 a3
            go_wp2_with fail
            refine (C1.out _ W0.out).mono ?_
            rintro e z1 ⟨rfl, hb1⟩
            have Y1 := hide (Y0.out.of hb1)
            have V1 := hide (V0.out.below hb1)
            have W1 := hide (W0.out.below hb1)
            clear hb1 Y0 V0 W0 
            have Y2 := hide (Y1.out.alloc Y1.out.size (.cells #[.string x0, .string x1, .string x2, .string x3, .int .i64 0] 49))
            have V2 := hide (V1.out.below ((Below.refl _ _).alloc (Nat.le_refl _) (.cells #[.string x0, .string x1, .string x2, .string x3, .int .i64 0] 49)))
            have W2 := hide (W1.out.below ((Below.refl _ _).alloc (Nat.le_refl _) (.cells #[.string x0, .string x1, .string x2, .string x3, .int .i64 0] 49)))
            have Qa_2 := hide (heap_alloc_new z1 (.cells #[.string x0, .string x1, .string x2, .string x3, .int .i64 0] 49))
            clear Y1 V1 W1 
            go_wp2_with fail
            refine (C2.out _ W2.out).mono ?_
            rintro e z3 ⟨rfl, hb3⟩
            have Y3 := hide (Y2.out.of hb3)
            have V3 := hide (V2.out.below hb3)
            have W3 := hide (W2.out.below hb3)
            have Qa_3 := hide (keepRow Qa_2.out hb3)
            clear hb3 Y2 V2 W2 Qa_2
            have Y4 := hide (Y3.out.alloc Y3.out.size (.cells #[.string y0, .string y0, .string y0, .string y0, .int .i64 y4] 49))
            have V4 := hide (V3.out.below ((Below.refl _ _).alloc (Nat.le_refl _) (.cells #[.string y0, .string y0, .string y0, .string y0, .int .i64 y4] 49)))
            have W4 := hide (W3.out.below ((Below.refl _ _).alloc (Nat.le_refl _) (.cells #[.string y0, .string y0, .string y0, .string y0, .int .i64 y4] 49)))
            have Qa_4 := hide (keepRow Qa_3.out ((Below.refl _ _).alloc (Nat.le_refl _) (.cells #[.string y0, .string y0, .string y0, .string y0, .int .i64 y4] 49)))
            have Qb_4 := hide (heap_alloc_new z3 (.cells #[.string y0, .string y0, .string y0, .string y0, .int .i64 y4] 49))
            clear Y3 V3 W3 Qa_3
            go_wp2_with fail
            refine (C3.out _ V4.out).mono ?_
            rintro e z5 ⟨rfl, hb5⟩
            have Y5 := hide (Y4.out.of hb5)
            have V5 := hide (V4.out.below hb5)
            have W5 := hide (W4.out.below hb5)
            have Qa_5 := hide (keepRow Qa_4.out hb5)
            have Qb_5 := hide (keepRow Qb_4.out hb5)
            clear hb5 Y4 V4 W4 Qa_4 Qb_4
            have Y6 := hide (Y5.out.alloc Y5.out.size (.cells #[.string x0, .string x1, .string x2, .string x3, .int .i64 0] 49))
            have V6 := hide (V5.out.below ((Below.refl _ _).alloc (Nat.le_refl _) (.cells #[.string x0, .string x1, .string x2, .string x3, .int .i64 0] 49)))
            have W6 := hide (W5.out.below ((Below.refl _ _).alloc (Nat.le_refl _) (.cells #[.string x0, .string x1, .string x2, .string x3, .int .i64 0] 49)))
            have Qa_6 := hide (keepRow Qa_5.out ((Below.refl _ _).alloc (Nat.le_refl _) (.cells #[.string x0, .string x1, .string x2, .string x3, .int .i64 0] 49)))
            have Qb_6 := hide (keepRow Qb_5.out ((Below.refl _ _).alloc (Nat.le_refl _) (.cells #[.string x0, .string x1, .string x2, .string x3, .int .i64 0] 49)))
            have Qc_6 := hide (heap_alloc_new z5 (.cells #[.string x0, .string x1, .string x2, .string x3, .int .i64 0] 49))
            clear Y5 V5 W5 Qa_5 Qb_5
            go_wp2_with fail
            refine (C4.out _ V6.out).mono ?_
            rintro e z7 ⟨rfl, hb7⟩
            have Y7 := hide (Y6.out.of hb7)
            have V7 := hide (V6.out.below hb7)
            have W7 := hide (W6.out.below hb7)
            have Qa_7 := hide (keepRow Qa_6.out hb7)
            have Qb_7 := hide (keepRow Qb_6.out hb7)
            have Qc_7 := hide (keepRow Qc_6.out hb7)
            clear hb7 Y6 V6 W6 Qa_6 Qb_6 Qc_6
            have Y8 := hide (Y7.out.alloc Y7.out.size (.cells #[.string y0, .string y0, .string y0, .string y0, .int .i64 y4] 49))
            have V8 := hide (V7.out.below ((Below.refl _ _).alloc (Nat.le_refl _) (.cells #[.string y0, .string y0, .string y0, .string y0, .int .i64 y4] 49)))
            have W8 := hide (W7.out.below ((Below.refl _ _).alloc (Nat.le_refl _) (.cells #[.string y0, .string y0, .string y0, .string y0, .int .i64 y4] 49)))
            have Qa_8 := hide (keepRow Qa_7.out ((Below.refl _ _).alloc (Nat.le_refl _) (.cells #[.string y0, .string y0, .string y0, .string y0, .int .i64 y4] 49)))
            have Qb_8 := hide (keepRow Qb_7.out ((Below.refl _ _).alloc (Nat.le_refl _) (.cells #[.string y0, .string y0, .string y0, .string y0, .int .i64 y4] 49)))
            have Qc_8 := hide (keepRow Qc_7.out ((Below.refl _ _).alloc (Nat.le_refl _) (.cells #[.string y0, .string y0, .string y0, .string y0, .int .i64 y4] 49)))
            have Qd_8 := hide (heap_alloc_new z7 (.cells #[.string y0, .string y0, .string y0, .string y0, .int .i64 y4] 49))
            clear Y7 V7 W7 Qa_7 Qb_7 Qc_7
            go_wp2_with fail
            refine (C5.out _ W8.out).mono ?_
            rintro e z9 ⟨rfl, hb9⟩
            have Y9 := hide (Y8.out.of hb9)
            have V9 := hide (V8.out.below hb9)
            have W9 := hide (W8.out.below hb9)
            have Qa_9 := hide (keepRow Qa_8.out hb9)
            have Qb_9 := hide (keepRow Qb_8.out hb9)
            have Qc_9 := hide (keepRow Qc_8.out hb9)
            have Qd_9 := hide (keepRow Qd_8.out hb9)
            clear hb9 Y8 V8 W8 Qa_8 Qb_8 Qc_8 Qd_8
            go_wp2_with fail
            refine (C5.out _ W9.out).mono ?_
            rintro e z10 ⟨rfl, hb10⟩
            have Y10 := hide (Y9.out.of hb10)
            have V10 := hide (V9.out.below hb10)
            have W10 := hide (W9.out.below hb10)
            have Qa_10 := hide (keepRow Qa_9.out hb10)
            have Qb_10 := hide (keepRow Qb_9.out hb10)
            have Qc_10 := hide (keepRow Qc_9.out hb10)
            have Qd_10 := hide (keepRow Qd_9.out hb10)
            clear hb10 Y9 V9 W9 Qa_9 Qb_9 Qc_9 Qd_9
            go_wp2_with fail
            refine (C6.out _ W10.out).mono ?_
            rintro e z11 ⟨rfl, hb11⟩
            have Y11 := hide (Y10.out.of hb11)
            have V11 := hide (V10.out.below hb11)
            have W11 := hide (W10.out.below hb11)
            have Qa_11 := hide (keepRow Qa_10.out hb11)
            have Qb_11 := hide (keepRow Qb_10.out hb11)
            have Qc_11 := hide (keepRow Qc_10.out hb11)
            have Qd_11 := hide (keepRow Qd_10.out hb11)
            clear hb11 Y10 V10 W10 Qa_10 Qb_10 Qc_10 Qd_10
            obtain ⟨e0', e1', e2', e3', e4'⟩ := row5 Qa_11.out
            obtain ⟨f0', f1', f2', f3', f4'⟩ := row5 Qb_11.out
            obtain ⟨g0', g1', g2', g3', g4'⟩ := row5 Qc_11.out
            obtain ⟨h0', h1', h2', h3', h4'⟩ := row5 Qd_11.out
            go_wp2_with fail
            refine (alive27 _).mono ?_
            rintro e z12 ⟨rfl, hb12⟩
            have YE := hide (Y11.out.of hb12)
            clear hb12
            go_wp2_with fail
            go_ret
            exact ⟨rfl, YE.out⟩
          · clear a1 a2 a3
            cases bt' with
            | true =>
              go_wp2_with fail
              refine (C1.out _ W0.out).mono ?_
              rintro e z1 ⟨rfl, hb1⟩
              have Y1 := hide (Y0.out.of hb1)
              have V1 := hide (V0.out.below hb1)
              have W1 := hide (W0.out.below hb1)
              clear hb1 Y0 V0 W0 
              have Y2 := hide (Y1.out.alloc Y1.out.size (.cells #[.string x0, .string x1, .string x2, .string x3, .int .i64 0] 49))
              have V2 := hide (V1.out.below ((Below.refl _ _).alloc (Nat.le_refl _) (.cells #[.string x0, .string x1, .string x2, .string x3, .int .i64 0] 49)))
              have W2 := hide (W1.out.below ((Below.refl _ _).alloc (Nat.le_refl _) (.cells #[.string x0, .string x1, .string x2, .string x3, .int .i64 0] 49)))
              have Qa_2 := hide (heap_alloc_new z1 (.cells #[.string x0, .string x1, .string x2, .string x3, .int .i64 0] 49))
              clear Y1 V1 W1 
              go_wp2_with fail
              refine (C2.out _ W2.out).mono ?_
              rintro e z3 ⟨rfl, hb3⟩
              have Y3 := hide (Y2.out.of hb3)
              have V3 := hide (V2.out.below hb3)
              have W3 := hide (W2.out.below hb3)
              have Qa_3 := hide (keepRow Qa_2.out hb3)
              clear hb3 Y2 V2 W2 Qa_2
              have Y4 := hide (Y3.out.alloc Y3.out.size (.cells #[.string y0, .string y0, .string y0, .string y0, .int .i64 y4] 49))
              have V4 := hide (V3.out.below ((Below.refl _ _).alloc (Nat.le_refl _) (.cells #[.string y0, .string y0, .string y0, .string y0, .int .i64 y4] 49)))
              have W4 := hide (W3.out.below ((Below.refl _ _).alloc (Nat.le_refl _) (.cells #[.string y0, .string y0, .string y0, .string y0, .int .i64 y4] 49)))
              have Qa_4 := hide (keepRow Qa_3.out ((Below.refl _ _).alloc (Nat.le_refl _) (.cells #[.string y0, .string y0, .string y0, .string y0, .int .i64 y4] 49)))
              have Qb_4 := hide (heap_alloc_new z3 (.cells #[.string y0, .string y0, .string y0, .string y0, .int .i64 y4] 49))
              clear Y3 V3 W3 Qa_3
              go_wp2_with fail
              refine (C3.out _ V4.out).mono ?_
              rintro e z5 ⟨rfl, hb5⟩
              have Y5 := hide (Y4.out.of hb5)
              have V5 := hide (V4.out.below hb5)
              have W5 := hide (W4.out.below hb5)
              have Qa_5 := hide (keepRow Qa_4.out hb5)
              have Qb_5 := hide (keepRow Qb_4.out hb5)
              clear hb5 Y4 V4 W4 Qa_4 Qb_4
              have Y6 := hide (Y5.out.alloc Y5.out.size (.cells #[.string x0, .string x1, .string x2, .string x3, .int .i64 0] 49))
              have V6 := hide (V5.out.below ((Below.refl _ _).alloc (Nat.le_refl _) (.cells #[.string x0, .string x1, .string x2, .string x3, .int .i64 0] 49)))
              have W6 := hide (W5.out.below ((Below.refl _ _).alloc (Nat.le_refl _) (.cells #[.string x0, .string x1, .string x2, .string x3, .int .i64 0] 49)))
              have Qa_6 := hide (keepRow Qa_5.out ((Below.refl _ _).alloc (Nat.le_refl _) (.cells #[.string x0, .string x1, .string x2, .string x3, .int .i64 0] 49)))
              have Qb_6 := hide (keepRow Qb_5.out ((Below.refl _ _).alloc (Nat.le_refl _) (.cells #[.string x0, .string x1, .string x2, .string x3, .int .i64 0] 49)))
              have Qc_6 := hide (heap_alloc_new z5 (.cells #[.string x0, .string x1, .string x2, .string x3, .int .i64 0] 49))
              clear Y5 V5 W5 Qa_5 Qb_5
              go_wp2_with fail
              refine (C4.out _ V6.out).mono ?_
              rintro e z7 ⟨rfl, hb7⟩
              have Y7 := hide (Y6.out.of hb7)
              have V7 := hide (V6.out.below hb7)
              have W7 := hide (W6.out.below hb7)
              have Qa_7 := hide (keepRow Qa_6.out hb7)
              have Qb_7 := hide (keepRow Qb_6.out hb7)
              have Qc_7 := hide (keepRow Qc_6.out hb7)
              clear hb7 Y6 V6 W6 Qa_6 Qb_6 Qc_6
              have Y8 := hide (Y7.out.alloc Y7.out.size (.cells #[.string y0, .string y0, .string y0, .string y0, .int .i64 y4] 49))
              have V8 := hide (V7.out.below ((Below.refl _ _).alloc (Nat.le_refl _) (.cells #[.string y0, .string y0, .string y0, .string y0, .int .i64 y4] 49)))
              have W8 := hide (W7.out.below ((Below.refl _ _).alloc (Nat.le_refl _) (.cells #[.string y0, .string y0, .string y0, .string y0, .int .i64 y4] 49)))
              have Qa_8 := hide (keepRow Qa_7.out ((Below.refl _ _).alloc (Nat.le_refl _) (.cells #[.string y0, .string y0, .string y0, .string y0, .int .i64 y4] 49)))
              have Qb_8 := hide (keepRow Qb_7.out ((Below.refl _ _).alloc (Nat.le_refl _) (.cells #[.string y0, .string y0, .string y0, .string y0, .int .i64 y4] 49)))
              have Qc_8 := hide (keepRow Qc_7.out ((Below.refl _ _).alloc (Nat.le_refl _) (.cells #[.string y0, .string y0, .string y0, .string y0, .int .i64 y4] 49)))
              have Qd_8 := hide (heap_alloc_new z7 (.cells #[.string y0, .string y0, .string y0, .string y0, .int .i64 y4] 49))
              clear Y7 V7 W7 Qa_7 Qb_7 Qc_7
              go_wp2_with fail
              refine (C5.out _ W8.out).mono ?_
              rintro e z9 ⟨rfl, hb9⟩
              have Y9 := hide (Y8.out.of hb9)
              have V9 := hide (V8.out.below hb9)
              have W9 := hide (W8.out.below hb9)
              have Qa_9 := hide (keepRow Qa_8.out hb9)
              have Qb_9 := hide (keepRow Qb_8.out hb9)
              have Qc_9 := hide (keepRow Qc_8.out hb9)
              have Qd_9 := hide (keepRow Qd_8.out hb9)
              clear hb9 Y8 V8 W8 Qa_8 Qb_8 Qc_8 Qd_8
              go_wp2_with fail
              refine (C5.out _ W9.out).mono ?_
              rintro e z10 ⟨rfl, hb10⟩
              have Y10 := hide (Y9.out.of hb10)
              have V10 := hide (V9.out.below hb10)
              have W10 := hide (W9.out.below hb10)
              have Qa_10 := hide (keepRow Qa_9.out hb10)
              have Qb_10 := hide (keepRow Qb_9.out hb10)
              have Qc_10 := hide (keepRow Qc_9.out hb10)
              have Qd_10 := hide (keepRow Qd_9.out hb10)
              clear hb10 Y9 V9 W9 Qa_9 Qb_9 Qc_9 Qd_9
              go_wp2_with fail
              refine (C6.out _ W10.out).mono ?_
              rintro e z11 ⟨rfl, hb11⟩
              have Y11 := hide (Y10.out.of hb11)
              have V11 := hide (V10.out.below hb11)
              have W11 := hide (W10.out.below hb11)
              have Qa_11 := hide (keepRow Qa_10.out hb11)
              have Qb_11 := hide (keepRow Qb_10.out hb11)
              have Qc_11 := hide (keepRow Qc_10.out hb11)
              have Qd_11 := hide (keepRow Qd_10.out hb11)
              clear hb11 Y10 V10 W10 Qa_10 Qb_10 Qc_10 Qd_10
              obtain ⟨e0', e1', e2', e3', e4'⟩ := row5 Qa_11.out
              obtain ⟨f0', f1', f2', f3', f4'⟩ := row5 Qb_11.out
              obtain ⟨g0', g1', g2', g3', g4'⟩ := row5 Qc_11.out
              obtain ⟨h0', h1', h2', h3', h4'⟩ := row5 Qd_11.out
              go_wp2_with fail
              refine (alive27 _).mono ?_
              rintro e z12 ⟨rfl, hb12⟩
              have YE := hide (Y11.out.of hb12)
              clear hb12
              go_wp2_with fail
              go_ret
              exact ⟨rfl, YE.out⟩
            | false =>
              go_wp2_with fail
              refine (C1.out _ W0.out).mono ?_
              rintro e z1 ⟨rfl, hb1⟩
              have Y1 := hide (Y0.out.of hb1)
              have V1 := hide (V0.out.below hb1)
              have W1 := hide (W0.out.below hb1)
              clear hb1 Y0 V0 W0 
              have Y2 := hide (Y1.out.alloc Y1.out.size (.cells #[.string x0, .string x1, .string x2, .string x3, .int .i64 0] 49))
              have V2 := hide (V1.out.below ((Below.refl _ _).alloc (Nat.le_refl _) (.cells #[.string x0, .string x1, .string x2, .string x3, .int .i64 0] 49)))
              have W2 := hide (W1.out.below ((Below.refl _ _).alloc (Nat.le_refl _) (.cells #[.string x0, .string x1, .string x2, .string x3, .int .i64 0] 49)))
              have Qa_2 := hide (heap_alloc_new z1 (.cells #[.string x0, .string x1, .string x2, .string x3, .int .i64 0] 49))
              clear Y1 V1 W1 
              go_wp2_with fail
              refine (C2.out _ W2.out).mono ?_
              rintro e z3 ⟨rfl, hb3⟩
              have Y3 := hide (Y2.out.of hb3)
              have V3 := hide (V2.out.below hb3)
              have W3 := hide (W2.out.below hb3)
              have Qa_3 := hide (keepRow Qa_2.out hb3)
              clear hb3 Y2 V2 W2 Qa_2
              have Y4 := hide (Y3.out.alloc Y3.out.size (.cells #[.string y0, .string y0, .string y0, .string y0, .int .i64 y4] 49))
              have V4 := hide (V3.out.below ((Below.refl _ _).alloc (Nat.le_refl _) (.cells #[.string y0, .string y0, .string y0, .string y0, .int .i64 y4] 49)))
              have W4 := hide (W3.out.below ((Below.refl _ _).alloc (Nat.le_refl _) (.cells #[.string y0, .string y0, .string y0, .string y0, .int .i64 y4] 49)))
              have Qa_4 := hide (keepRow Qa_3.out ((Below.refl _ _).alloc (Nat.le_refl _) (.cells #[.string y0, .string y0, .string y0, .string y0, .int .i64 y4] 49)))
              have Qb_4 := hide (heap_alloc_new z3 (.cells #[.string y0, .string y0, .string y0, .string y0, .int .i64 y4] 49))
              clear Y3 V3 W3 Qa_3
              go_wp2_with fail
              refine (C3.out _ V4.out).mono ?_
              rintro e z5 ⟨rfl, hb5⟩
              have Y5 := hide (Y4.out.of hb5)
              have V5 := hide (V4.out.below hb5)
              have W5 := hide (W4.out.below hb5)
              have Qa_5 := hide (keepRow Qa_4.out hb5)
              have Qb_5 := hide (keepRow Qb_4.out hb5)
              clear hb5 Y4 V4 W4 Qa_4 Qb_4
              have Y6 := hide (Y5.out.alloc Y5.out.size (.cells #[.string x0, .string x1, .string x2, .string x3, .int .i64 0] 49))
              have V6 := hide (V5.out.below ((Below.refl _ _).alloc (Nat.le_refl _) (.cells #[.string x0, .string x1, .string x2, .string x3, .int .i64 0] 49)))
              have W6 := hide (W5.out.below ((Below.refl _ _).alloc (Nat.le_refl _) (.cells #[.string x0, .string x1, .string x2, .string x3, .int .i64 0] 49)))
              have Qa_6 := hide (keepRow Qa_5.out ((Below.refl _ _).alloc (Nat.le_refl _) (.cells #[.string x0, .string x1, .string x2, .string x3, .int .i64 0] 49)))
              have Qb_6 := hide (keepRow Qb_5.out ((Below.refl _ _).alloc (Nat.le_refl _) (.cells #[.string x0, .string x1, .string x2, .string x3, .int .i64 0] 49)))
              have Qc_6 := hide (heap_alloc_new z5 (.cells #[.string x0, .string x1, .string x2, .string x3, .int .i64 0] 49))
              clear Y5 V5 W5 Qa_5 Qb_5
              go_wp2_with fail
              refine (C4.out _ V6.out).mono ?_
              rintro e z7 ⟨rfl, hb7⟩
              have Y7 := hide (Y6.out.of hb7)
              have V7 := hide (V6.out.below hb7)
              have W7 := hide (W6.out.below hb7)
              have Qa_7 := hide (keepRow Qa_6.out hb7)
              have Qb_7 := hide (keepRow Qb_6.out hb7)
              have Qc_7 := hide (keepRow Qc_6.out hb7)
              clear hb7 Y6 V6 W6 Qa_6 Qb_6 Qc_6
              have Y8 := hide (Y7.out.alloc Y7.out.size (.cells #[.string y0, .string y0, .string y0, .string y0, .int .i64 y4] 49))
              have V8 := hide (V7.out.below ((Below.refl _ _).alloc (Nat.le_refl _) (.cells #[.string y0, .string y0, .string y0, .string y0, .int .i64 y4] 49)))
              have W8 := hide (W7.out.below ((Below.refl _ _).alloc (Nat.le_refl _) (.cells #[.string y0, .string y0, .string y0, .string y0, .int .i64 y4] 49)))
              have Qa_8 := hide (keepRow Qa_7.out ((Below.refl _ _).alloc (Nat.le_refl _) (.cells #[.string y0, .string y0, .string y0, .string y0, .int .i64 y4] 49)))
              have Qb_8 := hide (keepRow Qb_7.out ((Below.refl _ _).alloc (Nat.le_refl _) (.cells #[.string y0, .string y0, .string y0, .string y0, .int .i64 y4] 49)))
              have Qc_8 := hide (keepRow Qc_7.out ((Below.refl _ _).alloc (Nat.le_refl _) (.cells #[.string y0, .string y0, .string y0, .string y0, .int .i64 y4] 49)))
              have Qd_8 := hide (heap_alloc_new z7 (.cells #[.string y0, .string y0, .string y0, .string y0, .int .i64 y4] 49))
              clear Y7 V7 W7 Qa_7 Qb_7 Qc_7
              go_wp2_with fail
              refine (C5.out _ W8.out).mono ?_
              rintro e z9 ⟨rfl, hb9⟩
              have Y9 := hide (Y8.out.of hb9)
              have V9 := hide (V8.out.below hb9)
              have W9 := hide (W8.out.below hb9)
              have Qa_9 := hide (keepRow Qa_8.out hb9)
              have Qb_9 := hide (keepRow Qb_8.out hb9)
              have Qc_9 := hide (keepRow Qc_8.out hb9)
              have Qd_9 := hide (keepRow Qd_8.out hb9)
              clear hb9 Y8 V8 W8 Qa_8 Qb_8 Qc_8 Qd_8
              go_wp2_with fail
              refine (C5.out _ W9.out).mono ?_
              rintro e z10 ⟨rfl, hb10⟩
              have Y10 := hide (Y9.out.of hb10)
              have V10 := hide (V9.out.below hb10)
              have W10 := hide (W9.out.below hb10)
              have Qa_10 := hide (keepRow Qa_9.out hb10)
              have Qb_10 := hide (keepRow Qb_9.out hb10)
              have Qc_10 := hide (keepRow Qc_9.out hb10)
              have Qd_10 := hide (keepRow Qd_9.out hb10)
              clear hb10 Y9 V9 W9 Qa_9 Qb_9 Qc_9 Qd_9
              go_wp2_with fail
              refine (C6.out _ W10.out).mono ?_
              rintro e z11 ⟨rfl, hb11⟩
              have Y11 := hide (Y10.out.of hb11)
              have V11 := hide (V10.out.below hb11)
              have W11 := hide (W10.out.below hb11)
              have Qa_11 := hide (keepRow Qa_10.out hb11)
              have Qb_11 := hide (keepRow Qb_10.out hb11)
              have Qc_11 := hide (keepRow Qc_10.out hb11)
              have Qd_11 := hide (keepRow Qd_10.out hb11)
              clear hb11 Y10 V10 W10 Qa_10 Qb_10 Qc_10 Qd_10
              obtain ⟨e0', e1', e2', e3', e4'⟩ := row5 Qa_11.out
              obtain ⟨f0', f1', f2', f3', f4'⟩ := row5 Qb_11.out
              obtain ⟨g0', g1', g2', g3', g4'⟩ := row5 Qc_11.out
              obtain ⟨h0', h1', h2', h3', h4'⟩ := row5 Qd_11.out
              go_wp2_with fail
              refine (alive27 _).mono ?_
              rintro e z12 ⟨rfl, hb12⟩
              have YE := hide (Y11.out.of hb12)
              clear hb12
              go_wp2_with fail
              go_ret
              exact ⟨rfl, YE.out⟩
end Go.Proofs.Ytnjmkbaddeeniaa
