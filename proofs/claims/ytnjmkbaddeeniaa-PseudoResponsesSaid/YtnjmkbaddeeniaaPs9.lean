/- Layer 27: the example; the walks of PseudoRequests, PseudoResponses. -/
import Derived.Test.YtnjmkbaddeeniaaPs6
import Derived.Test.YtnjmkbaddeeniaaPs8
import Derived.Test.YtnjmkbaddeeniaaML
namespace Go.Proofs.Ytnjmkbaddeeniaa
open Go.RowKit Go.PlainAid

theorem results_cellH {fn : Func} {p : Tmp} {ty : TypeId} (h : fn.results = #[.cell p ty]) (tmps : Array Value) (P : Program) (w : World) :
    (results fn tmps).run P w = ((asAddr (tmps.getD p undef)).run P w).andThen fun a w' => (loadVar ty a).run P w' := by
  simp [results, h]
theorem own27 (x0 x1 x2 x3 : ByteArray) (x4 : Int) (w : World) : Calls Try.prog 35 #[.agg #[.string x0, .string x1, .string x2, .string x3, .int .i64 x4]] w fun e w' => e = .returned (.agg #[.string x0, .string x1, .string x2, .string x3, .int .i64 x4]) ∧ Below w.heap.size w w' := by
  go_enter Try.func35, Try.ntmps35
  go_wp2
  refine bodyPost_ret (v := .agg #[.string x0, .string x1, .string x2, .string x3, .int .i64 x4]) ?_ rfl ⟨rfl, ?_⟩
  · rw [results_cellH rfl]
    go_simp
  · go_grown
def exRq : Nat → Fd := fun i => [(⟨⟨#[58, 109, 101, 116, 104, 111, 100]⟩, ⟨#[71, 69, 84]⟩, false⟩ : Fd), ⟨⟨#[58, 115, 99, 104, 101, 109, 101]⟩, ⟨#[104, 116, 116, 112]⟩, false⟩, ⟨⟨#[58, 112, 97, 116, 104]⟩, ⟨#[47]⟩, false⟩].getD i default
def exRs : Nat → Fd := fun i => [(⟨⟨#[97]⟩, ⟨#[]⟩, false⟩ : Fd), ⟨⟨#[58, 115, 116, 97, 116, 117, 115]⟩, ⟨#[50, 48, 48]⟩, false⟩].getD i default
theorem exRq_v : reqV exRq 3 = .tuple #[.agg #[.string ⟨#[71, 69, 84]⟩, .string ⟨#[104, 116, 116, 112]⟩, .string ⟨#[]⟩, .string ⟨#[47]⟩, .int .i64 0], .bool true] := by
  unfold reqV reqS
  rw [show reqB exRq 3 = true by decide +kernel]
  kernel_rfl
theorem exRs_v : resV exRs 2 = .tuple #[.agg #[.string ⟨#[]⟩, .string ⟨#[]⟩, .string ⟨#[]⟩, .string ⟨#[]⟩, .int .i64 0], .bool false] := by
  unfold resV resN
  rw [show resB exRs 2 = false by decide +kernel]
  kernel_rfl
set_option maxRecDepth 100000 in
set_option maxHeartbeats 3200000 in
theorem alive27 (w : World) : Calls Try.prog 29 #[] w (Yes w) := by
  have a1 := (OwnV.lit 3 46 0 w (fdV exRq) #[.string ⟨#[58, 109, 101, 116, 104, 111, 100]⟩, .string ⟨#[71, 69, 84]⟩, .bool false, .string ⟨#[58, 115, 99, 104, 101, 109, 101]⟩, .string ⟨#[104, 116, 116, 112]⟩, .bool false, .string ⟨#[58, 112, 97, 116, 104]⟩, .string ⟨#[47]⟩, .bool false] 3 (Nat.zero_le _) (by simp [maxLen]) rfl).rdS2
  have A1 := hide (rdFd_of_rdV a1 (fun i hi => by
    have : i = 0 ∨ i = 1 ∨ i = 2 := by omega
    rcases this with rfl | rfl | rfl <;> decide +kernel))
  have B1 := hide ((Below.refl w.heap.size w).alloc (Nat.le_refl _) (.cells #[.string ⟨#[58, 109, 101, 116, 104, 111, 100]⟩, .string ⟨#[71, 69, 84]⟩, .bool false, .string ⟨#[58, 115, 99, 104, 101, 109, 101]⟩, .string ⟨#[104, 116, 116, 112]⟩, .bool false, .string ⟨#[58, 112, 97, 116, 104]⟩, .string ⟨#[47]⟩, .bool false] 46))
  have h1 := fun W A c (h : RdFd W A 3 c exRq) => request_any A 3 c exRq W h
  have h2 := fun W A c (h : RdFd W A 2 c exRs) => response_any A 2 c exRs W h
  rw [exRq_v] at h1
  rw [exRs_v] at h2
  clear a1
  go_enter Try.func29, Try.ntmps29
  go_wp2_with fail
  refine (h1 _ _ _ A1.out).mono ?_
  rintro e w2 ⟨rfl, hb2⟩
  have B2 := hide (B1.out.of hb2)
  have B3 := hide (B2.out.alloc B2.out.size (.cells #[.string ⟨#[71, 69, 84]⟩, .string ⟨#[104, 116, 116, 112]⟩, .string ⟨#[]⟩, .string ⟨#[47]⟩, .int .i64 0] 49))
  have Q3 := hide (heap_alloc_new w2 (.cells #[.string ⟨#[71, 69, 84]⟩, .string ⟨#[104, 116, 116, 112]⟩, .string ⟨#[]⟩, .string ⟨#[47]⟩, .int .i64 0] 49))
  clear hb2 A1 B1 h1
  have hz : (w2.alloc (.cells #[.string ⟨#[71, 69, 84]⟩, .string ⟨#[104, 116, 116, 112]⟩, .string ⟨#[]⟩, .string ⟨#[47]⟩, .int .i64 0] 49)).heap.size = w2.heap.size + 1 := by simp
  have a2 := (OwnV.lit 3 46 0 (w2.alloc (.cells #[.string ⟨#[71, 69, 84]⟩, .string ⟨#[104, 116, 116, 112]⟩, .string ⟨#[]⟩, .string ⟨#[47]⟩, .int .i64 0] 49)) (fdV exRs) #[.string ⟨#[97]⟩, .string ⟨#[]⟩, .bool false, .string ⟨#[58, 115, 116, 97, 116, 117, 115]⟩, .string ⟨#[50, 48, 48]⟩, .bool false] 2 (Nat.zero_le _) (by simp [maxLen]) rfl).rdS2
  rw [hz] at a2
  have A2 := hide (rdFd_of_rdV a2 (fun i hi => by
    have : i = 0 ∨ i = 1 := by omega
    rcases this with rfl | rfl <;> decide +kernel))
  have B4 := hide (B3.out.alloc B3.out.size (.cells #[.string ⟨#[97]⟩, .string ⟨#[]⟩, .bool false, .string ⟨#[58, 115, 116, 97, 116, 117, 115]⟩, .string ⟨#[50, 48, 48]⟩, .bool false] 46))
  have Q4 := hide (keepRow Q3.out ((Below.refl _ _).alloc (Nat.le_refl _) (.cells #[.string ⟨#[97]⟩, .string ⟨#[]⟩, .bool false, .string ⟨#[58, 115, 116, 97, 116, 117, 115]⟩, .string ⟨#[50, 48, 48]⟩, .bool false] 46)))
  clear a2 hz Q3 B3 B2
  go_wp2_with fail
  refine (h2 _ _ _ A2.out).mono ?_
  rintro e w3 ⟨rfl, hb3⟩
  have B5 := hide (B4.out.of hb3)
  have Q5 := hide (keepRow Q4.out hb3)
  have B6 := hide (B5.out.alloc B5.out.size (.cells #[.string ⟨#[]⟩, .string ⟨#[]⟩, .string ⟨#[]⟩, .string ⟨#[]⟩, .int .i64 0] 49))
  have Q6 := hide (keepRow Q5.out ((Below.refl _ _).alloc (Nat.le_refl _) (.cells #[.string ⟨#[]⟩, .string ⟨#[]⟩, .string ⟨#[]⟩, .string ⟨#[]⟩, .int .i64 0] 49)))
  clear hb3 A2 B4 B5 Q4 Q5 h2
  obtain ⟨d0, d1, d2, d3, d4⟩ := row5 Q6.out
  go_wp2_with fail
  go_ret
  exact ⟨rfl, B6.out⟩
set_option maxRecDepth 100000 in
set_option maxHeartbeats 3200000 in
theorem requests_walk (A : Option Addr) (n c : Nat) (F : Nat → Fd) (w : World) (ha : RdFd w A n c F) : Calls Try.prog 8 #[.slice A n c] w (Yes w) := by
  have Ha := hide ha
  clear ha
  go_enter Try.func8, Try.ntmps8
  go_wp2_with fail
  refine (flarge_any A n c 60 200 F _ Ha.out).mono ?_
  rintro e w1 ⟨b, rfl, hd, hb⟩
  have B1 := hide (drawn_below hd w.heap.size)
  have A1 := hide (Ha.out.below (drawn_below hd _))
  cases b with
  | true =>
    clear hd hb
    go_wp2_with fail
    refine (alive27 _).mono ?_
    rintro e w2 ⟨rfl, hb2⟩
    have B2 := hide (B1.out.of hb2)
    clear hb2
    go_wp2_with fail
    go_ret
    exact ⟨rfl, B2.out⟩
  | false =>
    have hn := (hb rfl).1
    clear hd hb
    go_wp2_with fail
    refine (request_any A n c F _ A1.out).mono ?_
    rintro e w2 ⟨rfl, hb2⟩
    have B2 := hide (B1.out.of hb2)
    have A2 := hide (A1.out.below hb2)
    clear hb2 B1 A1
    have hcall := fun W (h : RdFd W A n c F) => rrequest_any A n c F W h (by omega)
    unfold reqV at hcall ⊢
    obtain ⟨x0, hx0⟩ : ∃ x, x = reqS F n nMethod := ⟨_, rfl⟩
    obtain ⟨x1, hx1⟩ : ∃ x, x = reqS F n nScheme := ⟨_, rfl⟩
    obtain ⟨x2, hx2⟩ : ∃ x, x = reqS F n nAuth := ⟨_, rfl⟩
    obtain ⟨x3, hx3⟩ : ∃ x, x = reqS F n nPath := ⟨_, rfl⟩
    obtain ⟨x4, hx4⟩ : ∃ x : Int, x = 0 := ⟨_, rfl⟩
    obtain ⟨bb, hbb⟩ : ∃ x, x = reqB F n := ⟨_, rfl⟩
    rw [← hx0, ← hx1, ← hx2, ← hx3, ← hbb, ← hx4]
    simp only [← hx0, ← hx1, ← hx2, ← hx3, ← hbb, ← hx4] at hcall
    clear hx0 hx1 hx2 hx3 hx4 hbb
    have Q1 := hide (heap_alloc_new w2 (.cells #[.string x0, .string x1, .string x2, .string x3, .int .i64 x4] 49))
    have B3 := hide (B2.out.alloc B2.out.size (.cells #[.string x0, .string x1, .string x2, .string x3, .int .i64 x4] 49))
    have A3 := hide (A2.out.below ((Below.refl _ _).alloc (Nat.le_refl _) (.cells #[.string x0, .string x1, .string x2, .string x3, .int .i64 x4] 49)))
    clear B2 A2
    go_wp2_with fail
    refine (hcall _ A3.out).mono ?_
    rintro e w3 ⟨rfl, hb3⟩
    have B4 := hide (B3.out.of hb3)
    have Q2 := hide (keepRow Q1.out hb3)
    generalize w2.heap.size = p1 at *
    have Q3 := hide (keepRow Q2.out ((Below.refl _ _).alloc (Nat.le_refl _) (.cells #[.string x0, .string x1, .string x2, .string x3, .int .i64 x4] 53)))
    have hs4 := B4.out.size
    have Q4 := hide (heap_alloc_new w3 (.cells #[.string x0, .string x1, .string x2, .string x3, .int .i64 x4] 53))
    have B5 := hide (B4.out.alloc hs4 (.cells #[.string x0, .string x1, .string x2, .string x3, .int .i64 x4] 53))
    have hlp := rowLt Q2.out
    clear hb3 hcall B3 A3 B4 Q1 Q2
    obtain ⟨p0, p1', p2, p3, p4⟩ := row5 Q3.out
    obtain ⟨q0, q1, q2, q3, q4⟩ := row5 Q4.out
    go_wp2_with fail
    go_region_held3 (fun W => (W.cell? ⟨p1, 0, none⟩ = some (.string x0) ∧ W.cell? ⟨p1, 1, none⟩ = some (.string x1) ∧ W.cell? ⟨p1, 2, none⟩ = some (.string x2) ∧ W.cell? ⟨p1, 3, none⟩ = some (.string x3) ∧ W.cell? ⟨p1, 4, none⟩ = some (.int .i64 x4)) ∧ (W.cell? ⟨w3.heap.size, 0, none⟩ = some (.string x0) ∧ W.cell? ⟨w3.heap.size, 1, none⟩ = some (.string x1) ∧ W.cell? ⟨w3.heap.size, 2, none⟩ = some (.string x2) ∧ W.cell? ⟨w3.heap.size, 3, none⟩ = some (.string x3) ∧ W.cell? ⟨w3.heap.size, 4, none⟩ = some (.int .i64 x4))) (((try dsimp only); (repeat' apply And.intro) <;> (first | (go_keep; done) | (exact cellKeepT hv3 (by assumption)) | (exact cellKeepT hv4 (by assumption)))))
      ((first
        | (go_at_call 35; (with_reducible refine (own27 x0 x1 x2 x3 x4 _).mono ?_); rintro e W3 ⟨rfl, hv3⟩; have B6 := hide (B5.out.drew.of hv3); have k0 := cellKeepT hv3 p0; have k1 := cellKeepT hv3 p1'; have k2 := cellKeepT hv3 p2; have k3 := cellKeepT hv3 p3; have k4 := cellKeepT hv3 p4; have k5 := cellKeepT hv3 q0; have k6 := cellKeepT hv3 q1; have k7 := cellKeepT hv3 q2; have k8 := cellKeepT hv3 q3; have k9 := cellKeepT hv3 q4)
        | (go_at_call 29; (with_reducible refine (alive27 _).mono ?_); rintro e W4 ⟨rfl, hv4⟩; have B7 := hide (B6.out.of hv4))))
    all_goals
      go_wp2_with fail
      go_ret
      exact ⟨rfl, B7.out⟩
set_option maxRecDepth 100000 in
set_option maxHeartbeats 3200000 in
theorem responses_walk (A : Option Addr) (n c : Nat) (F : Nat → Fd) (w : World) (ha : RdFd w A n c F) : Calls Try.prog 9 #[.slice A n c] w (Yes w) := by
  have Ha := hide ha
  clear ha
  go_enter Try.func9, Try.ntmps9
  go_wp2_with fail
  refine (flarge_any A n c 60 200 F _ Ha.out).mono ?_
  rintro e w1 ⟨b, rfl, hd, hb⟩
  have B1 := hide (drawn_below hd w.heap.size)
  have A1 := hide (Ha.out.below (drawn_below hd _))
  cases b with
  | true =>
    clear hd hb
    go_wp2_with fail
    refine (alive27 _).mono ?_
    rintro e w2 ⟨rfl, hb2⟩
    have B2 := hide (B1.out.of hb2)
    clear hb2
    go_wp2_with fail
    go_ret
    exact ⟨rfl, B2.out⟩
  | false =>
    have hn := (hb rfl).1
    clear hd hb
    go_wp2_with fail
    refine (response_any A n c F _ A1.out).mono ?_
    rintro e w2 ⟨rfl, hb2⟩
    have B2 := hide (B1.out.of hb2)
    have A2 := hide (A1.out.below hb2)
    clear hb2 B1 A1
    have hcall := fun W (h : RdFd W A n c F) => rresponse_any A n c F W h (by omega)
    unfold resV at hcall ⊢
    obtain ⟨x0, hx0⟩ : ∃ x : ByteArray, x = ⟨#[]⟩ := ⟨_, rfl⟩
    obtain ⟨x4, hx4⟩ : ∃ x, x = resN F n := ⟨_, rfl⟩
    obtain ⟨bb, hbb⟩ : ∃ x, x = resB F n := ⟨_, rfl⟩
    rw [← hbb, ← hx4, ← hx0]
    simp only [← hbb, ← hx4, ← hx0] at hcall
    clear hx0 hx4 hbb
    have Q1 := hide (heap_alloc_new w2 (.cells #[.string x0, .string x0, .string x0, .string x0, .int .i64 x4] 49))
    have B3 := hide (B2.out.alloc B2.out.size (.cells #[.string x0, .string x0, .string x0, .string x0, .int .i64 x4] 49))
    have A3 := hide (A2.out.below ((Below.refl _ _).alloc (Nat.le_refl _) (.cells #[.string x0, .string x0, .string x0, .string x0, .int .i64 x4] 49)))
    clear B2 A2
    go_wp2_with fail
    refine (hcall _ A3.out).mono ?_
    rintro e w3 ⟨rfl, hb3⟩
    have B4 := hide (B3.out.of hb3)
    have Q2 := hide (keepRow Q1.out hb3)
    generalize w2.heap.size = p1 at *
    have Q3 := hide (keepRow Q2.out ((Below.refl _ _).alloc (Nat.le_refl _) (.cells #[.string x0, .string x0, .string x0, .string x0, .int .i64 x4] 53)))
    have hs4 := B4.out.size
    have Q4 := hide (heap_alloc_new w3 (.cells #[.string x0, .string x0, .string x0, .string x0, .int .i64 x4] 53))
    have B5 := hide (B4.out.alloc hs4 (.cells #[.string x0, .string x0, .string x0, .string x0, .int .i64 x4] 53))
    have hlp := rowLt Q2.out
    clear hb3 hcall B3 A3 B4 Q1 Q2
    obtain ⟨p0, p1', p2, p3, p4⟩ := row5 Q3.out
    obtain ⟨q0, q1, q2, q3, q4⟩ := row5 Q4.out
    go_wp2_with fail
    go_region_held3 (fun W => (W.cell? ⟨p1, 0, none⟩ = some (.string x0) ∧ W.cell? ⟨p1, 1, none⟩ = some (.string x0) ∧ W.cell? ⟨p1, 2, none⟩ = some (.string x0) ∧ W.cell? ⟨p1, 3, none⟩ = some (.string x0) ∧ W.cell? ⟨p1, 4, none⟩ = some (.int .i64 x4)) ∧ (W.cell? ⟨w3.heap.size, 0, none⟩ = some (.string x0) ∧ W.cell? ⟨w3.heap.size, 1, none⟩ = some (.string x0) ∧ W.cell? ⟨w3.heap.size, 2, none⟩ = some (.string x0) ∧ W.cell? ⟨w3.heap.size, 3, none⟩ = some (.string x0) ∧ W.cell? ⟨w3.heap.size, 4, none⟩ = some (.int .i64 x4))) (((try dsimp only); (repeat' apply And.intro) <;> (first | (go_keep; done) | (exact cellKeepT hv3 (by assumption)) | (exact cellKeepT hv4 (by assumption)))))
      ((first
        | (go_at_call 35; (with_reducible refine (own27 x0 x0 x0 x0 x4 _).mono ?_); rintro e W3 ⟨rfl, hv3⟩; have B6 := hide (B5.out.drew.of hv3); have k0 := cellKeepT hv3 p0; have k1 := cellKeepT hv3 p1'; have k2 := cellKeepT hv3 p2; have k3 := cellKeepT hv3 p3; have k4 := cellKeepT hv3 p4; have k5 := cellKeepT hv3 q0; have k6 := cellKeepT hv3 q1; have k7 := cellKeepT hv3 q2; have k8 := cellKeepT hv3 q3; have k9 := cellKeepT hv3 q4)
        | (go_at_call 29; (with_reducible refine (alive27 _).mono ?_); rintro e W4 ⟨rfl, hv4⟩; have B7 := hide (B6.out.of hv4))))
    all_goals
      go_wp2_with fail
      go_ret
      exact ⟨rfl, B7.out⟩
end Go.Proofs.Ytnjmkbaddeeniaa
