/- Layer 12, with no memory in it: frames as bytes one behind the other are these frames. -/
import Derived.Test.YtpnjamomkpkkeaaCtc
namespace Go.Proofs.Ytpnjamomkpkkeaa
set_option linter.unusedVariables false
set_option linter.unusedSimpArgs false
open Go.RowKit

def encQ (gs : List Rl) : List (Int × Int) := gs.flatMap fun x => x.enc.map fun b => (x.fm, b)
theorem encQ_snoc (gs : List Rl) (x : Rl) : encQ (gs ++ [x]) = encQ gs ++ x.enc.map fun b => (x.fm, b) := by simp [encQ]
theorem encL_snoc (gs : List Rl) (x : Rl) : encL (gs ++ [x]) = encL gs ++ x.enc := by
  rw [encL_app]
  show _ ++ (x.enc ++ []) = _
  rw [List.append_nil]
theorem hd_byt {n t f s : Int} (r : Bool) (h : HdR n t f s) : Byt 9 (hdF n t f (hdX s r)) := hdF_byt _ _ _ _
theorem enc_byt {sd : Int} {x : Rl} (h : x.Ok sd) (hb : ByL x.b) : ByL x.enc := by
  rw [h.enc]
  exact (byl_of (hd_byt x.rs h.2)).app hb
/-- What each side's bytes come to. -/
structure BkR (gs : List Rl) : Prop where
  out : outF nilL (encQ gs) = gs
  l0 : ∃ x l, gs.filter (fun y => decide (y.fm = 0)) = x :: l ∧ x.Pre ∧ ∀ y ∈ l, y.Ok 0
  l1 : ∀ y ∈ gs.filter (fun y => decide (y.fm = 1)), y.Ok 1
  e0 : endF nilL (encQ gs) 0 = encL (gs.filter fun y => decide (y.fm = 0))
  e1 : endF nilL (encQ gs) 1 = encL (gs.filter fun y => decide (y.fm = 1))
  b0 : ByL (endF nilL (encQ gs) 0)
  b1 : ByL (endF nilL (encQ gs) 1)
theorem inc_nil {sd : Int} {fs : List Rl} (h : sd = 0 → fs ≠ []) : Inc sd fs [] := by
  unfold Inc
  rw [if_neg (fun e => h e.1 e.2)]
  left
  show (0 : Nat) < 9
  omega
theorem BkR.f0 {gs : List Rl} (h : BkR gs) : frs 0 (endF nilL (encQ gs) 0) = gs.filter fun y => decide (y.fm = 0) := by
  obtain ⟨x, l, e, hx, hl⟩ := h.l0
  refine frs_of h.b0 ?_ (inc_nil fun _ => by rw [e]; simp) (by rw [List.append_nil]; exact h.e0)
  unfold FsOk
  rw [if_pos rfl]
  exact .inr ⟨x, l, e, hx, hl⟩
theorem BkR.f1 {gs : List Rl} (h : BkR gs) : frs 1 (endF nilL (encQ gs) 1) = gs.filter fun y => decide (y.fm = 1) := by
  refine frs_of h.b1 ?_ (inc_nil fun e => absurd e (by decide)) (by rw [List.append_nil]; exact h.e1)
  unfold FsOk
  rw [if_neg (by decide)]
  exact h.l1
theorem BkR.left {gs : List Rl} (h : BkR gs) : lftN 0 (endF nilL (encQ gs) 0) = 0 ∧ lftN 1 (endF nilL (encQ gs) 1) = 0 := by
  constructor
  · unfold lftN; rw [h.f0, h.e0]; omega
  · unfold lftN; rw [h.f1, h.e1]; omega
theorem BkR.pre {x : Rl} (hx : x.Pre) (hb : ByL x.b) : BkR [x] := by
  have hf : x.fm = 0 := hx.1
  have he : encQ [x] = x.b.map fun b => ((0 : Int), b) := by simp [encQ, hx.enc, hf]
  obtain ⟨c1, c2⟩ := out_chunk 0 x.b nilL (fun y hy => absurd hy (by simp [nilL])) hb
  have e0 : (nilL 0 ++ x.b) = x.b := rfl
  rw [e0] at c1 c2
  have hfr : frs 0 x.b = [x] := by
    refine frs_of hb ?_ (inc_nil fun _ => by simp) ?_
    · unfold FsOk
      rw [if_pos rfl]
      exact .inr ⟨x, [], rfl, hx, fun y hy => absurd hy (by simp)⟩
    · show x.b = (x.enc ++ []) ++ []
      rw [hx.enc, List.append_nil, List.append_nil]
  have hn : frs 0 (nilL 0) = [] := frs_nil 0
  refine ⟨?_, ⟨x, [], by simp [hf], hx, fun y hy => absurd hy (by simp)⟩, by simp [hf], ?_, ?_, ?_, ?_⟩
  · rw [he, c1, hfr, hn]; rfl
  · rw [he, c2, upS_at]; simp [hf, encL, hx.enc]
  · rw [he, c2, upS_ne _ _ (by decide)]; simp [hf, encL, nilL]
  · rw [he, c2, upS_at]; exact hb
  · rw [he, c2, upS_ne _ _ (by decide)]; exact fun y hy => absurd hy (by simp [nilL])
theorem BkR.snoc {gs : List Rl} (h : BkR gs) {x : Rl} {sd : Int} (hsd : sd = 0 ∨ sd = 1) (hx : x.Ok sd) (hb : ByL x.b) : BkR (gs ++ [x]) := by
  have hf : x.fm = sd := hx.1
  have hE := enc_byt hx hb
  rcases hsd with rfl | rfl
  · obtain ⟨c1, c2⟩ := out_chunk 0 x.enc (endF nilL (encQ gs)) h.b0 hE
    obtain ⟨y, l, e, hy, hl⟩ := h.l0
    have e2 : (gs ++ [x]).filter (fun y => decide (y.fm = 0)) = y :: (l ++ [x]) := by rw [List.filter_append, e]; simp [hf]
    have e3 : (gs ++ [x]).filter (fun y => decide (y.fm = 1)) = gs.filter fun y => decide (y.fm = 1) := by rw [List.filter_append]; simp [hf]
    have hl2 : ∀ z ∈ l ++ [x], z.Ok 0 := fun z hz => by
      rcases List.mem_append.1 hz with hz | hz
      · exact hl z hz
      · rw [List.mem_singleton.1 hz]; exact hx
    have e4 : endF nilL (encQ gs) 0 ++ x.enc = encL (y :: (l ++ [x])) := by
      rw [h.e0, e, ← encL_snoc]; rfl
    have hfr : frs 0 (endF nilL (encQ gs) 0 ++ x.enc) = y :: (l ++ [x]) := by
      refine frs_of (h.b0.app hE) ?_ (inc_nil fun _ => by simp) (by rw [List.append_nil]; exact e4)
      unfold FsOk
      rw [if_pos rfl]
      exact .inr ⟨y, l ++ [x], rfl, hy, hl2⟩
    have hq : encQ (gs ++ [x]) = encQ gs ++ x.enc.map fun b => ((0 : Int), b) := by rw [encQ_snoc, hf]
    refine ⟨?_, ⟨y, l ++ [x], e2, hy, hl2⟩, by rw [e3]; exact h.l1, ?_, ?_, ?_, ?_⟩
    · rw [hq, outF_app, h.out, c1, hfr, h.f0, e]
      congr 1
      show ((y :: l) ++ [x]).drop (y :: l).length = [x]
      rw [List.drop_left]
    · rw [hq, endF_app, c2, upS_at, e2, e4]
    · rw [hq, endF_app, c2, upS_ne _ _ (by decide), e3]; exact h.e1
    · rw [hq, endF_app, c2, upS_at]; exact h.b0.app hE
    · rw [hq, endF_app, c2, upS_ne _ _ (by decide)]; exact h.b1
  · obtain ⟨c1, c2⟩ := out_chunk 1 x.enc (endF nilL (encQ gs)) h.b1 hE
    have e2 : (gs ++ [x]).filter (fun y => decide (y.fm = 0)) = gs.filter fun y => decide (y.fm = 0) := by rw [List.filter_append]; simp [hf]
    have e3 : (gs ++ [x]).filter (fun y => decide (y.fm = 1)) = (gs.filter fun y => decide (y.fm = 1)) ++ [x] := by rw [List.filter_append]; simp [hf]
    have hl2 : ∀ z ∈ (gs.filter fun y => decide (y.fm = 1)) ++ [x], z.Ok 1 := fun z hz => by
      rcases List.mem_append.1 hz with hz | hz
      · exact h.l1 z hz
      · rw [List.mem_singleton.1 hz]; exact hx
    have e4 : endF nilL (encQ gs) 1 ++ x.enc = encL ((gs.filter fun y => decide (y.fm = 1)) ++ [x]) := by
      rw [h.e1, ← encL_snoc]
    have hfr : frs 1 (endF nilL (encQ gs) 1 ++ x.enc) = (gs.filter fun y => decide (y.fm = 1)) ++ [x] := by
      refine frs_of (h.b1.app hE) ?_ (inc_nil fun e => absurd e (by decide)) (by rw [List.append_nil]; exact e4)
      unfold FsOk
      rw [if_neg (by decide)]
      exact hl2
    have hq : encQ (gs ++ [x]) = encQ gs ++ x.enc.map fun b => ((1 : Int), b) := by rw [encQ_snoc, hf]
    refine ⟨?_, by rw [e2]; exact h.l0, by rw [e3]; exact hl2, ?_, ?_, ?_, ?_⟩
    · rw [hq, outF_app, h.out, c1, hfr, h.f1]
      congr 1
      rw [List.drop_left]
    · rw [hq, endF_app, c2, upS_ne _ _ (by decide), e2]; exact h.e0
    · rw [hq, endF_app, c2, upS_at, e3, e4]
    · rw [hq, endF_app, c2, upS_ne _ _ (by decide)]; exact h.b0
    · rw [hq, endF_app, c2, upS_at]; exact h.b1.app hE
end Go.Proofs.Ytpnjamomkpkkeaa
