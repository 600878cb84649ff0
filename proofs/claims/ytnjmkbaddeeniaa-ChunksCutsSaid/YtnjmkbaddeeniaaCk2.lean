/- Layer 10: Cut on the example. -/
import Derived.Test.YtnjmkbaddeeniaaCk1
import Derived.RegionTactic
import Derived.ChangeAlike
import Derived.Deep.RegionHeld3
namespace Go.Proofs.Ytnjmkbaddeeniaa
open Go.RowKit

theorem PcS.congr {B : Nat} {w : World} {v : Value} {n : Nat} {X X' : Nat → Int} {V : Nat → Value} {N N' : Nat → Nat} {G G' : Nat → Nat → Int} (h : PcS B w v n X V N G) (hX : ∀ j, j < n → X j = X' j) (hN : ∀ j, j < n → N j = N' j) (hG : ∀ j, j < n → G j = G' j) : PcS B w v n X' V N' G' :=
  ⟨h.row.congr fun i hi => by
    unfold pcF
    split
    · rw [hX _ (by omega)]
    · rfl, fun j hj => by rw [← hN j hj, ← hG j hj]; exact h.bytes j hj⟩
def exX : Nat → Int := fun i => if i = 2 then 1 else 0
def exN : Nat → Nat := fun i => if i = 0 then 2 else 1
def exG (f1 f2 : Nat → Int) : Nat → Nat → Int := fun i => if i = 0 then f1 else if i = 1 then (fun j => f1 (2 + j)) else f2
theorem chunk_info : (Try.prog.info? 137).map (fun i => (i.zero, i.size, i.bytes)) = some (some (.agg #[.int .i64 0, .slice none 0 0]), 2, 32) := by kernel_rfl
theorem next_0 (S : Option Addr) (d p0 p1 : Nat) (g : Nat → Int) (w : World) (h0 : w.heap[p0]? = some (.cells #[.slice S 2 d] 28 (0, 0))) (h1 : w.heap[p1]? = some (.cells #[.int .i64 0] 3 (0, 0))) (ha : Rd .i64 w S 2 d g) (hg : g 0 = 2) :
    Calls Try.prog 111 #[.pointer (some ⟨p0, 0, none⟩), .pointer (some ⟨p1, 0, none⟩)] w fun e w' => e = .returned (.int .i64 2) ∧ w' = w.setCell ⟨p1, 0, none⟩ (.int .i64 1) := by
  have h := next_any S 2 d p0 p1 0 g w h0 h1 ha (by omega) (by omega)
  rw [hg] at h
  exact h
theorem next_1 (S : Option Addr) (d p0 p1 : Nat) (g : Nat → Int) (w : World) (h0 : w.heap[p0]? = some (.cells #[.slice S 2 d] 28 (0, 0))) (h1 : w.heap[p1]? = some (.cells #[.int .i64 1] 3 (0, 0))) (ha : Rd .i64 w S 2 d g) (hg : g 1 = 1) :
    Calls Try.prog 111 #[.pointer (some ⟨p0, 0, none⟩), .pointer (some ⟨p1, 0, none⟩)] w fun e w' => e = .returned (.int .i64 1) ∧ w' = w.setCell ⟨p1, 0, none⟩ (.int .i64 0) := by
  have h := next_any S 2 d p0 p1 1 g w h0 h1 ha (by omega) (by omega)
  rw [hg] at h
  exact h
theorem PcS.drew {B : Nat} {w : World} {v : Value} {n : Nat} {X : Nat → Int} {V : Nat → Value} {N : Nat → Nat} {G : Nat → Nat → Int} (h : PcS B w v n X V N G) : PcS B w.drew v n X V N G := ⟨h.row, h.bytes⟩
theorem RdV.litK (w : World) (x : Int) (y : Value) : RdV 2 (w.alloc (.cells #[.int .i64 x, y] 137)) (some ⟨w.heap.size, 0, none⟩) 1 1 (litC2 x y) :=
  (OwnV.lit 2 137 0 w (litC2 x y) #[.int .i64 x, y] 1 (Nat.zero_le _) (by simp [maxLen]) rfl).rdS2
section
variable {P : Program} {e : TypeId} {w : World} {ops : Array Oper} {o : Oper} {a : Act} {K : Act → World → Prop} {Q : Exit → Act → World → Prop} {E : Prop}
theorem step_appV (hgd : o.guard = none) (s x : Operand) (t : TypeId) (ho : o.op = .call { callee := .builtin .append, args := #[s, x], argTypes := #[t, t] })
    (sz : Nat) (i : TypeInfo) (z : Value) (bytes : Nat) (ht : P.underlying t = some (.slice e)) (hi : P.info? e = some i) (hz : i.zero = some z) (hsize : i.size = sz) (hby : i.bytes = bytes) (hzs : z.cells.size = sz) (hs0 : 0 < sz)
    (B : Nat) (v : Value) (n : Nat) (F : Nat → Value) (hs : a.eval s = v) (hown : OwnV sz e B w v n F) (A : Option Addr) (m c : Nat) (G : Nat → Value) (hx : a.eval x = .slice A m c) (hr : RdV sz w A m c G) (hG : ∀ i, i < m * sz → (G i).oneCell' = true)
    (h63 : n + m ≤ maxLen) (hbytes : (n + m) * bytes ≤ 140737488355328) (hbase : B ≤ w.heap.size)
    (h : ∀ v' w', OwnV sz e B w' v' (n + m) (catV (n * sz) F G) → w.grownBy w' v.ownBlock → (v'.ownBlock = v.ownBlock ∨ v'.ownBlock = some w.heap.size) → K (a.put o.dst v') w') :
    if Region.wanted o (yielded ops a.tmps) = true then Oper.wp P o a w K Q else E := by
  rw [if_pos (by simp [Region.wanted, hgd])]
  obtain ⟨v', w', hrun, h2, h3, h4⟩ := run_appV (P := P) sz t o.type i z bytes ht hi hz hsize hby hzs hs0 B v n F hown A m c G hr hG h63 hbytes hbase
  unfold Oper.wp execOp
  simp only [ho, resolve, invoke, builtin, Sem.run_bind, Sem.run_pure, Result.andThen_ok, List.map_toArray, List.map_cons, List.map_nil, hs, hx, hrun]
  exact h v' w' h2 h3 h4
end
theorem cellKeepC {w w' : World} {a : Addr} {u : Value} (hb : Below w.heap.size w w') (h : w.cell? a = some u) : w'.cell? a = some u := by
  rw [hb.cell (World.block_lt_of_cell? w _ h)]
  exact h
theorem keepRowC {w w' : World} {b : Nat} {cs : Array Value} {T : TypeId} (h : w.heap[b]? = some (.cells cs T (0, 0))) (hb : Below w.drew.heap.size w.drew w') : w'.heap[b]? = some (.cells cs T (0, 0)) := keepRow (w := w.drew) h hb
theorem ownV_ne {s : Nat} {e : TypeId} {B b : Nat} {w : World} {v : Value} {n : Nat} {F : Nat → Value} (h : OwnV s e B w v n F) (hb : b < B) : v.ownBlock ≠ some b := fun he => by
  have := (World.ownsRow.lt h b he).1
  omega
theorem absW2 {p : World → Prop} (W0 : World) (R : World → Prop) (h0 : R W0) (h : ∀ W, R W → p W) : p W0 := h W0 h0
theorem upd_same {α : Type} {f : Nat → α} {n : Nat} {x : α} (g : Nat → α) (hfg : f = g) (j : Nat) (hx : g n = x) : upd f n x j = g j := by
  subst hfg
  unfold upd
  split
  · rename_i h; rw [h, hx]
  · rfl
/-- The state of the walk: the closure's cells, the pieces. -/
def CutI (w : World) (S : Option Addr) (d : Nat) (f1 f2 : Nat → Int) (m : Nat) (z : Int) (v : Value) (W : World) : Prop :=
  W.heap[w.heap.size]? = some (.cells #[.slice S 2 d] 28 (0, 0)) ∧ W.heap[w.heap.size + 1]? = some (.cells #[.int .i64 z] 3 (0, 0)) ∧ (∃ V, PcS (w.heap.size + 2) W v m exX V exN (exG f1 f2)) ∧ Below w.heap.size w W
def leftN (v : Value) : Nat := match v with | .slice _ n _ => n | _ => 0
set_option maxRecDepth 100000 in
set_option maxHeartbeats 12800000 in
theorem cut_ex (A S : Option Addr) (c d c1 c2 : Nat) (A1 A2 : Option Addr) (f1 f2 g : Nat → Int) (F : Nat → Ck) (w : World) (ha : RdC w A 2 c F) (h0 : F 0 = ⟨0, A1, 3, c1, f1⟩) (h1 : F 1 = ⟨1, A2, 1, c2, f2⟩) (hs : Rd .i64 w S 2 d g) (g0 : g 0 = 2) (g1 : g 1 = 1) :
    Calls Try.prog 20 #[.slice A 2 c, .slice S 2 d] w fun e w' => ∃ v V, e = .returned v ∧ PcS (w.heap.size + 2) w' v 3 exX V exN (exG f1 f2) ∧ Below w.heap.size w w' := by
  have Ha := hide ha
  have Hs := hide hs
  have H0 := hide h0
  have H1 := hide h1
  have G0 := hide g0
  have G1 := hide g1
  clear ha hs h0 h1 g0 g1
  obtain ⟨i0, hi, hz0, hz1, hz2⟩ := info_parts chunk_info
  go_enter Try.func20, Try.ntmps20
  go_wp2_with fail
  refine (inturn_any _ _ _ _).mono ?_
  rintro e w1 ⟨rfl, hp0, hp1, hsz1, hb1⟩
  have P0 := hide hp0
  have P1 := hide hp1
  have HB1 := hide hb1
  clear hp0 hp1 hb1 hsz1
  go_wp2_with fail
  go_loopw [6, 20] (fun v i wr => (i = .int .i64 0 ∧ CutI w S d f1 f2 0 0 v wr) ∨ (i = .int .i64 1 ∧ CutI w S d f1 f2 2 0 v wr) ∨ (i = .int .i64 2 ∧ CutI w S d f1 f2 3 1 v wr)) (fun _ i _ => 3 - (intOf i).toNat)
  case atStart => exact .inl ⟨rfl, P0.out, P1.out, ⟨fun _ => .int .i64 0, PcS.nil _ _ _ _ _ _⟩, HB1.out⟩
  case round =>
    rcases hrel with ⟨rfl, q0, q1, ⟨V, hV⟩, hB⟩ | ⟨rfl, q0, q1, ⟨V, hV⟩, hB⟩ | ⟨rfl, q0, q1, ⟨V, hV⟩, hB⟩
    · have Q0 := hide q0
      have Q1 := hide q1
      have HV := hide hV
      have HB := hide hB
      have hl1 := rowLt q1
      have Hr := hide (Ha.out.below hB)
      obtain ⟨b, off, hA, hc0, hc1⟩ := Hr.out.at_ (show 0 < 2 by omega)
      rw [H0.out] at hc0 hc1
      simp only [Nat.zero_mul, Nat.add_zero] at hc0 hc1
      have hby := (Hr.out.2.2.2.2 0 (by omega)).1
      rw [H0.out] at hby
      have Hby := hide hby
      subst hA
      obtain ⟨bb, bo, hA1, _⟩ := hby.at_ (show 0 < 3 by omega)
      simp only at hA1
      subst hA1
      have hle := Hby.out.1
      have R8 := hide (heap_alloc_new wr (.cells #[.int .i64 0, .slice (some ⟨bb, bo, none⟩) 3 c1] 137))
      have B8 := hide (HB.out.alloc HB.out.size (.cells #[.int .i64 0, .slice (some ⟨bb, bo, none⟩) 3 c1] 137))
      have N0 := hide (keepRow Q0.out ((Below.refl _ _).alloc (Nat.le_refl _) (.cells #[.int .i64 0, .slice (some ⟨bb, bo, none⟩) 3 c1] 137)))
      have N1 := hide (keepRow Q1.out ((Below.refl _ _).alloc (Nat.le_refl _) (.cells #[.int .i64 0, .slice (some ⟨bb, bo, none⟩) 3 c1] 137)))
      have NV := hide (hV.below ((Below.refl _ _).alloc (Nat.le_refl _) (.cells #[.int .i64 0, .slice (some ⟨bb, bo, none⟩) 3 c1] 137)))
      clear q0 q1 hV hB hby
      go_wp2_with fail
      have Hno := hide (fun h => Nat.lt_irrefl _ (World.ownsRow.lt HV.out.row _ h).2 : _ ≠ some wr.heap.size)
      generalize hh8 : wr.heap.size = h8 at *
      clear hh8
      have hbz := (Ha.out.2.2.2.2 0 (by omega)).1
      rw [H0.out] at hbz
      have Hby0 := hide (show Rd .u8 w (some ⟨bb, bo, none⟩) 3 c1 f1 from hbz)
      clear hbz Hby Hr Q0 Q1 HV HB
      go_loopw [6, 9] (fun v l W => (l = .slice (some ⟨bb, bo, none⟩) 3 c1 ∧ v.ownBlock ≠ some h8 ∧ CutI w S d f1 f2 0 0 v W ∧ W.heap[h8]? = some (.cells #[.int .i64 0, .slice (some ⟨bb, bo, none⟩) 3 c1] 137 (0, 0))) ∨ (l = .slice (some ⟨bb, bo + 2, none⟩) 1 (c1 - 2) ∧ v.ownBlock ≠ some h8 ∧ CutI w S d f1 f2 1 1 v W ∧ W.heap[h8]? = some (.cells #[.int .i64 0, .slice (some ⟨bb, bo, none⟩) 3 c1] 137 (0, 0))) ∨ (∃ A' c', l = .slice A' 0 c' ∧ CutI w S d f1 f2 2 0 v W)) (fun _ l _ => leftN l)
      case atStart => exact .inl ⟨rfl, Hno.out, ⟨N0.out, N1.out, ⟨V, NV.out⟩, B8.out⟩, R8.out⟩
      case round =>
        rcases hrel with ⟨rfl, hno, ⟨q0, q1, ⟨V, hV⟩, hB⟩, hR⟩ | ⟨rfl, hno, ⟨q0, q1, ⟨V, hV⟩, hB⟩, hR⟩ | ⟨A', c', rfl, ⟨q0, q1, ⟨V, hV⟩, hB⟩⟩
        · have Hne := hide hno
          have HB := hide hB
          have HS := hide (Hs.out.below hB)
          have hle' : (2 : Int) ≤ (c1 : Int) := by omega
          have n1 : w.heap.size + 1 < h8 := hl1
          have HV := hide (hV.set (a := ⟨w.heap.size + 1, 0, none⟩) (by simp) (.int .i64 1))
          have S0 := hide (keepOne q0 (grown_set _ (w.heap.size + 1) 0 (.int .i64 1)) (by omega))
          have s1 := setRow _ _ 0 (.int .i64 1) q1
          simp only [List.setIfInBounds_toArray, List.set_cons_zero] at s1
          have S1 := hide s1
          have SR := hide (keepOne hR (grown_set _ (w.heap.size + 1) 0 (.int .i64 1)) (by omega))
          have SB := hide (hB.setCell (show w.heap.size ≤ (⟨w.heap.size + 1, 0, none⟩ : Addr).block by simp) (.int .i64 1))
          have Z0 := hide q0
          have Z1 := hide q1
          clear q0 q1 hV hB hR s1
          go_wp2_with fail
          refine (next_0 S d _ _ g _ Z0.out Z1.out HS.out G0.out).mono ?_
          rintro e W2 ⟨rfl, rfl⟩
          refine absW2 _ (fun W => W.heap[w.heap.size]? = some (.cells #[.slice S 2 d] 28 (0, 0)) ∧ W.heap[w.heap.size + 1]? = some (.cells #[.int .i64 1] 3 (0, 0)) ∧ PcS (w.heap.size + 2) W _ 0 exX V exN (exG f1 f2) ∧ W.heap[h8]? = some (.cells #[.int .i64 0, .slice (some ⟨bb, bo, none⟩) 3 c1] 137 (0, 0)) ∧ Below w.heap.size w W) ⟨S0.out, S1.out, HV.out, SR.out, SB.out⟩ ?_
          clear S0 S1 SR SB HV HS HB Z0 Z1
          rintro W ⟨hq0, hq1, hV, hR, hB⟩
          have Q0 := hide hq0
          have Q1 := hide hq1
          have HV := hide hV
          have R8' := hide hR
          have HB := hide hB
          obtain ⟨r0, r1⟩ := row2 hR
          clear hq0 hq1 hV hR hB
          go_wp2_with fail
          go_region_held3 (fun w' : World => w'.cell? ⟨h8, 0, none⟩ = some (.int .i64 0))
            ((first | exact (row2 R84.out).1 | exact cellKeepC hv3 (by assumption) | (go_keep; done)))
            ((first
              | (go_at_call 74; (with_reducible refine (copied_any 0 _ 2 _ f1 _ ((Hby0.out.below HB.out.drew).take (by omega)) (by omega)).mono ?_); rintro e W3 ⟨y, rfl, hy, hv3⟩; obtain ⟨Ay, cy, rfl, _, _⟩ := hy.rd; have HB3 := hide (HB.out.drew.of hv3); have HV3 := hide (HV.out.drew.below hv3); have HY3 := hide (Own.baseT hy (B' := w.heap.size + 2) (by have := rowLt Q1.out; show _ ≤ W.drew.heap.size; exact this)); have Q03 := hide (keepRowC Q0.out hv3); have Q13 := hide (keepRowC Q1.out hv3); have R83 := hide (keepRowC R8'.out hv3))
              | (refine step_appV rfl _ _ _ rfl 2 i0 _ 32 Try.underlying22 hi hz0 hz1 hz2 rfl (by omega) (w.heap.size + 2) _ 0 _ rfl (HV3.out.row.alloc _) _ 1 1 _ rfl (RdV.litK _ 0 _) (fun i _ => by unfold litC2; split <;> rfl) (by simp [maxLen]) (by omega) (by have := rowLt Q13.out; simp; omega) ?_; intro v4 W4 hown4 hg4 hob4; have R84 := hide (keepGrown (keepRow R83.out ((Below.refl _ _).alloc (Nat.le_refl _) _)) hg4 Hne.out); have Q04 := hide (keepGrown (keepRow Q03.out ((Below.refl _ _).alloc (Nat.le_refl _) _)) hg4 (ownV_ne HV3.out.row (by omega))); have Q14 := hide (keepGrown (keepRow Q13.out ((Below.refl _ _).alloc (Nat.le_refl _) _)) hg4 (ownV_ne HV3.out.row (by omega))); have HB4 := hide ((HB3.out.alloc HB3.out.size _).grown hg4 (by have := HB3.out.size; simp; omega) (fun j e => by have := (World.ownsRow.lt HV3.out.row j e).1; omega)); have HV4 := hide (PcS.push (x := 0) (m := 2) (g := f1) (HV3.out.below ((Below.refl _ _).alloc (Nat.le_refl _) _)) (Own.alloc HY3.out _) hown4 hg4))))
          have Hne4 : Hid (v4.ownBlock ≠ some h8) := by
            have l8 := rowLt R83.out
            show _ ≠ _
            rcases hob4 with e | e
            · rw [e]; exact Hne.out
            · rw [e]
              intro e2
              have := Option.some.inj e2
              simp at this
              omega
          have HV5 := hide (HV4.out.congr (X' := exX) (N' := exN) (G' := exG f1 f2) (fun j hj => upd_same _ rfl j rfl) (fun j hj => upd_same _ rfl j rfl) (fun j hj => upd_same _ rfl j rfl))
          clear hown4 hg4 hob4 HV4 HV3 HY3 HB3 Q03 Q13 R83 Q0 Q1 HV R8' HB r0 r1
          go_wp2_with fail
          go_roundw
          case rel => exact .inr (.inl ⟨rfl, Hne4.out, ⟨Q04.out, Q14.out, ⟨_, HV5.out⟩, HB4.out⟩, R84.out⟩)
          case measure => simp [leftN]
        · have Hne := hide hno
          have HB := hide hB
          have HS := hide (Hs.out.below hB)
          have hle' : (1 : Int) ≤ ((c1 - 2 : Nat) : Int) := by omega
          have Hby1 : Hid (Rd .u8 w (some ⟨bb, bo + 2, none⟩) 1 (c1 - 2) (fun j => f1 (2 + j))) := by
            have h := Hby0.out.cutAt (lo := 2) (hi := 3) (by omega) (by omega)
            rw [if_neg (by omega)] at h
            exact h
          have n1 : w.heap.size + 1 < h8 := hl1
          have HV := hide (hV.set (a := ⟨w.heap.size + 1, 0, none⟩) (by simp) (.int .i64 0))
          have S0 := hide (keepOne q0 (grown_set _ (w.heap.size + 1) 0 (.int .i64 0)) (by omega))
          have s1 := setRow _ _ 0 (.int .i64 0) q1
          simp only [List.setIfInBounds_toArray, List.set_cons_zero] at s1
          have S1 := hide s1
          have SR := hide (keepOne hR (grown_set _ (w.heap.size + 1) 0 (.int .i64 0)) (by omega))
          have SB := hide (hB.setCell (show w.heap.size ≤ (⟨w.heap.size + 1, 0, none⟩ : Addr).block by simp) (.int .i64 0))
          have Z0 := hide q0
          have Z1 := hide q1
          clear q0 q1 hV hB hR s1
          go_wp2_with fail
          refine (next_1 S d _ _ g _ Z0.out Z1.out HS.out G1.out).mono ?_
          rintro e W2 ⟨rfl, rfl⟩
          refine absW2 _ (fun W => W.heap[w.heap.size]? = some (.cells #[.slice S 2 d] 28 (0, 0)) ∧ W.heap[w.heap.size + 1]? = some (.cells #[.int .i64 0] 3 (0, 0)) ∧ PcS (w.heap.size + 2) W _ 1 exX V exN (exG f1 f2) ∧ W.heap[h8]? = some (.cells #[.int .i64 0, .slice (some ⟨bb, bo, none⟩) 3 c1] 137 (0, 0)) ∧ Below w.heap.size w W) ⟨S0.out, S1.out, HV.out, SR.out, SB.out⟩ ?_
          clear S0 S1 SR SB HV HS HB Z0 Z1
          rintro W ⟨hq0, hq1, hV, hR, hB⟩
          have Q0 := hide hq0
          have Q1 := hide hq1
          have HV := hide hV
          have R8' := hide hR
          have HB := hide hB
          obtain ⟨r0, r1⟩ := row2 hR
          clear hq0 hq1 hV hR hB
          go_wp2_with fail
          go_region_held3 (fun w' : World => w'.cell? ⟨h8, 0, none⟩ = some (.int .i64 0))
            ((first | exact (row2 R84.out).1 | exact cellKeepC hv3 (by assumption) | (go_keep; done)))
            ((first
              | (go_at_call 74; (with_reducible refine (copied_any 0 _ 1 _ (fun j => f1 (2 + j)) _ (Hby1.out.below HB.out.drew) (by omega)).mono ?_); rintro e W3 ⟨y, rfl, hy, hv3⟩; obtain ⟨Ay, cy, rfl, _, _⟩ := hy.rd; have HB3 := hide (HB.out.drew.of hv3); have HV3 := hide (HV.out.drew.below hv3); have HY3 := hide (Own.baseT hy (B' := w.heap.size + 2) (by have := rowLt Q1.out; show _ ≤ W.drew.heap.size; exact this)); have Q03 := hide (keepRowC Q0.out hv3); have Q13 := hide (keepRowC Q1.out hv3); have R83 := hide (keepRowC R8'.out hv3))
              | (refine step_appV rfl _ _ _ rfl 2 i0 _ 32 Try.underlying22 hi hz0 hz1 hz2 rfl (by omega) (w.heap.size + 2) _ 1 _ rfl (HV3.out.row.alloc _) _ 1 1 _ rfl (RdV.litK _ 0 _) (fun i _ => by unfold litC2; split <;> rfl) (by simp [maxLen]) (by omega) (by have := rowLt Q13.out; simp; omega) ?_; intro v4 W4 hown4 hg4 hob4; have R84 := hide (keepGrown (keepRow R83.out ((Below.refl _ _).alloc (Nat.le_refl _) _)) hg4 Hne.out); have Q04 := hide (keepGrown (keepRow Q03.out ((Below.refl _ _).alloc (Nat.le_refl _) _)) hg4 (ownV_ne HV3.out.row (by omega))); have Q14 := hide (keepGrown (keepRow Q13.out ((Below.refl _ _).alloc (Nat.le_refl _) _)) hg4 (ownV_ne HV3.out.row (by omega))); have HB4 := hide ((HB3.out.alloc HB3.out.size _).grown hg4 (by have := HB3.out.size; simp; omega) (fun j e => by have := (World.ownsRow.lt HV3.out.row j e).1; omega)); have HV4 := hide (PcS.push (x := 0) (m := 1) (g := (fun j => f1 (2 + j))) (HV3.out.below ((Below.refl _ _).alloc (Nat.le_refl _) _)) (Own.alloc HY3.out _) hown4 hg4))))
          have Hne4 : Hid (v4.ownBlock ≠ some h8) := by
            have l8 := rowLt R83.out
            show _ ≠ _
            rcases hob4 with e | e
            · rw [e]; exact Hne.out
            · rw [e]
              intro e2
              have := Option.some.inj e2
              simp at this
              omega
          have HV5 := hide (HV4.out.congr (X' := exX) (N' := exN) (G' := exG f1 f2) (fun j hj => upd_same _ rfl j rfl) (fun j hj => upd_same _ rfl j rfl) (fun j hj => upd_same _ rfl j rfl))
          clear hown4 hg4 hob4 HV4 HV3 HY3 HB3 Q03 Q13 R83 Q0 Q1 HV R8' HB r0 r1
          go_wp2_with fail
          go_roundw
          case rel => exact .inr (.inr ⟨_, _, rfl, Q04.out, Q14.out, ⟨_, HV5.out⟩, HB4.out⟩)
          case measure => simp [leftN]
        · have HV := hide hV
          have HB := hide hB
          have Q0 := hide q0
          have Q1 := hide q1
          clear q0 q1 hV hB
          go_wp2_with fail
          go_roundw
          case rel => exact .inr (.inl ⟨rfl, Q0.out, Q1.out, ⟨V, HV.out⟩, HB.out⟩)
          case measure => simp [intOf]
    · have Q0 := hide q0
      have Q1 := hide q1
      have HV := hide hV
      have HB := hide hB
      have hl1 := rowLt q1
      have Hr := hide (Ha.out.below hB)
      obtain ⟨b, off, hA, hc0, hc1⟩ := Hr.out.at_ (show 1 < 2 by omega)
      rw [H1.out] at hc0 hc1
      simp only [Nat.one_mul] at hc0 hc1
      have hby := (Hr.out.2.2.2.2 1 (by omega)).1
      rw [H1.out] at hby
      have Hby := hide hby
      subst hA
      obtain ⟨bb, bo, hA1, _⟩ := hby.at_ (show 0 < 1 by omega)
      simp only at hA1
      subst hA1
      have hle := Hby.out.1
      have R8 := hide (heap_alloc_new wr (.cells #[.int .i64 1, .slice (some ⟨bb, bo, none⟩) 1 c2] 137))
      have B8 := hide (HB.out.alloc HB.out.size (.cells #[.int .i64 1, .slice (some ⟨bb, bo, none⟩) 1 c2] 137))
      have N0 := hide (keepRow Q0.out ((Below.refl _ _).alloc (Nat.le_refl _) (.cells #[.int .i64 1, .slice (some ⟨bb, bo, none⟩) 1 c2] 137)))
      have N1 := hide (keepRow Q1.out ((Below.refl _ _).alloc (Nat.le_refl _) (.cells #[.int .i64 1, .slice (some ⟨bb, bo, none⟩) 1 c2] 137)))
      have NV := hide (hV.below ((Below.refl _ _).alloc (Nat.le_refl _) (.cells #[.int .i64 1, .slice (some ⟨bb, bo, none⟩) 1 c2] 137)))
      clear q0 q1 hV hB hby
      go_wp2_with fail
      have Hno := hide (fun h => Nat.lt_irrefl _ (World.ownsRow.lt HV.out.row _ h).2 : _ ≠ some wr.heap.size)
      generalize hh8 : wr.heap.size = h8 at *
      clear hh8
      have hbz := (Ha.out.2.2.2.2 1 (by omega)).1
      rw [H1.out] at hbz
      have Hby0 := hide (show Rd .u8 w (some ⟨bb, bo, none⟩) 1 c2 f2 from hbz)
      clear hbz Hby Hr Q0 Q1 HV HB
      go_loopw [6, 9] (fun v l W => (l = .slice (some ⟨bb, bo, none⟩) 1 c2 ∧ v.ownBlock ≠ some h8 ∧ CutI w S d f1 f2 2 0 v W ∧ W.heap[h8]? = some (.cells #[.int .i64 1, .slice (some ⟨bb, bo, none⟩) 1 c2] 137 (0, 0))) ∨ (∃ A' c', l = .slice A' 0 c' ∧ CutI w S d f1 f2 3 1 v W)) (fun _ l _ => leftN l)
      case atStart => exact .inl ⟨rfl, Hno.out, ⟨N0.out, N1.out, ⟨V, NV.out⟩, B8.out⟩, R8.out⟩
      case round =>
        rcases hrel with ⟨rfl, hno, ⟨q0, q1, ⟨V, hV⟩, hB⟩, hR⟩ | ⟨A', c', rfl, ⟨q0, q1, ⟨V, hV⟩, hB⟩⟩
        · have Hne := hide hno
          have HB := hide hB
          have HS := hide (Hs.out.below hB)
          have hle' : (1 : Int) ≤ (c2 : Int) := by omega
          have n1 : w.heap.size + 1 < h8 := hl1
          have HV := hide (hV.set (a := ⟨w.heap.size + 1, 0, none⟩) (by simp) (.int .i64 1))
          have S0 := hide (keepOne q0 (grown_set _ (w.heap.size + 1) 0 (.int .i64 1)) (by omega))
          have s1 := setRow _ _ 0 (.int .i64 1) q1
          simp only [List.setIfInBounds_toArray, List.set_cons_zero] at s1
          have S1 := hide s1
          have SR := hide (keepOne hR (grown_set _ (w.heap.size + 1) 0 (.int .i64 1)) (by omega))
          have SB := hide (hB.setCell (show w.heap.size ≤ (⟨w.heap.size + 1, 0, none⟩ : Addr).block by simp) (.int .i64 1))
          have Z0 := hide q0
          have Z1 := hide q1
          clear q0 q1 hV hB hR s1
          go_wp2_with fail
          refine (next_0 S d _ _ g _ Z0.out Z1.out HS.out G0.out).mono ?_
          rintro e W2 ⟨rfl, rfl⟩
          refine absW2 _ (fun W => W.heap[w.heap.size]? = some (.cells #[.slice S 2 d] 28 (0, 0)) ∧ W.heap[w.heap.size + 1]? = some (.cells #[.int .i64 1] 3 (0, 0)) ∧ PcS (w.heap.size + 2) W _ 2 exX V exN (exG f1 f2) ∧ W.heap[h8]? = some (.cells #[.int .i64 1, .slice (some ⟨bb, bo, none⟩) 1 c2] 137 (0, 0)) ∧ Below w.heap.size w W) ⟨S0.out, S1.out, HV.out, SR.out, SB.out⟩ ?_
          clear S0 S1 SR SB HV HS HB Z0 Z1
          rintro W ⟨hq0, hq1, hV, hR, hB⟩
          have Q0 := hide hq0
          have Q1 := hide hq1
          have HV := hide hV
          have R8' := hide hR
          have HB := hide hB
          obtain ⟨r0, r1⟩ := row2 hR
          clear hq0 hq1 hV hR hB
          go_wp2_with fail
          go_region_held3 (fun w' : World => w'.cell? ⟨h8, 0, none⟩ = some (.int .i64 1))
            ((first | exact (row2 R84.out).1 | exact cellKeepC hv3 (by assumption) | (go_keep; done)))
            ((first
              | (go_at_call 74; (with_reducible refine (copied_any 1 _ 1 _ f2 _ (Hby0.out.below HB.out.drew) (by omega)).mono ?_); rintro e W3 ⟨y, rfl, hy, hv3⟩; obtain ⟨Ay, cy, rfl, _, _⟩ := hy.rd; have HB3 := hide (HB.out.drew.of hv3); have HV3 := hide (HV.out.drew.below hv3); have HY3 := hide (Own.baseT hy (B' := w.heap.size + 2) (by have := rowLt Q1.out; show _ ≤ W.drew.heap.size; exact this)); have Q03 := hide (keepRowC Q0.out hv3); have Q13 := hide (keepRowC Q1.out hv3); have R83 := hide (keepRowC R8'.out hv3))
              | (refine step_appV rfl _ _ _ rfl 2 i0 _ 32 Try.underlying22 hi hz0 hz1 hz2 rfl (by omega) (w.heap.size + 2) _ 2 _ rfl (HV3.out.row.alloc _) _ 1 1 _ rfl (RdV.litK _ 1 _) (fun i _ => by unfold litC2; split <;> rfl) (by simp [maxLen]) (by omega) (by have := rowLt Q13.out; simp; omega) ?_; intro v4 W4 hown4 hg4 hob4; have R84 := hide (keepGrown (keepRow R83.out ((Below.refl _ _).alloc (Nat.le_refl _) _)) hg4 Hne.out); have Q04 := hide (keepGrown (keepRow Q03.out ((Below.refl _ _).alloc (Nat.le_refl _) _)) hg4 (ownV_ne HV3.out.row (by omega))); have Q14 := hide (keepGrown (keepRow Q13.out ((Below.refl _ _).alloc (Nat.le_refl _) _)) hg4 (ownV_ne HV3.out.row (by omega))); have HB4 := hide ((HB3.out.alloc HB3.out.size _).grown hg4 (by have := HB3.out.size; simp; omega) (fun j e => by have := (World.ownsRow.lt HV3.out.row j e).1; omega)); have HV4 := hide (PcS.push (x := 1) (m := 1) (g := f2) (HV3.out.below ((Below.refl _ _).alloc (Nat.le_refl _) _)) (Own.alloc HY3.out _) hown4 hg4))))
          have Hne4 : Hid (v4.ownBlock ≠ some h8) := by
            have l8 := rowLt R83.out
            show _ ≠ _
            rcases hob4 with e | e
            · rw [e]; exact Hne.out
            · rw [e]
              intro e2
              have := Option.some.inj e2
              simp at this
              omega
          have HV5 := hide (HV4.out.congr (X' := exX) (N' := exN) (G' := exG f1 f2) (fun j hj => upd_same _ rfl j rfl) (fun j hj => upd_same _ rfl j rfl) (fun j hj => upd_same _ rfl j rfl))
          clear hown4 hg4 hob4 HV4 HV3 HY3 HB3 Q03 Q13 R83 Q0 Q1 HV R8' HB r0 r1
          go_wp2_with fail
          go_roundw
          case rel => exact .inr ⟨_, _, rfl, Q04.out, Q14.out, ⟨_, HV5.out⟩, HB4.out⟩
          case measure => simp [leftN]
        · have HV := hide hV
          have HB := hide hB
          have Q0 := hide q0
          have Q1 := hide q1
          clear q0 q1 hV hB
          go_wp2_with fail
          go_roundw
          case rel => exact .inr (.inr ⟨rfl, Q0.out, Q1.out, ⟨V, HV.out⟩, HB.out⟩)
          case measure => simp [intOf]
    · have HV := hide hV
      have HB := hide hB
      clear q0 q1 hV hB
      go_wp2_with fail
      go_ret
      exact ⟨_, V, rfl, HV.out, HB.out⟩
end Go.Proofs.Ytnjmkbaddeeniaa
