/- Layer 17: Encode, the reference's. -/
import Derived.Test.YteijpklepgenbaaHuB
namespace Go.Proofs.Yteijpklepgenbaa
open Go.RowKit

set_option maxRecDepth 20000 in
set_option maxHeartbeats 3200000 in
theorem rencode_any (A : Option Addr) (n c : Nat) (b : Nat → Int) (w : World) (ha : Rd .u8 w A n c b) (hb : Byt n b) (hn : n ≤ 1000) :
    Calls Try.prog 14 #[.slice A n c] w (Cloned w ((enT b n + 7) / 8) (byF (enG b n) (enT b n))) := by
  have Ha := hide ha
  have Hb := hide hb
  clear ha hb
  go_enter Try.func14, Try.ntmps14
  go_wp2_with fail
  refine (codes_any _).mono ?_
  rintro e w1 ⟨v1, rfl, ho1, hb1⟩
  obtain ⟨C, cc, rfl, hrc, _⟩ := ho1.rd
  have HC := hide hrc
  have HB1 := hide hb1
  have Ha1 := hide (Ha.out.below hb1)
  clear ho1 hrc hb1
  go_wp2_with fail
  go_loopw [3, 5] (fun bs i wr => ∃ (k : Nat) (D : Option Addr) (dc : Nat), k ≤ n ∧ i = .int .i64 k ∧ bs = .slice D (enT b k) dc ∧ Rd .i64 wr D (enT b k) dc (enG b k) ∧ Below w1.heap.size w1 wr) (fun _ i _ => n - (intOf i).toNat)
  case atStart => exact ⟨0, none, 0, Nat.zero_le _, rfl, rfl, Rd.nil _ _ _, Below.refl _ _⟩
  case round =>
    obtain ⟨k, D, dc, hk, rfl, rfl, hd, hB⟩ := hrel
    have Hd := hide hd
    have HB := hide hB
    clear hd
    by_cases hlt : k < n
    · have Har := hide (Ha1.out.below hB)
      have HCr := hide (HC.out.below hB)
      clear hB
      obtain ⟨bb, off, rfl, hc⟩ := Har.out.at_ hlt
      have hkn : (k : Int) < (n : Int) := by omega
      obtain ⟨s1, s2⟩ := byt_nat Hb.out hlt
      have hle := enT_le Hb.out (k + 1) (by omega)
      have e2 : enT b (k + 1) = enT b k + len (b k).toNat := rfl
      have e3 : enG b (k + 1) = catF (enT b k) (enG b k) (bitsOf (cd (rnk (b k).toNat) : Int) (len (b k).toNat)) := rfl
      have hl := len_bd (b k).toNat (by omega)
      obtain ⟨S, hS⟩ : ∃ S, (b k).toNat = S := ⟨_, rfl⟩
      rw [hS] at s1 s2 e2 e3 hl
      rw [← s2] at hc
      have E2 := hide e2
      have E3 := hide e3
      have hTb : enT b k ≤ 100000 := by omega
      have c0 : (0 : Int) ≤ (S : Int) := by omega
      have c1 : (S : Int) ≤ 255 := by omega
      have hS257 : S < 257 := by omega
      have c2 : (S : Int) < 257 := by omega
      obtain ⟨cb, co, rfl, hcs⟩ := HCr.out.at_ (i := S) hS257
      have hcd := cd_lt S hS257
      have hl32 : len S ≤ 32 := by omega
      have hcd0 : (0 : Int) ≤ (cd (rnk S) : Int) := by omega
      have Hcd := hide hcd
      clear e2 e3 hle hS s2 hcd
      go_wp2_with fail
      go_region_held3 (fun w' : World => w'.cell? ⟨cb, co + S, none⟩ = some (.int .i64 (cd (rnk S) : Int)))
        ((first | exact hcs | (go_keep; done) | exact cellKeepB hb2 (by assumption) | exact cellKeepB hb3 (by assumption)))
        ((first
          | (go_at_call 28; (with_reducible refine (rlen_at S _ hS257).mono ?_); rintro e w2 ⟨rfl, hb2⟩; have HB2 := hide (HB.out.drew.of hb2); have Hd2 := hide (Hd.out.drew.below hb2))
          | (go_at_call 27; (with_reducible refine (rrow_ok D (enT b k) dc (len S) _ (enG b k) _ Hd2.out hl32 hcd0 Hcd.out hTb).mono ?_); rintro e w3 ⟨u, rfl, ho3, hb3⟩; have Ho3 := hide ho3; have HB3 := hide (HB2.out.of hb3))))
      all_goals
        obtain ⟨D3, dc3, rfl, hr3, _⟩ := Ho3.out.rd
        have Hr3 := hide hr3
        clear hr3
        go_wp2_with fail
        exact ⟨⟨k + 1, D3, dc3, by omega, by go_num, by rw [E2.out], by rw [E2.out, E3.out]; exact Hr3.out, HB3.out⟩, by simp [intOf]; omega⟩
    · obtain rfl : k = n := by omega
      have hle := enT_le Hb.out k (Nat.le_refl _)
      clear hB
      go_wp2_with fail
      refine (rbytes_any D (enT b k) dc (enG b k) _ Hd.out (fun i _ => enG_bd k i) (by omega)).mono ?_
      rintro e w2 ⟨v, rfl, ho, hb2⟩
      have HB2 := hide ((HB1.out.of HB.out).of hb2)
      have hsz := (HB1.out.of HB.out).size
      have Ho : Hid (Own .u8 5 w.heap.size w2 v ((enT b k + 7) / 8) (byF (enG b k) (enT b k))) := Own.baseB ho hsz
      clear ho hb2
      go_wp2_with fail
      go_ret
      exact ⟨_, rfl, Ho.out, HB2.out⟩
end Go.Proofs.Yteijpklepgenbaa
