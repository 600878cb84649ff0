/- Layer 8: how many bits of 64 are set, any number. -/
import Derived.Test.YtbkdegjkjjdcdaaDoorFm1
import Derived.Test.YtbkdegjkjjdcdaaDoorMK
namespace Go.Proofs.YtbkdegjkjjdcdaaDoor
set_option linter.unusedVariables false
set_option linter.unusedSimpArgs false
open Go.RowKit Go.PlainAid

theorem and_split (a b c d : Nat) (hb : b < 256) (hd : d < 256) : (256 * a + b) &&& (256 * c + d) = 256 * (a &&& c) + (b &&& d) := by
  have e1 : 256 * a + b = 2 ^ 8 * a + b := rfl
  refine Nat.eq_of_testBit_eq fun i => ?_
  have hbd : b &&& d < 2 ^ 8 := Nat.lt_of_le_of_lt Nat.and_le_left hb
  rw [Nat.testBit_and]
  show ((2 ^ 8 * a + b).testBit i && (2 ^ 8 * c + d).testBit i) = (2 ^ 8 * (a &&& c) + (b &&& d)).testBit i
  rw [Nat.testBit_two_pow_mul_add _ hb, Nat.testBit_two_pow_mul_add _ hd, Nat.testBit_two_pow_mul_add _ hbd]
  by_cases h : i < 8
  · rw [if_pos h, if_pos h, if_pos h, Nat.testBit_and]
  · rw [if_neg h, if_neg h, if_neg h, Nat.testBit_and]
def ps1 (m x : Nat) : Nat := ((x >>> 1) &&& m) + (x &&& m)
def ps2 (m x : Nat) : Nat := ((x >>> 2) &&& m) + (x &&& m)
def ps3 (m x : Nat) : Nat := ((x >>> 4) + x) &&& m
theorem shr_split (h b : Nat) (k q r : Nat) (hk : 2 ^ k = q) (hr : q * r = 256) (hq : 0 < q) : (256 * h + b) >>> k = 256 * (h >>> k) + (r * (h % q) + b / q) := by
  rw [Nat.shiftRight_eq_div_pow, Nat.shiftRight_eq_div_pow, hk]
  have h1 : 256 * h + b = q * (r * h) + b := by rw [← Nat.mul_assoc, hr]
  rw [h1, Nat.mul_add_div hq]
  have h2 : r * h = r * (q * (h / q) + h % q) := by rw [Nat.div_add_mod]
  rw [h2, Nat.mul_add, ← Nat.mul_assoc, Nat.mul_comm r q, hr, Nat.add_assoc]
theorem s1_low : ∀ b, b < 256 → ∀ t, t < 2 → ((128 * t + b / 2) &&& 85) = ((b / 2) &&& 85) := by decide +kernel
theorem s2_low : ∀ b, b < 256 → ∀ t, t < 4 → ((64 * t + b / 4) &&& 51) = ((b / 4) &&& 51) := by decide +kernel
def n1 (b : Nat) : Nat := ((b / 2) &&& 85) + (b &&& 85)
def n2 (b : Nat) : Nat := ((b / 4) &&& 51) + (b &&& 51)
def n3 (b : Nat) : Nat := ((b / 16) + b) &&& 15
theorem s1_split (h b c : Nat) (hb : b < 256) : ps1 (256 * c + 85) (256 * h + b) = 256 * ps1 c h + n1 b := by
  have h2 : 128 * (h % 2) + b / 2 < 256 := by omega
  unfold ps1 n1
  rw [shr_split h b 1 2 128 rfl rfl (by omega), and_split _ _ _ _ h2 (by omega), and_split _ _ _ _ hb (by omega), s1_low b hb _ (Nat.mod_lt _ (by omega)), Nat.mul_add]
  omega
theorem s2_split (h b c : Nat) (hb : b < 256) : ps2 (256 * c + 51) (256 * h + b) = 256 * ps2 c h + n2 b := by
  have h2 : 64 * (h % 4) + b / 4 < 256 := by omega
  unfold ps2 n2
  rw [shr_split h b 2 4 64 rfl rfl (by omega), and_split _ _ _ _ h2 (by omega), and_split _ _ _ _ hb (by omega), s2_low b hb _ (Nat.mod_lt _ (by omega)), Nat.mul_add]
  omega
theorem s3_low : ∀ b, b < 69 → ∀ t, t < 5 → ((16 * t + b / 16 + b) &&& 15) = n3 b := by decide +kernel
theorem s3_split (h b c : Nat) (hb : b < 69) (ht : h % 16 < 5) : ps3 (256 * c + 15) (256 * h + b) = 256 * ps3 c h + n3 b := by
  have h2 : 16 * (h % 16) + b / 16 + b < 256 := by omega
  unfold ps3
  have e : 256 * (h >>> 4) + (16 * (h % 16) + b / 16) + (256 * h + b) = 256 * (h >>> 4 + h) + (16 * (h % 16) + b / 16 + b) := by omega
  rw [shr_split h b 4 16 16 rfl rfl (by omega), e, and_split _ _ _ _ h2 (by omega), s3_low b hb _ ht]
def n12 (b : Nat) : Nat := n2 (n1 b)
def nn (b : Nat) : Nat := n3 (n12 b)
theorem n1_lt : ∀ b, b < 256 → n1 b < 256 := by decide +kernel
theorem n12_lt : ∀ b, b < 256 → n12 b < 69 := by decide +kernel
theorem n12_mod : ∀ b, b < 256 → n12 b % 16 < 5 := by decide +kernel
theorem nn_le : ∀ b, b < 256 → nn b ≤ 8 := by decide +kernel
theorem nn_zero : ∀ b, b < 256 → nn b = 0 → b = 0 := by decide +kernel
theorem nn_pos : ∀ b, b < 256 → b &&& 45 ≠ 0 → 1 ≤ nn b := by decide +kernel
theorem nn_one : ∀ b, b < 256 → b &&& 45 ≠ 0 → nn b = 1 → b = 1 ∨ b = 4 ∨ b = 8 ∨ b = 32 := by decide +kernel
/-- The table-free count of the bits of 64. -/
def pcN (x : Nat) : Nat :=
  let a3 := ps3 1085102592571150095 (ps2 3689348814741910323 (ps1 6148914691236517205 x))
  let a4 := (a3 + a3 >>> 8) % 18446744073709551616
  let a5 := (a4 + a4 >>> 16) % 18446744073709551616
  let a6 := (a5 + a5 >>> 32) % 18446744073709551616
  a6 &&& 127
theorem pc_two (h b : Nat) (hb : b < 256) (c1 c2 : Nat) : ps2 (256 * c2 + 51) (ps1 (256 * c1 + 85) (256 * h + b)) = 256 * ps2 c2 (ps1 c1 h) + n12 b := by
  rw [s1_split h b c1 hb, s2_split _ _ _ (n1_lt b hb)]
  rfl
theorem top1 (b : Nat) : ps1 85 b = n1 b := by unfold ps1 n1; rw [Nat.shiftRight_eq_div_pow]
theorem top2 (b : Nat) : ps2 51 b = n2 b := by unfold ps2 n2; rw [Nat.shiftRight_eq_div_pow]
theorem top3 (b : Nat) : ps3 15 b = n3 b := by unfold ps3 n3; rw [Nat.shiftRight_eq_div_pow]
theorem div16 (H a b : Nat) (ha : a < 256) (hb : b < 256) : (256 * (256 * H + a) + b) / 2 ^ 16 = H := by omega
theorem div32 (H a b c d : Nat) (ha : a < 256) (hb : b < 256) (hc : c < 256) (hd : d < 256) : (256 * (256 * (256 * (256 * H + a) + b) + c) + d) / 2 ^ 32 = H := by omega
theorem pcN_bytes (b0 b1 b2 b3 b4 b5 b6 b7 : Nat) (h0 : b0 < 256) (h1 : b1 < 256) (h2 : b2 < 256) (h3 : b3 < 256) (h4 : b4 < 256) (h5 : b5 < 256) (h6 : b6 < 256) (h7 : b7 < 256) :
    pcN (256 * (256 * (256 * (256 * (256 * (256 * (256 * b7 + b6) + b5) + b4) + b3) + b2) + b1) + b0) = nn b0 + nn b1 + nn b2 + nn b3 + nn b4 + nn b5 + nn b6 + nn b7 := by
  have e12 : ps2 3689348814741910323 (ps1 6148914691236517205 (256 * (256 * (256 * (256 * (256 * (256 * (256 * b7 + b6) + b5) + b4) + b3) + b2) + b1) + b0))
      = 256 * (256 * (256 * (256 * (256 * (256 * (256 * n12 b7 + n12 b6) + n12 b5) + n12 b4) + n12 b3) + n12 b2) + n12 b1) + n12 b0 := by
    have t7 : ps2 51 (ps1 85 b7) = n12 b7 := by rw [top1, top2]; rfl
    have t6 := pc_two b7 b6 h6 85 51
    have t5 := pc_two (256 * b7 + b6) b5 h5 (256 * 85 + 85) (256 * 51 + 51)
    have t4 := pc_two (256 * (256 * b7 + b6) + b5) b4 h4 (256 * (256 * 85 + 85) + 85) (256 * (256 * 51 + 51) + 51)
    have t3 := pc_two (256 * (256 * (256 * b7 + b6) + b5) + b4) b3 h3 (256 * (256 * (256 * 85 + 85) + 85) + 85) (256 * (256 * (256 * 51 + 51) + 51) + 51)
    have t2 := pc_two (256 * (256 * (256 * (256 * b7 + b6) + b5) + b4) + b3) b2 h2 (256 * (256 * (256 * (256 * 85 + 85) + 85) + 85) + 85) (256 * (256 * (256 * (256 * 51 + 51) + 51) + 51) + 51)
    have t1 := pc_two (256 * (256 * (256 * (256 * (256 * b7 + b6) + b5) + b4) + b3) + b2) b1 h1 (256 * (256 * (256 * (256 * (256 * 85 + 85) + 85) + 85) + 85) + 85) (256 * (256 * (256 * (256 * (256 * 51 + 51) + 51) + 51) + 51) + 51)
    have t0 := pc_two (256 * (256 * (256 * (256 * (256 * (256 * b7 + b6) + b5) + b4) + b3) + b2) + b1) b0 h0 (256 * (256 * (256 * (256 * (256 * (256 * 85 + 85) + 85) + 85) + 85) + 85) + 85) (256 * (256 * (256 * (256 * (256 * (256 * 51 + 51) + 51) + 51) + 51) + 51) + 51)
    rw [t7] at t6
    rw [t6] at t5
    rw [t5] at t4
    rw [t4] at t3
    rw [t3] at t2
    rw [t2] at t1
    rw [t1] at t0
    exact t0
  have e3 : ps3 1085102592571150095 (256 * (256 * (256 * (256 * (256 * (256 * (256 * n12 b7 + n12 b6) + n12 b5) + n12 b4) + n12 b3) + n12 b2) + n12 b1) + n12 b0)
      = 256 * (256 * (256 * (256 * (256 * (256 * (256 * nn b7 + nn b6) + nn b5) + nn b4) + nn b3) + nn b2) + nn b1) + nn b0 := by
    have k0 := n12_lt b0 h0
    have k1 := n12_lt b1 h1
    have k2 := n12_lt b2 h2
    have k3 := n12_lt b3 h3
    have k4 := n12_lt b4 h4
    have k5 := n12_lt b5 h5
    have k6 := n12_lt b6 h6
    have m1 := n12_mod b1 h1
    have m2 := n12_mod b2 h2
    have m3 := n12_mod b3 h3
    have m4 := n12_mod b4 h4
    have m5 := n12_mod b5 h5
    have m6 := n12_mod b6 h6
    have m7 := n12_mod b7 h7
    unfold nn
    have t7 : ps3 15 (n12 b7) = n3 (n12 b7) := top3 _
    generalize n12 b0 = c0 at *
    generalize n12 b1 = c1 at *
    generalize n12 b2 = c2 at *
    generalize n12 b3 = c3 at *
    generalize n12 b4 = c4 at *
    generalize n12 b5 = c5 at *
    generalize n12 b6 = c6 at *
    generalize n12 b7 = c7 at *
    have t6 := s3_split c7 c6 15 k6 m7
    have t5 := s3_split (256 * c7 + c6) c5 (256 * 15 + 15) k5 (by omega)
    have t4 := s3_split (256 * (256 * c7 + c6) + c5) c4 (256 * (256 * 15 + 15) + 15) k4 (by omega)
    have t3 := s3_split (256 * (256 * (256 * c7 + c6) + c5) + c4) c3 (256 * (256 * (256 * 15 + 15) + 15) + 15) k3 (by omega)
    have t2 := s3_split (256 * (256 * (256 * (256 * c7 + c6) + c5) + c4) + c3) c2 (256 * (256 * (256 * (256 * 15 + 15) + 15) + 15) + 15) k2 (by omega)
    have t1 := s3_split (256 * (256 * (256 * (256 * (256 * c7 + c6) + c5) + c4) + c3) + c2) c1 (256 * (256 * (256 * (256 * (256 * 15 + 15) + 15) + 15) + 15) + 15) k1 (by omega)
    have t0 := s3_split (256 * (256 * (256 * (256 * (256 * (256 * c7 + c6) + c5) + c4) + c3) + c2) + c1) c0 (256 * (256 * (256 * (256 * (256 * (256 * 15 + 15) + 15) + 15) + 15) + 15) + 15) k0 (by omega)
    rw [t7] at t6
    rw [t6] at t5
    rw [t5] at t4
    rw [t4] at t3
    rw [t3] at t2
    rw [t2] at t1
    rw [t1] at t0
    exact t0
  have a0 := nn_le b0 h0
  have a1 := nn_le b1 h1
  have a2 := nn_le b2 h2
  have a3 := nn_le b3 h3
  have a4 := nn_le b4 h4
  have a5 := nn_le b5 h5
  have a6 := nn_le b6 h6
  have a7 := nn_le b7 h7
  unfold pcN
  rw [e12, e3]
  clear e12 e3
  generalize nn b0 = p0 at *
  generalize nn b1 = p1 at *
  generalize nn b2 = p2 at *
  generalize nn b3 = p3 at *
  generalize nn b4 = p4 at *
  generalize nn b5 = p5 at *
  generalize nn b6 = p6 at *
  generalize nn b7 = p7 at *
  have e127 : ∀ n : Nat, n &&& 127 = n % 128 := fun n => Nat.and_two_pow_sub_one_eq_mod n 7
  simp only [Nat.shiftRight_eq_div_pow, e127]
  have f4 : ((256 * (256 * (256 * (256 * (256 * (256 * (256 * p7 + p6) + p5) + p4) + p3) + p2) + p1) + p0) + (256 * (256 * (256 * (256 * (256 * (256 * (256 * p7 + p6) + p5) + p4) + p3) + p2) + p1) + p0) / 2 ^ 8) % 18446744073709551616
      = 256 * (256 * (256 * (256 * (256 * (256 * (256 * p7 + (p6 + p7)) + (p5 + p6)) + (p4 + p5)) + (p3 + p4)) + (p2 + p3)) + (p1 + p2)) + (p0 + p1) := by omega
  rw [f4]
  clear f4
  rw [div16 (256 * (256 * (256 * (256 * (256 * p7 + (p6 + p7)) + (p5 + p6)) + (p4 + p5)) + (p3 + p4)) + (p2 + p3)) _ _ (by omega) (by omega)]
  have f5 : (256 * (256 * (256 * (256 * (256 * (256 * (256 * p7 + (p6 + p7)) + (p5 + p6)) + (p4 + p5)) + (p3 + p4)) + (p2 + p3)) + (p1 + p2)) + (p0 + p1) + (256 * (256 * (256 * (256 * (256 * p7 + (p6 + p7)) + (p5 + p6)) + (p4 + p5)) + (p3 + p4)) + (p2 + p3))) % 18446744073709551616
      = 256 * (256 * (256 * (256 * (256 * (256 * (256 * p7 + (p6 + p7)) + (p5 + p6 + p7)) + (p4 + p5 + p6 + p7)) + (p3 + p4 + p5 + p6)) + (p2 + p3 + p4 + p5)) + (p1 + p2 + p3 + p4)) + (p0 + p1 + p2 + p3) := by omega
  rw [f5]
  clear f5
  rw [div32 (256 * (256 * (256 * p7 + (p6 + p7)) + (p5 + p6 + p7)) + (p4 + p5 + p6 + p7)) _ _ _ _ (by omega) (by omega) (by omega) (by omega)]
  have f6 : (256 * (256 * (256 * (256 * (256 * (256 * (256 * p7 + (p6 + p7)) + (p5 + p6 + p7)) + (p4 + p5 + p6 + p7)) + (p3 + p4 + p5 + p6)) + (p2 + p3 + p4 + p5)) + (p1 + p2 + p3 + p4)) + (p0 + p1 + p2 + p3) + (256 * (256 * (256 * p7 + (p6 + p7)) + (p5 + p6 + p7)) + (p4 + p5 + p6 + p7))) % 18446744073709551616
      = 256 * (256 * (256 * (256 * (256 * (256 * (256 * p7 + (p6 + p7)) + (p5 + p6 + p7)) + (p4 + p5 + p6 + p7)) + (p3 + p4 + p5 + p6)) + (p2 + p3 + p4 + p5)) + (p1 + p2 + p3 + p4)) + (p0 + p1 + p2 + p3) + (256 * (256 * (256 * p7 + (p6 + p7)) + (p5 + p6 + p7)) + (p4 + p5 + p6 + p7)) := Nat.mod_eq_of_lt (by omega)
  rw [f6]
  clear f6
  omega
theorem pcN_one (x : Nat) (hx : x < 18446744073709551616) (h45 : x &&& 45 ≠ 0) (h : pcN x = 1) : x = 1 ∨ x = 4 ∨ x = 8 ∨ x = 32 := by
  have e : x = 256 * (256 * (256 * (256 * (256 * (256 * (256 * (x / 72057594037927936) + x / 281474976710656 % 256) + x / 1099511627776 % 256) + x / 4294967296 % 256) + x / 16777216 % 256) + x / 65536 % 256) + x / 256 % 256) + x % 256 := by omega
  have l : x % 256 &&& 45 ≠ 0 := by
    have e2 : x = 256 * (x / 256) + x % 256 := by omega
    rw [e2, show (45 : Nat) = 256 * 0 + 45 from rfl, and_split _ _ _ _ (by omega) (by omega), Nat.and_zero] at h45
    omega
  have g0 : x % 256 < 256 := by omega
  have g1 : x / 256 % 256 < 256 := by omega
  have g2 : x / 65536 % 256 < 256 := by omega
  have g3 : x / 16777216 % 256 < 256 := by omega
  have g4 : x / 4294967296 % 256 < 256 := by omega
  have g5 : x / 1099511627776 % 256 < 256 := by omega
  have g6 : x / 281474976710656 % 256 < 256 := by omega
  have g7 : x / 72057594037927936 < 256 := by omega
  rw [e, pcN_bytes _ _ _ _ _ _ _ _ g0 g1 g2 g3 g4 g5 g6 g7] at h
  have q0 := nn_pos _ g0 l
  have z1 := nn_zero _ g1 (by omega)
  have z2 := nn_zero _ g2 (by omega)
  have z3 := nn_zero _ g3 (by omega)
  have z4 := nn_zero _ g4 (by omega)
  have z5 := nn_zero _ g5 (by omega)
  have z6 := nn_zero _ g6 (by omega)
  have z7 := nn_zero _ g7 (by omega)
  have o := nn_one _ g0 l (by omega)
  omega

theorem ofInt_u64n (a : Nat) (ha : a < 18446744073709551616) : (BitVec.ofInt 64 (a : Int)).toNat = a := by
  rw [BitVec.toNat_ofInt]
  omega
theorem bits_and_natU (a b : Nat) (ha : a < 18446744073709551616) (hb : b < 18446744073709551616) : bits .and .u64 (a : Int) (b : Int) = ((a &&& b : Nat) : Int) := by
  show IntKind.u64.wrap ((BitVec.ofInt 64 (a : Int) &&& BitVec.ofInt 64 (b : Int)).toNat : Int) = _
  rw [BitVec.toNat_and, ofInt_u64n a (by omega), ofInt_u64n b (by omega)]
  have : a &&& b ≤ a := Nat.and_le_left
  show ((a &&& b : Nat) : Int) % 18446744073709551616 = _
  omega
theorem wrapU (a : Nat) (ha : a < 18446744073709551616) : IntKind.u64.wrap (a : Int) = (a : Int) := by
  show (a : Int) % 18446744073709551616 = _
  omega
set_option maxRecDepth 20000 in
set_option maxHeartbeats 1600000 in
theorem ones64_any (n : Nat) (hn : n < 18446744073709551616) (w : World) : Calls Tryd.prog 60 #[.int .u64 (n : Int)] w fun e w' => e = .returned (.int .i64 (pcN n : Nat)) ∧ w = w' := by
  obtain ⟨a1, ha1⟩ : ∃ a1, (n / 2) &&& 6148914691236517205 = a1 := ⟨_, rfl⟩
  obtain ⟨b1, hb1⟩ : ∃ b1, n &&& 6148914691236517205 = b1 := ⟨_, rfl⟩
  obtain ⟨x1, hx1⟩ : ∃ x1, a1 + b1 = x1 := ⟨_, rfl⟩
  obtain ⟨a2, ha2⟩ : ∃ a2, (x1 / 4) &&& 3689348814741910323 = a2 := ⟨_, rfl⟩
  obtain ⟨b2, hb2⟩ : ∃ b2, x1 &&& 3689348814741910323 = b2 := ⟨_, rfl⟩
  obtain ⟨x2, hx2⟩ : ∃ x2, a2 + b2 = x2 := ⟨_, rfl⟩
  obtain ⟨y3, hy3⟩ : ∃ y3, x2 / 16 + x2 = y3 := ⟨_, rfl⟩
  obtain ⟨x3, hx3⟩ : ∃ x3, y3 &&& 1085102592571150095 = x3 := ⟨_, rfl⟩
  obtain ⟨x4, hx4⟩ : ∃ x4, x3 + x3 / 256 = x4 := ⟨_, rfl⟩
  obtain ⟨x5, hx5⟩ : ∃ x5, x4 + x4 / 65536 = x5 := ⟨_, rfl⟩
  obtain ⟨x6, hx6⟩ : ∃ x6, x5 + x5 / 4294967296 = x6 := ⟨_, rfl⟩
  have l1 : a1 ≤ 6148914691236517205 := by rw [← ha1]; exact Nat.and_le_right
  have l2 : b1 ≤ 6148914691236517205 := by rw [← hb1]; exact Nat.and_le_right
  have l3 : a2 ≤ 3689348814741910323 := by rw [← ha2]; exact Nat.and_le_right
  have l4 : b2 ≤ 3689348814741910323 := by rw [← hb2]; exact Nat.and_le_right
  have l5 : x3 ≤ 1085102592571150095 := by rw [← hx3]; exact Nat.and_le_right
  have HP : Hid (pcN n = x6 &&& 127) := by
    show _ = _
    unfold pcN ps3 ps2 ps1
    simp only [Nat.shiftRight_eq_div_pow, Nat.reducePow]
    rw [ha1, hb1, hx1, ha2, hb2, hx2, hy3, hx3, hx4, Nat.mod_eq_of_lt (show x4 < 18446744073709551616 by omega), hx5, Nat.mod_eq_of_lt (show x5 < 18446744073709551616 by omega), hx6, Nat.mod_eq_of_lt (show x6 < 18446744073709551616 by omega)]
  have A1 : bits BinOp.and IntKind.u64 ((n : Int) / 2) 6148914691236517205 = (a1 : Int) := by rw [← ha1]; exact bits_and_natU (n / 2) 6148914691236517205 (by omega) (by omega)
  have B1 : bits BinOp.and IntKind.u64 (n : Int) 6148914691236517205 = (b1 : Int) := by rw [← hb1]; exact bits_and_natU n 6148914691236517205 (by omega) (by omega)
  have W1 : IntKind.u64.wrap ((a1 : Int) + (b1 : Int)) = (x1 : Int) := by rw [← hx1]; exact wrapU (a1 + b1) (by omega)
  have A2 : bits BinOp.and IntKind.u64 ((x1 : Int) / 4) 3689348814741910323 = (a2 : Int) := by rw [← ha2]; exact bits_and_natU (x1 / 4) 3689348814741910323 (by omega) (by omega)
  have B2 : bits BinOp.and IntKind.u64 (x1 : Int) 3689348814741910323 = (b2 : Int) := by rw [← hb2]; exact bits_and_natU x1 3689348814741910323 (by omega) (by omega)
  have W2 : IntKind.u64.wrap ((a2 : Int) + (b2 : Int)) = (x2 : Int) := by rw [← hx2]; exact wrapU (a2 + b2) (by omega)
  have W3 : IntKind.u64.wrap ((x2 : Int) / 16 + (x2 : Int)) = (y3 : Int) := by rw [← hy3]; exact wrapU (x2 / 16 + x2) (by omega)
  have B3 : bits BinOp.and IntKind.u64 (y3 : Int) 1085102592571150095 = (x3 : Int) := by rw [← hx3]; exact bits_and_natU y3 1085102592571150095 (by omega) (by omega)
  have W4 : IntKind.u64.wrap ((x3 : Int) + (x3 : Int) / 256) = (x4 : Int) := by rw [← hx4]; exact wrapU (x3 + x3 / 256) (by omega)
  have W5 : IntKind.u64.wrap ((x4 : Int) + (x4 : Int) / 65536) = (x5 : Int) := by rw [← hx5]; exact wrapU (x4 + x4 / 65536) (by omega)
  have W6 : IntKind.u64.wrap ((x5 : Int) + (x5 : Int) / 4294967296) = (x6 : Int) := by rw [← hx6]; exact wrapU (x5 + x5 / 4294967296) (by omega)
  have W7 : IntKind.i64.wrap (x6 : Int) = (x6 : Int) := IntWalk.i64_in _ (by omega)
  have B7 : bits BinOp.and IntKind.i64 (x6 : Int) 127 = ((x6 &&& 127 : Nat) : Int) := bits_and_nat x6 127 (by omega) (by omega)
  clear ha1 hb1 hx1 ha2 hb2 hx2 hy3 hx3 hx4 hx5 hx6
  go_enter Tryd.func60, Tryd.ntmps60
  go_wp2
  go_ret
  refine ⟨?_, rfl⟩
  rw [HP.out]
  first
    | rfl
    | (trace_state; sorry)
theorem ones_any (n : Nat) (hn : n < 18446744073709551616) (w : World) : Calls Tryd.prog 40 #[.int .u64 (n : Int)] w fun e w' => e = .returned (.int .i64 (pcN n : Nat)) ∧ w = w' := by
  have hin := fun W => ones64_any n hn W
  have hw : IntKind.u64.wrap (n : Int) = (n : Int) := wrapU n hn
  generalize pcN n = p at *
  go_enter Tryd.func40, Tryd.ntmps40
  go_wp2_with (go_at_call 60; refine (hin _).mono ?_; rintro e w' ⟨rfl, rfl⟩)
  go_ret
  exact ⟨rfl, rfl⟩
end Go.Proofs.YtbkdegjkjjdcdaaDoor
