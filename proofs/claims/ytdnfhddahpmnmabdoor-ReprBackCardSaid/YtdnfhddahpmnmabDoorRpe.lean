/- Layer 22: what bytes begin with, whole. -/
import Derived.Test.YtdnfhddahpmnmabDoorRp9
import Derived.Test.YtdnfhddahpmnmabDoorRpa
import Derived.Test.YtdnfhddahpmnmabDoorRpb
import Derived.Test.YtdnfhddahpmnmabDoorRpc
import Derived.Test.YtdnfhddahpmnmabDoorRpd
namespace Go.Proofs.YtdnfhddahpmnmabDoor
open Go.RowKit Go.PlainAid

theorem kd_rng (x : Int) : kd x = 1 ∨ kd x = 2 ∨ kd x = 3 ∨ kd x = 4 ∨ kd x = 5 := by
  unfold kd
  (repeat' split) <;> simp
theorem gt_snd {f : Nat → Int} {n : Nat} : ∀ fu k acc, 0 ≤ (gt f n fu k acc).2.1
  | 0, k, acc => by simp [gt]
  | fu + 1, k, acc => by
    by_cases h1 : n ≤ k
    · rw [gt_short h1]
      exact Int.le_refl _
    · by_cases h2 : f k < 128
      · by_cases h3 : 2147483647 < acc + f k % 128 * un k
        · rw [gt_range (by omega) h2 h3]
          exact Int.le_refl _
        · rw [gt_ok (by omega) h2 h3]
          show (0 : Int) ≤ (k : Int) + 1
          omega
      · rw [gt_more (by omega) h2]
        exact gt_snd fu (k + 1) _
theorem pg_snd (f : Nat → Int) (n : Nat) (b : Int) : 0 ≤ (pg f n b).2.1 := by
  unfold pg
  split
  · exact Int.le_refl _
  · split
    · exact Int.le_refl _
    · split
      · show (0 : Int) ≤ 1
        omega
      · exact gt_snd _ _ _
theorem pg_bdB {f : Nat → Int} {n : Nat} {b : Int} (hb : b = 4 ∨ b = 5 ∨ b = 6 ∨ b = 7) (h : (pg f n b).2.2 = 0) : 0 < n ∧ 0 ≤ (pg f n b).1 ∧ (pg f n b).1 ≤ 2147483647 ∧ 1 ≤ (pg f n b).2.1 ∧ (pg f n b).2.1 ≤ n := by
  have e : 16 ≤ p8 b ∧ p8 b ≤ 128 := by
    rcases hb with rfl | rfl | rfl | rfl <;> decide
  have hm := Int.emod_nonneg (f 0) (show p8 b ≠ 0 by omega)
  have hm2 := Int.emod_lt_of_pos (f 0) (show 0 < p8 b by omega)
  unfold pg at h ⊢
  rw [if_neg (by omega)] at h ⊢
  by_cases h0 : n = 0
  · rw [if_pos h0] at h
    simp at h
  · rw [if_neg h0] at h ⊢
    by_cases h1 : f 0 % p8 b < p8 b - 1
    · rw [if_pos h1]
      exact ⟨by omega, by show 0 ≤ f 0 % p8 b; omega, by show f 0 % p8 b ≤ 2147483647; omega, by show (1 : Int) ≤ 1; omega, by show (1 : Int) ≤ n; omega⟩
    · rw [if_neg h1] at h ⊢
      exact ⟨by omega, gt_bd 5 1 _ (by omega) (by omega) h⟩
theorem bit_rng (x : Int) : bit22 (kd x) = 4 ∨ bit22 (kd x) = 5 ∨ bit22 (kd x) = 6 ∨ bit22 (kd x) = 7 := by
  rcases kd_rng x with h | h | h | h | h <;> rw [h] <;> decide
theorem GtR.same {f : Nat → Int} {n : Nat} {k i z m er k' i' z' m' er' : Int} {ns vs ns' vs' : ByteArray} {a b a' b' : Bool} (h : GtR f n k i ns a vs b z m er) (h' : GtR f n k' i' ns' a' vs' b' z' m' er') :
    k = k' ∧ i = i' ∧ ns = ns' ∧ a = a' ∧ vs = vs' ∧ b = b' ∧ z = z' ∧ m = m' ∧ er = er' := by
  rcases h with ⟨h0, hz, rfl⟩ | ⟨h0, N, t, d, hp, h⟩ <;> rcases h' with ⟨h0', hz', rfl⟩ | ⟨h0', N', t', d', hp', h'⟩
  · obtain ⟨rfl, rfl, rfl, rfl, rfl, rfl, rfl, rfl⟩ := hz
    obtain ⟨rfl, rfl, rfl, rfl, rfl, rfl, rfl, rfl⟩ := hz'
    exact ⟨rfl, rfl, rfl, rfl, rfl, rfl, rfl, rfl, rfl⟩
  · omega
  · omega
  · rw [hp] at hp'
    injection hp' with e1 e2
    injection e2 with e2 e3
    subst e1 e3
    obtain rfl : t = t' := by omega
    clear hp
    generalize kd (f 0) = K at *
    rcases h with ⟨q1, hz, rfl⟩ | ⟨q1, q2, q3, hz, rfl⟩ | ⟨q1, q2, q3, rfl, rfl, rfl, rfl, rfl, rfl, rfl, rfl, rfl⟩ | ⟨q1, q2, rfl, rfl, rfl, rfl, rfl, rfl, rfl, rfl, rfl⟩ | ⟨q1, q2, q3, q4, s, sh, q, e1, hS, h⟩ | ⟨q1, q2, q3, q4, s, sh, q, e1, hS, h⟩ <;>
    rcases h' with ⟨p1, hz', rfl⟩ | ⟨p1, p2, p3, hz', rfl⟩ | ⟨p1, p2, p3, rfl, rfl, rfl, rfl, rfl, rfl, rfl, rfl, rfl⟩ | ⟨p1, p2, rfl, rfl, rfl, rfl, rfl, rfl, rfl, rfl, rfl⟩ | ⟨p1, p2, p3, p4, s', sh', q', e1', hS', h'⟩ | ⟨p1, p2, p3, p4, s', sh', q', e1', hS', h'⟩ <;>
    first
      | (exfalso; omega)
      | (obtain ⟨rfl, rfl, rfl, rfl, rfl, rfl, rfl, rfl⟩ := hz; obtain ⟨rfl, rfl, rfl, rfl, rfl, rfl, rfl, rfl⟩ := hz'; exact ⟨rfl, rfl, rfl, rfl, rfl, rfl, rfl, rfl, rfl⟩)
      | exact ⟨rfl, rfl, rfl, rfl, rfl, rfl, rfl, rfl, rfl⟩
      | skip
    · obtain ⟨rfl, rfl, rfl, rfl⟩ := hS.same hS'
      rcases h with ⟨y1, hz, rfl⟩ | ⟨y1, rfl, rfl, rfl, rfl, rfl, rfl, rfl, rfl, rfl⟩ <;> rcases h' with ⟨x1, hz', rfl⟩ | ⟨x1, rfl, rfl, rfl, rfl, rfl, rfl, rfl, rfl, rfl⟩ <;>
      first
        | (exfalso; omega)
        | (obtain ⟨rfl, rfl, rfl, rfl, rfl, rfl, rfl, rfl⟩ := hz; obtain ⟨rfl, rfl, rfl, rfl, rfl, rfl, rfl, rfl⟩ := hz'; exact ⟨rfl, rfl, rfl, rfl, rfl, rfl, rfl, rfl, rfl⟩)
        | exact ⟨rfl, rfl, rfl, rfl, rfl, rfl, rfl, rfl, rfl⟩
    · obtain ⟨rfl, rfl, rfl, rfl⟩ := hS.same hS'
      rcases h with ⟨y1, hz, rfl⟩ | ⟨y1, s2, sh2, q2, e2, hS2, h⟩ <;> rcases h' with ⟨x1, hz', rfl⟩ | ⟨x1, s2', sh2', q2', e2', hS2', h'⟩ <;>
      first
        | (exfalso; omega)
        | (obtain ⟨rfl, rfl, rfl, rfl, rfl, rfl, rfl, rfl⟩ := hz; obtain ⟨rfl, rfl, rfl, rfl, rfl, rfl, rfl, rfl⟩ := hz'; exact ⟨rfl, rfl, rfl, rfl, rfl, rfl, rfl, rfl, rfl⟩)
        | skip
      obtain ⟨rfl, rfl, rfl, rfl⟩ := hS2.same hS2'
      rcases h with ⟨y2, hz, rfl⟩ | ⟨y2, rfl, rfl, rfl, rfl, rfl, rfl, rfl, rfl, rfl⟩ <;> rcases h' with ⟨x2, hz', rfl⟩ | ⟨x2, rfl, rfl, rfl, rfl, rfl, rfl, rfl, rfl, rfl⟩ <;>
      first
        | (exfalso; omega)
        | (obtain ⟨rfl, rfl, rfl, rfl, rfl, rfl, rfl, rfl⟩ := hz; obtain ⟨rfl, rfl, rfl, rfl, rfl, rfl, rfl, rfl⟩ := hz'; exact ⟨rfl, rfl, rfl, rfl, rfl, rfl, rfl, rfl, rfl⟩)
        | exact ⟨rfl, rfl, rfl, rfl, rfl, rfl, rfl, rfl, rfl⟩
def GGot (f : Nat → Int) (n : Nat) (w : World) (e : Ending) (w' : World) : Prop :=
  ∃ k i ns a vs b z m er, e = .returned (.tuple #[.agg #[.int .i64 k, .int .i64 i, .string ns, .bool a, .string vs, .bool b, .int .i64 z], .int .i64 m, .int .i64 er]) ∧ GtR f n k i ns a vs b z m er ∧ Below w.heap.size w w'
theorem zeroR.mk : zeroR 0 0 ⟨#[]⟩ false ⟨#[]⟩ false 0 0 := ⟨rfl, rfl, rfl, rfl, rfl, rfl, rfl, rfl⟩
theorem get22 (A : Option Addr) (n c : Nat) (f : Nat → Int) (w : World) (ha : Rd .u8 w A n c f) (hb : Byt n f) (hn : n ≤ 5000) (T : TypeId) (fr : Nat × Nat) (hg : w.heap[0]? = some (.cells formsV T fr)) : Calls Tryd.prog 19 #[.slice A n c] w (GGot f n w) := by
  rcases Nat.eq_zero_or_pos n with rfl | h0
  · exact (get_none c A w).mono fun e w' ⟨h1, h2⟩ => ⟨_, _, _, _, _, _, _, _, _, h1, .inl ⟨rfl, zeroR.mk, rfl⟩, h2⟩
  have hsn := pg_snd f n (bit22 (kd (f 0)))
  obtain ⟨N, t0, d, hp⟩ : ∃ N t d, pg f n (bit22 (kd (f 0))) = (N, t, d) := ⟨_, _, _, rfl⟩
  rw [hp] at hsn
  obtain ⟨t, rfl⟩ := Int.eq_ofNat_of_zero_le hsn
  have hkr := kd_rng (f 0)
  by_cases hd : d = 0
  case neg =>
    rcases hkr with hk | hk | hk | hk | hk
    · exact (get_perr1 A n c f t N d w ha hb h0 hn hk (by rw [hk] at hp; exact hp) hd T fr hg).mono fun e w' ⟨h1, h2⟩ => ⟨_, _, _, _, _, _, _, _, _, h1, .inr ⟨h0, N, t, d, hp, .inl ⟨hd, zeroR.mk, rfl⟩⟩, h2⟩
    · exact (get_perr2 A n c f t N d w ha hb h0 hn hk (by rw [hk] at hp; exact hp) hd T fr hg).mono fun e w' ⟨h1, h2⟩ => ⟨_, _, _, _, _, _, _, _, _, h1, .inr ⟨h0, N, t, d, hp, .inl ⟨hd, zeroR.mk, rfl⟩⟩, h2⟩
    · exact (get_perr3 A n c f t N d w ha hb h0 hn hk (by rw [hk] at hp; exact hp) hd T fr hg).mono fun e w' ⟨h1, h2⟩ => ⟨_, _, _, _, _, _, _, _, _, h1, .inr ⟨h0, N, t, d, hp, .inl ⟨hd, zeroR.mk, rfl⟩⟩, h2⟩
    · exact (get_perr4 A n c f t N d w ha hb h0 hn hk (by rw [hk] at hp; exact hp) hd T fr hg).mono fun e w' ⟨h1, h2⟩ => ⟨_, _, _, _, _, _, _, _, _, h1, .inr ⟨h0, N, t, d, hp, .inl ⟨hd, zeroR.mk, rfl⟩⟩, h2⟩
    · exact (get_perr5 A n c f t N d w ha hb h0 hn hk (by rw [hk] at hp; exact hp) hd T fr hg).mono fun e w' ⟨h1, h2⟩ => ⟨_, _, _, _, _, _, _, _, _, h1, .inr ⟨h0, N, t, d, hp, .inl ⟨hd, zeroR.mk, rfl⟩⟩, h2⟩
  subst hd
  have hbd := pg_bdB (bit_rng (f 0)) (show (pg f n (bit22 (kd (f 0)))).2.2 = 0 by rw [hp])
  rw [hp] at hbd
  have htn : t ≤ n := by
    have := hbd.2.2.2.2
    simp only at this
    omega
  clear hsn hbd
  by_cases hk : kd (f 0) = 1
  · by_cases hN : N = 0
    · subst hN
      exact (get_idx0 A n c f t w ha hb h0 hn hk (by rw [hk] at hp; exact hp) T fr hg).mono fun e w' ⟨h1, h2⟩ => ⟨_, _, _, _, _, _, _, _, _, h1, .inr ⟨h0, 0, t, 0, hp, .inr (.inl ⟨rfl, hk, rfl, zeroR.mk, rfl⟩)⟩, h2⟩
    · exact (get_idx A n c f t N w ha hb h0 hn hk (by rw [hk] at hp; exact hp) hN T fr hg).mono fun e w' ⟨h1, h2⟩ => ⟨_, _, _, _, _, _, _, _, _, h1, .inr ⟨h0, N, t, 0, hp, .inr (.inr (.inl ⟨rfl, hk, hN, rfl, rfl, rfl, rfl, rfl, rfl, rfl, rfl, rfl⟩))⟩, h2⟩
  have hk1 := hk
  clear hk
  by_cases hk : kd (f 0) = 5
  · exact (get_size A n c f t N w ha hb h0 hn hk (by rw [hk] at hp; exact hp) T fr hg).mono fun e w' ⟨h1, h2⟩ => ⟨_, _, _, _, _, _, _, _, _, h1, .inr ⟨h0, N, t, 0, hp, .inr (.inr (.inr (.inl ⟨rfl, hk, rfl, rfl, rfl, rfl, rfl, rfl, rfl, rfl, rfl⟩)))⟩, h2⟩
  have hk5 := hk
  clear hk
  have hk234 : kd (f 0) = 2 ∨ kd (f 0) = 3 ∨ kd (f 0) = 4 := by omega
  by_cases hN : N = 0
  · subst hN
    rcases hk234 with hk | hk | hk
    · exact (get_nv2 A n c f t w ha hb h0 hn hk (by rw [hk] at hp; exact hp) htn T fr hg).mono fun e w' ⟨s, sh, q, e1, hS, hh⟩ => by
        rcases hh with ⟨y1, h1, h2⟩ | ⟨rfl, s2, sh2, q2, e2, hS2, hh⟩
        · exact ⟨_, _, _, _, _, _, _, _, _, h1, .inr ⟨h0, 0, t, 0, hp, .inr (.inr (.inr (.inr (.inr ⟨rfl, hk1, hk5, rfl, s, sh, q, e1, hS, .inl ⟨y1, zeroR.mk, rfl⟩⟩))))⟩, h2⟩
        · rcases hh with ⟨y2, h1, h2⟩ | ⟨rfl, h1, h2⟩
          · exact ⟨_, _, _, _, _, _, _, _, _, h1, .inr ⟨h0, 0, t, 0, hp, .inr (.inr (.inr (.inr (.inr ⟨rfl, hk1, hk5, rfl, s, sh, q, 0, hS, .inr ⟨rfl, s2, sh2, q2, e2, hS2, .inl ⟨y2, zeroR.mk, rfl⟩⟩⟩))))⟩, h2⟩
          · exact ⟨_, _, _, _, _, _, _, _, _, h1, .inr ⟨h0, 0, t, 0, hp, .inr (.inr (.inr (.inr (.inr ⟨rfl, hk1, hk5, rfl, s, sh, q, 0, hS, .inr ⟨rfl, s2, sh2, q2, 0, hS2, .inr ⟨rfl, hk.symm, rfl, rfl, rfl, rfl, rfl, rfl, rfl, rfl⟩⟩⟩))))⟩, h2⟩
    · exact (get_nv3 A n c f t w ha hb h0 hn hk (by rw [hk] at hp; exact hp) htn T fr hg).mono fun e w' ⟨s, sh, q, e1, hS, hh⟩ => by
        rcases hh with ⟨y1, h1, h2⟩ | ⟨rfl, s2, sh2, q2, e2, hS2, hh⟩
        · exact ⟨_, _, _, _, _, _, _, _, _, h1, .inr ⟨h0, 0, t, 0, hp, .inr (.inr (.inr (.inr (.inr ⟨rfl, hk1, hk5, rfl, s, sh, q, e1, hS, .inl ⟨y1, zeroR.mk, rfl⟩⟩))))⟩, h2⟩
        · rcases hh with ⟨y2, h1, h2⟩ | ⟨rfl, h1, h2⟩
          · exact ⟨_, _, _, _, _, _, _, _, _, h1, .inr ⟨h0, 0, t, 0, hp, .inr (.inr (.inr (.inr (.inr ⟨rfl, hk1, hk5, rfl, s, sh, q, 0, hS, .inr ⟨rfl, s2, sh2, q2, e2, hS2, .inl ⟨y2, zeroR.mk, rfl⟩⟩⟩))))⟩, h2⟩
          · exact ⟨_, _, _, _, _, _, _, _, _, h1, .inr ⟨h0, 0, t, 0, hp, .inr (.inr (.inr (.inr (.inr ⟨rfl, hk1, hk5, rfl, s, sh, q, 0, hS, .inr ⟨rfl, s2, sh2, q2, 0, hS2, .inr ⟨rfl, hk.symm, rfl, rfl, rfl, rfl, rfl, rfl, rfl, rfl⟩⟩⟩))))⟩, h2⟩
    · exact (get_nv4 A n c f t w ha hb h0 hn hk (by rw [hk] at hp; exact hp) htn T fr hg).mono fun e w' ⟨s, sh, q, e1, hS, hh⟩ => by
        rcases hh with ⟨y1, h1, h2⟩ | ⟨rfl, s2, sh2, q2, e2, hS2, hh⟩
        · exact ⟨_, _, _, _, _, _, _, _, _, h1, .inr ⟨h0, 0, t, 0, hp, .inr (.inr (.inr (.inr (.inr ⟨rfl, hk1, hk5, rfl, s, sh, q, e1, hS, .inl ⟨y1, zeroR.mk, rfl⟩⟩))))⟩, h2⟩
        · rcases hh with ⟨y2, h1, h2⟩ | ⟨rfl, h1, h2⟩
          · exact ⟨_, _, _, _, _, _, _, _, _, h1, .inr ⟨h0, 0, t, 0, hp, .inr (.inr (.inr (.inr (.inr ⟨rfl, hk1, hk5, rfl, s, sh, q, 0, hS, .inr ⟨rfl, s2, sh2, q2, e2, hS2, .inl ⟨y2, zeroR.mk, rfl⟩⟩⟩))))⟩, h2⟩
          · exact ⟨_, _, _, _, _, _, _, _, _, h1, .inr ⟨h0, 0, t, 0, hp, .inr (.inr (.inr (.inr (.inr ⟨rfl, hk1, hk5, rfl, s, sh, q, 0, hS, .inr ⟨rfl, s2, sh2, q2, 0, hS2, .inr ⟨rfl, hk.symm, rfl, rfl, rfl, rfl, rfl, rfl, rfl, rfl⟩⟩⟩))))⟩, h2⟩
  · rcases hk234 with hk | hk | hk
    · exact (get_v2 A n c f t N w ha hb h0 hn hk (by rw [hk] at hp; exact hp) hN htn T fr hg).mono fun e w' ⟨s, sh, q, e1, hS, hh⟩ => by
        rcases hh with ⟨y1, h1, h2⟩ | ⟨rfl, h1, h2⟩
        · exact ⟨_, _, _, _, _, _, _, _, _, h1, .inr ⟨h0, N, t, 0, hp, .inr (.inr (.inr (.inr (.inl ⟨rfl, hk1, hk5, hN, s, sh, q, e1, hS, .inl ⟨y1, zeroR.mk, rfl⟩⟩))))⟩, h2⟩
        · exact ⟨_, _, _, _, _, _, _, _, _, h1, .inr ⟨h0, N, t, 0, hp, .inr (.inr (.inr (.inr (.inl ⟨rfl, hk1, hk5, hN, s, sh, q, 0, hS, .inr ⟨rfl, hk.symm, rfl, rfl, rfl, rfl, rfl, rfl, rfl, rfl⟩⟩))))⟩, h2⟩
    · exact (get_v3 A n c f t N w ha hb h0 hn hk (by rw [hk] at hp; exact hp) hN htn T fr hg).mono fun e w' ⟨s, sh, q, e1, hS, hh⟩ => by
        rcases hh with ⟨y1, h1, h2⟩ | ⟨rfl, h1, h2⟩
        · exact ⟨_, _, _, _, _, _, _, _, _, h1, .inr ⟨h0, N, t, 0, hp, .inr (.inr (.inr (.inr (.inl ⟨rfl, hk1, hk5, hN, s, sh, q, e1, hS, .inl ⟨y1, zeroR.mk, rfl⟩⟩))))⟩, h2⟩
        · exact ⟨_, _, _, _, _, _, _, _, _, h1, .inr ⟨h0, N, t, 0, hp, .inr (.inr (.inr (.inr (.inl ⟨rfl, hk1, hk5, hN, s, sh, q, 0, hS, .inr ⟨rfl, hk.symm, rfl, rfl, rfl, rfl, rfl, rfl, rfl, rfl⟩⟩))))⟩, h2⟩
    · exact (get_v4 A n c f t N w ha hb h0 hn hk (by rw [hk] at hp; exact hp) hN htn T fr hg).mono fun e w' ⟨s, sh, q, e1, hS, hh⟩ => by
        rcases hh with ⟨y1, h1, h2⟩ | ⟨rfl, h1, h2⟩
        · exact ⟨_, _, _, _, _, _, _, _, _, h1, .inr ⟨h0, N, t, 0, hp, .inr (.inr (.inr (.inr (.inl ⟨rfl, hk1, hk5, hN, s, sh, q, e1, hS, .inl ⟨y1, zeroR.mk, rfl⟩⟩))))⟩, h2⟩
        · exact ⟨_, _, _, _, _, _, _, _, _, h1, .inr ⟨h0, N, t, 0, hp, .inr (.inr (.inr (.inr (.inl ⟨rfl, hk1, hk5, hN, s, sh, q, 0, hS, .inr ⟨rfl, hk.symm, rfl, rfl, rfl, rfl, rfl, rfl, rfl, rfl⟩⟩))))⟩, h2⟩
theorem rget22 (A : Option Addr) (n c : Nat) (f : Nat → Int) (w : World) (ha : Rd .u8 w A n c f) (hb : Byt n f) (hn : n ≤ 1000) : Calls Tryd.prog 20 #[.slice A n c] w (GGot f n w) := by
  rcases Nat.eq_zero_or_pos n with rfl | h0
  · exact (rget_none c A w).mono fun e w' ⟨h1, h2⟩ => ⟨_, _, _, _, _, _, _, _, _, h1, .inl ⟨rfl, zeroR.mk, rfl⟩, h2⟩
  have hsn := pg_snd f n (bit22 (kd (f 0)))
  obtain ⟨N, t0, d, hp⟩ : ∃ N t d, pg f n (bit22 (kd (f 0))) = (N, t, d) := ⟨_, _, _, rfl⟩
  rw [hp] at hsn
  obtain ⟨t, rfl⟩ := Int.eq_ofNat_of_zero_le hsn
  have hkr := kd_rng (f 0)
  by_cases hd : d = 0
  case neg =>
    exact (rget_perr A n c f t N d (kd (f 0)) hkr w ha hb h0 hn rfl hp hd).mono fun e w' ⟨h1, h2⟩ => ⟨_, _, _, _, _, _, _, _, _, h1, .inr ⟨h0, N, t, d, hp, .inl ⟨hd, zeroR.mk, rfl⟩⟩, h2⟩
  subst hd
  have hbd := pg_bdB (bit_rng (f 0)) (show (pg f n (bit22 (kd (f 0)))).2.2 = 0 by rw [hp])
  rw [hp] at hbd
  have htn : t ≤ n := by
    have := hbd.2.2.2.2
    simp only at this
    omega
  clear hsn hbd
  by_cases hk : kd (f 0) = 1
  · by_cases hN : N = 0
    · subst hN
      exact (rget_idx0 A n c f t w ha hb h0 hn hk (by rw [hk] at hp; exact hp)).mono fun e w' ⟨h1, h2⟩ => ⟨_, _, _, _, _, _, _, _, _, h1, .inr ⟨h0, 0, t, 0, hp, .inr (.inl ⟨rfl, hk, rfl, zeroR.mk, rfl⟩)⟩, h2⟩
    · exact (rget_idx A n c f t N w ha hb h0 hn hk (by rw [hk] at hp; exact hp) hN).mono fun e w' ⟨h1, h2⟩ => ⟨_, _, _, _, _, _, _, _, _, h1, .inr ⟨h0, N, t, 0, hp, .inr (.inr (.inl ⟨rfl, hk, hN, rfl, rfl, rfl, rfl, rfl, rfl, rfl, rfl, rfl⟩))⟩, h2⟩
  have hk1 := hk
  clear hk
  by_cases hk : kd (f 0) = 5
  · exact (rget_size A n c f t N w ha hb h0 hn hk (by rw [hk] at hp; exact hp)).mono fun e w' ⟨h1, h2⟩ => ⟨_, _, _, _, _, _, _, _, _, h1, .inr ⟨h0, N, t, 0, hp, .inr (.inr (.inr (.inl ⟨rfl, hk, rfl, rfl, rfl, rfl, rfl, rfl, rfl, rfl, rfl⟩)))⟩, h2⟩
  have hk5 := hk
  clear hk
  have hk234 : kd (f 0) = 2 ∨ kd (f 0) = 3 ∨ kd (f 0) = 4 := by omega
  by_cases hN : N = 0
  · subst hN
    exact (rget_nv A n c f t (kd (f 0)) hk234 w ha hb h0 hn rfl hp htn).mono fun e w' ⟨s, sh, q, e1, hS, hh⟩ => by
        rcases hh with ⟨y1, h1, h2⟩ | ⟨rfl, s2, sh2, q2, e2, hS2, hh⟩
        · exact ⟨_, _, _, _, _, _, _, _, _, h1, .inr ⟨h0, 0, t, 0, hp, .inr (.inr (.inr (.inr (.inr ⟨rfl, hk1, hk5, rfl, s, sh, q, e1, hS, .inl ⟨y1, zeroR.mk, rfl⟩⟩))))⟩, h2⟩
        · rcases hh with ⟨y2, h1, h2⟩ | ⟨rfl, h1, h2⟩
          · exact ⟨_, _, _, _, _, _, _, _, _, h1, .inr ⟨h0, 0, t, 0, hp, .inr (.inr (.inr (.inr (.inr ⟨rfl, hk1, hk5, rfl, s, sh, q, 0, hS, .inr ⟨rfl, s2, sh2, q2, e2, hS2, .inl ⟨y2, zeroR.mk, rfl⟩⟩⟩))))⟩, h2⟩
          · exact ⟨_, _, _, _, _, _, _, _, _, h1, .inr ⟨h0, 0, t, 0, hp, .inr (.inr (.inr (.inr (.inr ⟨rfl, hk1, hk5, rfl, s, sh, q, 0, hS, .inr ⟨rfl, s2, sh2, q2, 0, hS2, .inr ⟨rfl, rfl, rfl, rfl, rfl, rfl, rfl, rfl, rfl, rfl⟩⟩⟩))))⟩, h2⟩
  · exact (rget_v A n c f t N (kd (f 0)) hk234 w ha hb h0 hn rfl hp hN htn).mono fun e w' ⟨s, sh, q, e1, hS, hh⟩ => by
        rcases hh with ⟨y1, h1, h2⟩ | ⟨rfl, h1, h2⟩
        · exact ⟨_, _, _, _, _, _, _, _, _, h1, .inr ⟨h0, N, t, 0, hp, .inr (.inr (.inr (.inr (.inl ⟨rfl, hk1, hk5, hN, s, sh, q, e1, hS, .inl ⟨y1, zeroR.mk, rfl⟩⟩))))⟩, h2⟩
        · exact ⟨_, _, _, _, _, _, _, _, _, h1, .inr ⟨h0, N, t, 0, hp, .inr (.inr (.inr (.inr (.inl ⟨rfl, hk1, hk5, hN, s, sh, q, 0, hS, .inr ⟨rfl, rfl, rfl, rfl, rfl, rfl, rfl, rfl, rfl, rfl⟩⟩))))⟩, h2⟩
end Go.Proofs.YtdnfhddahpmnmabDoor
