/- Layer 15: append of a row of noughts. -/
import Derived.Test.YtpnjamomkpkkeaaEm5
namespace Go.Proofs.Ytpnjamomkpkkeaa
set_option linter.unusedVariables false
set_option linter.unusedSimpArgs false
open Go.RowKit

def zS (N : Nat) : ByteArray := ⟨(List.replicate N 0).toArray⟩
theorem zS_size (N : Nat) : (zS N).size = N := by simp [zS, ByteArray.size]
theorem run_appZ {P : Program} (w : World) (t tn u ty e : TypeId) (i : TypeInfo) (ht : P.underlying t = some (.slice e)) (htn : P.underlying tn = some (.int .i64)) (hu : P.underlying u = some .string) (hi : P.info? e = some i) (hz : i.zero = some (.int .u8 0)) (hsize : i.size = 1) (hby : i.bytes = 1)
    (base : Option Addr) (sl sc N : Nat) (h63 : sl + N ≤ 9223372036854775807) (h47 : sl + N ≤ 140737488355328) :
    (Builtin.append_ #[t, tn] ty #[.slice base sl sc, .int .i64 N]).run P w = (Builtin.append_ #[t, u] ty #[.slice base sl sc, .string (zS N)]).run P w := by
  have hw : IntKind.i64.wrap (N : Int) = N := by rw [IntKind.wrap_i64]; omega
  have hneg : ¬ ((N : Int) < 0) := by omega
  have h48 : ¬ (281474976710656 < (N : Int)) := by omega
  have hzz : Builtin.zeroCells (Value.int .u8 0).cells N = (List.replicate N (Value.int .u8 0)).toArray := by
    have hx : ∀ j : Nat, (#[Value.int .u8 0])[j % (#[Value.int .u8 0]).size]! = .int .u8 0 := fun j => by
      have : j % (#[Value.int .u8 0]).size = 0 := by show j % 1 = 0; omega
      rw [this]
      rfl
    show Builtin.zeroCells #[Value.int .u8 0] N = _
    unfold Builtin.zeroCells
    simp only [hx]
    apply Array.ext
    · simp
    · intro j h1 h2
      simp
  have hm : Array.map (fun b : UInt8 => Value.int .u8 (b.toNat : Int)) (zS N).data = (List.replicate N (Value.int .u8 0)).toArray := by simp [zS]
  have hm2 : List.map (fun b : UInt8 => Value.int .u8 (b.toNat : Int)) (zS N).data.toList = List.replicate N (Value.int .u8 0) := by simp [zS]
  by_cases hroom : sl + N ≤ sc
  · simp [Builtin.append_, run_underlying ht, run_underlying htn, run_underlying hu, sizeOf, typeInfo, zeroValue, hi, hz, hsize, hby, asInt, asIntOf, hw, hneg, h48, Builtin.lenOf, zS_size, hroom, Builtin.firstCells]
    by_cases hN : N = 0
    · subst hN
      simp [zS]
    · simp [hN, hzz, zS]
  · have hg := growslice_fits (need := sl + N) (old := sc) (bytes := 1) (by omega) (by omega)
    have hg' : ¬ (281474976710656 < Builtin.nextslicecap (sl + N) sc) := by omega
    have h63' : ¬ (9223372036854775807 < (sl : Int) + (N : Int)) := by omega
    simp [Builtin.append_, run_underlying ht, run_underlying htn, run_underlying hu, sizeOf, typeInfo, zeroValue, hi, hz, hsize, hby, asInt, asIntOf, hw, hneg, h48, Builtin.lenOf, zS_size, hroom, hg', h63', Builtin.firstCells]
    by_cases hN : N = 0
    · subst hN
      simp [zS]
    · simp [hN, hzz, zS]
end Go.Proofs.Ytpnjamomkpkkeaa
