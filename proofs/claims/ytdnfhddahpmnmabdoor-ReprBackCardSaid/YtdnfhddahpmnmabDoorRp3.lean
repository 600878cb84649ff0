/- Layer 22: the bytes of one that is right: the words. -/
import Derived.Test.YtdnfhddahpmnmabDoorRp2
import Derived.Deep.Cut
namespace Go.Proofs.YtdnfhddahpmnmabDoor
open Go.RowKit Go.PlainAid

def formsV : Array Value := #[.int .i64 0, .int .i64 0, .int .i64 128, .int .i64 7, .int .i64 64, .int .i64 6, .int .i64 0, .int .i64 4, .int .i64 16, .int .i64 4, .int .i64 32, .int .i64 5]
theorem forms_at {w : World} {g : Nat} {T : TypeId} {fr : Nat × Nat} (h : w.heap[g]? = some (.cells formsV T fr)) (j : Nat) (v : Value) (hv : formsV[j]? = some v) : w.cell? ⟨g, j, none⟩ = some v := by
  simp only [World.cell?, h]
  simpa using hv
theorem row7 {w : World} {b : Nat} {T : TypeId} {v0 v1 v2 v3 v4 v5 v6 : Value} (h : w.heap[b]? = some (.cells #[v0, v1, v2, v3, v4, v5, v6] T (0, 0))) : w.cell? ⟨b, 0, none⟩ = some v0 ∧ w.cell? ⟨b, 1, none⟩ = some v1 ∧ w.cell? ⟨b, 2, none⟩ = some v2 ∧ w.cell? ⟨b, 3, none⟩ = some v3 ∧ w.cell? ⟨b, 4, none⟩ = some v4 ∧ w.cell? ⟨b, 5, none⟩ = some v5 ∧ w.cell? ⟨b, 6, none⟩ = some v6 := by
  refine ⟨?_, ?_, ?_, ?_, ?_, ?_, ?_⟩ <;> simp [World.cell?, h]
theorem slN_le (s : ByteArray) (sh : Bool) (hs : s.size ≤ 1000) : slN s sh ≤ 4006 := by
  have h1 := txN_le s sh
  have h2 := pfN_bd 7 (txN s sh : Int)
  show pfN 7 (txN s sh : Nat) + txN s sh ≤ 4006
  omega
theorem noT_e : noT ⟨#[]⟩ false = true := by kernel_rfl
def fst22 (k : Int) : Int := if k = 1 then 128 else if k = 2 then 64 else if k = 5 then 32 else if k = 4 then 16 else 0
def bit22 (k : Int) : Int := if k = 1 then 7 else if k = 2 then 6 else if k = 5 then 5 else 4
/-- How many bytes, and which. -/
def rpN (k i : Int) (ns : ByteArray) (a : Bool) (vs : ByteArray) (b : Bool) (z : Int) : Nat :=
  if k = 1 then pfN (bit22 k) i else if k = 5 then pfN (bit22 k) z else if i = 0 then pfN (bit22 k) 0 + slN ns a + slN vs b else pfN (bit22 k) i + slN vs b
def rpF (k i : Int) (ns : ByteArray) (a : Bool) (vs : ByteArray) (b : Bool) (z : Int) : Nat → Int :=
  if k = 1 then pfF (fst22 k) (bit22 k) i else if k = 5 then pfF (fst22 k) (bit22 k) z
  else if i = 0 then catF (pfN (bit22 k) 0 + slN ns a) (catF (pfN (bit22 k) 0) (pfF (fst22 k) (bit22 k) 0) (slF ns a)) (slF vs b)
  else catF (pfN (bit22 k) i) (pfF (fst22 k) (bit22 k) i) (slF vs b)
def PutG (N : Nat) (F : Nat → Int) (w : World) (e : Ending) (w' : World) : Prop := ∃ v, e = .returned (.tuple #[v, .int .i64 0]) ∧ Own .u8 5 w.heap.size w' v N F ∧ Below w.heap.size w w'
theorem rbegin22 (k : Int) (hk : k = 1 ∨ k = 2 ∨ k = 3 ∨ k = 4 ∨ k = 5) (w : World) : Calls Tryd.prog 37 #[.int .i64 k] w fun e w' => e = .returned (.tuple #[.int .i64 (fst22 k), .int .i64 (bit22 k)]) ∧ w = w' := by
  rcases hk with rfl | rfl | rfl | rfl | rfl <;>
  · go_enter Tryd.func37, Tryd.ntmps37
    go_wp2
    go_ret2
    exact ⟨by rfl, rfl⟩
end Go.Proofs.YtdnfhddahpmnmabDoor
