/- Bytes of a text: '[]byte(s)' and back. -/
import Derived.Test.YtminoofghdpomaaDoorMA
import Derived.Test.YtminoofghdpomaaDoorBtL
import Derived.Laws.IdiomStrings
import Derived.Laws.AppendOwn
namespace Go.Proofs.YtminoofghdpomaaDoor
set_option linter.unusedVariables false
set_option linter.unusedSimpArgs false
open Go.RowKit Go.PlainAid

theorem bytes_rd (w : World) (s : ByteArray) (T : TypeId) (hs : s.size ≤ maxLen) : Rd .u8 (w.alloc (.cells (bytesRow s (grownCap w s.size 0 T)) T ((bytesRow s (grownCap w s.size 0 T)).size, (bytesRow s (grownCap w s.size 0 T)).size + 1))).drew (some ⟨w.heap.size, 0, none⟩) s.size (grownCap w s.size 0 T) (bt s) :=
  ⟨grownCap_ge w _ _ _, grownCap_le_maxLen w _ _ _ hs, fun e => (by cases e), fun _ => ⟨_, _, rfl, fun i hi => by
    have h1 : (w.alloc (.cells (bytesRow s (grownCap w s.size 0 T)) T ((bytesRow s (grownCap w s.size 0 T)).size, (bytesRow s (grownCap w s.size 0 T)).size + 1))).drew.cell? ⟨w.heap.size, 0 + i, none⟩ = (bytesRow s (grownCap w s.size 0 T))[0 + i]? := World.cell?_alloc_mark _ _ _ _ _
    have hi' : i < s.data.size := hi
    rw [h1, Nat.zero_add, bytesRow_at s _ i hi', bt_data s (by simpa using hi)]
    rfl⟩⟩
theorem bt_byt (s : ByteArray) : Byt s.size (bt s) := fun i _ => ⟨bt_nonneg s i, bt_le s i⟩
/-- The text of bytes. -/
def textB (n : Nat) (f : Nat → Int) : ByteArray := ⟨((List.range n).map fun i => UInt8.ofNat (f i).toNat).toArray⟩
theorem textB_congr {n : Nat} {f g : Nat → Int} (h : ∀ i, i < n → f i = g i) : textB n f = textB n g := by
  unfold textB
  congr 2
  refine List.map_congr_left fun i hi => ?_
  rw [h i (List.mem_range.1 hi)]
theorem textB_size (n : Nat) (f : Nat → Int) : (textB n f).size = n := by
  show ((List.range n).map fun i => UInt8.ofNat (f i).toNat).toArray.size = n
  simp
theorem textB_bt (s : ByteArray) : textB s.size (bt s) = s := by
  obtain ⟨⟨l⟩⟩ := s
  unfold textB
  congr 2
  show (List.range l.length).map _ = l
  refine List.ext_getElem (by simp) fun j h1 h2 => ?_
  rw [List.getElem_map, List.getElem_range, bt_data _ (by show j < l.length; exact h2)]
  simp
theorem text_back {P : Program} {w : World} {A : Option Addr} {n c : Nat} {f : Nat → Int} (h : Rd .u8 w A n c f) (hb : Byt n f) (src dst e : TypeId) (hs : P.underlying src = some (.slice e)) (he : P.underlying e = some (.int .u8)) (hd : P.underlying dst = some .string) :
    (convert src dst (.slice A n c)).run P w = .ok (.string (textB n f)) w := by
  by_cases hn : 0 < n
  · obtain ⟨b, off, rfl, hc⟩ := h.2.2.2 hn
    have hl : ((List.range n).map fun i => UInt8.ofNat (f i).toNat).length = n := by simp
    have := run_convert_bytes_back (P := P) w src dst e ⟨b, off, none⟩ c ((List.range n).map fun i => UInt8.ofNat (f i).toNat) hs he hd (fun j hj => by
      have hj' : j < n := by omega
      rw [Addr.add_lit, hc j hj']
      congr 2
      rw [List.getElem_map, List.getElem_range, UInt8.toNat_ofNat']
      have := hb j hj'
      omega)
    rw [hl] at this
    exact this
  · obtain rfl : n = 0 := by omega
    cases A with
    | none =>
      rw [run_convert_bytes_string w src dst e none 0 c hs he hd]
      rfl
    | some a =>
      have := run_convert_bytes_back (P := P) w src dst e a c [] hs he hd (fun j hj => by cases hj)
      exact this
end Go.Proofs.YtminoofghdpomaaDoor
