import Derived.Test.YtmgpnpmdmelnkaaGreatDoorK1
import Derived.WalkKit
import Derived.ProofKit
import Derived.LoopTactic
import Derived.Outline
import Derived.WalkSpells
import Derived.WalkLawsBesides
import Derived.Lib.Hide
import Derived.Deep.LoopGhost
import Derived.Deep.QuietTactic
import Derived.BigQuiet
import Derived.ShutString
namespace Go.Proofs.YtmgpnpmdmelnkaaGreatDoor
open Go.ChangeShapes Go.WideShapes Go.ChangeAt Go.RowKit
/-- A slice of strings that came in: it has no element, or its elements lie behind an address. -/
def Strs (w : World) (a : Option Addr) (ss : List ByteArray) : Prop :=
  (∀ s ∈ ss, s.size ≤ 9223372036854775807) ∧ ss.length ≤ 9223372036854775807 ∧ (ss = [] ∨ ∃ b off, a = some ⟨b, off, none⟩ ∧ ∀ i (h : i < ss.length), w.cell? ⟨b, off + i, none⟩ = some (.string ss[i]))
theorem Strs.gr {w w' : World} {a : Option Addr} {ss : List ByteArray} (h : Strs w a ss) (hg : Gr w w') : Strs w' a ss := by
  obtain ⟨h1, h3, h2⟩ := h
  refine ⟨h1, h3, h2.imp id ?_⟩
  rintro ⟨b, off, rfl, hc⟩
  exact ⟨b, off, rfl, fun i hi => hg.cell (hc i hi)⟩
theorem Strs.at {w : World} {a : Option Addr} {ss : List ByteArray} (h : Strs w a ss) (i : Nat) (hi : i < ss.length) :
    ∃ b off, a = some ⟨b, off, none⟩ ∧ b < w.heap.size ∧ w.cell? ⟨b, off + i, none⟩ = some (.string ss[i]) ∧ ss[i].size ≤ 9223372036854775807 := by
  obtain ⟨h1, _, rfl | ⟨b, off, rfl, hc⟩⟩ := h
  · simp at hi
  · exact ⟨b, off, rfl, cell_lt (hc i hi), hc i hi, h1 _ (List.getElem_mem hi)⟩
/-- The cells of a list of strings. -/
def strCells (l : List ByteArray) : List Value := l.map .string
theorem strs_of_row {w : World} {base : Nat} {e : TypeId} {v : Value} {l : List ByteArray} (h : w.ownsRow base e 1 v l.length (strCells l)) (hz : ∀ s ∈ l, s.size ≤ 9223372036854775807) (hl : l.length ≤ 9223372036854775807) :
    ∃ a cap, v = .slice a l.length cap ∧ Strs w a l := by
  obtain ⟨a, cap, rfl, hc⟩ := ownsRow_slice h
  refine ⟨a, cap, rfl, hz, hl, ?_⟩
  rcases hc with ⟨rfl, h0⟩ | ⟨g, rfl, _, hc⟩
  · exact .inl (List.length_eq_zero_iff.1 h0)
  · refine .inr ⟨g, 0, rfl, fun i hi => ?_⟩
    rw [Nat.zero_add]
    exact hc i _ (by simp [strCells, hi])
end Go.Proofs.YtmgpnpmdmelnkaaGreatDoor
