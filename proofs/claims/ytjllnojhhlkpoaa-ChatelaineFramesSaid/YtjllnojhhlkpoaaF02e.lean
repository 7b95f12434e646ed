import Derived.Test.YtjllnojhhlkpoaaF02d
import Derived.WalkKit
import Derived.ProofKit
import Derived.LoopTactic
import Derived.Outline
import Derived.WalkSpells
import Derived.WalkLawsBesides
import Derived.Lib.Hide
import Derived.Deep.LoopGhost
import Derived.Deep.QuietTactic
import Derived.BigQuiet
import Derived.ShutString
import Derived.Deep.RegionWith
import Derived.Laws.ResultCell
namespace Go.Proofs.Ytjllnojhhlkpoaa
open Go.ChangeShapes Go.WideShapes Go.ChangeAt Go.RowKit
open Crc
set_option linter.unusedVariables false
theorem num_n3 (s : ByteArray) (h : 4 ≤ s.size) : num (bytesOf (s.extract 1 4)) = n3 s := by
  have e : bytesOf (s.extract 1 4) = [s[1], s[2], s[3]] := by
    unfold bytesOf
    apply List.ext_getElem
    · simp; omega
    · intro i h1 h2
      simp at h2
      match i, h2 with
      | 0, _ => simp; rfl
      | 1, _ => simp; rfl
      | 2, _ => simp; rfl
  rw [e]
  unfold n3
  rw [← bt_at s 1 (by omega), ← bt_at s 2 (by omega), ← bt_at s 3 (by omega)]
  simp [num]; omega
def ROpenIs (s : ByteArray) (w : World) (e : Ending) (w' : World) : Prop :=
  e = .returned (.tuple #[.agg #[.int .u8 (openB s).1, .string (openB s).2.1], .int .i64 (openB s).2.2]) ∧ Gr w w'
theorem ropenIs_mk {s : ByteArray} {w w' : World} {k : Nat} {t : ByteArray} {n : Nat} (h : Hid (openB s = (k, t, n))) (hg : Gr w w') :
    ROpenIs s w (.returned (.tuple #[.agg #[.int .u8 k, .string t], .int .i64 n])) w' := ⟨by rw [h.out], hg⟩
theorem toList_eq_iff (R G : ByteArray) : R.toList = G.toList ↔ R = G := by
  constructor
  · intro h
    have h' : R.data.toList = G.data.toList := by simpa [ByteArray.toList_eq] using h
    exact ByteArray.ext (Array.toList_inj.1 h')
  · intro h; rw [h]
theorem e5' {s D R G : ByteArray} {K : Nat} (h : Hid (openB s = if R = G then (K, D, 0) else (0, ⟨#[]⟩, 5))) (hne : (!R.toList == G.toList) = true) : Hid (openB s = (0, ⟨#[]⟩, 5)) := by
  have h' := h.out
  rw [if_neg (by intro e; simp [e] at hne)] at h'
  exact h'
theorem e0' {s D R G : ByteArray} {K : Nat} (h : Hid (openB s = if R = G then (K, D, 0) else (0, ⟨#[]⟩, 5))) (hne : (!R.toList == G.toList) = false) : Hid (openB s = (K, D, 0)) := by
  have h' := h.out
  rw [if_pos ((toList_eq_iff R G).1 (by simpa using hne))] at h'
  exact h'
end Go.Proofs.Ytjllnojhhlkpoaa
