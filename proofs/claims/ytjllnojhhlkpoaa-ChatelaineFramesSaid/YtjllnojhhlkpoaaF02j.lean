import Derived.Test.YtjllnojhhlkpoaaF02i
import Derived.Test.YtjllnojhhlkpoaaC02
import Derived.Test.YtjllnojhhlkpoaaL02c
import Derived.WalkKit
import Derived.ProofKit
import Derived.LoopTactic
import Derived.Outline
import Derived.WalkSpells
import Derived.WalkLawsBesides
import Derived.Lib.Hide
import Derived.Deep.LoopGhost
import Derived.Deep.QuietTactic
import Derived.BigQuiet
import Derived.ShutString
import Derived.Deep.RegionWith
import Derived.Deep.RegionHeld3
namespace Go.Proofs.Ytjllnojhhlkpoaa
open Go.ChangeShapes Go.WideShapes Go.ChangeAt Go.RowKit
open Crc
set_option linter.unusedVariables false
/-- The parts of the texts: kinds by their numbers. -/
def partsOf (ss : List ByteArray) : List (Nat × ByteArray) := (ss.take 10).mapIdx fun i s => (1 + i, cutB s 60)
def frameL (l : List (Nat × ByteArray)) : List ByteArray := l.map fun p => rframe p.1 p.2
theorem partsOf_len (ss : List ByteArray) : (partsOf ss).length = min 10 ss.length := by simp [partsOf]
theorem partsOf_at (ss : List ByteArray) (i : Nat) (h : i < (partsOf ss).length) : ∃ h' : i < ss.length, (partsOf ss)[i] = (1 + i, cutB ss[i] 60) := by
  have h2 := h
  rw [partsOf_len] at h2
  exact ⟨by omega, by simp [partsOf]⟩
theorem valid_parts (ss : List ByteArray) : Valid (partsOf ss) := by
  intro p hp
  obtain ⟨i, hi, rfl⟩ := List.getElem_of_mem hp
  obtain ⟨h', e⟩ := partsOf_at ss i hi
  have := cutB_le ss[i] 60
  rw [partsOf_len] at hi
  rw [e]
  simp only
  omega
theorem info_str : (Try.prog.info? 9).map (fun i => (i.zero, i.size, i.bytes)) = some (some (.string ⟨#[]⟩), 1, 16) := by kernel_rfl
theorem refCells_one (w : World) (x : Value) (t : TypeId) : ∀ (j : Nat) (u : Value), [x][j]? = some u → (w.alloc (.cells #[x] t)).cell? ((⟨w.heap.size, 0, none⟩ : Addr).add j) = some u := by
  intro j u hj
  match j, hj with
  | 0, hj => simp at hj; subst hj; exact new_cell rfl rfl
theorem frame_r (k : Nat) (s : ByteArray) (w : World) (hk : k < 256) (hk1 : 1 ≤ k) (hs : s.size ≤ 1048576) :
    Calls Try.prog 22 #[.int .u8 k, .string s] w fun e w' => e = .returned (.string (rframe k s)) ∧ Gr w w' := by
  rw [← frame_eq k s hk hs]; exact frame_any k s w hk hk1 hs
def FramesIs (ss : List ByteArray) (w : World) (e : Ending) (w' : World) : Prop :=
  ∃ a cap, e = .returned (.slice a (frameL (partsOf ss)).length cap) ∧ Strs w' a (frameL (partsOf ss)) ∧ Gr w w'
theorem framesIs_mk {ss : List ByteArray} {w w' : World} {v : Value} {l : List ByteArray} (hl : Hid (frameL (partsOf ss) = l)) (ho : w'.ownsRow w.heap.size 9 1 v l.length (strCells l)) (hg : Gr w w') : FramesIs ss w (.returned v) w' := by
  have hl' := hl.out
  subst hl'
  have hz : ∀ s ∈ frameL (partsOf ss), s.size ≤ 9223372036854775807 := by
    intro s hs
    simp only [frameL, List.mem_map] at hs
    obtain ⟨p, hp, rfl⟩ := hs
    have := valid_parts ss p hp
    rw [rframe_size]; omega
  obtain ⟨a, cap, rfl, h⟩ := strs_of_row ho hz (by simp [frameL, partsOf_len]; omega)
  exact ⟨a, cap, rfl, h, hg⟩
end Go.Proofs.Ytjllnojhhlkpoaa
