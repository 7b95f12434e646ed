import Derived.Test.YtjllnojhhlkpoaaF02j
import Derived.WalkKit
import Derived.ProofKit
import Derived.LoopTactic
import Derived.Outline
import Derived.WalkSpells
import Derived.WalkLawsBesides
import Derived.Lib.Hide
import Derived.Deep.LoopGhost
import Derived.Deep.QuietTactic
import Derived.BigQuiet
import Derived.ShutString
import Derived.OpenShut
namespace Go.Proofs.Ytjllnojhhlkpoaa
open Go.ChangeShapes Go.WideShapes Go.ChangeAt Go.RowKit
open Crc
set_option linter.unusedVariables false
theorem torn_end (l : List (Nat × ByteArray)) (c : Nat) (h : ∀ p t, l = p :: t → c < p.2.size + 8) : torn l c = ([], 0) := by
  cases l with
  | nil => rfl
  | cons p t => rw [torn, if_neg (by have := h p t rfl; omega)]
theorem torn_step (l : List (Nat × ByteArray)) (m c z : Nat) (hm : m < l.length) (hz : z = (framesOf (l.take m)).size) (hc : z + l[m].2.size + 8 ≤ c)
    (h : torn l c = (l.take m ++ (torn (l.drop m) (c - z)).1, z + (torn (l.drop m) (c - z)).2)) :
    (framesOf (l.take (m + 1))).size = z + (l[m].2.size + 8) ∧ torn l c = (l.take (m + 1) ++ (torn (l.drop (m + 1)) (c - (z + (l[m].2.size + 8)))).1, z + (l[m].2.size + 8) + (torn (l.drop (m + 1)) (c - (z + (l[m].2.size + 8)))).2) := by
  constructor
  · rw [List.take_succ_eq_append_getElem hm, framesOf_snoc, ByteArray.size_append, rframe_size, ← hz]
  · rw [h, List.drop_eq_getElem_cons hm, torn, if_pos (show l[m].2.size + 8 ≤ c - z by omega), List.take_succ_eq_append_getElem hm, Nat.sub_sub]
    simp only [Prod.mk.injEq, List.append_assoc, List.singleton_append, true_and]
    omega
theorem framesOf_le (l : List (Nat × ByteArray)) (h : ∀ p ∈ l, p.2.size ≤ 60) : (framesOf l).size ≤ l.length * 68 := by
  induction l with
  | nil => exact Nat.zero_le _
  | cons p t ih =>
    have h1 := h p (by simp)
    have h2 := ih (fun q hq => h q (by simp [hq]))
    rw [framesOf, ByteArray.size_append, rframe_size, List.length_cons]; omega
theorem partsOf_small (ss : List ByteArray) : ∀ p ∈ partsOf ss, p.2.size ≤ 60 := by
  intro p hp
  obtain ⟨i, hi, rfl⟩ := List.getElem_of_mem hp
  obtain ⟨h', e⟩ := partsOf_at ss i hi
  rw [e]; exact cutB_le _ _
end Go.Proofs.Ytjllnojhhlkpoaa
