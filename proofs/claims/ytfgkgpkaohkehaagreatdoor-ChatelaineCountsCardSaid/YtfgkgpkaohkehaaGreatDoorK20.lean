import Derived.Test.YtfgkgpkaohkehaaGreatDoorK17
import Derived.Test.YtfgkgpkaohkehaaGreatDoorF02f
import Derived.WalkKit
import Derived.ProofKit
import Derived.LoopTactic
import Derived.Outline
import Derived.WalkSpells
import Derived.WalkLawsBesides
import Derived.Lib.Hide
import Derived.Deep.LoopGhost
import Derived.Deep.QuietTactic
import Derived.BigQuiet
import Derived.ShutString
import Derived.IntWalk
import Derived.Deep.RegionHeld3
import Derived.Deep.RegionWith
namespace Go.Proofs.YtfgkgpkaohkehaaGreatDoor
open Go.ChangeShapes Go.WideShapes Go.ChangeAt Go.RowKit
set_option linter.unusedVariables false
set_option linter.unusedSimpArgs false
def inL (frm tt sub : Int) (c n : Nat) (slot time : Int) (ok : Bool) (text : ByteArray) (L : List E) : ByteArray := ofL (inHead frm tt sub c n slot time ok text L.length ++ L.flatMap insE)
theorem inL_size (frm tt sub : Int) (c n : Nat) (slot time : Int) (ok : Bool) (text : ByteArray) (L : List E) (hl : L.length ≤ 100) (ht : text.size ≤ 1000) (hE : ∀ y ∈ L, EOk y) : (inL frm tt sub c n slot time ok text L).size ≤ 200000 := by
  unfold inL
  rw [ofL_size, List.length_append]
  have h1 := inHead_le frm tt sub c n slot time ok text L.length ht
  have h2 := insL_le L (fun y hy => (hE y hy).2.2.2.2.2)
  omega
end Go.Proofs.YtfgkgpkaohkehaaGreatDoor
namespace Go.Proofs.YtfgkgpkaohkehaaGreatDoor
open Go.ChangeShapes Go.WideShapes Go.ChangeAt Go.RowKit
set_option linter.unusedVariables false
set_option linter.unusedSimpArgs false
def eqLE : List E → List E → Bool
  | [], [] => true
  | x :: r, y :: s => sameE x y && eqLE r s
  | _, _ => false
theorem eqLE_len : ∀ {L M : List E}, eqLE L M = true → L.length = M.length
  | [], [], _ => rfl
  | [], _ :: _, h => by cases h
  | _ :: _, [], h => by cases h
  | x :: r, y :: s, h => by
    unfold eqLE at h
    rw [Bool.and_eq_true] at h
    rw [List.length_cons, List.length_cons, eqLE_len h.2]
theorem eqLE_at : ∀ {L M : List E}, L.length = M.length → (eqLE L M = true ↔ ∀ i (h1 : i < L.length) (h2 : i < M.length), sameE L[i] M[i] = true)
  | [], [], _ => ⟨fun _ i h1 => absurd h1 (by simp), fun _ => rfl⟩
  | [], _ :: _, h => by simp at h
  | _ :: _, [], h => by simp at h
  | x :: r, y :: s, h => by
    have ih := eqLE_at (L := r) (M := s) (by simpa using h)
    unfold eqLE
    rw [Bool.and_eq_true, ih]
    constructor
    · rintro ⟨h1, h2⟩ i hi1 hi2
      cases i with
      | zero => exact h1
      | succ i => exact h2 i (by simpa using hi1) (by simpa using hi2)
    · intro h1
      exact ⟨h1 0 (by simp) (by simp), fun i hi1 hi2 => h1 (i + 1) (by simpa using hi1) (by simpa using hi2)⟩
def sameM (k f t s c n sl ti : Int) (ok : Bool) (tx : ByteArray) (L : List E) (k2 f2 t2 s2 c2 n2 sl2 ti2 : Int) (ok2 : Bool) (tx2 : ByteArray) (M : List E) : Bool :=
  k == k2 && (f == f2 && (t == t2 && (s == s2 && ((c == c2 && n == n2) && (sl == sl2 && (ti == ti2 && (ok == ok2 && (tx.toList == tx2.toList && eqLE L M))))))))
end Go.Proofs.YtfgkgpkaohkehaaGreatDoor
