import Derived.Test.YtfgkgpkaohkehaaGreatDoorK10
import Derived.WalkKit
import Derived.ProofKit
import Derived.LoopTactic
import Derived.Outline
import Derived.WalkSpells
import Derived.WalkLawsBesides
import Derived.Lib.Hide
import Derived.Deep.LoopGhost
import Derived.Deep.QuietTactic
import Derived.BigQuiet
import Derived.ShutString
import Derived.Deep.RegionWith
import Derived.Deep.RegionHeld3
namespace Go.Proofs.YtfgkgpkaohkehaaGreatDoor
open Go.ChangeShapes Go.WideShapes Go.ChangeAt Go.RowKit
set_option linter.unusedVariables false
/-- A cursor of the reference, as a value. -/
def curV (r : ByteArray) (e : Nat) : Value := .agg #[.string r, .int .i64 (e : Int)]
def RTakeIs (r : ByteArray) (e n : Nat) (w : World) (en : Ending) (w' : World) : Prop :=
  en = .returned (.tuple #[.agg #[.string (takeS r e n).1, .int .i64 ((takeS r e n).2.1 : Nat)], .string (takeS r e n).2.2]) ∧ Gr w w'
theorem rtakeIs_mk {r a c : ByteArray} {e n b : Nat} {w w' : World} (h : Hid (takeS r e n = (a, b, c))) (hg : Gr w w') : RTakeIs r e n w (.returned (.tuple #[.agg #[.string a, .int .i64 (b : Int)], .string c])) w' := by
  unfold RTakeIs; rw [h.out]; exact ⟨rfl, hg⟩
end Go.Proofs.YtfgkgpkaohkehaaGreatDoor
namespace Go.Proofs.YtfgkgpkaohkehaaGreatDoor
open Go.ChangeShapes Go.WideShapes Go.ChangeAt Go.RowKit
set_option linter.unusedVariables false
set_option linter.unusedSimpArgs false
def RBIs (r : ByteArray) (e : Nat) (w : World) (en : Ending) (w' : World) : Prop :=
  en = .returned (.tuple #[.agg #[.string (bS r e).1, .int .i64 ((bS r e).2.1 : Nat)], .bool (bS r e).2.2]) ∧ Gr w w'
theorem rbIs_mk {r a : ByteArray} {e b : Nat} {c : Bool} {w w' : World} (h : Hid (bS r e = (a, b, c))) (hg : Gr w w') : RBIs r e w (.returned (.tuple #[.agg #[.string a, .int .i64 (b : Int)], .bool c])) w' := by
  unfold RBIs; rw [h.out]; exact ⟨rfl, hg⟩
end Go.Proofs.YtfgkgpkaohkehaaGreatDoor
namespace Go.Proofs.YtfgkgpkaohkehaaGreatDoor
open Go.ChangeShapes Go.WideShapes Go.ChangeAt Go.RowKit
open Enc
set_option linter.unusedVariables false
set_option linter.unusedSimpArgs false
def RUIs (r : ByteArray) (e : Nat) (w : World) (en : Ending) (w' : World) : Prop :=
  en = .returned (.tuple #[.agg #[.string (uS r e).1, .int .i64 ((uS r e).2.1 : Nat)], .int .u64 ((uS r e).2.2 : Nat)]) ∧ Gr w w'
theorem ruIs_mk {r a : ByteArray} {e b c : Nat} {w w' : World} (h : Hid (uS r e = (a, b, c))) (hg : Gr w w') : RUIs r e w (.returned (.tuple #[.agg #[.string a, .int .i64 (b : Int)], .int .u64 (c : Int)])) w' := by
  unfold RUIs; rw [h.out]; exact ⟨rfl, hg⟩
theorem toL_iff (R G : ByteArray) : R.toList = G.toList ↔ R = G := by
  constructor
  · intro h
    rw [ByteArray.toList_eq, ByteArray.toList_eq] at h
    exact ByteArray.ext (Array.toList_inj.1 h)
  · rintro rfl; rfl
theorem hole_whole (r : ByteArray) : r.extract 0 r.size = r := by
  have := ByteArray.extract_zero_size (b := r); exact this
theorem less_size (T : ByteArray) {n : Nat} (h : T.size = n) : (bytesOf T).length = n := by simp [bytesOf]; exact h
theorem uS_first {r : ByteArray} (hz : 1 ≤ r.size) : uS r 0 = uR (r.extract 1 r.size) (hd r) := by unfold uS; rw [if_neg (by omega), if_neg (by omega)]
theorem takeS_one {r : ByteArray} (hz : 1 ≤ r.size) : takeS r 0 1 = (r.extract 1 r.size, 0, r.extract 0 1) := by unfold takeS; rw [if_neg (by omega), if_neg (by omega)]
theorem first_of (r : ByteArray) (hz : 1 ≤ r.size) : (r.extract 0 1).size = 1 ∧ ∀ h : 0 < (r.extract 0 1).size, (r.extract 0 1)[0].toNat = hd r := by
  have hs : (r.extract 0 1).size = 1 := by simp; omega
  refine ⟨hs, fun h => ?_⟩
  unfold hd
  rw [dif_pos (show 0 < r.size by omega)]
  simp [ByteArray.getElem_extract]
/-- The bytes of a number's one form. -/
theorem form_iff {S T : ByteArray} {m v : Nat} (hS1 : S.size = 1) (hm : ∀ h : 0 < S.size, S[0].toNat = m) (hn : more m ≠ 0) (hT : T.size = more m) (hv : num8 (bytesOf T) = v) : ofL (encU v) = S ++ T ↔ first v = m := by
  have hSb : bytesOf S = [b8 m] := by
    have hl : (bytesOf S).length = 1 := by simp [bytesOf]; exact hS1
    match hb : bytesOf S, hl with
    | [x], _ =>
      have h0 := hm (by omega)
      have : x = S[0]'(by omega) := by
        have h1 : (bytesOf S)[0]? = some x := by rw [hb]; rfl
        unfold bytesOf at h1
        rw [List.getElem?_eq_getElem (by simp; omega)] at h1
        simp at h1
        exact h1.symm
      rw [this, ← h0, b8_byte]
  have hml : m < 256 := by rw [← hm (by omega)]; exact UInt8.toNat_lt _
  constructor
  · intro h
    have h2 : encU v = bytesOf (S ++ T) := by rw [← h, bytesOf_ofL]
    rw [bytesOf_app, hSb] at h2
    unfold encU at h2
    simp only [List.cons_append, List.nil_append, List.cons.injEq] at h2
    exact e8_inj (by have := first_lt v; omega) hml h2.1
  · intro h
    apply eB
    rw [bytesOf_ofL, bytesOf_app, hSb]
    unfold encU
    rw [h]
    show b8 m :: _ = b8 m :: _
    congr 1
    have hl := less_size T hT
    have h8 := wide_num8 (bytesOf T)
    rw [hl, hv] at h8
    exact h8
end Go.Proofs.YtfgkgpkaohkehaaGreatDoor
namespace Go.Proofs.YtfgkgpkaohkehaaGreatDoor
open Go.ChangeShapes Go.WideShapes Go.ChangeAt Go.RowKit
open Enc
set_option linter.unusedVariables false
set_option linter.unusedSimpArgs false
def RNIs (r : ByteArray) (e : Nat) (most : Int) (w : World) (en : Ending) (w' : World) : Prop :=
  en = .returned (.tuple #[.agg #[.string (nS r e most).1, .int .i64 ((nS r e most).2.1 : Nat)], .int .i64 ((nS r e most).2.2 : Nat)]) ∧ Gr w w'
theorem rnIs_mk {r a : ByteArray} {e b c : Nat} {most : Int} {w w' : World} (h : Hid (nS r e most = (a, b, c))) (hg : Gr w w') : RNIs r e most w (.returned (.tuple #[.agg #[.string a, .int .i64 (b : Int)], .int .i64 (c : Int)])) w' := by
  unfold RNIs; rw [h.out]; exact ⟨rfl, hg⟩
end Go.Proofs.YtfgkgpkaohkehaaGreatDoor
namespace Go.Proofs.YtfgkgpkaohkehaaGreatDoor
open Go.ChangeShapes Go.WideShapes Go.ChangeAt Go.RowKit
open Enc
set_option linter.unusedVariables false
set_option linter.unusedSimpArgs false
theorem takeS_left (r : ByteArray) (e n : Nat) : (takeS r e n).1.size ≤ r.size := by
  unfold takeS; split
  · exact Nat.le_refl _
  · split
    · exact Nat.le_refl _
    · simp
theorem uS_left (r : ByteArray) (e : Nat) : (uS r e).1.size ≤ r.size := by
  unfold uS; split
  · exact Nat.le_refl _
  · split
    · exact Nat.le_refl _
    · unfold uR; split
      · split <;> (simp; try omega)
      · split
        · simp
        · split <;> (simp; try omega)
theorem nS_left (r : ByteArray) (e : Nat) (most : Int) : (nS r e most).1.size ≤ r.size := by
  have := uS_left r e
  unfold nS; split <;> exact this
theorem nS_most (r : ByteArray) (e : Nat) (most : Int) : (nS r e most).2.2 ≤ (max most 0).toNat := by
  unfold nS; split
  · exact Nat.zero_le _
  · rename_i h; omega
end Go.Proofs.YtfgkgpkaohkehaaGreatDoor
namespace Go.Proofs.YtfgkgpkaohkehaaGreatDoor
open Go.ChangeShapes Go.WideShapes Go.ChangeAt Go.RowKit
set_option linter.unusedVariables false
end Go.Proofs.YtfgkgpkaohkehaaGreatDoor
