import Derived.Test.YtnanclgnjchpeaaF07n
import Derived.WalkKit
import Derived.ProofKit
import Derived.LoopTactic
import Derived.Outline
import Derived.WalkSpells
import Derived.WalkLawsBesides
import Derived.Lib.Hide
import Derived.Deep.LoopGhost
import Derived.Deep.QuietTactic
import Derived.BigQuiet
import Derived.ShutString
import Derived.IntWalk
import Derived.Deep.RegionHeld3
namespace Go.Proofs.Ytnanclgnjchpeaa
open Go.ChangeShapes Go.WideShapes Go.ChangeAt Go.RowKit
open Grids
set_option linter.unusedVariables false
set_option linter.unusedSimpArgs false
/-- All that the methods answer for a right configuration. -/
theorem len_shp {r p W z1 n1 z2 n2 : Nat} (h : Rgt r p W z1 n1 z2 n2) : LenIs r p W z1 n1 z2 n2 (r * p : Nat) := by
  have h9 := shp12 h.shp
  have := len_ok (check_shp h.shp true h.good 0 rfl) (by rw [← Int.natCast_mul]; omega) (by rw [← Int.natCast_mul]; omega)
  rw [Int.natCast_mul]; exact this
theorem pow9 {r p W z1 n1 z2 n2 : Nat} (h : Shp r p W z1 n1 z2 n2) : 2 ^ (r * p) ≤ 512 := Nat.pow_le_pow_right (n := 2) (by decide) (shp12 h)
theorem first_shp {r p W z1 n1 z2 n2 : Nat} (h : Rgt r p W z1 n1 z2 n2) (s : Nat) (hs : s < 4294967296) (q : Bool) (hq : isQ r p z1 n1 s = q) : QuoIs r p W z1 n1 z2 n2 z1 n1 s q := by
  intro w
  have a1 := h.shp.hr; have a2 := h.shp.hp; have a3 := h.shp.hz1; have a4 := h.shp.hn1
  have := isQuorum_any r p W z1 n1 z2 n2 z1 n1 s w (by omega) (by omega) (Nat.le_trans (shp12 h.shp) (by decide)) hs (by omega) (by omega) (check_shp h.shp true h.good 0 rfl)
  rw [hq] at this; exact this
theorem second_shp {r p W z1 n1 z2 n2 : Nat} (h : Rgt r p W z1 n1 z2 n2) (s : Nat) (hs : s < 4294967296) (q : Bool) (hq : isQ r p z2 n2 s = q) : QuoIs r p W z1 n1 z2 n2 z2 n2 s q := by
  intro w
  have a1 := h.shp.hr; have a2 := h.shp.hp; have a3 := h.shp.hz2; have a4 := h.shp.hn2
  have := isQuorum_any r p W z1 n1 z2 n2 z2 n2 s w (by omega) (by omega) (Nat.le_trans (shp12 h.shp) (by decide)) hs (by omega) (by omega) (check_shp h.shp true h.good 0 rfl)
  rw [hq] at this; exact this
theorem rgt33 : Rgt 3 3 0 2 2 2 2 := ⟨⟨by decide, by decide, by decide, by decide, by decide, by decide, by decide⟩, by decide +kernel⟩
end Go.Proofs.Ytnanclgnjchpeaa
