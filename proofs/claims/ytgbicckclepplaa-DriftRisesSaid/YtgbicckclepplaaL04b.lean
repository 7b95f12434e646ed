import Derived.Test.YtgbicckclepplaaL04
import Derived.WalkKit
import Derived.ProofKit
import Derived.LoopTactic
import Derived.Outline
import Derived.WalkSpells
import Derived.WalkLawsBesides
import Derived.Lib.Hide
import Derived.Deep.LoopGhost
import Derived.Deep.QuietTactic
import Derived.BigQuiet
import Derived.ShutString
import Derived.IntWalk
import Derived.Lib.MinMax
import Derived.Deep.RegionWith
import Derived.Deep.RegionHeld3
namespace Go.Proofs.Ytgbicckclepplaa
open Go.ChangeShapes Go.WideShapes Go.ChangeAt Go.RowKit
open Rates
set_option linter.unusedVariables false
theorem longer_is (p q t v : Int) (h : Hid (longer p q t = v)) (w : World) :
    Calls Try.prog 11 #[.agg #[.int .i64 p, .int .i64 q], .int .i64 t] w fun e w' => e = .returned (.int .i64 v) ∧ Gr w w' := by
  have := longer_any p q t w; rwa [h.out] at this
theorem shorter_is (p q t v : Int) (h : Hid (shorter p q t = v)) (w : World) :
    Calls Try.prog 13 #[.agg #[.int .i64 p, .int .i64 q], .int .i64 t] w fun e w' => e = .returned (.int .i64 v) ∧ Gr w w' := by
  have := shorter_any p q t w; rwa [h.out] at this
theorem fits_is (p q a b : Int) (v : Bool) (h : Hid (fits p q a b = v)) (w : World) :
    Calls Try.prog 16 #[.agg #[.int .i64 p, .int .i64 q], .int .i64 a, .int .i64 b] w fun e w' => e = .returned (.bool v) ∧ Gr w w' := by
  have := fits_any p q a b w; rwa [h.out] at this
/-- The time in a Wait that is held to its range. -/
theorem risesF {p q t d : Int} (h : good p q = true) (h0 : 0 ≤ t) (h1 : t ≤ 274877906944) (d0 : 0 ≤ d) (d1 : d ≤ 274877906944) :
    fits p q t t = true ∧ t ≤ longer p q t ∧ longer p q t ≤ 1099511627776 ∧ 0 ≤ shorter p q t ∧ shorter p q t ≤ t ∧ t ≤ shorter p q (longer p q t) ∧ longer p q (shorter p q t) ≤ t ∧ longer p q t ≤ longer p q (t + d) ∧ shorter p q t ≤ shorter p q (t + d) ∧ (longer p q t - 1) * q < t * p := by
  obtain ⟨l, s, sl, ls, l2, s2, rfl, rfl, rfl, rfl, rfl, rfl, e7, r⟩ := rises h h0 h1 d0 d1
  exact ⟨e7, r⟩
theorem rng_bd (T m : Int) (h : 0 ≤ m) : 0 ≤ max 0 (min T m) ∧ max 0 (min T m) ≤ m := by omega
end Go.Proofs.Ytgbicckclepplaa
