import Derived.Test.YtnanclgnjchpeaaF07g
import Derived.WalkKit
import Derived.ProofKit
import Derived.LoopTactic
import Derived.Outline
import Derived.WalkSpells
import Derived.WalkLawsBesides
import Derived.Lib.Hide
import Derived.Deep.LoopGhost
import Derived.Deep.QuietTactic
import Derived.BigQuiet
import Derived.ShutString
import Derived.IntWalk
namespace Go.Proofs.Ytnanclgnjchpeaa
open Go.ChangeShapes Go.WideShapes Go.ChangeAt Go.RowKit
open Grids
set_option linter.unusedVariables false
/-- What isQuorum answers. -/
def QuoIs (R P W z1 n1 z2 n2 z n s : Int) (q : Bool) : Prop := ∀ w : World, Calls Try.prog 198 #[.agg #[.int .i64 R, .int .i64 P, .int .u32 W, .int .i64 z1, .int .i64 n1, .int .i64 z2, .int .i64 n2], .agg #[.int .i64 z, .int .i64 n], .int .u32 s] w fun e w' => e = .returned (.bool q) ∧ Gr w w'
theorem isFirst_any {R P W z1 n1 z2 n2 s : Int} {q : Bool} (h : QuoIs R P W z1 n1 z2 n2 z1 n1 s q) (w : World) :
    Calls Try.prog 194 #[.agg #[.int .i64 R, .int .i64 P, .int .u32 W, .int .i64 z1, .int .i64 n1, .int .i64 z2, .int .i64 n2], .int .u32 s] w fun e w' => e = .returned (.bool q) ∧ Gr w w' := by
  have c1 := Lib.hid h
  clear h
  go_enter Try.func194, Try.ntmps194
  go_wp2_with fail
  refine (c1.out _).mono ?_
  rintro e w1 ⟨rfl, hg⟩
  go_wp2
  go_ret
  exact ⟨rfl, ((Gr.refl _).alloc _).trans hg⟩
theorem isSecond_any {R P W z1 n1 z2 n2 s : Int} {q : Bool} (h : QuoIs R P W z1 n1 z2 n2 z2 n2 s q) (w : World) :
    Calls Try.prog 195 #[.agg #[.int .i64 R, .int .i64 P, .int .u32 W, .int .i64 z1, .int .i64 n1, .int .i64 z2, .int .i64 n2], .int .u32 s] w fun e w' => e = .returned (.bool q) ∧ Gr w w' := by
  have c1 := Lib.hid h
  clear h
  go_enter Try.func195, Try.ntmps195
  go_wp2_with fail
  refine (c1.out _).mono ?_
  rintro e w1 ⟨rfl, hg⟩
  go_wp2
  go_ret
  exact ⟨rfl, ((Gr.refl _).alloc _).trans hg⟩
end Go.Proofs.Ytnanclgnjchpeaa
