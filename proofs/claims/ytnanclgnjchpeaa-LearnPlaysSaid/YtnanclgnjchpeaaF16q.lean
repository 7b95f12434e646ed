import Derived.Test.YtnanclgnjchpeaaF16m
import Derived.WalkKit
import Derived.ProofKit
import Derived.LoopTactic
import Derived.Outline
import Derived.WalkSpells
import Derived.WalkLawsBesides
import Derived.Lib.Hide
import Derived.Deep.LoopGhost
import Derived.Deep.QuietTactic
import Derived.BigQuiet
import Derived.ShutString
import Derived.IntWalk
import Derived.BigQuiet
namespace Go.Proofs.Ytnanclgnjchpeaa
open Go.ChangeShapes Go.WideShapes Go.ChangeAt Go.RowKit
set_option linter.unusedVariables false
set_option linter.unusedSimpArgs false
section
variable {b : Nat} {wit : Bool} {pc pn ba to til : Int} {v : Value}
theorem witness_any (w : World) (h : Blk w b #[.bool wit, .int .u64 pc, .int .i64 pn, .int .i64 ba, v, .int .i64 to, .int .i64 til] 135) :
    Calls Try.prog 45 #[.pointer (some ⟨b, 0, none⟩)] w fun e w' => e = .returned (.bool wit) ∧ w = w' := by
  have a0 : w.cell? ⟨b, 0, none⟩ = some (.bool wit) := h.cell (i := 0) rfl
  go_enter Try.func45, Try.ntmps45
  go_wp2
  go_ret
  exact ⟨rfl, rfl⟩
theorem base_any (w : World) (h : Blk w b #[.bool wit, .int .u64 pc, .int .i64 pn, .int .i64 ba, v, .int .i64 to, .int .i64 til] 135) :
    Calls Try.prog 85 #[.pointer (some ⟨b, 0, none⟩)] w fun e w' => e = .returned (.int .i64 ba) ∧ w = w' := by
  have a0 : w.cell? ⟨b, 3, none⟩ = some (.int .i64 ba) := h.cell (i := 3) rfl
  go_enter Try.func85, Try.ntmps85
  go_wp2
  go_ret
  exact ⟨rfl, rfl⟩
theorem holder_any (w : World) (h : Blk w b #[.bool wit, .int .u64 pc, .int .i64 pn, .int .i64 ba, v, .int .i64 to, .int .i64 til] 135) (ht : 0 ≤ to ∧ to ≤ 1000001) :
    Calls Try.prog 87 #[.pointer (some ⟨b, 0, none⟩)] w fun e w' => e = .returned (.tuple #[.int .i64 (to - 1), .int .i64 til]) ∧ Gr w w' := by
  have a0 : w.cell? ⟨b, 5, none⟩ = some (.int .i64 to) := h.cell (i := 5) rfl
  have a1 : w.cell? ⟨b, 6, none⟩ = some (.int .i64 til) := h.cell (i := 6) rfl
  go_enter Try.func87, Try.ntmps87
  go_wp2
  go_quiet (fail)
  go_wp2
  refine bodyPost_ret (v := .tuple #[.int .i64 (to - 1), .int .i64 til]) (by simp [results, Try.results87, go_sem]; try rfl) rfl ?_
  exact ⟨rfl, (Gr.refl _).drewN _⟩
end
end Go.Proofs.Ytnanclgnjchpeaa
