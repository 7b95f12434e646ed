import Derived.Test.YtihhfdkcggnjpaaF10j
import Derived.WalkKit
import Derived.ProofKit
import Derived.LoopTactic
import Derived.Outline
import Derived.WalkSpells
import Derived.WalkLawsBesides
import Derived.Lib.Hide
import Derived.Deep.LoopGhost
import Derived.Deep.QuietTactic
import Derived.BigQuiet
import Derived.ShutString
import Derived.IntWalk
namespace Go.Proofs.Ytihhfdkcggnjpaa
open Go.ChangeShapes Go.WideShapes Go.ChangeAt Go.RowKit
open Enc Bal
set_option linter.unusedVariables false
set_option linter.unusedSimpArgs false
theorem first10 : (if checkM 1 1 2 0 ((1 : Nat) : Int) ((1 : Nat) : Int) 0 0 ⟨#[]⟩ [] = 0 then frameB (1 : Int).toNat (ofL (inHead 1 2 0 1 1 0 0 false ⟨#[]⟩ ([] : List E).length ++ ([] : List E).flatMap insE)) else ⟨#[]⟩) = ⟨#[1, 0, 0, 10, 1, 2, 0, 1, 1, 0, 0, 0, 0, 0, 2, 4, 91, 156]⟩ := by decide +kernel
set_option maxRecDepth 100000 in
theorem awake10 (w : World) : Calls Try.prog 36 #[] w fun e w' => e = .returned (.bool true) ∧ Gr w w' := by
  have HB := Lib.hid (fun w => bytes_any (a := none) (q := 0) 1 1 2 0 1 1 0 0 false ⟨#[]⟩ [] w (World.ownsRow_nil w w.heap.size 159 4) (by simp) (by simp))
  rw [first10] at HB
  go_enter Try.func36, Try.ntmps36
  go_wp2_with fail
  refine (HB.out _).mono ?_
  rintro e w1 ⟨rfl, hg⟩
  have e0 : ((ByteArray.mk #[1, 0, 0, 10, 1, 2, 0, 1, 1, 0, 0, 0, 0, 0, 2, 4, 91, 156]).extract 0 14).toList == [1, 0, 0, 10, 1, 2, 0, 1, 1, 0, 0, 0, 0, 0] := by decide +kernel
  go_wp2
  go_ret
  exact ⟨rfl, hg⟩
end Go.Proofs.Ytihhfdkcggnjpaa
