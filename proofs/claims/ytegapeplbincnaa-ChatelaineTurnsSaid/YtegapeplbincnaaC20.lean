import Derived.Test.YtegapeplbincnaaC00
import Derived.WalkKit
import Derived.ProofKit
import Derived.LoopTactic
import Derived.Outline
import Derived.WalkSpells
import Derived.WalkLawsBesides
import Derived.Lib.Hide
import Derived.Deep.LoopGhost
import Derived.Deep.QuietTactic
import Derived.BigQuiet
import Derived.ShutString
import Derived.Deep.RegionHeld3
/- A region in which one operation turns what is read behind it: ahead of it nothing is kept, behind it a condition is. -/
namespace Go.Proofs.Ytegapeplbincnaa
section
variable {P : Program} {ops : Array Oper} {Q : Exit → Act → World → Prop} {md : Region.Mode} {S S1 : World → Prop}
theorem held_true (S1 : World → Prop) : ∀ (n : Nat) (l : Array Bool) (a : Act) (w : World), wpAnyH P md ops Q S1 n l a w → wpAnyH P md ops Q (fun _ => True) n l a w
  | 0, _, _, _, h => h
  | n + 1, _, _, _, h => ⟨h.1, fun i hi => wpOp_mono (fun a' w' h' => ⟨trivial, held_true S1 n _ a' w' h'.2⟩) (h.2 i hi)⟩
end
end Go.Proofs.Ytegapeplbincnaa
