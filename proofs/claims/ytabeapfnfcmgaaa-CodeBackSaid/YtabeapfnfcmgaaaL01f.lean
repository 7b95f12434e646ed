import Derived.Test.YtabeapfnfcmgaaaL01e
import Derived.WalkKit
import Derived.ProofKit
import Derived.LoopTactic
import Derived.Outline
import Derived.WalkSpells
import Derived.WalkLawsBesides
import Derived.Lib.Hide
import Derived.Deep.LoopGhost
import Derived.Deep.QuietTactic
import Derived.BigQuiet
import Derived.ShutString
namespace Go.Proofs.Ytabeapfnfcmgaaa
open Go.ChangeShapes Go.WideShapes Go.ChangeAt Go.RowKit
set_option linter.unusedVariables false
theorem fewL_300 (L : List PartD) : ∀ p ∈ fewL L, p.S.size ≤ 300 := by
  intro p hp
  simp only [fewL, List.mem_map] at hp
  obtain ⟨q, hq, rfl⟩ := hp
  exact cutB_le _ _
set_option maxRecDepth 100000 in
theorem codeWrites_walk (L : List PartD) (a : Option Addr) (cap : Nat) (w : World) (hst : PartRow w a L) :
    Calls Try.prog 3 #[.slice a L.length cap] w fun e w' => e = .returned (.bool true) ∧ Gr w w' := by
  have h300 := fewL_300 L
  have hl30 : (fewL L).length ≤ 30 := by rw [fewL_len]; omega
  go_enter Try.func3, Try.ntmps3
  go_wp2_with fail
  refine (awake1 w).mono ?_
  rintro e w1 ⟨rfl, hg⟩
  have HST := Lib.hid (hst.gr hg)
  have HG := Lib.hid hg
  clear hst hg
  go_wp2_with fail
  refine (few_any L a cap _ HST.out).mono ?_
  rintro e w2 ⟨a2, cap2, rfl, hrow, hg2⟩
  generalize fewL L = F at *
  have HR := Lib.hid hrow
  have H3 := Lib.hid h300
  have HG2 := Lib.hid (HG.out.trans hg2)
  clear hrow h300 hg2
  go_wp2_with fail
  refine (written_any F a2 cap2 _ HR.out hl30 H3.out).mono ?_
  rintro e w3 ⟨rfl, hg3⟩
  have HG3 := Lib.hid (HG2.out.trans hg3)
  clear hg3
  generalize ofL (encPs F) = T at *
  go_wp2
  go_ret
  exact ⟨rfl, HG3.out⟩
end Go.Proofs.Ytabeapfnfcmgaaa
