import Derived.Test.YtfpnglomemjniaaDoorF05e
import Derived.WalkKit
import Derived.ProofKit
import Derived.LoopTactic
import Derived.Outline
import Derived.WalkSpells
import Derived.WalkLawsBesides
import Derived.Lib.Hide
import Derived.Deep.LoopGhost
import Derived.Deep.QuietTactic
import Derived.BigQuiet
import Derived.ShutString
namespace Go.Proofs.YtfpnglomemjniaaDoor
open Go.ChangeShapes Go.WideShapes Go.ChangeAt Go.RowKit
set_option linter.unusedVariables false
set_option linter.unusedSimpArgs false
theorem some_is {l : List ByteArray} {w w' : World} {e : Ending} (h : MadeIs (some l) w e w') : e = .returned (.tuple #[.agg #[.string (ptext l)], .nilIface]) ∧ Gr w w' := h
theorem none_is {w w' : World} {e : Ending} (h : MadeIs none w e w') : ∃ b, e = .returned (.tuple #[.agg #[.string ⟨#[]⟩], .iface 68 (.pointer (some ⟨b, 0, none⟩))]) ∧ Chain w' (.iface 68 (.pointer (some ⟨b, 0, none⟩))) noL ∧ Gr w w' := by
  obtain ⟨u, h1, h2, h3⟩ := h
  obtain ⟨b, v, rfl, h4⟩ := id h2
  exact ⟨b, h1, h2, h3⟩
set_option maxRecDepth 100000 in
set_option maxHeartbeats 2000000 in
theorem awake_any (w : World) (he : ET w) (hm : ML w) :
    Calls Tryd.prog 11 #[] w fun e w' => e = .returned (.bool true) ∧ Gr w w' := by
  have q1 := eqNN
  have q2 := eqIN
  have HE := Lib.hid he
  have HM := Lib.hid hm
  have P1 := Lib.hid (show parseOf ⟨#[47, 97, 47, 98]⟩ = some [⟨#[97]⟩, ⟨#[98]⟩] by decide +kernel)
  have P2 := Lib.hid (show parseOf ⟨#[47, 97, 47]⟩ = none by decide +kernel)
  have D := Lib.hid (fun w => depth_any [⟨#[97]⟩, ⟨#[98]⟩] w (by decide +kernel))
  have T := Lib.hid (fun w => text_any [⟨#[97]⟩, ⟨#[98]⟩] w)
  have S := Lib.hid (show shown [⟨#[97]⟩, ⟨#[98]⟩] = ⟨#[47, 97, 47, 98]⟩ by decide +kernel)
  generalize ht : ptext [⟨#[97]⟩, ⟨#[98]⟩] = t at *
  have HT := Lib.hid ht
  clear he hm ht
  go_enter Tryd.func11, Tryd.ntmps11
  go_wp2_with fail
  refine (parse_any _ _ (by decide) HE.out HM.out).mono ?_
  rw [P1.out]
  intro e w1 h1
  obtain ⟨rfl, hg1⟩ := some_is h1
  rw [HT.out]
  have HG1 := Lib.hid (hg1.alloc (.cells #[.string t] 24))
  have c0 : (w1.alloc (.cells #[.string t] 24)).cell? ⟨w1.heap.size, 0, none⟩ = some (.string t) := new_cell rfl rfl
  have C0 := Lib.hid c0
  clear h1 hg1 c0
  go_wp2_with fail
  refine (parse_any _ _ (by decide) (HE.out.gr HG1.out) (HM.out.gr HG1.out)).mono ?_
  rw [P2.out]
  intro e w2 h2
  obtain ⟨b, rfl, hch, hg2⟩ := none_is h2
  have HG2 := Lib.hid ((HG1.out.trans hg2).alloc (.cells #[.string ⟨#[]⟩] 24))
  have HC := Lib.hid (hch.gr ((Gr.refl w2).alloc (.cells #[.string ⟨#[]⟩] 24)))
  have c0 := ((Gr.refl w2).alloc (.cells #[.string ⟨#[]⟩] 24)).cell (hg2.cell C0.out)
  clear h2 hch hg2
  go_wp2_with fail
  refine (D.out _).mono ?_
  rintro e w3 ⟨rfl, hg3⟩
  have c3 := hg3.cell c0
  have HG3 := Lib.hid (HG2.out.trans hg3)
  have HC3 := Lib.hid (HC.out.gr hg3)
  clear hg3 c0
  go_wp2_with fail
  refine (T.out _).mono ?_
  rintro e w4 ⟨rfl, hg4⟩
  rw [S.out]
  have HG4 := Lib.hid (HG3.out.trans hg4)
  have HC4 := Lib.hid (HC3.out.gr hg4)
  clear hg4 c3
  go_wp2_with fail
  refine (code_any _ noL _ (by decide) HC4.out (HE.out.gr HG4.out)).mono ?_
  rintro e w5 ⟨rfl, hg5⟩
  have HG5 := Lib.hid (HG4.out.trans hg5)
  have e10 : codeOf noL = 10 := rfl
  rw [e10]
  clear hg5
  go_wp2
  go_ret
  exact ⟨rfl, HG5.out⟩
end Go.Proofs.YtfpnglomemjniaaDoor
