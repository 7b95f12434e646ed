import Derived.Test.YtmgpnpmdmelnkaaGreatDoorF05f
import Derived.WalkKit
import Derived.ProofKit
import Derived.LoopTactic
import Derived.Outline
import Derived.WalkSpells
import Derived.WalkLawsBesides
import Derived.Lib.Hide
import Derived.Deep.LoopGhost
import Derived.Deep.QuietTactic
import Derived.BigQuiet
import Derived.ShutString
import Derived.Lib.MinMax
import Derived.Deep.RegionHeld3
namespace Go.Proofs.YtmgpnpmdmelnkaaGreatDoor
open Go.ChangeShapes Go.WideShapes Go.ChangeAt Go.RowKit
set_option linter.unusedVariables false
set_option linter.unusedSimpArgs false
set_option maxRecDepth 100000 in
set_option maxHeartbeats 4000000 in
theorem compare_any (l m : List ByteArray) (w : World) (hl : okParts l = true) (hm : okParts m = true) (hML : ML w) :
    Calls Tryz.prog 29 #[.agg #[.string (ptext l)], .agg #[.string (ptext m)]] w fun e w' => e = .returned (.int .i64 (cmpP l m)) ∧ Gr w w' := by
  have P1 := Lib.hid (fun w h => parts_any l w hl h)
  have P2 := Lib.hid (fun w h => parts_any m w hm h)
  have HC := Lib.hid (fun a b c d w h1 h2 => slicesCompare_any l m a b c d w h1 h2)
  have HM := Lib.hid hML
  clear hl hm hML
  generalize cmpP l m = r at *
  generalize ptext l = t at *
  generalize ptext m = u at *
  go_enter Tryz.func29, Tryz.ntmps29
  go_wp2
  have HG := (((Gr.refl w).alloc (.cells #[.string t] 40)).alloc (.cells #[.string u] 40))
  have c0 : ((w.alloc (.cells #[.string t] 40)).alloc (.cells #[.string u] 40)).cell? ⟨w.heap.size, 0, none⟩ = some (.string t) := ((Gr.refl _).alloc _).cell (new_cell rfl rfl)
  have c1 : ((w.alloc (.cells #[.string t] 40)).alloc (.cells #[.string u] 40)).cell? ⟨w.heap.size + 1, 0, none⟩ = some (.string u) := new_cell (by simp) rfl
  generalize (w.alloc (.cells #[.string t] 40)).alloc (.cells #[.string u] 40) = wr at *
  go_region_held3 (fun w' => Gr w w' ∧ w'.cell? ⟨w.heap.size, 0, none⟩ = some (.string t) ∧ w'.cell? ⟨w.heap.size + 1, 0, none⟩ = some (.string u)) (first | exact ⟨HG, c0, c1⟩ | exact ⟨HG.drew, c0, c1⟩ | (go_split_ands; refine ⟨?_, ?_, ?_⟩ <;> assumption) | (go_split_ands; refine ⟨Gr.drew ?_, ?_, ?_⟩ <;> assumption) | (go_split_ands; refine ⟨Gr.trans ?_ hgN, hgN.cell ?_, hgN.cell ?_⟩ <;> assumption)) (first
    | (go_at_call 50; go_split_ands; refine (P1.out _ (HM.out.gr (by assumption))).mono ?_; rintro e w2 ⟨a1, k1, rfl, hs1, hgN⟩; have hg1 := hgN)
    | (go_at_call 50; go_split_ands; refine (P2.out _ (HM.out.gr (by assumption))).mono ?_; rintro e w2 ⟨a2, k2, rfl, hs2, hgN⟩; have hg2 := hgN)
    | (go_at_call 53; go_split_ands; refine (HC.out _ _ _ _ _ (hs1.gr (by first | assumption | exact Gr.refl _ | exact (Gr.refl _).drew | exact Gr.of_drew (by assumption) | exact Gr.drew (by assumption) | exact Gr.drew (Gr.of_drew (by assumption)))) (hs2.gr (by first | assumption | exact Gr.refl _ | exact (Gr.refl _).drew | exact Gr.of_drew (by assumption) | exact Gr.drew (by assumption) | exact Gr.drew (Gr.of_drew (by assumption))))).mono ?_; rintro e w2 ⟨rfl, rfl⟩))
  go_split_ands
  go_wp2
  go_ret
  exact ⟨rfl, by assumption⟩
end Go.Proofs.YtmgpnpmdmelnkaaGreatDoor
