/-
  When all other sessions give up what they have, a session that waits holds all that it waited for, with a token above those of before, and what it held it holds yet; no condition beside the ways of the form.
-/
import Derived.Test.YtmgpnpmdmelnkaaGreatDoorL22
import Derived.WalkKit
import Derived.ProofKit
import Derived.LoopTactic
import Derived.Outline
import Derived.WalkSpells
import Derived.WalkLawsBesides
import Derived.Lib.Hide
import Derived.Deep.LoopGhost
import Derived.Deep.QuietTactic
import Derived.BigQuiet
import Derived.ShutString
import Derived.Test.YtmgpnpmdmelnkaaGreatDoorC46
import Derived.Test.YtmgpnpmdmelnkaaGreatDoorC13
import Derived.Test.YtmgpnpmdmelnkaaGreatDoorCards
import Derived.Test.YtmgpnpmdmelnkaaGreatDoorTie
import Derived.SevenTiedAt
import Derived.OpenShut
import Derived.ChangeOld
import Derived.Below
namespace Go.Proofs.YtmgpnpmdmelnkaaGreatDoor.chatelaineGoes
open Go.ChangeShapes Go.WideShapes Go.ChangeAt Go.RowKit
open Go.ChangeMaps (open_string shut_string)
theorem own : ownKnob Tryz.prog.godebug = none := by kernel_rfl
theorem laidOut : laidOutB Tryz.prog = true := by kernel_rfl
set_option linter.unusedVariables false
theorem laid_met (os : Os) : laidMetH Tryz.prog Rows.chatelaineGoesRow.laid ((laidAt Rows.chatelaineGoesRow.laid os).forCall (fun _ _ => 0) ⟨#[], #[.agg #[.int .u64 0, .slice none 0 0, .int .i64 0, .slice none 0 0]], []⟩).memory :=
  laidMetH_of_parts (laidMet_of_run' 8 (by kernel_rfl) (by kernel_rfl)) (by kernel_rfl)
set_option maxRecDepth 100000 in
theorem lifted (os : Os) (started : os.Started) (H : Type) (enc : TypeId × Value → H) :
    ReturnsInHanded {} Tryz.checked os 6 .any (fun w args => (Rows.chatelaineGoesSpec.pre enc Tryz.prog Tryz.f6 Rows.chatelaineGoesRow.domain false w args ∧ laidMetH Tryz.prog Rows.chatelaineGoesRow.laid w) ∧ sizedMet enc Tryz.prog Tryz.f6 (OpenSpec.ofChange Rows.chatelaineGoesSpec) false w args) (Rows.chatelaineGoesSpec.post enc Tryz.prog Tryz.f6 false true false false) := by
  refine returns_here (C := Tryz.checked) (X := fun w _ => laidMetH Tryz.prog Rows.chatelaineGoesRow.laid w) (fun _ _ _ hh h => h.of_heap hh) own started (by kernel_rfl) Tryz.func6
    (ChangeSpec.witness_at (enc := enc) (C := Tryz.checked) (os := os) (X := fun w _ => laidMetH Tryz.prog Rows.chatelaineGoesRow.laid w) false (laidAt Rows.chatelaineGoesRow.laid os) #[.agg #[.int .u64 0, .slice none 0 0, .int .i64 0, .slice none 0 0]] 8 rfl (by kernel_rfl) (by kernel_rfl) (by kernel_rfl) (by kernel_rfl) (by kernel_rfl) (laid_met os)) ?_
  intro W base args ds gs before hval0 hW hL hsh
  have hET := et_of_laid (l := Rows.chatelaineGoesRow.laid) (by simp [Rows.chatelaineGoesRow]) hL
  have hML := ml_of_shaped hsh
  have hval : ∀ (j : Nat) t v, Tryz.f6.params[j]? = some t → args[j]? = some v → Value.okWide Tryz.prog W .any base t v := hval0
  have hW' := hW
  obtain ⟨p, q, hA0, hV, rfl, hfz, hnd⟩ := hW
  have hA : DataW.TrodAll enc Tryz.prog W 0 (fun _ => true) true Tryz.f6.params.toList args.toList ds p := hA0
  rw [Tryz.params6] at hA hval
  obtain ⟨v0, vs0, d0, ds0, p0, q0, hargs, rfl, rfl, h0, r0⟩ := trodAll_cons hA
  obtain ⟨rfl, rfl, rfl⟩ := trodAll_nil r0
  obtain rfl : args = #[v0] := by cases args; simp_all
  obtain ⟨rfl, rfl⟩ := trodVars_none hV
  have k0 := h0
  have lt0 : ∀ x ∈ p0, x.block < W.heap.size := by obtain ⟨m, hm⟩ := k0; exact DataW.trod_lt m _ _ _ hm
  obtain ⟨T0, M0, ps0, a0, c0, O0, oa0, oc0, rfl, x0, w0, y0⟩ := open_left Tryz.underlying58 rfl Tryz.underlying23 Tryz.underlying35 rfl Tryz.underlying56 Tryz.underlying3 (by kernel_rfl) (hval 0 58 v0 rfl rfl) h0 (by kernel_rfl) rfl (by kernel_rfl) (by kernel_rfl) (by kernel_rfl) (by kernel_rfl) Tryz.underlying22 Tryz.underlying3 rfl (by kernel_rfl) Tryz.underlying3 Tryz.underlying3 Tryz.underlying33 Tryz.underlying9 (by kernel_rfl) Tryz.underlying4 Tryz.underlying4 (by kernel_rfl)
  clear hA0 hval0
  simp only [List.append_nil] at hW'
  refine (goes_walk22 T0 M0 ps0 a0 c0 O0 oa0 oc0 W x0 w0 y0 hET hML).mono fun e W' ⟨he, hg⟩ => ?_
  subst he
  exact ⟨_, rfl, _, _, _, [], _, [], hW', trodAll_mk1 (shut_bool Tryz.underlying4 _), (trodAll_cons_mk (Below.trod laidOut (by kernel_rfl) (of_decide_eq_true (by kernel_rfl)) k0 hg.below lt0) trodAll_mk0), rfl, hg.below.frame _, fun h => by cases h⟩
theorem over : Rows.chatelaineGoesRow.holds Tryz.pinned (OpenSpec.ofChange Rows.chatelaineGoesSpec) :=
  OpenClaim.holds_of_wide 6 Tryz.f6 rfl rfl rfl rfl rfl rfl rfl ⟨rfl, rfl, rfl, rfl, rfl⟩ rfl rfl rfl rfl rfl (by kernel_rfl) Tryz.func6 (by kernel_rfl)
    (of_decide_eq_true (by kernel_rfl)) (by unfold Func.isWrapper; first | (rw [if_pos (by decide +kernel)]; kernel_rfl) | (rw [if_neg (by decide +kernel)]; exact ⟨rfl, rfl⟩))
    (fun os started H enc _ => lifted os started H enc)
theorem proved : Rows.ChatelaineGoesCardSaid :=
  Claim7.holds_tied_plain_at .later [] Rows.chatelaineGoesCard.laidKinds true Rows.chatelaineGoesCard.stood.harness true
    over (fun _ h => by cases h) (by kernel_rfl) (fun _ h => by cases h) chatelaineGoes_row_tie rfl ⟨rfl, rfl⟩ (by kernel_rfl) rfl
    (fun f fn hf hfn => by
      obtain rfl : f = 6 := Option.some.inj ((show Tryz.prog.funcNamed "chatelaine/chatelainetop.ChatelaineGoes" = some 6 by kernel_rfl).symm.trans hf) |>.symm
      obtain rfl : fn = Tryz.f6 := (Option.some.inj (Tryz.func6.symm.trans hfn)).symm
      exact ⟨by kernel_rfl, fun j t ht => by
        have hall : Tryz.f6.params.all (fun t => !Tryz.prog.wantsStandIn t) = true := by kernel_rfl
        have hj : j < Tryz.f6.params.size := (Array.getElem?_eq_some_iff.1 ht).1
        have := Array.all_eq_true.1 hall j hj
        rw [Array.getElem?_eq_getElem hj] at ht
        simp only [Option.some.injEq] at ht
        subst ht
        show Tryz.prog.wantsStandIn _ = false
        simpa using this⟩)
    (by kernel_rfl)
end Go.Proofs.YtmgpnpmdmelnkaaGreatDoor.chatelaineGoes
