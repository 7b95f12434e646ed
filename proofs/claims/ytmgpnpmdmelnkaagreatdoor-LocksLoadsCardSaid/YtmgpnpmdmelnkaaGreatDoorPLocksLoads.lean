/-
  locks: what a book has is loaded again, and the loaded book is the document's; where one thing of it is another one, Load tells it, or answers a book in which no two locks conflict, no token is given twice, and none waits without need.
-/
import Derived.Test.YtmgpnpmdmelnkaaGreatDoorL22d
import Derived.WalkKit
import Derived.ProofKit
import Derived.LoopTactic
import Derived.Outline
import Derived.WalkSpells
import Derived.WalkLawsBesides
import Derived.Lib.Hide
import Derived.Deep.LoopGhost
import Derived.Deep.QuietTactic
import Derived.BigQuiet
import Derived.ShutString
import Derived.Test.YtmgpnpmdmelnkaaGreatDoorK13
import Derived.Test.YtmgpnpmdmelnkaaGreatDoorK10
import Derived.Test.YtmgpnpmdmelnkaaGreatDoorCards
import Derived.Test.YtmgpnpmdmelnkaaGreatDoorTie
import Derived.SevenTiedAt
import Derived.OpenShut
import Derived.ChangeOld
import Derived.Below
namespace Go.Proofs.YtmgpnpmdmelnkaaGreatDoor.locksLoads
open Go.ChangeShapes Go.WideShapes Go.ChangeAt Go.RowKit
open Go.ChangeMaps (open_string shut_string)
theorem own : ownKnob Tryz.prog.godebug = none := by kernel_rfl
theorem laidOut : laidOutB Tryz.prog = true := by kernel_rfl
set_option linter.unusedVariables false
theorem laid_met (os : Os) : laidMetH Tryz.prog Rows.locksLoadsRow.laid ((laidAt Rows.locksLoadsRow.laid os).forCall (fun _ _ => 0) ⟨#[], #[.int .u64 0, .slice none 0 0, .agg #[.int .i64 0, .int .i64 0]], []⟩).memory :=
  laidMetH_of_parts (laidMet_of_run' 8 (by kernel_rfl) (by kernel_rfl)) (by kernel_rfl)
set_option maxRecDepth 100000 in
theorem lifted (os : Os) (started : os.Started) (H : Type) (enc : TypeId × Value → H) :
    ReturnsInHanded {} Tryz.checked os 5 .any (fun w args => (Rows.locksLoadsSpec.pre enc Tryz.prog Tryz.f5 Rows.locksLoadsRow.domain false w args ∧ laidMetH Tryz.prog Rows.locksLoadsRow.laid w) ∧ sizedMet enc Tryz.prog Tryz.f5 (OpenSpec.ofChange Rows.locksLoadsSpec) false w args) (Rows.locksLoadsSpec.post enc Tryz.prog Tryz.f5 false true false false) := by
  refine returns_here (C := Tryz.checked) (X := fun w _ => laidMetH Tryz.prog Rows.locksLoadsRow.laid w) (fun _ _ _ hh h => h.of_heap hh) own started (by kernel_rfl) Tryz.func5
    (ChangeSpec.witness_at (enc := enc) (C := Tryz.checked) (os := os) (X := fun w _ => laidMetH Tryz.prog Rows.locksLoadsRow.laid w) false (laidAt Rows.locksLoadsRow.laid os) #[.int .u64 0, .slice none 0 0, .agg #[.int .i64 0, .int .i64 0]] 8 rfl (by kernel_rfl) (by kernel_rfl) (by kernel_rfl) (by kernel_rfl) (by kernel_rfl) (laid_met os)) ?_
  intro W base args ds gs before hval0 hW hL hsh
  have hET := et_of_laid (l := Rows.locksLoadsRow.laid) (by simp [Rows.locksLoadsRow]) hL
  have hML := ml_of_shaped hsh
  have hval : ∀ (j : Nat) t v, Tryz.f5.params[j]? = some t → args[j]? = some v → Value.okWide Tryz.prog W .any base t v := hval0
  have hW' := hW
  obtain ⟨p, q, hA0, hV, rfl, hfz, hnd⟩ := hW
  have hA : DataW.TrodAll enc Tryz.prog W 0 (fun _ => true) true Tryz.f5.params.toList args.toList ds p := hA0
  rw [Tryz.params5] at hA hval
  obtain ⟨v0, vs0, d0, ds0, p0, q0, hargs, rfl, rfl, h0, r0⟩ := trodAll_cons hA
  obtain ⟨v1, vs1, d1, ds1, p1, q1, rfl, rfl, rfl, h1, r1⟩ := trodAll_cons r0
  obtain ⟨v2, vs2, d2, ds2, p2, q2, rfl, rfl, rfl, h2, r2⟩ := trodAll_cons r1
  obtain ⟨rfl, rfl, rfl⟩ := trodAll_nil r2
  obtain rfl : args = #[v0, v1, v2] := by cases args; simp_all
  obtain ⟨rfl, rfl⟩ := trodVars_none hV
  obtain ⟨a0, rfl, rfl, rfl, w0⟩ := open_int Tryz.underlying22 (hval 0 22 v0 rfl rfl) h0
  obtain ⟨a1, l1, c1, rfl⟩ := okWide_slice Tryz.underlying23 (hval 1 23 v1 rfl rfl)
  have k1 := h1
  have lt1 : ∀ x ∈ p1, x.block < W.heap.size := by obtain ⟨m, hm⟩ := k1; exact DataW.trod_lt m _ _ _ hm
  obtain ⟨ps1, rfl, w1⟩ : ∃ L : List Act22, l1 = L.length ∧ Act22Row W a1 L := by obtain ⟨fuel, hf⟩ := h1; exact act22_open Tryz.underlying23 Tryz.underlying35 rfl (by kernel_rfl) Tryz.underlying3 Tryz.underlying3 Tryz.underlying33 Tryz.underlying9 (by kernel_rfl) Tryz.underlying4 Tryz.underlying4 (by kernel_rfl) hf
  have k2 := h2
  have lt2 : ∀ x ∈ p2, x.block < W.heap.size := by obtain ⟨m, hm⟩ := k2; exact DataW.trod_lt m _ _ _ hm
  obtain ⟨x2, y2, w2, rfl⟩ := open_arr2 Tryz.underlying48 Tryz.underlying3 (by kernel_rfl) (by kernel_rfl) (hval 2 48 v2 rfl rfl) h2
  clear hA0 hval0
  simp only [List.append_nil] at hW'
  refine (loads_walk22 a0 ps1 a1 c1 x2 y2 W w0 w1 hET hML).mono fun e W' ⟨he, hg⟩ => ?_
  subst he
  exact ⟨_, rfl, _, _, _, [], _, [], hW', trodAll_mk1 (shut_bool Tryz.underlying4 _), (trodAll_cons_mk (shut_int Tryz.underlying22 w0) (trodAll_cons_mk (Below.trod laidOut (by kernel_rfl) (of_decide_eq_true (by kernel_rfl)) k1 hg.below lt1) (trodAll_cons_mk (Below.trod laidOut (by kernel_rfl) (of_decide_eq_true (by kernel_rfl)) k2 hg.below lt2) trodAll_mk0))), rfl, hg.below.frame _, fun h => by cases h⟩
theorem over : Rows.locksLoadsRow.holds Tryz.pinned (OpenSpec.ofChange Rows.locksLoadsSpec) :=
  OpenClaim.holds_of_wide 5 Tryz.f5 rfl rfl rfl rfl rfl rfl rfl ⟨rfl, rfl, rfl, rfl, rfl⟩ rfl rfl rfl rfl rfl (by kernel_rfl) Tryz.func5 (by kernel_rfl)
    (of_decide_eq_true (by kernel_rfl)) (by unfold Func.isWrapper; first | (rw [if_pos (by decide +kernel)]; kernel_rfl) | (rw [if_neg (by decide +kernel)]; exact ⟨rfl, rfl⟩))
    (fun os started H enc _ => lifted os started H enc)
theorem proved : Rows.LocksLoadsCardSaid :=
  Claim7.holds_tied_plain_at .later [] Rows.locksLoadsCard.laidKinds true Rows.locksLoadsCard.stood.harness true
    over (fun _ h => by cases h) (by kernel_rfl) (fun _ h => by cases h) locksLoads_row_tie rfl ⟨rfl, rfl⟩ (by kernel_rfl) rfl
    (fun f fn hf hfn => by
      obtain rfl : f = 5 := Option.some.inj ((show Tryz.prog.funcNamed "chatelaine/chatelainelaw22.LocksLoads" = some 5 by kernel_rfl).symm.trans hf) |>.symm
      obtain rfl : fn = Tryz.f5 := (Option.some.inj (Tryz.func5.symm.trans hfn)).symm
      exact ⟨by kernel_rfl, fun j t ht => by
        have hall : Tryz.f5.params.all (fun t => !Tryz.prog.wantsStandIn t) = true := by kernel_rfl
        have hj : j < Tryz.f5.params.size := (Array.getElem?_eq_some_iff.1 ht).1
        have := Array.all_eq_true.1 hall j hj
        rw [Array.getElem?_eq_getElem hj] at ht
        simp only [Option.some.injEq] at ht
        subst ht
        show Tryz.prog.wantsStandIn _ = false
        simpa using this⟩)
    (by kernel_rfl)
end Go.Proofs.YtmgpnpmdmelnkaaGreatDoor.locksLoads
