/-
  For every configuration, kind and row of messages: the votes count message by message as the document says: Least never rises, falls by at most one a message, is nothing just where Done is, and Add tells whether the set turned. No conditions.
-/
import Derived.Test.YtfgkgpkaohkehaaGreatDoorL49
import Derived.WalkKit
import Derived.ProofKit
import Derived.LoopTactic
import Derived.Outline
import Derived.WalkSpells
import Derived.WalkLawsBesides
import Derived.Lib.Hide
import Derived.Deep.LoopGhost
import Derived.Deep.QuietTactic
import Derived.BigQuiet
import Derived.ShutString
import Derived.Test.YtfgkgpkaohkehaaGreatDoorK22
import Derived.Test.YtfgkgpkaohkehaaGreatDoorC49
import Derived.Test.YtfgkgpkaohkehaaGreatDoorC19
import Derived.Test.YtfgkgpkaohkehaaGreatDoorCards
import Derived.Test.YtfgkgpkaohkehaaGreatDoorTie
import Derived.SevenTiedAt
import Derived.OpenShut
import Derived.ChangeOld
import Derived.Below
namespace Go.Proofs.YtfgkgpkaohkehaaGreatDoor.chatelaineCounts
open Go.ChangeShapes Go.WideShapes Go.ChangeAt Go.RowKit
open Go.ChangeMaps (open_string shut_string)
theorem own : ownKnob Tryz.prog.godebug = none := by kernel_rfl
theorem laidOut : laidOutB Tryz.prog = true := by kernel_rfl
set_option linter.unusedVariables false
theorem laid_met (os : Os) : laidMetH Tryz.prog Rows.chatelaineCountsRow.laid ((laidAt Rows.chatelaineCountsRow.laid os).forCall (fun _ _ => 0) ⟨#[], #[.agg #[.int .i64 0, .int .i64 0, .int .u32 0, .int .i64 0, .int .i64 0, .int .i64 0, .int .i64 0], .bool false, .slice none 0 0], []⟩).memory :=
  laidMetH_of_parts (laidMet_of_run' 8 (by kernel_rfl) (by kernel_rfl)) (by kernel_rfl)
set_option maxRecDepth 100000 in
theorem lifted (os : Os) (started : os.Started) (H : Type) (enc : TypeId × Value → H) :
    ReturnsInHanded {} Tryz.checked os 3 .any (fun w args => (Rows.chatelaineCountsSpec.pre enc Tryz.prog Tryz.f3 Rows.chatelaineCountsRow.domain false w args ∧ laidMetH Tryz.prog Rows.chatelaineCountsRow.laid w) ∧ sizedMet enc Tryz.prog Tryz.f3 (OpenSpec.ofChange Rows.chatelaineCountsSpec) false w args) (Rows.chatelaineCountsSpec.post enc Tryz.prog Tryz.f3 false true false false) := by
  refine returns_here (C := Tryz.checked) (X := fun w _ => laidMetH Tryz.prog Rows.chatelaineCountsRow.laid w) (fun _ _ _ hh h => h.of_heap hh) own started (by kernel_rfl) Tryz.func3
    (ChangeSpec.witness_at (enc := enc) (C := Tryz.checked) (os := os) (X := fun w _ => laidMetH Tryz.prog Rows.chatelaineCountsRow.laid w) false (laidAt Rows.chatelaineCountsRow.laid os) #[.agg #[.int .i64 0, .int .i64 0, .int .u32 0, .int .i64 0, .int .i64 0, .int .i64 0, .int .i64 0], .bool false, .slice none 0 0] 8 rfl (by kernel_rfl) (by kernel_rfl) (by kernel_rfl) (by kernel_rfl) (by kernel_rfl) (laid_met os)) ?_
  intro W base args ds gs before hval0 hW hL hsh
  have hTB := tb_of_laid hL
  have hval : ∀ (j : Nat) t v, Tryz.f3.params[j]? = some t → args[j]? = some v → Value.okWide Tryz.prog W .any base t v := hval0
  have hW' := hW
  obtain ⟨p, q, hA0, hV, rfl, hfz, hnd⟩ := hW
  have hA : DataW.TrodAll enc Tryz.prog W 0 (fun _ => true) true Tryz.f3.params.toList args.toList ds p := hA0
  rw [Tryz.params3] at hA hval
  obtain ⟨v0, vs0, d0, ds0, p0, q0, hargs, rfl, rfl, h0, r0⟩ := trodAll_cons hA
  obtain ⟨v1, vs1, d1, ds1, p1, q1, rfl, rfl, rfl, h1, r1⟩ := trodAll_cons r0
  obtain ⟨v2, vs2, d2, ds2, p2, q2, rfl, rfl, rfl, h2, r2⟩ := trodAll_cons r1
  obtain ⟨rfl, rfl, rfl⟩ := trodAll_nil r2
  obtain rfl : args = #[v0, v1, v2] := by cases args; simp_all
  obtain ⟨rfl, rfl⟩ := trodVars_none hV
  have k0 := h0
  have lt0 : ∀ x ∈ p0, x.block < W.heap.size := by obtain ⟨m, hm⟩ := k0; exact DataW.trod_lt m _ _ _ hm
  obtain ⟨R0, P0, W0, y10, y20, y30, y40, w0, rfl⟩ := open_cfg Tryz.underlying26 Tryz.underlying24 (hval 0 26 v0 rfl rfl) h0 (by kernel_rfl) (by kernel_rfl) rfl rfl rfl (by kernel_rfl) (by kernel_rfl) (by kernel_rfl) (by kernel_rfl) (by kernel_rfl) Tryz.underlying3 Tryz.underlying3 Tryz.underlying22 Tryz.underlying3 Tryz.underlying3
  obtain ⟨a1, rfl, rfl, rfl⟩ := open_bool Tryz.underlying4 (hval 1 4 v1 rfl rfl) h1
  obtain ⟨a2, l2, c2, rfl⟩ := okWide_slice Tryz.underlying27 (hval 2 27 v2 rfl rfl)
  have k2 := h2
  have lt2 : ∀ x ∈ p2, x.block < W.heap.size := by obtain ⟨m, hm⟩ := k2; exact DataW.trod_lt m _ _ _ hm
  obtain ⟨ps2, rfl, w2⟩ : ∃ L : List AM, l2 = L.length ∧ AMRow W a2 L := by obtain ⟨fuel, hf⟩ := h2; exact am_open Tryz.underlying27 Tryz.underlying49 rfl Tryz.underlying47 Tryz.underlying72 (by kernel_rfl) rfl (by kernel_rfl) (by kernel_rfl) Tryz.underlying4 Tryz.underlying9 rfl (by kernel_rfl) Tryz.underlying46 Tryz.underlying46 rfl (by kernel_rfl) Tryz.underlying3 Tryz.underlying36 Tryz.underlying3 Tryz.underlying9 (by kernel_rfl) hf
  clear hA0 hval0
  simp only [List.append_nil] at hW'
  refine (counts_walk R0 P0 W0 y10 y20 y30 y40 a1 ps2 a2 c2 W w0 w2 hTB).mono fun e W' ⟨he, hg⟩ => ?_
  subst he
  exact ⟨_, rfl, _, _, _, [], _, [], hW', trodAll_mk1 (shut_bool Tryz.underlying4 _), (trodAll_cons_mk (Below.trod laidOut (by kernel_rfl) (of_decide_eq_true (by kernel_rfl)) k0 hg.below lt0) (trodAll_cons_mk (shut_bool Tryz.underlying4 a1) (trodAll_cons_mk (Below.trod laidOut (by kernel_rfl) (of_decide_eq_true (by kernel_rfl)) k2 hg.below lt2) trodAll_mk0))), rfl, hg.below.frame _, fun h => by cases h⟩
theorem over : Rows.chatelaineCountsRow.holds Tryz.pinned (OpenSpec.ofChange Rows.chatelaineCountsSpec) :=
  OpenClaim.holds_of_wide 3 Tryz.f3 rfl rfl rfl rfl rfl rfl rfl ⟨rfl, rfl, rfl, rfl, rfl⟩ rfl rfl rfl rfl rfl (by kernel_rfl) Tryz.func3 (by kernel_rfl)
    (of_decide_eq_true (by kernel_rfl)) (by unfold Func.isWrapper; first | (rw [if_pos (by decide +kernel)]; kernel_rfl) | (rw [if_neg (by decide +kernel)]; exact ⟨rfl, rfl⟩))
    (fun os started H enc _ => lifted os started H enc)
theorem proved : Rows.ChatelaineCountsCardSaid :=
  Claim7.holds_tied_plain_at .later [] Rows.chatelaineCountsCard.laidKinds true Rows.chatelaineCountsCard.stood.harness false
    over (fun _ h => by cases h) (by kernel_rfl) (fun _ h => by cases h) chatelaineCounts_row_tie rfl ⟨rfl, rfl⟩ (by kernel_rfl) rfl
    (fun f fn hf hfn => by
      obtain rfl : f = 3 := Option.some.inj ((show Tryz.prog.funcNamed "chatelaine/chatelainetop.ChatelaineCounts" = some 3 by kernel_rfl).symm.trans hf) |>.symm
      obtain rfl : fn = Tryz.f3 := (Option.some.inj (Tryz.func3.symm.trans hfn)).symm
      exact ⟨by kernel_rfl, fun j t ht => by
        have hall : Tryz.f3.params.all (fun t => !Tryz.prog.wantsStandIn t) = true := by kernel_rfl
        have hj : j < Tryz.f3.params.size := (Array.getElem?_eq_some_iff.1 ht).1
        have := Array.all_eq_true.1 hall j hj
        rw [Array.getElem?_eq_getElem hj] at ht
        simp only [Option.some.injEq] at ht
        subst ht
        show Tryz.prog.wantsStandIn _ = false
        simpa using this⟩)
    (by kernel_rfl)
end Go.Proofs.YtfgkgpkaohkehaaGreatDoor.chatelaineCounts
