/-
  For any rows of texts, any parts and any number: in the table that New makes of the texts of at most four of the rows, Find gives for the path of the chosen subtree, and for each path below it that at most six of the parts make, that subtree, and for each path above it none. No conditions.
-/
import Derived.Test.YtfpnglomemjniaaDoorL06c
import Derived.WalkKit
import Derived.ProofKit
import Derived.LoopTactic
import Derived.Outline
import Derived.WalkSpells
import Derived.WalkLawsBesides
import Derived.Lib.Hide
import Derived.Deep.LoopGhost
import Derived.Deep.QuietTactic
import Derived.BigQuiet
import Derived.ShutString
import Derived.Test.YtfpnglomemjniaaDoorC03
import Derived.Test.YtfpnglomemjniaaDoorC15
import Derived.Test.YtfpnglomemjniaaDoorC13
import Derived.Test.YtfpnglomemjniaaDoorCards
import Derived.Test.YtfpnglomemjniaaDoorTie
import Derived.SevenTiedAt
import Derived.OpenShut
import Derived.ChangeOld
import Derived.Below
namespace Go.Proofs.YtfpnglomemjniaaDoor.chatelaineBelow
open Go.ChangeShapes Go.WideShapes Go.ChangeAt Go.RowKit
open Go.ChangeMaps (open_string shut_string)
theorem i64_bounds {n : Int} (h : (Lit.int .i64 n).wf = true) : -9223372036854775808 ≤ n ∧ n ≤ 9223372036854775807 := by
  simp only [Lit.wf, Bool.and_eq_true, decide_eq_true_eq] at h
  have e1 : IntKind.i64.min = -9223372036854775808 := by decide
  have e2 : IntKind.i64.max = 9223372036854775807 := by decide
  rw [e1, e2] at h
  exact h
theorem own : ownKnob Tryd.prog.godebug = none := by kernel_rfl
theorem laidOut : laidOutB Tryd.prog = true := by kernel_rfl
set_option linter.unusedVariables false
theorem laid_met (os : Os) : laidMetH Tryd.prog Rows.chatelaineBelowRow.laid ((laidAt Rows.chatelaineBelowRow.laid os).forCall (fun _ _ => 0) ⟨#[], #[.slice none 0 0, .slice none 0 0, .int .i64 0], []⟩).memory :=
  laidMetH_of_parts (laidMet_of_run' 8 (by kernel_rfl) (by kernel_rfl)) (by kernel_rfl)
set_option maxRecDepth 100000 in
theorem lifted (os : Os) (started : os.Started) (H : Type) (enc : TypeId × Value → H) :
    ReturnsInHanded {} Tryd.checked os 10 .any (fun w args => (Rows.chatelaineBelowSpec.pre enc Tryd.prog Tryd.f10 Rows.chatelaineBelowRow.domain false w args ∧ laidMetH Tryd.prog Rows.chatelaineBelowRow.laid w) ∧ sizedMet enc Tryd.prog Tryd.f10 (OpenSpec.ofChange Rows.chatelaineBelowSpec) false w args) (Rows.chatelaineBelowSpec.post enc Tryd.prog Tryd.f10 false true false false) := by
  refine returns_here (C := Tryd.checked) (X := fun w _ => laidMetH Tryd.prog Rows.chatelaineBelowRow.laid w) (fun _ _ _ hh h => h.of_heap hh) own started (by kernel_rfl) Tryd.func10
    (ChangeSpec.witness_at (enc := enc) (C := Tryd.checked) (os := os) (X := fun w _ => laidMetH Tryd.prog Rows.chatelaineBelowRow.laid w) false (laidAt Rows.chatelaineBelowRow.laid os) #[.slice none 0 0, .slice none 0 0, .int .i64 0] 8 rfl (by kernel_rfl) (by kernel_rfl) (by kernel_rfl) (by kernel_rfl) (by kernel_rfl) (laid_met os)) ?_
  intro W base args ds gs before hval0 hW hL hsh
  have hET := et_of_laid (l := Rows.chatelaineBelowRow.laid) (by simp [Rows.chatelaineBelowRow]) hL
  have hML := ml_of_shaped hsh
  have hval : ∀ (j : Nat) t v, Tryd.f10.params[j]? = some t → args[j]? = some v → Value.okWide Tryd.prog W .any base t v := hval0
  have hW' := hW
  obtain ⟨p, q, hA0, hV, rfl, hfz, hnd⟩ := hW
  have hA : DataW.TrodAll enc Tryd.prog W 0 (fun _ => true) true Tryd.f10.params.toList args.toList ds p := hA0
  rw [Tryd.params10] at hA hval
  obtain ⟨v0, vs0, d0, ds0, p0, q0, hargs, rfl, rfl, h0, r0⟩ := trodAll_cons hA
  obtain ⟨v1, vs1, d1, ds1, p1, q1, rfl, rfl, rfl, h1, r1⟩ := trodAll_cons r0
  obtain ⟨v2, vs2, d2, ds2, p2, q2, rfl, rfl, rfl, h2, r2⟩ := trodAll_cons r1
  obtain ⟨rfl, rfl, rfl⟩ := trodAll_nil r2
  obtain rfl : args = #[v0, v1, v2] := by cases args; simp_all
  obtain ⟨rfl, rfl⟩ := trodVars_none hV
  obtain ⟨a0, l0, c0, rfl⟩ := okWide_slice Tryd.underlying55 (hval 0 55 v0 rfl rfl)
  have k0 := h0
  have lt0 : ∀ x ∈ p0, x.block < W.heap.size := by obtain ⟨m, hm⟩ := k0; exact DataW.trod_lt m _ _ _ hm
  obtain ⟨ss0, rfl, w0⟩ : ∃ L : List (List ByteArray), l0 = L.length ∧ SRow W a0 L := by obtain ⟨fuel, hf⟩ := h0; exact srow_open Tryd.underlying55 Tryd.underlying29 Tryd.underlying9 (by kernel_rfl) (by kernel_rfl) hf
  obtain ⟨a1, l1, c1, rfl⟩ := okWide_slice Tryd.underlying29 (hval 1 29 v1 rfl rfl)
  have k1 := h1
  have lt1 : ∀ x ∈ p1, x.block < W.heap.size := by obtain ⟨m, hm⟩ := k1; exact DataW.trod_lt m _ _ _ hm
  obtain ⟨ss1, rfl, w1⟩ : ∃ ss : List ByteArray, l1 = ss.length ∧ Strs W a1 ss := by obtain ⟨fuel, hf⟩ := h1; exact strs_open Tryd.underlying29 Tryd.underlying9 (by kernel_rfl) hf
  obtain ⟨a2, rfl, rfl, rfl, w2⟩ := open_int Tryd.underlying3 (hval 2 3 v2 rfl rfl) h2
  clear hA0 hval0
  simp only [List.append_nil] at hW'
  refine (below_walk ss0 a0 c0 ss1 a1 c1 a2 W w0 w1 (i64_bounds w2) hET hML).mono fun e W' ⟨he, hg⟩ => ?_
  subst he
  exact ⟨_, rfl, _, _, _, [], _, [], hW', trodAll_mk1 (shut_bool Tryd.underlying4 _), (trodAll_cons_mk (Below.trod laidOut (by kernel_rfl) (of_decide_eq_true (by kernel_rfl)) k0 hg.below lt0) (trodAll_cons_mk (Below.trod laidOut (by kernel_rfl) (of_decide_eq_true (by kernel_rfl)) k1 hg.below lt1) (trodAll_cons_mk (shut_int Tryd.underlying3 w2) trodAll_mk0))), rfl, hg.below.frame _, fun h => by cases h⟩
theorem over : Rows.chatelaineBelowRow.holds Tryd.pinned (OpenSpec.ofChange Rows.chatelaineBelowSpec) :=
  OpenClaim.holds_of_wide 10 Tryd.f10 rfl rfl rfl rfl rfl rfl rfl ⟨rfl, rfl, rfl, rfl, rfl⟩ rfl rfl rfl rfl rfl (by kernel_rfl) Tryd.func10 (by kernel_rfl)
    (of_decide_eq_true (by kernel_rfl)) (by unfold Func.isWrapper; first | (rw [if_pos (by decide +kernel)]; kernel_rfl) | (rw [if_neg (by decide +kernel)]; exact ⟨rfl, rfl⟩))
    (fun os started H enc _ => lifted os started H enc)
theorem proved : Rows.ChatelaineBelowCardSaid :=
  Claim7.holds_tied_plain_at .later [] Rows.chatelaineBelowCard.laidKinds true Rows.chatelaineBelowCard.stood.harness true
    over (fun _ h => by cases h) (by kernel_rfl) (fun _ h => by cases h) chatelaineBelow_row_tie rfl ⟨rfl, rfl⟩ (by kernel_rfl) rfl
    (fun f fn hf hfn => by
      obtain rfl : f = 10 := Option.some.inj ((show Tryd.prog.funcNamed "chatelaine/chatelainetop.ChatelaineBelow" = some 10 by kernel_rfl).symm.trans hf) |>.symm
      obtain rfl : fn = Tryd.f10 := (Option.some.inj (Tryd.func10.symm.trans hfn)).symm
      exact ⟨by kernel_rfl, fun j t ht => by
        have hall : Tryd.f10.params.all (fun t => !Tryd.prog.wantsStandIn t) = true := by kernel_rfl
        have hj : j < Tryd.f10.params.size := (Array.getElem?_eq_some_iff.1 ht).1
        have := Array.all_eq_true.1 hall j hj
        rw [Array.getElem?_eq_getElem hj] at ht
        simp only [Option.some.injEq] at ht
        subst ht
        show Tryd.prog.wantsStandIn _ = false
        simpa using this⟩)
    (by kernel_rfl)
end Go.Proofs.YtfpnglomemjniaaDoor.chatelaineBelow
