/-
  Of any two messages, cut to few entries and short texts, the program and the document say alike whether they are the same, if both are sound: for every pair of messages.
-/
import Derived.Test.YtihhfdkcggnjpaaL10
import Derived.WalkKit
import Derived.ProofKit
import Derived.LoopTactic
import Derived.Outline
import Derived.WalkSpells
import Derived.WalkLawsBesides
import Derived.Lib.Hide
import Derived.Deep.LoopGhost
import Derived.Deep.QuietTactic
import Derived.BigQuiet
import Derived.ShutString
import Derived.Test.YtihhfdkcggnjpaaC41
import Derived.OpenShut
import Derived.ChangeOld
import Derived.Below
namespace Go.Proofs.Ytihhfdkcggnjpaa.msgSame
open Go.ChangeShapes Go.WideShapes Go.ChangeAt Go.RowKit
open Go.ChangeMaps (open_string shut_string)
theorem own : ownKnob Try.prog.godebug = none := by kernel_rfl
theorem laidOut : laidOutB Try.prog = true := by kernel_rfl
set_option linter.unusedVariables false
set_option maxRecDepth 100000 in
theorem lifted (os : Os) (started : os.Started) (H : Type) (enc : TypeId × Value → H) :
    ReturnsInHanded {} Try.checked os 5 .any (Rows.msgSameSpec.pre6 enc Try.prog Try.f5 Rows.msgSameRow.domain false) (Rows.msgSameSpec.post enc Try.prog Try.f5 false true false false) := by
  refine returnsInHanded_of_change (C := Try.checked) own started (by kernel_rfl) Try.func5
    (ChangeSpec.witness6 (enc := enc) (C := Try.checked) false ⟨#[], #[.agg #[.int .i64 0, .int .i64 0, .int .i64 0, .int .i64 0, .int .u64 0, .int .i64 0, .int .i64 0, .int .i64 0, .bool false, .string ByteArray.empty, .slice none 0 0], .agg #[.int .i64 0, .int .i64 0, .int .i64 0, .int .i64 0, .int .u64 0, .int .i64 0, .int .i64 0, .int .i64 0, .bool false, .string ByteArray.empty, .slice none 0 0]], []⟩ 8 (by kernel_rfl) (by kernel_rfl) (by kernel_rfl) (by kernel_rfl)) ?_
  intro W base args ds gs before hval0 hW hcnd _
  have hval : ∀ (j : Nat) t v, Try.f5.params[j]? = some t → args[j]? = some v → Value.okWide Try.prog W .any base t v := hval0
  have hW' := hW
  obtain ⟨p, q, hA0, hV, rfl, hfz, hnd⟩ := hW
  have hA : DataW.TrodAll enc Try.prog W 0 (fun _ => true) true Try.f5.params.toList args.toList ds p := hA0
  rw [Try.params5] at hA hval
  obtain ⟨v0, vs0, d0, ds0, p0, q0, hargs, rfl, rfl, h0, r0⟩ := trodAll_cons hA
  obtain ⟨v1, vs1, d1, ds1, p1, q1, rfl, rfl, rfl, h1, r1⟩ := trodAll_cons r0
  obtain ⟨rfl, rfl, rfl⟩ := trodAll_nil r1
  obtain rfl : args = #[v0, v1] := by cases args; simp_all
  obtain ⟨rfl, rfl⟩ := trodVars_none hV
  have k0 := h0
  have lt0 : ∀ x ∈ p0, x.block < W.heap.size := by obtain ⟨m, hm⟩ := k0; exact DataW.trod_lt m _ _ _ hm
  obtain ⟨A0, B0, C0, D0, E0, F0, G0, H0, I0, J0, ps0, a0, c0, rfl, x00, x10, x20, x30, x40, x50, x60, x70, x80, w0, e0⟩ := open_msg10 Try.underlying81 rfl Try.underlying79 Try.underlying164 (hval 0 81 v0 rfl rfl) h0 (by kernel_rfl) rfl (by kernel_rfl) (by kernel_rfl) Try.underlying4 Try.underlying9 rfl (by kernel_rfl) Try.underlying78 Try.underlying78 rfl (by kernel_rfl) Try.underlying3 Try.underlying48 Try.underlying3 Try.underlying9 (by kernel_rfl)
  have k1 := h1
  have lt1 : ∀ x ∈ p1, x.block < W.heap.size := by obtain ⟨m, hm⟩ := k1; exact DataW.trod_lt m _ _ _ hm
  obtain ⟨A1, B1, C1, D1, E1, F1, G1, H1, I1, J1, ps1, a1, c1, rfl, x01, x11, x21, x31, x41, x51, x61, x71, x81, w1, e1⟩ := open_msg10 Try.underlying81 rfl Try.underlying79 Try.underlying164 (hval 1 81 v1 rfl rfl) h1 (by kernel_rfl) rfl (by kernel_rfl) (by kernel_rfl) Try.underlying4 Try.underlying9 rfl (by kernel_rfl) Try.underlying78 Try.underlying78 rfl (by kernel_rfl) Try.underlying3 Try.underlying48 Try.underlying3 Try.underlying9 (by kernel_rfl)
  clear hA0 hval0
  simp only [List.append_nil] at hW'
  refine (msgSame_walk A0 B0 C0 D0 E0 F0 G0 H0 I0 J0 ps0 a0 c0 A1 B1 C1 D1 E1 F1 G1 H1 I1 J1 ps1 a1 c1 W ⟨⟨x00, x10, x20, x30, x40, x50, x60, x70, x80, w0.2.1⟩, w0, e0⟩ ⟨⟨x01, x11, x21, x31, x41, x51, x61, x71, x81, w1.2.1⟩, w1, e1⟩).mono fun e W' ⟨he, hg⟩ => ?_
  subst he
  exact ⟨_, rfl, _, _, _, [], _, [], hW', trodAll_mk1 (shut_bool Try.underlying4 _), (trodAll_cons_mk (Below.trod laidOut (by kernel_rfl) (of_decide_eq_true (by kernel_rfl)) k0 hg.below lt0) (trodAll_cons_mk (Below.trod laidOut (by kernel_rfl) (of_decide_eq_true (by kernel_rfl)) k1 hg.below lt1) trodAll_mk0)), rfl, hg.below.frame _, fun h => by cases h⟩
theorem over : Rows.msgSameRow.holds Try.pinned (OpenSpec.ofChange Rows.msgSameSpec) :=
  OpenClaim.holds_of_wide 5 Try.f5 rfl rfl rfl rfl rfl rfl rfl ⟨rfl, rfl, rfl, rfl, rfl⟩ rfl rfl rfl rfl rfl (by kernel_rfl) Try.func5 (by kernel_rfl)
    (of_decide_eq_true (by kernel_rfl)) (by unfold Func.isWrapper; first | (rw [if_pos (by decide +kernel)]; kernel_rfl) | (rw [if_neg (by decide +kernel)]; exact ⟨rfl, rfl⟩))
    (fun os started H enc _ => lifted os started H enc)
theorem proved : Rows.MsgSameSaid := over
end Go.Proofs.Ytihhfdkcggnjpaa.msgSame
