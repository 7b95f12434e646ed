import Derived.Test.YtahohgnkichibaaF15i
import Derived.WalkKit
import Derived.ProofKit
import Derived.LoopTactic
import Derived.Outline
import Derived.WalkSpells
import Derived.WalkLawsBesides
import Derived.Lib.Hide
import Derived.Deep.LoopGhost
import Derived.Deep.QuietTactic
import Derived.BigQuiet
import Derived.ShutString
import Derived.BigQuiet
import Derived.Deep.RegionWith
namespace Go.Proofs.Ytahohgnkichibaa
open Go.ChangeShapes Go.WideShapes Go.ChangeAt Go.RowKit
set_option linter.unusedVariables false
set_option linter.unusedSimpArgs false
/-- Alarms that a call made itself. -/
structure AlOwn (w0 w : World) (b : Nat) (v : Value) (L : List A) : Prop where
  is : AlIs w b v L
  gr : Gr w0 w
  lo : w0.heap.size ≤ b
theorem AlOwn.lov {w0 w : World} {b : Nat} {v : Value} {L : List A} (h : AlOwn w0 w b v L) : ∀ k, v.ownBlock = some k → w0.heap.size ≤ k := fun k e => by have := h.is.away k e; have := h.lo; omega
theorem AlOwn.far {w0 w w' : World} {b : Nat} {v v' : Value} {L M : List A} (h : AlOwn w0 w b v L) (hi : AlIs w' b v' M) (hf : Far b v w w') : AlOwn w0 w' b v' M := ⟨hi, hf.gr h.gr h.lo h.lov, h.lo⟩
theorem AlOwn.more {w0 w w' : World} {b : Nat} {v : Value} {L : List A} (h : AlOwn w0 w b v L) (hg : Gr w w') : AlOwn w0 w' b v L := ⟨h.is.gr hg, h.gr.trans hg, h.lo⟩
theorem AlOwn.to {w0 w w' : World} {b : Nat} {v : Value} {L M : List A} (h : AlOwn w0 w b v L) (ht : AlTo b v w M w') : ∃ v', AlOwn w0 w' b v' M ∧ Far b v w w' ∧ From v w v' := by
  obtain ⟨v', h1, h2, h3⟩ := ht
  exact ⟨v', h.far h1 h2, h2, h3⟩
theorem al_new (w : World) : AlOwn w (w.alloc (.cells #[.slice none 0 0] 26)) w.heap.size (.slice none 0 0) [] :=
  ⟨⟨(Blk.new w _ _).cell rfl, (Blk.new w _ _).free 0, World.ownsRow_nil _ _ _ _, by simp⟩, (Gr.refl w).alloc _, Nat.le_refl _⟩
theorem inv_nil : InvA [] := ⟨List.Pairwise.nil, List.Pairwise.nil⟩
theorem ex1 : setA [] 7 3 = [⟨7, 3⟩] := rfl
theorem ex2 : setA [⟨7, 3⟩] 1 3 = [⟨1, 3⟩, ⟨7, 3⟩] := rfl
theorem ex3 : setA [⟨1, 3⟩, ⟨7, 3⟩] 2 5 = [⟨1, 3⟩, ⟨7, 3⟩, ⟨2, 5⟩] := rfl
theorem ex4 : dueN [⟨1, 3⟩, ⟨7, 3⟩, ⟨2, 5⟩] 4 = 2 := rfl
theorem inv1 : InvA [⟨7, 3⟩] := ex1 ▸ setA_inv inv_nil 7 3
theorem inv2 : InvA [⟨1, 3⟩, ⟨7, 3⟩] := ex2 ▸ setA_inv inv1 1 3
set_option maxRecDepth 100000 in
set_option maxHeartbeats 1000000 in
theorem awake15 (w : World) : Calls Try.prog 12 #[] w fun e w' => e = .returned (.bool true) ∧ Gr w w' := by
  have H0 := Lib.hid (al_new w)
  go_enter Try.func12, Try.ntmps12
  go_wp2_with fail
  refine (alSet_any 7 3 _ H0.out.is inv_nil (by simp)).mono ?_
  rintro e w1 ⟨rfl, h⟩
  rw [ex1] at h
  obtain ⟨v1, h1, hf1, hv1⟩ := H0.out.to h
  have H1 := Lib.hid h1
  clear h h1 hf1 hv1
  go_wp2_with fail
  refine (alSet_any 1 3 _ H1.out.is inv1 (by simp)).mono ?_
  rintro e w2 ⟨rfl, h⟩
  rw [ex2] at h
  obtain ⟨v2, h2, hf2, hv2⟩ := H1.out.to h
  have H2 := Lib.hid h2
  clear h h2 hf2 hv2
  go_wp2_with fail
  refine (alSet_any 2 5 _ H2.out.is inv2 (by simp)).mono ?_
  rintro e w3 ⟨rfl, h⟩
  rw [ex3] at h
  obtain ⟨v3, h3, hf3, hv3⟩ := H2.out.to h
  have H3 := Lib.hid h3
  clear h h3 hf3 hv3
  go_wp2_with fail
  refine (alDue_any 4 _ H3.out.is).mono ?_
  rintro e w4 ⟨rv, rfl, v4, h4, hf4, hv4, hr, ho⟩
  rw [ex4] at h4 hr
  have H4 := Lib.hid (H3.out.far h4 hf4)
  obtain ⟨g, cap, rfl, c0, c1⟩ := row_at (L := [⟨1, 3⟩, ⟨7, 3⟩]) hr 0 (by simp)
  obtain ⟨g', cap', hv, c2, c3⟩ := row_at (L := [⟨1, 3⟩, ⟨7, 3⟩]) hr 1 (by simp)
  simp only [Value.slice.injEq, Option.some.injEq, Addr.mk.injEq, and_true, true_and] at hv
  obtain ⟨rfl, rfl⟩ := hv
  simp only [List.getElem_cons_zero, List.getElem_cons_succ, Nat.zero_mul, Nat.zero_add, Nat.one_mul, List.length_cons, List.length_nil] at c0 c1 c2 c3 ⊢
  clear h4 hf4 hv4 hr ho
  go_wp2_with fail
  refine (alLen_any _ H4.out.is).mono ?_
  rintro e w5 ⟨rfl, rfl⟩
  go_wp2
  go_ret
  exact ⟨rfl, H4.out.gr⟩
end Go.Proofs.Ytahohgnkichibaa
