import Derived.Test.YtahohgnkichibabF14d
import Derived.WalkKit
import Derived.ProofKit
import Derived.LoopTactic
import Derived.Outline
import Derived.WalkSpells
import Derived.WalkLawsBesides
import Derived.Lib.Hide
import Derived.Deep.LoopGhost
import Derived.Deep.QuietTactic
import Derived.BigQuiet
import Derived.ShutString
import Derived.IntWalk
import Derived.Lib.MinMax
import Derived.Deep.AppendLies
import Derived.Deep.RegionWith
import Derived.Deep.RegionHeld3
namespace Go.Proofs.Ytahohgnkichibab
open Go.ChangeShapes Go.WideShapes Go.ChangeAt Go.RowKit
set_option linter.unusedVariables false
set_option linter.unusedSimpArgs false
open Nt
/-- A net that the call made. -/
structure NtOwn (w0 w : World) (b : Nat) (v : Value) (x : N) : Prop where
  is : NtIs w b v x
  gr : Gr w0 w
  lo : w0.heap.size ≤ b
theorem NtOwn.more {w0 w w' : World} {b : Nat} {v : Value} {x : N} (h : NtOwn w0 w b v x) (hg : Gr w w') : NtOwn w0 w' b v x := ⟨h.is.gr hg, h.gr.trans hg, h.lo⟩
theorem NtOwn.lov {w0 w : World} {b : Nat} {v : Value} {x : N} (h : NtOwn w0 w b v x) : ∀ k, v.ownBlock = some k → w0.heap.size ≤ k := fun k e => by have := h.is.away k e; have := h.lo; omega
theorem NtOwn.far {w0 w w' : World} {b : Nat} {v v' : Value} {x y : N} (h : NtOwn w0 w b v x) (hi : NtIs w' b v' y) (hf : Far b v w w') : NtOwn w0 w' b v' y := ⟨hi, hf.gr h.gr h.lo h.lov, h.lo⟩
/-- A block of the call's own that is no block of the net. -/
def Aside14 (n b : Nat) (v : Value) : Prop := n ≠ b ∧ v.ownBlock ≠ some n
theorem Aside14.from {n b : Nat} {v v' : Value} {w : World} (h : Aside14 n b v) (hn : n < w.heap.size) (hf : From v w v') : Aside14 n b v' := ⟨h.1, fun e => by
  rcases hf n e with h1 | h1
  · exact h.2 h1
  · omega⟩
theorem NtIs.aside {w : World} {b n : Nat} {v : Value} {x : N} (h : NtIs w b v x) (hn : w.heap.size ≤ n) : Aside14 n b v := ⟨by have := cell_lt h.nodes; omega, fun e => by have := h.away n e; omega⟩
set_option maxRecDepth 100000 in
set_option maxHeartbeats 1000000 in
theorem awake14 (w : World) : Calls Try.prog 4 #[] w fun e w' => e = .returned (.bool true) ∧ Gr w w' := by
  obtain ⟨x1, x2, x3, x4, e1, e2, e3, e4, e5, e6⟩ : ∃ x1 x2 x3 x4 : N, Nt.send (Nt.new 2) ⟨0, 1, ⟨#[97]⟩⟩ = (x1, true) ∧ Nt.send x1 ⟨0, 1, ⟨#[98]⟩⟩ = (x2, true) ∧ Nt.last x2 0 = (x3, true) ∧ Nt.take x3 0 = (⟨0, 1, ⟨#[98]⟩⟩, true) ∧ Nt.drop x3 0 = x4 ∧ x4.L.length = 1 :=
    ⟨_, _, _, _, rfl, rfl, rfl, rfl, rfl, rfl⟩
  have E1 := Lib.hid e1
  have E2 := Lib.hid e2
  have E3 := Lib.hid e3
  have E4 := Lib.hid e4
  have E5 := Lib.hid e5
  have E6 := Lib.hid e6
  clear e1 e2 e3 e4 e5 e6
  go_enter Try.func4, Try.ntmps4
  go_wp2_with fail
  refine (nnew_any 2 _).mono ?_
  rintro e w1 ⟨b, rfl, hb, h1, hg1⟩
  have H1 := Lib.hid (NtOwn.mk h1 hg1 (by omega))
  clear hb h1 hg1
  go_wp2_with fail
  refine (nsend_any ⟨0, 1, ⟨#[97]⟩⟩ _ H1.out.is (by decide)).mono ?_
  rintro e w2 ⟨rfl, v2, h2, hf2, hv2⟩
  rw [E1.out] at h2 ⊢
  have H2 := Lib.hid (H1.out.far h2 hf2)
  clear h2 hf2 hv2
  go_wp2_with fail
  refine (nsend_any ⟨0, 1, ⟨#[98]⟩⟩ _ H2.out.is (by decide)).mono ?_
  rintro e w3 ⟨rfl, v3, h3, hf3, hv3⟩
  rw [E2.out] at h3 ⊢
  have H3 := Lib.hid (H2.out.far h3 hf3)
  clear h3 hf3 hv3
  go_wp2_with fail
  refine (last_any 0 _ H3.out.is).mono ?_
  rintro e w4 ⟨rfl, v4, h4, hf4, hv4⟩
  rw [E3.out] at h4 ⊢
  have H4 := Lib.hid (H3.out.far h4 hf4)
  clear h4 hf4 hv4
  go_wp2_with fail
  refine (take_any14 0 _ H4.out.is).mono ?_
  rintro e w5 ⟨rfl, v5, h5, hf5, hv5⟩
  rw [E5.out] at h5
  rw [E4.out]
  simp only [P.val]
  have H5 := Lib.hid (H4.out.far h5 hf5)
  clear h5 hf5 hv5
  have HB6 := Lib.hid (H5.out.more ((Gr.refl w5).alloc (.cells #[.int .i64 0, .int .i64 1, .string ⟨#[98]⟩] 39)))
  go_wp2_with fail
  refine (nlen_any _ HB6.out.is).mono ?_
  rintro e w6 ⟨rfl, rfl⟩
  rw [E6.out]
  go_wp2
  go_ret
  exact ⟨rfl, HB6.out.gr⟩
def pX : P := ⟨2, 1, ⟨#[120]⟩⟩
def full14 (k : Nat) : N := put (Nt.new 3) (List.replicate k pX)
theorem full_send {k : Nat} (h : k < 4000) : Nt.send (full14 k) pX = (full14 (k + 1), true) := by
  unfold Nt.send
  rw [if_pos (by rfl)]
  unfold Nt.add
  rw [if_pos (by simp [full14, put]; omega)]
  unfold full14
  rw [List.replicate_succ']
  rfl
theorem full_facts (k : Int) (q : Bool) (hq : decide (0 ≤ k ∧ k < 4000) = q) : Nt.send (full14 4000) pX = (full14 4000, false) ∧ Nt.again (full14 4000) k = (full14 4000, false) ∧
    ∃ Y Z U : N, Nt.last (full14 4000) k = (Y, q) ∧ Nt.hasB Y k = q ∧ Nt.drop Y k = Z ∧ Nt.send Z pX = (U, q) ∧ U.L.length = 4000 := by
  have hl : (full14 4000).L.length = 4000 := List.length_replicate
  have hn : (full14 4000).n = 3 := rfl
  have hb : Nt.hasB (full14 4000) k = q := by unfold Nt.hasB; rw [hl]; exact hq
  generalize full14 4000 = X at *
  have hadd : ∀ p, Nt.add X p = (X, false) := fun p => by unfold Nt.add; rw [if_neg (by omega)]
  have hw : ∀ Y : N, Y.n = 3 → wayB Y.n pX.a pX.b = true := fun Y h => by rw [h]; rfl
  refine ⟨by unfold Nt.send; rw [if_pos (hw X hn)]; exact hadd _, by unfold Nt.again; rw [hb]; cases q; rfl; exact hadd _, ?_⟩
  cases q
  · refine ⟨X, X, X, by unfold Nt.last; rw [hb]; rfl, hb, by unfold Nt.drop; rw [hb]; rfl, by unfold Nt.send; rw [if_pos (hw X hn)]; exact hadd _, hl⟩
  · have h1 := of_decide_eq_true hq
    have hd : Nt.drop X k = put X (X.L.eraseIdx k.toNat) := by unfold Nt.drop; rw [hb]; rfl
    have hdl : (Nt.drop X k).L.length = 3999 := by rw [hd]; show (X.L.eraseIdx k.toNat).length = _; rw [List.length_eraseIdx]; split <;> omega
    obtain ⟨Y, hY, hYn, hYl⟩ : ∃ Y, Nt.add (Nt.drop X k) (Nt.look X k).1 = (Y, true) ∧ Y.n = 3 ∧ Y.L.length = 4000 :=
      ⟨_, by unfold Nt.add; rw [if_pos (by omega)], by rw [hd]; exact hn, by show (_ ++ [_] : List P).length = _; rw [List.length_append, hdl]; rfl⟩
    have hYb : Nt.hasB Y k = true := decide_eq_true (by omega)
    have hZ : Nt.drop Y k = put Y (Y.L.eraseIdx k.toNat) := by unfold Nt.drop; rw [hYb]; rfl
    have hZl : (Nt.drop Y k).L.length = 3999 := by rw [hZ]; show (Y.L.eraseIdx k.toNat).length = _; rw [List.length_eraseIdx]; split <;> omega
    have hZn : (Nt.drop Y k).n = 3 := by rw [hZ]; exact hYn
    exact ⟨Y, Nt.drop Y k, put (Nt.drop Y k) ((Nt.drop Y k).L ++ [pX]), by unfold Nt.last; rw [hb]; exact hY, hYb, rfl, by unfold Nt.send; rw [if_pos (hw _ hZn)]; unfold Nt.add; rw [if_pos (by omega)],
      by show (_ ++ [_] : List P).length = _; rw [List.length_append, hZl]; rfl⟩
end Go.Proofs.Ytahohgnkichibab
