import Derived.Test.YtmgpnpmdmelnkaaF21b
import Derived.WalkKit
import Derived.ProofKit
import Derived.LoopTactic
import Derived.Outline
import Derived.WalkSpells
import Derived.WalkLawsBesides
import Derived.Lib.Hide
import Derived.Deep.LoopGhost
import Derived.Deep.QuietTactic
import Derived.BigQuiet
import Derived.ShutString
import Derived.IntWalk
namespace Go.Proofs.Ytmgpnpmdmelnkaa
open Go.ChangeShapes Go.WideShapes Go.ChangeAt Go.RowKit
set_option linter.unusedVariables false
set_option linter.unusedSimpArgs false
theorem row_off21 {w : World} {b base k n : Nat} {cs : Array Value} {t u : TypeId} {v : Value} {xs : List Value} (h : Blk w b cs t) (hr : w.ownsRow base u k v n xs) (hne : t ≠ u) : v.ownBlock ≠ some b := by
  rcases hr.2 with ⟨rfl, _⟩ | ⟨g, cap, cur, rfl, _, hc, _⟩
  · intro e; exact absurd e (by simp [Value.ownBlock])
  · intro e
    simp only [Value.ownBlock, Option.some.injEq] at e
    subst e
    have h1 := (show w.heap[g]? = _ from h).symm.trans hc
    simp only [Option.some.injEq, Obj.cells.injEq] at h1
    exact hne h1.2.1
/-- The state of the law's loop. -/
structure St21 (W w : World) (b p l s m : Nat) (d : Brd) (P : List Tch) (v : Value) (k : Nat) : Prop where
  gr : Gr W w
  hb : W.heap.size ≤ b ∧ W.heap.size ≤ p
  bd : BdIs w b p d
  near : Near21 d l s m k
  holds : Holds21 d P
  row : w.ownsRow W.heap.size 34 3 v P.length (rcells encT P)
  len : P.length ≤ k
  tb : ∀ x ∈ P, 0 ≤ x.T ∧ x.T ≤ 1073741824
variable {W w w1 w2 w3 : World} {b p l s m k : Nat} {d : Brd} {P : List Tch} {v v' : Value}
theorem St21.more (h : St21 W w b p l s m d P v k) (hg : Gr w w1) : St21 W w1 b p l s m d P v k :=
  ⟨h.gr.trans hg, h.hb, h.bd.gr hg, h.near, h.holds, ownsRow_gr hg h.row, h.len, h.tb⟩
theorem St21.reset (h : St21 W w b p l s m d P v k) (ht : BdTo b p w (resetB d) w1) : St21 W w1 b p l s m (resetB d) [] (.slice none 0 0) k :=
  ⟨ht.gr h.gr h.hb.2 h.hb.1, h.hb, ht.1, near_reset h.near, holds_reset d, World.ownsRow_nil _ _ _ _, Nat.zero_le _, fun x hx => by simp at hx⟩
theorem St21.row_to (h : St21 W w b p l s m d P v k) {d' : Brd} (ht : BdTo b p w d' w1) : w1.ownsRow W.heap.size 34 3 v P.length (rcells encT P) := by
  obtain ⟨cs, hc, _⟩ := h.bd.row
  exact ownsRow_far ht.2 h.row (row_off21 hc h.row (by decide)) (fun k _ => by simp [Value.ownBlock])
theorem St21.miss (h : St21 W w b p l s m d P v k) {r now : Int} (hr : hasB d r = false) (ht : BdTo b p w (touchI d r now) w1) : St21 W w1 b p l s m d P v (k + 1) := by
  have hrow := h.row_to ht
  have hg := ht.gr h.gr h.hb.2 h.hb.1
  unfold touchI at ht
  rw [if_neg (by rw [hr]; decide)] at ht
  exact ⟨hg, h.hb, ht.1, h.near.mono (by omega), h.holds, hrow, by have := h.len; omega, h.tb⟩
theorem St21.add (h : St21 W w b p l s m d P v k) {x : Tch} (hr : hasB d x.R = true) (hx : 0 ≤ x.T ∧ x.T ≤ 1073741824) (ht : BdTo b p w (touchI d x.R x.T) w1) (hg1 : Gr w1 w2) (hg2 : w2.grownBy w3 v.ownBlock)
    (ho : w3.ownsRow W.heap.size 34 3 v' (P.length + 1) (rcells encT P ++ encT x)) : St21 W w3 b p l s m (touchI d x.R x.T) (P ++ [x]) v' (k + 1) := by
  have hrow := h.row_to ht
  have hg := ht.gr h.gr h.hb.2 h.hb.1
  have hB := ht.1.gr hg1
  obtain ⟨cs, hc, h2⟩ := hB.row
  have hrow2 := ownsRow_gr hg1 hrow
  refine ⟨(hg.trans hg1).append hrow2 hg2, h.hb, ⟨(hg2.block b hB.top.lt (fun e => row_off21 hB.top hrow2 (by decide) e.symm)).trans hB.top, hB.ne, ⟨cs, (hg2.block p hc.lt (fun e => row_off21 hc hrow2 (by decide) e.symm)).trans hc, h2⟩, hB.n, hB.t, hB.u⟩, h.near.touch _ _, h.holds.touch x hr, by rw [List.length_append, rcells_snoc]; exact ho, by rw [List.length_append]; have := h.len; simp; omega, fun y hy => ?_⟩
  rcases List.mem_append.1 hy with h3 | h3
  · exact h.tb y h3
  · simp at h3; subst h3; exact hx
theorem tinfo21 : ∃ i0 : TypeInfo, Try.prog.info? 34 = some i0 ∧ i0.zero = some (.agg #[.int .i64 0, .int .i64 0, .int .i64 0]) ∧ i0.size = 3 ∧ i0.bytes = 24 := ⟨_, rfl, rfl, rfl, rfl⟩
end Go.Proofs.Ytmgpnpmdmelnkaa
