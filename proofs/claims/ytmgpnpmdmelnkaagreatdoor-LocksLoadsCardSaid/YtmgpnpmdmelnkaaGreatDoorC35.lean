import Derived.Test.YtmgpnpmdmelnkaaGreatDoorK2
import Derived.WalkKit
import Derived.ProofKit
import Derived.LoopTactic
import Derived.Outline
import Derived.WalkSpells
import Derived.WalkLawsBesides
import Derived.Lib.Hide
import Derived.Deep.LoopGhost
import Derived.Deep.QuietTactic
import Derived.BigQuiet
import Derived.ShutString
import Derived.Deep.MidRow
namespace Go.Proofs.YtmgpnpmdmelnkaaGreatDoor
open Go.ChangeShapes Go.WideShapes Go.ChangeAt Go.RowKit
set_option linter.unusedVariables false
set_option linter.unusedSimpArgs false
/-- A store of a whole value into a block of as many cells, behind a letter. -/
theorem blk_put {w : World} {c : Nat} {cur : Array Value} {t : TypeId} (h : Blk w c cur t) (R : Array Value) (hs : cur.size = R.size) (h1 : ∀ v ∈ R.toList, v.oneCell' = true) :
    ∃ ms : List Value, Value.agg R = Value.agg ms.toArray ∧ ms.toArray.size = R.size ∧ w.there c 0 ms.toArray.size ∧ ms.toArray.all (·.oneCell') = true ∧ w.grownBy (w.setCells c 0 ms) (some c) ∧ Blk (w.setCells c 0 ms) c R t := by
  have hsz : ∀ j, j < R.toList.length → (w.cell? ⟨c, 0 + j, none⟩).isSome = true := fun j hj => by
    rw [Nat.zero_add, h.cell (i := j) (Array.getElem?_eq_getElem (by rw [Array.length_toList] at hj; omega))]; rfl
  refine ⟨R.toList, by simp, by simp, fun j hj => ?_, all_oneCell_toArray h1, grown_cells c R.toList 0 w, ?_⟩
  · exact ⟨hsz j (by simpa using hj), h.free _⟩
  · obtain ⟨c2, hc2, z2⟩ := heap_setCells R.toList 0 w cur h
    have e : c2 = R := by
      apply Array.ext (by omega)
      intro i h2 h3
      have h4 := World.cell?_setCells_in c R.toList 0 w hsz i (by rw [Array.length_toList]; exact h3)
      rw [Nat.zero_add, cell_of_row _ c i c2 _ _ hc2, Array.getElem?_eq_getElem h2] at h4
      simpa using h4
    rw [e] at hc2
    exact hc2
theorem blk_store {P : Program} {w : World} {c : Nat} {cur : Array Value} {t : TypeId} (h : Blk w c cur t) (RL : List Value) (hs : cur.size = RL.length) (h1 : ∀ v ∈ RL, v.oneCell' = true) :
    ∃ ms : List Value, RL = ms ∧ ms.length = RL.length ∧ (storeCells ⟨c, 0, none⟩ ms).run P w = .ok () (w.setCells c 0 ms) ∧ w.grownBy (w.setCells c 0 ms) (some c) ∧ Blk (w.setCells c 0 ms) c RL.toArray t := by
  obtain ⟨ms, hms, _, hT, _, hgr, hB⟩ := blk_put h RL.toArray (by simpa using hs) (by simpa using h1)
  have e : ms = RL := by simpa using hms.symm
  subst e
  refine ⟨ms, rfl, rfl, ?_, hgr, hB⟩
  have := run_storeCells_cells (P := P) c 0 ms 0 w (fun j hj => by simpa using (hT j (by simpa using hj)).1) (fun j hj => by simpa using (hT j (by simpa using hj)).2) h1
  simpa using this
theorem Blk.put_other {w : World} {b c : Nat} {cs : Array Value} {t : TypeId} {ms : List Value} (h : Blk w b cs t) (hg : w.grownBy (w.setCells c 0 ms) (some c)) (hne : b ≠ c) : Blk (w.setCells c 0 ms) b cs t := (hg.block b h.lt (fun e => hne (Option.some.inj e))).trans h
theorem gr_put {w w1 : World} {c : Nat} {ms : List Value} (h : Gr w w1) (hg : w1.grownBy (w1.setCells c 0 ms) (some c)) (hc : w.heap.size ≤ c) : Gr w (w1.setCells c 0 ms) :=
  Below.trans h ⟨hg.os, hg.tape, hg.output, hg.size, fun k hk => hg.block k (Nat.lt_of_lt_of_le hk h.size) (fun e => by have := Option.some.inj e; omega)⟩
end Go.Proofs.YtmgpnpmdmelnkaaGreatDoor
