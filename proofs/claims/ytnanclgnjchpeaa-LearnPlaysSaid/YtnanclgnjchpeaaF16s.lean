import Derived.Test.YtnanclgnjchpeaaF16r
import Derived.WalkKit
import Derived.ProofKit
import Derived.LoopTactic
import Derived.Outline
import Derived.WalkSpells
import Derived.WalkLawsBesides
import Derived.Lib.Hide
import Derived.Deep.LoopGhost
import Derived.Deep.QuietTactic
import Derived.BigQuiet
import Derived.ShutString
import Derived.IntWalk
import Derived.BigQuiet
import Derived.Deep.MidRow
namespace Go.Proofs.Ytnanclgnjchpeaa
open Go.ChangeShapes Go.WideShapes Go.ChangeAt Go.RowKit
open Bal
set_option linter.unusedVariables false
set_option linter.unusedSimpArgs false
theorem info_msg : (Try.prog.info? 97).map (·.size) = some 11 := by kernel_rfl
theorem msg_put {w : World} {c : Nat} {cur : Array Value} {t : TypeId} (h : Blk w c cur t) (hs : cur.size = 11) (ms : List Value) (hl : ms.length = 11) (h1 : ∀ v ∈ ms, v.oneCell' = true) :
    w.there c 0 ms.toArray.size ∧ ms.toArray.all (·.oneCell') = true ∧ (∀ j (hj : j < 11), (w.setCells c 0 ms).cell? ⟨c, j, none⟩ = some (ms[j]'(by omega))) ∧ w.grownBy (w.setCells c 0 ms) (some c) := by
  have hsz : ∀ j, j < 11 → (w.cell? ⟨c, j, none⟩).isSome = true := fun j hj => by
    rw [h.cell (i := j) (Array.getElem?_eq_getElem (by omega))]; rfl
  refine ⟨fun j hj => ?_, all_oneCell_toArray h1, fun j hj => ?_, grown_cells c ms 0 w⟩
  · rw [Nat.zero_add]
    exact ⟨hsz j (by simpa [hl] using hj), h.free _⟩
  · have := World.cell?_setCells_in c ms 0 w (fun i hi => by rw [Nat.zero_add]; exact hsz i (by omega)) j (by omega)
    simpa using this
/-- A store of a whole message: eleven cells, behind a letter. -/
theorem msg_put11 {w : World} {c : Nat} {cur : Array Value} {t : TypeId} (h : Blk w c cur t) (hs : cur.size = 11) (R0 R1 R2 R3 R4 R5 R6 R7 R8 R9 R10 : Value) (h1 : ∀ v ∈ [R0, R1, R2, R3, R4, R5, R6, R7, R8, R9, R10], v.oneCell' = true) :
    ∃ ms : List Value, Value.agg #[R0, R1, R2, R3, R4, R5, R6, R7, R8, R9, R10] = Value.agg ms.toArray ∧ ms.toArray.size = 11 ∧ w.there c 0 ms.toArray.size ∧ ms.toArray.all (·.oneCell') = true ∧ w.grownBy (w.setCells c 0 ms) (some c) ∧ (w.setCells c 0 ms).cell? ⟨c, 0, none⟩ = some R0 ∧ (w.setCells c 0 ms).cell? ⟨c, 1, none⟩ = some R1 ∧ (w.setCells c 0 ms).cell? ⟨c, 2, none⟩ = some R2 ∧ (w.setCells c 0 ms).cell? ⟨c, 3, none⟩ = some R3 ∧ (w.setCells c 0 ms).cell? ⟨c, 4, none⟩ = some R4 ∧ (w.setCells c 0 ms).cell? ⟨c, 5, none⟩ = some R5 ∧ (w.setCells c 0 ms).cell? ⟨c, 6, none⟩ = some R6 ∧ (w.setCells c 0 ms).cell? ⟨c, 7, none⟩ = some R7 ∧ (w.setCells c 0 ms).cell? ⟨c, 8, none⟩ = some R8 ∧ (w.setCells c 0 ms).cell? ⟨c, 9, none⟩ = some R9 ∧ (w.setCells c 0 ms).cell? ⟨c, 10, none⟩ = some R10 := by
  obtain ⟨k1, k2, k3, k4⟩ := msg_put h hs [R0, R1, R2, R3, R4, R5, R6, R7, R8, R9, R10] rfl h1
  exact ⟨[R0, R1, R2, R3, R4, R5, R6, R7, R8, R9, R10], rfl, rfl, k1, k2, k4, k3 0 (by decide), k3 1 (by decide), k3 2 (by decide), k3 3 (by decide), k3 4 (by decide), k3 5 (by decide), k3 6 (by decide), k3 7 (by decide), k3 8 (by decide), k3 9 (by decide), k3 10 (by decide)⟩
theorem Far.grownV {w0 w w' : World} {b c : Nat} {v v1 : Value} (h : Far b v w0 w) (hg : w.grownBy w' (some c)) (hc : w0.heap.size ≤ c) : Far b v w0 w' :=
  ⟨hg.os.trans h.os, hg.tape.trans h.tape, hg.output.trans h.output, Nat.le_trans h.size hg.size, fun k hk h1 h2 => (hg.block k (Nat.lt_of_lt_of_le hk h.size) (fun e => by have := Option.some.inj e; omega)).trans (h.block k hk h1 h2)⟩
theorem Far.any {b : Nat} {v : Value} {w w' : World} (h : Far b (.slice none 0 0) w w') : Far b v w w' := ⟨h.os, h.tape, h.output, h.size, fun k hk hb _ => h.block k hk hb (by simp [Value.ownBlock])⟩
theorem Blk.far {w w' : World} {b c : Nat} {v : Value} {cs : Array Value} {t : TypeId} (h : Blk w c cs t) (hf : Far b v w w') (hb : c ≠ b) (hv : v.ownBlock ≠ some c) : Blk w' c cs t := (hf.block c h.lt hb hv).trans h
end Go.Proofs.Ytnanclgnjchpeaa
