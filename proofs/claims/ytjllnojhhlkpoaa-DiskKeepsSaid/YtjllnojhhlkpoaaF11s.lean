import Derived.Test.YtjllnojhhlkpoaaF11r
import Derived.WalkKit
import Derived.ProofKit
import Derived.LoopTactic
import Derived.Outline
import Derived.WalkSpells
import Derived.WalkLawsBesides
import Derived.Lib.Hide
import Derived.Deep.LoopGhost
import Derived.Deep.QuietTactic
import Derived.BigQuiet
import Derived.ShutString
import Derived.IntWalk
import Derived.Lib.MinMax
import Derived.Deep.RegionWith
import Derived.Deep.RegionHeld3
namespace Go.Proofs.Ytjllnojhhlkpoaa
open Go.ChangeShapes Go.WideShapes Go.ChangeAt Go.RowKit
open Dk
set_option linter.unusedVariables false
set_option linter.unusedSimpArgs false
/-- A disk of the reference, as a value. -/
def RkIs (w : World) (v : Value) (d : D) : Prop := ∃ g off cap, v = .agg #[.slice (some ⟨g, off, none⟩) 4 cap, .int .i64 d.room, .int .i64 ((d.fail : Int) - 1)] ∧ RkAt w g off d.fs
theorem RkIs.gr {w w' : World} {v : Value} {d : D} (h : RkIs w v d) (hg : Gr w w') : RkIs w' v d := by
  obtain ⟨g, off, cap, e, ha⟩ := h; exact ⟨g, off, cap, e, ha.gr hg⟩
/-- The block of a disk's row of files. -/
def rowOf : Value → Nat
  | .agg a => ((a.getD 0 (.bool false)).ownBlock).getD 0
  | _ => 0
theorem rowOf_is (g off cap : Nat) (x y : Value) : rowOf (.agg #[.slice (some ⟨g, off, none⟩) 4 cap, x, y]) = g := rfl
set_option maxRecDepth 100000 in
set_option maxHeartbeats 1000000 in
theorem refNew_any (r : Nat) (w : World) : Calls Try.prog 13 #[.int .i64 r] w fun e w' => ∃ v, e = .returned v ∧ RkIs w' v (new r) ∧ Gr w w' ∧ w.heap.size ≤ rowOf v := by
  have h0 : ¬ (r : Int) < 0 := by omega
  go_enter Try.func13, Try.ntmps13
  go_wp2
  have hsz : (w.alloc (.cells #[.slice (some ⟨w.heap.size + 1, 0, none⟩) 4 4, .int .i64 (r : Int), .int .i64 (-1)] 28)).heap.size = w.heap.size + 1 := by simp
  have m := (Gr.refl (w.alloc (.cells #[.slice (some ⟨w.heap.size + 1, 0, none⟩) 4 4, .int .i64 (r : Int), .int .i64 (-1)] 28))).alloc (.cells #[.string ⟨#[]⟩, .string ⟨#[]⟩, .bool false, .string ⟨#[]⟩, .string ⟨#[]⟩, .bool false, .string ⟨#[]⟩, .string ⟨#[]⟩, .bool false, .string ⟨#[]⟩, .string ⟨#[]⟩, .bool false] 106)
  have r0 := m.cell (b := w.heap.size) (o := 0) (new_cell rfl rfl)
  have r1 := m.cell (b := w.heap.size) (o := 1) (new_cell rfl rfl)
  have r2 := m.cell (b := w.heap.size) (o := 2) (new_cell rfl rfl)
  have HR : RkAt ((w.alloc (.cells #[.slice (some ⟨w.heap.size + 1, 0, none⟩) 4 4, .int .i64 (r : Int), .int .i64 (-1)] 28)).alloc (.cells #[.string ⟨#[]⟩, .string ⟨#[]⟩, .bool false, .string ⟨#[]⟩, .string ⟨#[]⟩, .bool false, .string ⟨#[]⟩, .string ⟨#[]⟩, .bool false, .string ⟨#[]⟩, .string ⟨#[]⟩, .bool false] 106)) (w.heap.size + 1) 0 (new r).fs := by
    intro k hk
    match k, hk with
    | 0, _ => exact ⟨new_cell hsz.symm rfl, new_cell hsz.symm rfl, new_cell hsz.symm rfl⟩
    | 1, _ => exact ⟨new_cell hsz.symm rfl, new_cell hsz.symm rfl, new_cell hsz.symm rfl⟩
    | 2, _ => exact ⟨new_cell hsz.symm rfl, new_cell hsz.symm rfl, new_cell hsz.symm rfl⟩
    | 3, _ => exact ⟨new_cell hsz.symm rfl, new_cell hsz.symm rfl, new_cell hsz.symm rfl⟩
  have HG := (((Gr.refl w).alloc (.cells #[.slice (some ⟨w.heap.size + 1, 0, none⟩) 4 4, .int .i64 (r : Int), .int .i64 (-1)] 28)).trans m)
  clear m hsz
  generalize ((w.alloc (.cells #[.slice (some ⟨w.heap.size + 1, 0, none⟩) 4 4, .int .i64 (r : Int), .int .i64 (-1)] 28)).alloc (.cells #[.string ⟨#[]⟩, .string ⟨#[]⟩, .bool false, .string ⟨#[]⟩, .string ⟨#[]⟩, .bool false, .string ⟨#[]⟩, .string ⟨#[]⟩, .bool false, .string ⟨#[]⟩, .string ⟨#[]⟩, .bool false] 106)) = w1 at *
  refine bodyPost_ret (v := .agg #[.slice (some ⟨w.heap.size + 1, 0, none⟩) 4 4, .int .i64 (r : Int), .int .i64 (-1)]) (by simp [results, Try.results13, go_sem, r0, r1, r2]; try rfl) rfl ?_
  exact ⟨_, rfl, ⟨_, _, _, rfl, HR⟩, HG, by rw [rowOf_is]; omega⟩
end Go.Proofs.Ytjllnojhhlkpoaa
