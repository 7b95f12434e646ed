import Derived.Test.YtnanclgnjchpeaaF07q
import Derived.Test.YtnanclgnjchpeaaF07o
import Derived.WalkKit
import Derived.ProofKit
import Derived.LoopTactic
import Derived.Outline
import Derived.WalkSpells
import Derived.WalkLawsBesides
import Derived.Lib.Hide
import Derived.Deep.LoopGhost
import Derived.Deep.QuietTactic
import Derived.BigQuiet
import Derived.ShutString
import Derived.IntWalk
import Derived.Deep.RegionHeld3
namespace Go.Proofs.Ytnanclgnjchpeaa
open Go.ChangeShapes Go.WideShapes Go.ChangeAt Go.RowKit
open Grids
set_option linter.unusedVariables false
set_option linter.unusedSimpArgs false
/-- A count lies in block b: its configuration, its kind, the nodes that have answered. -/
structure VtIs (w : World) (b : Nat) (r p W z1 n1 z2 n2 : Nat) (f : Bool) (s : Nat) : Prop where
  c0 : w.cell? ⟨b, 0, none⟩ = some (.int .i64 r)
  c1 : w.cell? ⟨b, 1, none⟩ = some (.int .i64 p)
  c2 : w.cell? ⟨b, 2, none⟩ = some (.int .u32 W)
  c3 : w.cell? ⟨b, 3, none⟩ = some (.int .i64 z1)
  c4 : w.cell? ⟨b, 4, none⟩ = some (.int .i64 n1)
  c5 : w.cell? ⟨b, 5, none⟩ = some (.int .i64 z2)
  c6 : w.cell? ⟨b, 6, none⟩ = some (.int .i64 n2)
  c7 : w.cell? ⟨b, 7, none⟩ = some (.bool f)
  c8 : w.cell? ⟨b, 8, none⟩ = some (.int .u32 s)
  f8 : w.frozen? ⟨b, 8, none⟩ = false
  lt : s < 4294967296
theorem VtIs.gr {w w' : World} {b r p W z1 n1 z2 n2 s : Nat} {f : Bool} (h : VtIs w b r p W z1 n1 z2 n2 f s) (hg : Gr w w') : VtIs w' b r p W z1 n1 z2 n2 f s :=
  ⟨hg.cell h.c0, hg.cell h.c1, hg.cell h.c2, hg.cell h.c3, hg.cell h.c4, hg.cell h.c5, hg.cell h.c6, hg.cell h.c7, hg.cell h.c8, (hg.frozen (cell_lt h.c8)).trans h.f8, h.lt⟩
theorem VtIs.set {w : World} {b r p W z1 n1 z2 n2 s s' : Nat} {f : Bool} (h : VtIs w b r p W z1 n1 z2 n2 f s) (hs : s' < 4294967296) : VtIs (w.setCell ⟨b, 8, none⟩ (.int .u32 (s' : Nat))) b r p W z1 n1 z2 n2 f s' := by
  have o : ∀ i v, i ≠ 8 → w.cell? ⟨b, i, none⟩ = some v → (w.setCell ⟨b, 8, none⟩ (.int .u32 (s' : Nat))).cell? ⟨b, i, none⟩ = some v := fun i v hi hv => by
    rw [World.cell?_setCell_other _ _ _ _ (by simp [hi])]; exact hv
  exact ⟨o 0 _ (by decide) h.c0, o 1 _ (by decide) h.c1, o 2 _ (by decide) h.c2, o 3 _ (by decide) h.c3, o 4 _ (by decide) h.c4, o 5 _ (by decide) h.c5, o 6 _ (by decide) h.c6, o 7 _ (by decide) h.c7,
    World.cell?_setCell_same' _ _ _ (by rw [h.c8]; rfl), by rw [World.frozen?_setCell]; exact h.f8, hs⟩
/-- A new count. -/
def NewIs (r p W z1 n1 z2 n2 : Nat) (f : Bool) (w : World) (e : Ending) (w' : World) : Prop := ∃ b, e = .returned (.pointer (some ⟨b, 0, none⟩)) ∧ w.heap.size ≤ b ∧ VtIs w' b r p W z1 n1 z2 n2 f 0 ∧ Gr w w'
theorem newVt {w : World} {b : Nat} (hb : b = w.heap.size) (r p W z1 n1 z2 n2 : Nat) (f : Bool) (s : Nat) (hs : s < 4294967296) (t : TypeId) :
    VtIs (w.alloc (.cells #[.int .i64 r, .int .i64 p, .int .u32 W, .int .i64 z1, .int .i64 n1, .int .i64 z2, .int .i64 n2, .bool f, .int .u32 s] t)) b r p W z1 n1 z2 n2 f s :=
  ⟨new_cell hb rfl, new_cell hb rfl, new_cell hb rfl, new_cell hb rfl, new_cell hb rfl, new_cell hb rfl, new_cell hb rfl, new_cell hb rfl, new_cell hb rfl, new_free hb, hs⟩
set_option maxRecDepth 100000 in
theorem vSecond_any (r p W z1 n1 z2 n2 : Nat) (w : World) :
    Calls Try.prog 168 #[.agg #[.int .i64 r, .int .i64 p, .int .u32 W, .int .i64 z1, .int .i64 n1, .int .i64 z2, .int .i64 n2]] w (NewIs r p W z1 n1 z2 n2 false w) := by
  go_enter Try.func168, Try.ntmps168
  go_wp2
  go_ret
  refine ⟨_, rfl, ?_, newVt ?_ _ _ _ _ _ _ _ _ _ (by decide) _, ((Gr.refl _).alloc _).alloc _⟩ <;> simp
/-- A copy. -/
def CopyIs (b r p W z1 n1 z2 n2 : Nat) (f : Bool) (s : Nat) (w : World) (e : Ending) (w' : World) : Prop := ∃ d, e = .returned (.pointer (some ⟨d, 0, none⟩)) ∧ w.heap.size ≤ d ∧ VtIs w' d r p W z1 n1 z2 n2 f s ∧ Gr w w'
end Go.Proofs.Ytnanclgnjchpeaa
