import Derived.Test.YtjllnojhhlkpoaaM11b
import Derived.WalkKit
import Derived.ProofKit
import Derived.LoopTactic
import Derived.Outline
import Derived.WalkSpells
import Derived.WalkLawsBesides
import Derived.Lib.Hide
import Derived.Deep.LoopGhost
import Derived.Deep.QuietTactic
import Derived.BigQuiet
import Derived.ShutString
import Derived.IntWalk
import Derived.Lib.MinMax
import Derived.Deep.RegionWith
import Derived.Deep.RegionHeld3
namespace Go.Proofs.Ytjllnojhhlkpoaa
open Go.ChangeShapes Go.WideShapes Go.ChangeAt Go.RowKit
open Dk
set_option linter.unusedVariables false
set_option linter.unusedSimpArgs false
/-- What the reference's Do answers. -/
def RDo (d : D) (i : Int) (g : F → F) (v : Value) (w : World) (e : Ending) (w' : World) : Prop := ∃ v', e = .returned (.tuple #[v', .int .i64 ((act d i g).2 : Nat)]) ∧ RkIs w' v' (act d i g).1 ∧ Gr w w' ∧ (rowOf v' = rowOf v ∨ w.heap.size ≤ rowOf v')
/-- The last of some new blocks holds a disk. -/
theorem last3 {w W : World} {x y z : Value} {t : TypeId} (hg : Gr w W) : (W.alloc (.cells #[x, y, z] t)).cell? ⟨W.heap.size, 0, none⟩ = some x ∧ (W.alloc (.cells #[x, y, z] t)).cell? ⟨W.heap.size, 1, none⟩ = some y ∧ (W.alloc (.cells #[x, y, z] t)).cell? ⟨W.heap.size, 2, none⟩ = some z ∧ Gr w (W.alloc (.cells #[x, y, z] t)) :=
  ⟨new_cell rfl rfl, new_cell rfl rfl, new_cell rfl rfl, hg.alloc _⟩
set_option maxRecDepth 100000 in
set_option maxHeartbeats 1000000 in
theorem refDo_out {d : D} (kind : Int) (i : Int) (g : F → F) (s : ByteArray) (v : Value) (w : World) (h : RkIs w v d) (hi : ¬ (0 ≤ i ∧ i < 4)) :
    Calls Try.prog 19 #[v, .int .i64 kind, .int .i64 i, .string s] w (RDo d i g v w) := by
  obtain ⟨gb, off, cap, rfl, ha⟩ := h
  have HA := Lib.hid ha
  have HE := Lib.hid (act_out (d := d) g hi)
  clear ha
  generalize hr : (d.room : Int) = R at *
  generalize hf : (d.fail : Int) - 1 = fv at *
  have HR := Lib.hid hr
  have HF := Lib.hid hf
  clear hr hf
  obtain ⟨r0, r1, r2, hg⟩ := last3 (w := w) (W := w.alloc (.cells #[.slice (some ⟨gb, off, none⟩) 4 cap, .int .i64 R, .int .i64 fv] 28)) (x := .slice (some ⟨gb, off, none⟩) 4 cap) (y := .int .i64 R) (z := .int .i64 fv) (t := 28) ((Gr.refl w).alloc _)
  have hsz : (w.alloc (.cells #[.slice (some ⟨gb, off, none⟩) 4 cap, .int .i64 R, .int .i64 fv] 28)).heap.size = w.heap.size + 1 := by simp
  rw [hsz] at r0 r1 r2
  have HC := Lib.hid (And.intro r0 (And.intro r1 r2))
  have HG := Lib.hid hg
  clear r0 r1 r2 hg hsz
  rcases Int.lt_or_le i 0 with h0 | h0
  · go_enter Try.func19, Try.ntmps19
    go_wp2
    obtain ⟨r0, r1, r2⟩ := HC.out
    refine bodyPost_ret (v := .tuple #[.agg #[.slice (some ⟨gb, off, none⟩) 4 cap, .int .i64 R, .int .i64 fv], .int .i64 1]) (by simp [results, Try.results19, go_sem, r0, r1, r2]; try rfl) rfl ?_
    exact ⟨_, by rw [HE.out]; rfl, by rw [HE.out]; exact ⟨gb, off, cap, by rw [HR.out, HF.out], HA.out.gr HG.out⟩, HG.out, .inl (by rfl)⟩
  · have h3 : 3 < i := by omega
    go_enter Try.func19, Try.ntmps19
    go_wp2
    obtain ⟨r0, r1, r2⟩ := HC.out
    refine bodyPost_ret (v := .tuple #[.agg #[.slice (some ⟨gb, off, none⟩) 4 cap, .int .i64 R, .int .i64 fv], .int .i64 1]) (by simp [results, Try.results19, go_sem, r0, r1, r2]; try rfl) rfl ?_
    exact ⟨_, by rw [HE.out]; rfl, by rw [HE.out]; exact ⟨gb, off, cap, by rw [HR.out, HF.out], HA.out.gr HG.out⟩, HG.out, .inl (by rfl)⟩
set_option maxRecDepth 100000 in
set_option maxHeartbeats 1000000 in
theorem refDo_io {d : D} (kind : Int) (k : Nat) (hk : k < 4) (g : F → F) (s : ByteArray) (v : Value) (w : World) (h : RkIs w v d) (h1 : d.fail = 1) :
    Calls Try.prog 19 #[v, .int .i64 kind, .int .i64 (k : Nat), .string s] w (RDo d (k : Nat) g v w) := by
  obtain ⟨gb, off, cap, rfl, ha⟩ := h
  have HA := Lib.hid ha
  have HE := Lib.hid (act_io g hk h1)
  have HT := Lib.hid (show (tick d).fail = 0 by show d.fail - 1 = 0; omega)
  have HTR := Lib.hid (show (tick d).room = d.room from rfl)
  clear ha
  have hf : (d.fail : Int) - 1 = 0 := by omega
  rw [hf]
  have hk4 : (k : Int) < 4 := by omega
  generalize hr : (d.room : Int) = R at *
  have HR := Lib.hid hr
  clear hr hf h1
  obtain ⟨r0, r1, r2, hg⟩ := last3 (w := w) (W := w.alloc (.cells #[.slice (some ⟨gb, off, none⟩) 4 cap, .int .i64 R, .int .i64 (-1)] 28)) (x := .slice (some ⟨gb, off, none⟩) 4 cap) (y := .int .i64 R) (z := .int .i64 (-1)) (t := 28) ((Gr.refl w).alloc _)
  have hsz : (w.alloc (.cells #[.slice (some ⟨gb, off, none⟩) 4 cap, .int .i64 R, .int .i64 (-1)] 28)).heap.size = w.heap.size + 1 := by simp
  rw [hsz] at r0 r1 r2
  have HC := Lib.hid (And.intro r0 (And.intro r1 r2))
  have HG := Lib.hid hg
  clear r0 r1 r2 hg hsz
  go_enter Try.func19, Try.ntmps19
  go_wp2
  obtain ⟨r0, r1, r2⟩ := HC.out
  refine bodyPost_ret (v := .tuple #[.agg #[.slice (some ⟨gb, off, none⟩) 4 cap, .int .i64 R, .int .i64 (-1)], .int .i64 8]) (by simp [results, Try.results19, go_sem, r0, r1, r2]; try rfl) rfl ?_
  exact ⟨_, by rw [HE.out]; rfl, by rw [HE.out]; exact ⟨gb, off, cap, by rw [HTR.out, HR.out, HT.out]; rfl, HA.out.gr HG.out⟩, HG.out, .inl (by rfl)⟩
end Go.Proofs.Ytjllnojhhlkpoaa
