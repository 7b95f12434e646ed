import Derived.Test.YtjllnojhhlkpoaaF11t
import Derived.Test.YtjllnojhhlkpoaaC23
import Derived.Test.YtjllnojhhlkpoaaC12
import Derived.WalkKit
import Derived.ProofKit
import Derived.LoopTactic
import Derived.Outline
import Derived.WalkSpells
import Derived.WalkLawsBesides
import Derived.Lib.Hide
import Derived.Deep.LoopGhost
import Derived.Deep.QuietTactic
import Derived.BigQuiet
import Derived.ShutString
namespace Go.Proofs.Ytjllnojhhlkpoaa
open Go.ChangeShapes Go.WideShapes Go.ChangeAt Go.RowKit
open Dk
set_option linter.unusedVariables false
set_option linter.unusedSimpArgs false
/-- A call of the statement, made of a disk. -/
def step (d : D) (p : ActD) : D :=
  if p.K = 0 then (act d p.F (gApp (cutB p.S 60))).1
  else if p.K = 1 then (act d p.F (gPut (cutB p.S 60))).1
  else if p.K = 2 then (act d p.F gKeep).1
  else if p.K = 3 then crash d (p.C.take 8)
  else if p.K = 4 then setFail d p.N
  else if p.K = 5 then spoil d p.F p.N (UInt8.ofNat (cutB p.S 60).size)
  else d
theorem step_ok {d : D} (h : d.Ok) (p : ActD) : (step d p).Ok := by
  unfold step
  split
  · exact act_ok h _ _ (fun f hf => gApp_ok _ hf)
  split
  · exact act_ok h _ _ (fun f _ => gPut_ok _ f)
  split
  · exact act_ok h _ _ (fun f _ => gKeep_ok f)
  split
  · exact crash_ok h _
  split
  · exact setFail_ok h _
  split
  · exact spoil_ok h _ _ _
  · exact h
theorem act_room (d : D) (i : Int) (g : F → F) : (act d i g).1.room = d.room := by
  unfold act
  split
  · split
    · rfl
    · unfold repl; split <;> rfl
  · rfl
theorem spoil_room (d : D) (i n : Int) (b : UInt8) : (spoil d i n b).room = d.room := by
  unfold spoil; split <;> rfl
theorem step_room (d : D) (p : ActD) : (step d p).room = d.room := by
  unfold step
  split
  · exact act_room _ _ _
  split
  · exact act_room _ _ _
  split
  · exact act_room _ _ _
  split
  · rfl
  split
  · rfl
  split
  · exact spoil_room _ _ _ _
  · rfl
theorem step_kept {k : Nat} {s : ByteArray} {d : D} (h : Kept k s d) (ho : d.Ok) (hk : k < 4) (p : ActD) (h5 : p.K ≠ 5) (h1 : p.K ≠ 1 ∨ p.F ≠ (k : Int)) : Kept k s (step d p) := by
  unfold step
  split
  · exact kept_app h _ _
  split
  · rename_i e; exact kept_put h _ _ (by rcases h1 with h1 | h1; exact absurd e h1; exact h1)
  split
  · exact kept_sync h ho hk _
  split
  · exact kept_crash h ho hk _
  split
  · exact kept_fail h _
  · exact h
/-- What the reference's Do answers. -/
theorem act_out {d : D} {i : Int} (g : F → F) (h : ¬ (0 ≤ i ∧ i < 4)) : act d i g = (d, 1) := by unfold act; rw [if_neg h]
theorem act_io {d : D} {k : Nat} (g : F → F) (hk : k < 4) (h : d.fail = 1) : act d (k : Int) g = (tick d, 8) := by unfold act; rw [if_pos ⟨by omega, by omega⟩, if_pos h]
theorem act_yes {d : D} {k : Nat} (g : F → F) (hk : k < 4) (h : d.fail ≠ 1) (hf : full (tick d) k (g (d.fs k)) = false) : act d (k : Int) g = (putF (tick d) k (g (d.fs k)), 0) := by
  unfold act; rw [if_pos ⟨by omega, by omega⟩, if_neg h, show ((k : Int)).toNat = k from rfl]; unfold repl; rw [if_neg (by rw [hf]; simp)]
theorem act_no {d : D} {k : Nat} (g : F → F) (hk : k < 4) (h : d.fail ≠ 1) (hf : full (tick d) k (g (d.fs k)) = true) : act d (k : Int) g = (tick d, 17) := by
  unfold act; rw [if_pos ⟨by omega, by omega⟩, if_neg h, show ((k : Int)).toNat = k from rfl]; unfold repl; rw [if_pos hf]
theorem full_iff {d : D} (h : d.Ok) (k : Nat) (hk : k < 4) (f : F) : full d k f = decide (d.room < used (putF d k f).fs) := by
  unfold full
  have h1 := used_upd d.fs k f hk
  have h2 : used (putF d k f).fs = used (upd d.fs k f) := rfl
  rw [h2]
  by_cases hc : d.room + (d.fs k).size < used d.fs + f.size
  · rw [decide_eq_true hc, decide_eq_true (by omega)]
  · rw [decide_eq_false hc, decide_eq_false (by omega)]
end Go.Proofs.Ytjllnojhhlkpoaa
