import Derived.Test.YtfcfbecfamemlaaL01j
import Derived.WalkKit
import Derived.ProofKit
import Derived.LoopTactic
import Derived.Outline
import Derived.WalkSpells
import Derived.WalkLawsBesides
import Derived.Lib.Hide
import Derived.Deep.LoopGhost
import Derived.Deep.QuietTactic
import Derived.BigQuiet
import Derived.ShutString
import Derived.Deep.RegionWith
import Derived.Deep.RegionHeld3
namespace Go.Proofs.Ytfcfbecfamemlaa
open Go.ChangeShapes Go.WideShapes Go.ChangeAt Go.RowKit
set_option linter.unusedVariables false
set_option linter.unusedSimpArgs false
theorem isEmpty_of {r : ByteArray} (h : 0 < r.size) : r.toList.isEmpty = false := by
  cases e : r.toList with
  | cons _ _ => rfl
  | nil =>
    exfalso
    have h2 : r.toList.length = r.size := by rw [ByteArray.toList_eq]; exact Array.length_toList
    rw [e] at h2; simp at h2; omega
set_option maxRecDepth 100000 in
theorem refDone_any (r : ByteArray) (e : Nat) (w : World) :
    Calls Try.prog 76 #[.agg #[.string r, .int .i64 (e : Int)]] w fun en w' => en = .returned (.agg #[.string r, .int .i64 (doneE r e : Nat)]) ∧ Gr w w' := by
  by_cases hz : 0 < r.size
  · have E : doneE r e = failE e 4 := by unfold doneE; rw [if_pos hz]
    rw [E]
    have t1 := isEmpty_of hz
    clear E hz
    go_enter Try.func76, Try.ntmps76
    go_wp2_with fail
    refine (refFail_any r e 4 _).mono ?_
    rintro en w1 ⟨rfl, hg⟩
    have o0 : w1.cell? ⟨w.heap.size + 1, 0, none⟩ = some (.string ⟨#[]⟩) := by simpa using hg.own.1 0 _ rfl
    have o1 : w1.cell? ⟨w.heap.size + 1, 1, none⟩ = some (.int .i64 0) := by simpa using hg.own.1 1 _ rfl
    have o2 : w1.frozen? ⟨w.heap.size + 1, 0, none⟩ = false := by simpa using hg.own.2.1 0
    have o3 : w1.frozen? ⟨w.heap.size + 1, 1, none⟩ = false := by simpa using hg.own.2.1 1
    have HG := Lib.hid (((Gr.refl w).alloc _).alloc _ |>.trans hg)
    clear hg
    go_wp2
    exact bodyPost_ret (v := .agg #[.string r, .int .i64 (failE e 4 : Nat)]) (by simp [results, Try.results76, go_sem, o0, o1, o2, o3]) rfl ⟨rfl, (HG.out.setCell (Nat.le_succ _) _).setCell (Nat.le_succ _) _⟩
  · obtain rfl : r = ⟨#[]⟩ := ByteArray.ext (Array.eq_empty_of_size_eq_zero (show r.size = 0 by omega))
    have E : doneE ⟨#[]⟩ e = e := rfl
    rw [E]
    go_enter Try.func76, Try.ntmps76
    go_wp2
    exact bodyPost_ret (v := .agg #[.string ⟨#[]⟩, .int .i64 (e : Nat)]) (by simp [results, Try.results76, go_sem]) rfl ⟨rfl, by first | exact Gr.refl _ | exact (Gr.refl _).alloc _ | exact ((Gr.refl _).alloc _).alloc _⟩
end Go.Proofs.Ytfcfbecfamemlaa
