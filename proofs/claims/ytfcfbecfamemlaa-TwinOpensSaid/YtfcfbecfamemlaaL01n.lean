import Derived.Test.YtfcfbecfamemlaaL01m
import Derived.WalkKit
import Derived.ProofKit
import Derived.LoopTactic
import Derived.Outline
import Derived.WalkSpells
import Derived.WalkLawsBesides
import Derived.Lib.Hide
import Derived.Deep.LoopGhost
import Derived.Deep.QuietTactic
import Derived.BigQuiet
import Derived.ShutString
import Derived.Deep.RegionWith
import Derived.Deep.RegionHeld3
namespace Go.Proofs.Ytfcfbecfamemlaa
open Go.ChangeShapes Go.WideShapes Go.ChangeAt Go.RowKit
open Enc
set_option linter.unusedVariables false
set_option linter.unusedSimpArgs false
theorem ru_is {r a : ByteArray} {e b c : Nat} (h : uS r e = (a, b, c)) (w : World) (hr : r.size ≤ 1000000) :
    Calls Try.prog 74 #[.agg #[.string r, .int .i64 (e : Int)]] w fun en w' => en = .returned (.tuple #[.agg #[.string a, .int .i64 (b : Int)], .int .u64 (c : Int)]) ∧ Gr w w' := by
  have := refU2_any r e w hr
  unfold RUIs at this
  rwa [h] at this
def RNIs (r : ByteArray) (e : Nat) (most : Int) (w : World) (en : Ending) (w' : World) : Prop :=
  en = .returned (.tuple #[.agg #[.string (nS r e most).1, .int .i64 ((nS r e most).2.1 : Nat)], .int .i64 ((nS r e most).2.2 : Nat)]) ∧ Gr w w'
theorem rnIs_mk {r a : ByteArray} {e b c : Nat} {most : Int} {w w' : World} (h : Hid (nS r e most = (a, b, c))) (hg : Gr w w') : RNIs r e most w (.returned (.tuple #[.agg #[.string a, .int .i64 (b : Int)], .int .i64 (c : Int)])) w' := by
  unfold RNIs; rw [h.out]; exact ⟨rfl, hg⟩
set_option maxRecDepth 100000 in
set_option maxHeartbeats 1000000 in
theorem refN_walk (r a : ByteArray) (e b c : Nat) (most : Int) (M : Nat) (hM : most < 0 ∧ M = 0 ∨ most = (M : Int)) (hb : most ≤ 9223372036854775807) (w : World) (hr : r.size ≤ 1000000) (hu : Hid (uS r e = (a, b, c)))
    (hc : b = 0 ∧ M < c ∧ Hid (nS r e most = (a, 6, 0)) ∨ b = 0 ∧ c ≤ M ∧ Hid (nS r e most = (a, 0, c)) ∨ b ≠ 0 ∧ Hid (nS r e most = (a, b, 0))) :
    Calls Try.prog 89 #[.agg #[.string r, .int .i64 (e : Int)], .int .i64 most] w (RNIs r e most w) := by
  rcases hM with ⟨hneg, rfl⟩ | rfl
  all_goals
    rcases hc with ⟨rfl, hlt, E⟩ | ⟨rfl, hle, E⟩ | ⟨hbn, E⟩
    · go_enter Try.func89, Try.ntmps89
      go_wp2_with fail
      refine (ru_is hu.out _ hr).mono ?_
      rintro en w1 ⟨rfl, hg⟩
      have o0 : w1.cell? ⟨w.heap.size + 1, 0, none⟩ = some (.string ⟨#[]⟩) := by simpa using hg.own.1 0 _ rfl
      have o1 : w1.cell? ⟨w.heap.size + 1, 1, none⟩ = some (.int .i64 0) := by simpa using hg.own.1 1 _ rfl
      have o2 : w1.frozen? ⟨w.heap.size + 1, 0, none⟩ = false := by simpa using hg.own.2.1 0
      have o3 : w1.frozen? ⟨w.heap.size + 1, 1, none⟩ = false := by simpa using hg.own.2.1 1
      have ol2 : w.heap.size + 1 < w1.heap.size := by simpa using hg.own.2.2
      have HG := Lib.hid (((Gr.refl w).alloc _).alloc _ |>.trans hg)
      clear hg
      go_wp2
      exact bodyPost_ret (v := .tuple #[.agg #[.string a, .int .i64 (6 : Nat)], .int .i64 (0 : Nat)]) (by simp [results, Try.results89, go_sem, o0, o1, o2, o3, ol2, Nat.ne_of_lt ol2, Nat.ne_of_gt ol2]) rfl (rnIs_mk E (((HG.out.setCell (Nat.le_succ _) _).setCell (Nat.le_succ _) _).alloc _))
    · go_enter Try.func89, Try.ntmps89
      go_wp2_with fail
      refine (ru_is hu.out _ hr).mono ?_
      rintro en w1 ⟨rfl, hg⟩
      have o0 : w1.cell? ⟨w.heap.size + 1, 0, none⟩ = some (.string ⟨#[]⟩) := by simpa using hg.own.1 0 _ rfl
      have o1 : w1.cell? ⟨w.heap.size + 1, 1, none⟩ = some (.int .i64 0) := by simpa using hg.own.1 1 _ rfl
      have o2 : w1.frozen? ⟨w.heap.size + 1, 0, none⟩ = false := by simpa using hg.own.2.1 0
      have o3 : w1.frozen? ⟨w.heap.size + 1, 1, none⟩ = false := by simpa using hg.own.2.1 1
      have ol2 : w.heap.size + 1 < w1.heap.size := by simpa using hg.own.2.2
      have HG := Lib.hid (((Gr.refl w).alloc _).alloc _ |>.trans hg)
      clear hg
      go_wp2
      exact bodyPost_ret (v := .tuple #[.agg #[.string a, .int .i64 (0 : Nat)], .int .i64 (c : Nat)]) (by simp [results, Try.results89, go_sem, o0, o1, o2, o3, ol2, Nat.ne_of_lt ol2, Nat.ne_of_gt ol2]) rfl (rnIs_mk E (((HG.out.setCell (Nat.le_succ _) _).setCell (Nat.le_succ _) _).alloc _))
    · have t1 : ((b : Int) == 0) = false := by simp; omega
      have t2 : ((b : Int) != 0) = true := by simp; omega
      clear hbn
      go_enter Try.func89, Try.ntmps89
      go_wp2_with fail
      refine (ru_is hu.out _ hr).mono ?_
      rintro en w1 ⟨rfl, hg⟩
      have o0 : w1.cell? ⟨w.heap.size + 1, 0, none⟩ = some (.string ⟨#[]⟩) := by simpa using hg.own.1 0 _ rfl
      have o1 : w1.cell? ⟨w.heap.size + 1, 1, none⟩ = some (.int .i64 0) := by simpa using hg.own.1 1 _ rfl
      have o2 : w1.frozen? ⟨w.heap.size + 1, 0, none⟩ = false := by simpa using hg.own.2.1 0
      have o3 : w1.frozen? ⟨w.heap.size + 1, 1, none⟩ = false := by simpa using hg.own.2.1 1
      have ol2 : w.heap.size + 1 < w1.heap.size := by simpa using hg.own.2.2
      have HG := Lib.hid (((Gr.refl w).alloc _).alloc _ |>.trans hg)
      clear hg
      go_wp2
      exact bodyPost_ret (v := .tuple #[.agg #[.string a, .int .i64 (b : Nat)], .int .i64 (0 : Nat)]) (by simp [results, Try.results89, go_sem, o0, o1, o2, o3, ol2, Nat.ne_of_lt ol2, Nat.ne_of_gt ol2]) rfl (rnIs_mk E (((HG.out.setCell (Nat.le_succ _) _).setCell (Nat.le_succ _) _).alloc _))
end Go.Proofs.Ytfcfbecfamemlaa
