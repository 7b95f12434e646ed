import Derived.Test.YtfcfbecfamemlaaL01g
import Derived.WalkKit
import Derived.ProofKit
import Derived.LoopTactic
import Derived.Outline
import Derived.WalkSpells
import Derived.WalkLawsBesides
import Derived.Lib.Hide
import Derived.Deep.LoopGhost
import Derived.Deep.QuietTactic
import Derived.BigQuiet
import Derived.ShutString
import Derived.Deep.RegionWith
import Derived.Deep.RegionHeld3
namespace Go.Proofs.Ytfcfbecfamemlaa
open Go.ChangeShapes Go.WideShapes Go.ChangeAt Go.RowKit
set_option linter.unusedVariables false
/-- A cursor of the reference, as a value. -/
def curV (r : ByteArray) (e : Nat) : Value := .agg #[.string r, .int .i64 (e : Int)]
set_option maxRecDepth 100000 in
theorem refFail_any (r : ByteArray) (e x : Nat) (w : World) :
    Calls Try.prog 88 #[.agg #[.string r, .int .i64 (e : Int)], .int .i64 (x : Int)] w fun en w' => en = .returned (.agg #[.string r, .int .i64 (failE e x : Nat)]) ∧ Gr w w' := by
  by_cases he : e = 0
  · subst he
    go_enter Try.func88, Try.ntmps88
    go_wp2
    exact bodyPost_ret (v := .agg #[.string r, .int .i64 (x : Nat)]) (by simp [results, Try.results88, go_sem]) rfl ⟨rfl, by first | exact (Gr.refl _).alloc _ | exact ((Gr.refl _).alloc _).alloc _⟩
  · have hE : failE e x = e := by unfold failE; rw [if_neg he]
    rw [hE]
    go_enter Try.func88, Try.ntmps88
    go_wp2
    exact bodyPost_ret (v := .agg #[.string r, .int .i64 (e : Nat)]) (by simp [results, Try.results88, go_sem]) rfl ⟨rfl, by first | exact (Gr.refl _).alloc _ | exact ((Gr.refl _).alloc _).alloc _⟩
def RTakeIs (r : ByteArray) (e n : Nat) (w : World) (en : Ending) (w' : World) : Prop :=
  en = .returned (.tuple #[.agg #[.string (takeS r e n).1, .int .i64 ((takeS r e n).2.1 : Nat)], .string (takeS r e n).2.2]) ∧ Gr w w'
theorem rtakeIs_mk {r a c : ByteArray} {e n b : Nat} {w w' : World} (h : Hid (takeS r e n = (a, b, c))) (hg : Gr w w') : RTakeIs r e n w (.returned (.tuple #[.agg #[.string a, .int .i64 (b : Int)], .string c])) w' := by
  unfold RTakeIs; rw [h.out]; exact ⟨rfl, hg⟩
set_option maxRecDepth 100000 in
theorem refTake_any (r : ByteArray) (e n : Nat) (w : World) (hr : r.size ≤ 1000000) (hn : n ≤ 9223372036854775807) :
    Calls Try.prog 87 #[.agg #[.string r, .int .i64 (e : Int)], .int .i64 (n : Int)] w (RTakeIs r e n w) := by
  by_cases he : e = 0
  · subst he
    by_cases hz : r.size < n
    · have HE : Hid (takeS r 0 n = (r, 3, ⟨#[]⟩)) := Lib.hid (by unfold takeS; rw [if_neg (by omega), if_pos hz])
      go_enter Try.func87, Try.ntmps87
      go_wp2
      exact bodyPost_ret (v := .tuple #[.agg #[.string r, .int .i64 (3 : Nat)], .string ⟨#[]⟩]) (by simp [results, Try.results87, go_sem]) rfl (rtakeIs_mk HE (by first | exact (Gr.refl _).alloc _ | exact ((Gr.refl _).alloc _).alloc _ | exact (((Gr.refl _).alloc _).alloc _).drew))
    · have HE : Hid (takeS r 0 n = (r.extract n r.size, 0, r.extract 0 n)) := Lib.hid (by unfold takeS; rw [if_neg (by omega), if_neg hz])
      go_enter Try.func87, Try.ntmps87
      go_wp2
      go_region_with fail
      all_goals
        go_wp2
        exact bodyPost_ret (v := .tuple #[.agg #[.string (r.extract n r.size), .int .i64 (0 : Nat)], .string (r.extract 0 n)]) (by simp [results, Try.results87, go_sem]) rfl (rtakeIs_mk HE (by exact (((Gr.refl _).alloc _).alloc _).drew))
  · have HE : Hid (takeS r e n = (r, e, ⟨#[]⟩)) := Lib.hid (by unfold takeS; rw [if_pos he])
    go_enter Try.func87, Try.ntmps87
    go_wp2
    exact bodyPost_ret (v := .tuple #[.agg #[.string r, .int .i64 (e : Nat)], .string ⟨#[]⟩]) (by simp [results, Try.results87, go_sem]) rfl (rtakeIs_mk HE (by first | exact (Gr.refl _).alloc _ | exact ((Gr.refl _).alloc _).alloc _ | exact (((Gr.refl _).alloc _).alloc _).drew))
end Go.Proofs.Ytfcfbecfamemlaa
