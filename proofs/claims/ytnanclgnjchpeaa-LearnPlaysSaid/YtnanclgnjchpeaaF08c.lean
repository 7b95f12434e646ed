import Derived.Test.YtnanclgnjchpeaaF08b
import Derived.WalkKit
import Derived.ProofKit
import Derived.LoopTactic
import Derived.Outline
import Derived.WalkSpells
import Derived.WalkLawsBesides
import Derived.Lib.Hide
import Derived.Deep.LoopGhost
import Derived.Deep.QuietTactic
import Derived.BigQuiet
import Derived.ShutString
import Derived.IntWalk
import Derived.Lib.MinMax
namespace Go.Proofs.Ytnanclgnjchpeaa
open Go.ChangeShapes Go.WideShapes Go.ChangeAt Go.RowKit
open Bal
set_option linter.unusedVariables false
set_option linter.unusedSimpArgs false
theorem above_any (c n d m : Int) (w : World) :
    Calls Try.prog 143 #[.agg #[.int .u64 c, .int .i64 n], .agg #[.int .u64 d, .int .i64 m]] w fun e w' => e = .returned (.bool (above c n d m)) ∧ Gr w w' := by
  have hw : d < c ∧ above c n d m = true ∨ c < d ∧ above c n d m = false ∨ c = d ∧ m < n ∧ above c n d m = true ∨ c = d ∧ n ≤ m ∧ above c n d m = false := by
    unfold above; simp only [decide_eq_true_eq, decide_eq_false_iff_not]; omega
  rcases hw with ⟨h1, h2⟩ | ⟨h1, h2⟩ | ⟨h1, h3, h2⟩ | ⟨h1, h3, h2⟩
  · rw [h2]; clear h2
    go_enter Try.func143, Try.ntmps143
    go_wp2
    go_ret
    exact ⟨by first | rfl | (simp <;> omega), ((Gr.refl _).alloc _).alloc _⟩
  · rw [h2]; clear h2
    have hne : (c == d) = false := by simp; omega
    go_enter Try.func143, Try.ntmps143
    go_wp2
    go_ret
    exact ⟨by first | rfl | (simp <;> omega), ((Gr.refl _).alloc _).alloc _⟩
  all_goals
    rw [h2]; clear h2
    subst h1
    go_enter Try.func143, Try.ntmps143
    go_wp2
    go_ret
    exact ⟨by first | rfl | (simp <;> omega), ((Gr.refl _).alloc _).alloc _⟩
theorem none08_any (c n : Int) (w : World) :
    Calls Try.prog 21 #[.agg #[.int .u64 c, .int .i64 n]] w fun e w' => e = .returned (.bool (decide (c = 0 ∧ n = 0))) ∧ Gr w w' := by
  go_enter Try.func21, Try.ntmps21
  go_wp2
  all_goals (go_ret; refine ⟨?_, (Gr.refl _).alloc _⟩; simp_all)
theorem mod12 (N : Int) : ∃ n : Nat, n ≤ 11 ∧ (wrap64 (N.tmod 12 + 12)).tmod 12 = (n : Int) := by
  have h1 := Int.tmod_lt_of_pos N (show (0 : Int) < 12 by decide)
  have h2 := Int.lt_tmod_of_pos N (show (0 : Int) < 12 by decide)
  generalize N.tmod 12 = t at *
  have hw : wrap64 (t + 12) = t + 12 := by unfold wrap64; omega
  rw [hw, Int.tmod_eq_emod_of_nonneg (by omega)]
  exact ⟨((t + 12) % 12).toNat, by omega, by omega⟩
theorem right08_any (N : Int) (c : Nat) (w : World) :
    Calls Try.prog 83 #[.agg #[.int .u64 c, .int .i64 N]] w fun e w' => ∃ n : Nat, n ≤ 11 ∧ (c = 0 → n = 0) ∧ e = .returned (.agg #[.int .u64 c, .int .i64 n]) ∧ Gr w w' := by
  obtain ⟨n, hn, he⟩ := mod12 N
  by_cases hc : c = 0
  · subst hc
    go_enter Try.func83, Try.ntmps83
    go_wp2
    exact bodyPost_ret (v := .agg #[.int .u64 0, .int .i64 0]) (by simp [results, Try.results83, go_sem]) rfl ⟨0, by omega, fun _ => rfl, rfl, ((Gr.refl _).alloc _).alloc _⟩
  · have hc' : ((c : Int) == 0) = false := by simp; omega
    go_enter Try.func83, Try.ntmps83
    go_wp2
    exact bodyPost_ret (v := .agg #[.int .u64 c, .int .i64 n]) (by simp [results, Try.results83, go_sem, he]) rfl ⟨n, hn, fun h => absurd h hc, rfl, ((Gr.refl _).alloc _).alloc _⟩
end Go.Proofs.Ytnanclgnjchpeaa
