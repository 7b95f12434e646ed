import Derived.Test.YtihhfdkcggnjpaaF08b
import Derived.WalkKit
import Derived.ProofKit
import Derived.LoopTactic
import Derived.Outline
import Derived.WalkSpells
import Derived.WalkLawsBesides
import Derived.Lib.Hide
import Derived.Deep.LoopGhost
import Derived.Deep.QuietTactic
import Derived.BigQuiet
import Derived.ShutString
import Derived.IntWalk
import Derived.Lib.MinMax
namespace Go.Proofs.Ytihhfdkcggnjpaa
open Go.ChangeShapes Go.WideShapes Go.ChangeAt Go.RowKit
open Bal
set_option linter.unusedVariables false
set_option linter.unusedSimpArgs false
theorem above_any (c n d m : Int) (w : World) :
    Calls Try.prog 186 #[.agg #[.int .u64 c, .int .i64 n], .agg #[.int .u64 d, .int .i64 m]] w fun e w' => e = .returned (.bool (above c n d m)) ∧ Gr w w' := by
  have hw : d < c ∧ above c n d m = true ∨ c < d ∧ above c n d m = false ∨ c = d ∧ m < n ∧ above c n d m = true ∨ c = d ∧ n ≤ m ∧ above c n d m = false := by
    unfold above; simp only [decide_eq_true_eq, decide_eq_false_iff_not]; omega
  rcases hw with ⟨h1, h2⟩ | ⟨h1, h2⟩ | ⟨h1, h3, h2⟩ | ⟨h1, h3, h2⟩
  · rw [h2]; clear h2
    go_enter Try.func186, Try.ntmps186
    go_wp2
    go_ret
    exact ⟨by first | rfl | (simp <;> omega), ((Gr.refl _).alloc _).alloc _⟩
  · rw [h2]; clear h2
    have hne : (c == d) = false := by simp; omega
    go_enter Try.func186, Try.ntmps186
    go_wp2
    go_ret
    exact ⟨by first | rfl | (simp <;> omega), ((Gr.refl _).alloc _).alloc _⟩
  all_goals
    rw [h2]; clear h2
    subst h1
    go_enter Try.func186, Try.ntmps186
    go_wp2
    go_ret
    exact ⟨by first | rfl | (simp <;> omega), ((Gr.refl _).alloc _).alloc _⟩
theorem none08_any (c n : Int) (w : World) :
    Calls Try.prog 192 #[.agg #[.int .u64 c, .int .i64 n]] w fun e w' => e = .returned (.bool (decide (c = 0 ∧ n = 0))) ∧ Gr w w' := by
  go_enter Try.func192, Try.ntmps192
  go_wp2
  all_goals (go_ret; refine ⟨?_, (Gr.refl _).alloc _⟩; simp_all)
theorem mod12 (N : Int) : ∃ n : Nat, n ≤ 11 ∧ (wrap64 (N.tmod 12 + 12)).tmod 12 = (n : Int) := by
  have h1 := Int.tmod_lt_of_pos N (show (0 : Int) < 12 by decide)
  have h2 := Int.lt_tmod_of_pos N (show (0 : Int) < 12 by decide)
  generalize N.tmod 12 = t at *
  have hw : wrap64 (t + 12) = t + 12 := by unfold wrap64; omega
  rw [hw, Int.tmod_eq_emod_of_nonneg (by omega)]
  exact ⟨((t + 12) % 12).toNat, by omega, by omega⟩
theorem right08_any (N : Int) (c : Nat) (w : World) :
    Calls Try.prog 114 #[.agg #[.int .u64 c, .int .i64 N]] w fun e w' => ∃ n : Nat, n ≤ 11 ∧ (c = 0 → n = 0) ∧ e = .returned (.agg #[.int .u64 c, .int .i64 n]) ∧ Gr w w' := by
  obtain ⟨n, hn, he⟩ := mod12 N
  by_cases hc : c = 0
  · subst hc
    go_enter Try.func114, Try.ntmps114
    go_wp2
    exact bodyPost_ret (v := .agg #[.int .u64 0, .int .i64 0]) (by simp [results, Try.results114, go_sem]) rfl ⟨0, by omega, fun _ => rfl, rfl, ((Gr.refl _).alloc _).alloc _⟩
  · have hc' : ((c : Int) == 0) = false := by simp; omega
    go_enter Try.func114, Try.ntmps114
    go_wp2
    exact bodyPost_ret (v := .agg #[.int .u64 c, .int .i64 n]) (by simp [results, Try.results114, go_sem, he]) rfl ⟨n, hn, fun h => absurd h hc, rfl, ((Gr.refl _).alloc _).alloc _⟩
set_option maxRecDepth 100000 in
set_option maxHeartbeats 2000000 in
theorem next_any (c m n : Int) (w : World) (hc : 0 ≤ c ∧ c ≤ 18446744073709551615) :
    Calls Try.prog 24 #[.agg #[.int .u64 c, .int .i64 m], .int .i64 n] w fun e w' => e = .returned (.tuple #[.agg #[.int .u64 (nextB c m n).1.1, .int .i64 (nextB c m n).1.2], .int .i64 (nextB c m n).2]) ∧ Gr w w' := by
  have CB := Lib.hid (compareB_any (max c 1) n c m)
  obtain ⟨c0, c1⟩ := hc
  have hx : max c 1 = c ∧ 1 ≤ c ∨ max c 1 = 1 ∧ c = 0 := by omega
  rcases nextB_ways c m n with ⟨h, e⟩ | ⟨h, e⟩ | ⟨h1, h2, h3, e⟩ | ⟨h1, h2, h3, h4, e⟩ | ⟨h1, h2, h3, h4, e⟩
  · rw [e]; clear e CB
    go_enter Try.func24, Try.ntmps24
    go_wp2
    exact bodyPost_ret (v := .tuple #[.agg #[.int .u64 0, .int .i64 0], .int .i64 2]) (by simp [results, Try.results24, go_sem]) rfl ⟨rfl, ((Gr.refl _).alloc _).alloc _⟩
  · rw [e]; clear e CB
    go_enter Try.func24, Try.ntmps24
    go_wp2
    exact bodyPost_ret (v := .tuple #[.agg #[.int .u64 0, .int .i64 0], .int .i64 2]) (by simp [results, Try.results24, go_sem]) rfl ⟨rfl, ((Gr.refl _).alloc _).alloc _⟩
  · rw [e]; clear e
    generalize cmpB (max c 1) n c m = v at *
    generalize hmx : max c 1 = mx at *
    go_enter Try.func24, Try.ntmps24
    go_wp2_with fail
    refine (CB.out _).mono ?_
    rintro e w1 ⟨rfl, hg⟩
    have HG := Lib.hid (((((Gr.refl w).alloc (.cells #[.int .u64 c, .int .i64 m] 50)).alloc (.cells #[.int .u64 0, .int .i64 0] 50)).alloc (.cells #[.int .u64 mx, .int .i64 n] 50)).trans hg)
    have g1 := (((Gr.refl (w.alloc (.cells #[.int .u64 c, .int .i64 m] 50))).alloc (.cells #[.int .u64 0, .int .i64 0] 50)).alloc (.cells #[.int .u64 mx, .int .i64 n] 50)).trans hg
    have g2 := ((Gr.refl ((w.alloc (.cells #[.int .u64 c, .int .i64 m] 50)).alloc (.cells #[.int .u64 0, .int .i64 0] 50))).alloc (.cells #[.int .u64 mx, .int .i64 n] 50)).trans hg
    have k0 := g1.own.1 0 _ rfl
    have k1 := g1.own.1 1 _ rfl
    have j0 := g2.own.1 0 _ rfl
    have j1 := g2.own.1 1 _ rfl
    have f0 := g2.own.2.1 0
    have f1 := g2.own.2.1 1
    have l0 := hg.own.1 0 _ rfl
    have l1 := hg.own.1 1 _ rfl
    have s2 : (w.alloc (.cells #[.int .u64 c, .int .i64 m] 50)).heap.size = w.heap.size + 1 := by simp
    have s3 : ((w.alloc (.cells #[.int .u64 c, .int .i64 m] 50)).alloc (.cells #[.int .u64 0, .int .i64 0] 50)).heap.size = w.heap.size + 1 + 1 := by simp
    rw [s2] at j0 j1 f0 f1
    rw [s3] at l0 l1
    have hle : w.heap.size ≤ w.heap.size + 1 := Nat.le_succ _
    clear s2 s3 g1 g2 hg
    go_wp2
    exact bodyPost_ret (v := .tuple #[.agg #[.int .u64 mx, .int .i64 n], .int .i64 0]) (by simp [results, Try.results24, go_sem, j0, j1]) rfl ⟨rfl, (HG.out.setCell hle _).setCell hle _⟩
  · rw [e]; clear e
    generalize cmpB (max c 1) n c m = v at *
    generalize hmx : max c 1 = mx at *
    have H4 := Lib.hid h4
    clear h4
    go_enter Try.func24, Try.ntmps24
    go_wp2_with fail
    refine (CB.out _).mono ?_
    rintro e w1 ⟨rfl, hg⟩
    have HG := Lib.hid (((((Gr.refl w).alloc (.cells #[.int .u64 c, .int .i64 m] 50)).alloc (.cells #[.int .u64 0, .int .i64 0] 50)).alloc (.cells #[.int .u64 mx, .int .i64 n] 50)).trans hg)
    have g1 := (((Gr.refl (w.alloc (.cells #[.int .u64 c, .int .i64 m] 50))).alloc (.cells #[.int .u64 0, .int .i64 0] 50)).alloc (.cells #[.int .u64 mx, .int .i64 n] 50)).trans hg
    have g2 := ((Gr.refl ((w.alloc (.cells #[.int .u64 c, .int .i64 m] 50)).alloc (.cells #[.int .u64 0, .int .i64 0] 50))).alloc (.cells #[.int .u64 mx, .int .i64 n] 50)).trans hg
    have k0 := g1.own.1 0 _ rfl
    have k1 := g1.own.1 1 _ rfl
    have j0 := g2.own.1 0 _ rfl
    have j1 := g2.own.1 1 _ rfl
    have f0 := g2.own.2.1 0
    have f1 := g2.own.2.1 1
    have l0 := hg.own.1 0 _ rfl
    have l1 := hg.own.1 1 _ rfl
    have s2 : (w.alloc (.cells #[.int .u64 c, .int .i64 m] 50)).heap.size = w.heap.size + 1 := by simp
    have s3 : ((w.alloc (.cells #[.int .u64 c, .int .i64 m] 50)).alloc (.cells #[.int .u64 0, .int .i64 0] 50)).heap.size = w.heap.size + 1 + 1 := by simp
    rw [s2] at j0 j1 f0 f1
    rw [s3] at l0 l1
    have hle : w.heap.size ≤ w.heap.size + 1 := Nat.le_succ _
    clear s2 s3 g1 g2 hg
    have h5 : (c == 18446744073709551615) = true := by simp [H4.out]
    go_wp2
    exact bodyPost_ret (v := .tuple #[.agg #[.int .u64 0, .int .i64 0], .int .i64 19]) (by simp [results, Try.results24, go_sem, j0, j1]) rfl ⟨rfl, (HG.out.setCell hle _).setCell hle _⟩
  · rw [e]; clear e
    generalize cmpB (max c 1) n c m = v at *
    generalize hmx : max c 1 = mx at *
    have H4 := Lib.hid h4
    clear h4
    go_enter Try.func24, Try.ntmps24
    go_wp2_with fail
    refine (CB.out _).mono ?_
    rintro e w1 ⟨rfl, hg⟩
    have HG := Lib.hid (((((Gr.refl w).alloc (.cells #[.int .u64 c, .int .i64 m] 50)).alloc (.cells #[.int .u64 0, .int .i64 0] 50)).alloc (.cells #[.int .u64 mx, .int .i64 n] 50)).trans hg)
    have g1 := (((Gr.refl (w.alloc (.cells #[.int .u64 c, .int .i64 m] 50))).alloc (.cells #[.int .u64 0, .int .i64 0] 50)).alloc (.cells #[.int .u64 mx, .int .i64 n] 50)).trans hg
    have g2 := ((Gr.refl ((w.alloc (.cells #[.int .u64 c, .int .i64 m] 50)).alloc (.cells #[.int .u64 0, .int .i64 0] 50))).alloc (.cells #[.int .u64 mx, .int .i64 n] 50)).trans hg
    have k0 := g1.own.1 0 _ rfl
    have k1 := g1.own.1 1 _ rfl
    have j0 := g2.own.1 0 _ rfl
    have j1 := g2.own.1 1 _ rfl
    have f0 := g2.own.2.1 0
    have f1 := g2.own.2.1 1
    have l0 := hg.own.1 0 _ rfl
    have l1 := hg.own.1 1 _ rfl
    have s2 : (w.alloc (.cells #[.int .u64 c, .int .i64 m] 50)).heap.size = w.heap.size + 1 := by simp
    have s3 : ((w.alloc (.cells #[.int .u64 c, .int .i64 m] 50)).alloc (.cells #[.int .u64 0, .int .i64 0] 50)).heap.size = w.heap.size + 1 + 1 := by simp
    rw [s2] at j0 j1 f0 f1
    rw [s3] at l0 l1
    have hle : w.heap.size ≤ w.heap.size + 1 := Nat.le_succ _
    clear s2 s3 g1 g2 hg
    have h5 : (c == 18446744073709551615) = false := by simp [H4.out]
    have h6 : c < 18446744073709551615 := by have := H4.out; omega
    go_wp2
    exact bodyPost_ret (v := .tuple #[.agg #[.int .u64 (c + 1), .int .i64 n], .int .i64 0]) (by simp [results, Try.results24, go_sem, j0, j1]) rfl ⟨rfl, (HG.out.setCell hle _).setCell hle _⟩
end Go.Proofs.Ytihhfdkcggnjpaa
