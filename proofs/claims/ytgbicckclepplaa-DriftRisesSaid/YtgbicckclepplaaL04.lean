import Derived.Test.YtgbicckclepplaaF04b
import Derived.WalkKit
import Derived.ProofKit
import Derived.LoopTactic
import Derived.Outline
import Derived.WalkSpells
import Derived.WalkLawsBesides
import Derived.Lib.Hide
import Derived.Deep.LoopGhost
import Derived.Deep.QuietTactic
import Derived.BigQuiet
import Derived.ShutString
import Derived.IntWalk
namespace Go.Proofs.Ytgbicckclepplaa
open Go.ChangeShapes Go.WideShapes Go.ChangeAt Go.RowKit
open Rates
set_option linter.unusedVariables false
/-- A rate lies in block b. -/
def RateIs (w : World) (b : Nat) (p q : Int) : Prop := w.cell? ⟨b, 0, none⟩ = some (.int .i64 p) ∧ w.cell? ⟨b, 1, none⟩ = some (.int .i64 q)
theorem RateIs.gr {w w' : World} {b : Nat} {p q : Int} (h : RateIs w b p q) (hg : Gr w w') : RateIs w' b p q := ⟨hg.cell h.1, hg.cell h.2⟩
theorem RateIs.new {w w' : World} {b : Nat} {p q : Int} {t : TypeId} (hg : Gr (w.alloc (.cells #[.int .i64 p, .int .i64 q] t)) w') (hb : b = w.heap.size) : RateIs w' b p q := by
  subst hb; exact ⟨hg.own.1 0 _ rfl, hg.own.1 1 _ rfl⟩
set_option maxHeartbeats 1000000 in
theorem driftTimes_walk (p q t : Int) (w : World) (wp : (Lit.int .i64 p).wf = true) (wq : (Lit.int .i64 q).wf = true) (wt : (Lit.int .i64 t).wf = true) :
    Calls Try.prog 3 #[.int .i64 p, .int .i64 q, .int .i64 t] w fun e w' => e = .returned (.bool true) ∧ Gr w w' := by
  clear wp wq wt
  have HL := longer_any p q t
  have HL' := refLonger_any p q t
  have HS := shorter_any p q t
  have HS' := refShorter_any p q t
  generalize longer p q t = A at *
  generalize shorter p q t = B at *
  have HG := refGood_any p q
  cases h : good p q
  · rw [h] at HG
    go_enter Try.func3, Try.ntmps3
    go_wp2_with fail
    refine (awake4 _).mono ?_
    rintro e w1 ⟨rfl, hg1⟩
    go_wp2_with fail
    refine (check_bad p q _ h).mono ?_
    rintro e w2 ⟨rfl, hg2⟩
    have r2 := RateIs.new hg2 rfl
    obtain ⟨a0, a1⟩ := r2
    go_wp2_with fail
    refine (HG _).mono ?_
    rintro e w2 ⟨rfl, rfl⟩
    go_wp2_with fail
    refine (check_bad p q _ h).mono ?_
    rintro e w3 ⟨rfl, hg3⟩
    obtain ⟨b0, b1⟩ := RateIs.gr ⟨a0, a1⟩ hg3
    go_wp2_with fail
    refine (check_bad p q _ h).mono ?_
    rintro e w4 ⟨rfl, hg4⟩
    obtain ⟨d0, d1⟩ := RateIs.gr ⟨b0, b1⟩ hg4
    go_wp2_with fail
    refine (HL _).mono ?_
    rintro e w5 ⟨rfl, hg5⟩
    obtain ⟨e0, e1⟩ := RateIs.gr ⟨d0, d1⟩ hg5
    go_wp2_with fail
    refine (HL' _).mono ?_
    rintro e w5 ⟨rfl, rfl⟩
    go_wp2_with fail
    refine (HS _).mono ?_
    rintro e w6 ⟨rfl, hg6⟩
    go_wp2_with fail
    refine (HS' _).mono ?_
    rintro e w6 ⟨rfl, rfl⟩
    go_wp2
    go_ret
    exact ⟨by first | rfl | simp, ((((((hg1.alloc _).trans hg2).trans hg3).trans hg4).trans hg5).trans hg6)⟩
  · rw [h] at HG
    go_enter Try.func3, Try.ntmps3
    go_wp2_with fail
    refine (awake4 _).mono ?_
    rintro e w1 ⟨rfl, hg1⟩
    go_wp2_with fail
    refine (check_ok p q _ h).mono ?_
    rintro e w2 ⟨rfl, hg2⟩
    have r2 := RateIs.new hg2 rfl
    obtain ⟨a0, a1⟩ := r2
    go_wp2_with fail
    refine (HG _).mono ?_
    rintro e w2 ⟨rfl, rfl⟩
    go_wp2_with fail
    refine (check_ok p q _ h).mono ?_
    rintro e w3 ⟨rfl, hg3⟩
    obtain ⟨b0, b1⟩ := RateIs.gr ⟨a0, a1⟩ hg3
    go_wp2_with fail
    refine (HL _).mono ?_
    rintro e w5 ⟨rfl, hg5⟩
    obtain ⟨e0, e1⟩ := RateIs.gr ⟨b0, b1⟩ hg5
    go_wp2_with fail
    refine (HL' _).mono ?_
    rintro e w5 ⟨rfl, rfl⟩
    go_wp2_with fail
    refine (HS _).mono ?_
    rintro e w6 ⟨rfl, hg6⟩
    go_wp2_with fail
    refine (HS' _).mono ?_
    rintro e w6 ⟨rfl, rfl⟩
    go_wp2
    go_ret
    exact ⟨by first | rfl | simp, (((((hg1.alloc _).trans hg2).trans hg3).trans hg5).trans hg6)⟩
set_option maxHeartbeats 800000 in
theorem driftLater_walk (t b : Int) (w : World) (wt : (Lit.int .i64 t).wf = true) (wb : (Lit.int .i64 b).wf = true) :
    Calls Try.prog 7 #[.int .i64 t, .int .i64 b] w fun e w' => e = .returned (.bool true) ∧ Gr w w' := by
  have H1 := later_any t b
  have H2 := later_any b t
  have hc : lim (lim b + lim t) = lim (lim t + lim b) := by rw [Int.add_comm]
  rw [hc] at H2
  obtain ⟨n, hn⟩ : ∃ n, lim (lim t + lim b) = n := ⟨_, rfl⟩
  rw [hn] at H1 H2
  clear hc
  by_cases hin : 0 ≤ t ∧ t ≤ 549755813888 ∧ 0 ≤ b ∧ b ≤ 549755813888
  · have hv : n = t + b := by rw [lim_self hin.1 (by omega), lim_self hin.2.2.1 (by omega), lim_self (by omega) (by omega)] at hn; exact hn.symm
    obtain ⟨i1, i2, i3, i4⟩ := hin
    subst hv
    clear hn
    go_enter Try.func7, Try.ntmps7
    go_wp2_with fail
    refine (awake4 _).mono ?_
    rintro e w1 ⟨rfl, hg1⟩
    go_wp2_with fail
    refine (H1 _).mono ?_
    rintro e w2 ⟨rfl, rfl⟩
    go_wp2
    go_ret
    exact ⟨by first | rfl | simp, hg1⟩
  · have hw := later_ways t b n hn hin
    clear hn hin wt wb
    rcases hw with ⟨h1, h2, rfl⟩ | ⟨h1, h2, h3, rfl⟩ | ⟨h1, h2, rfl⟩ | ⟨h1, h2, h3, h4⟩ | ⟨h1, rfl⟩ | ⟨rfl, h2, rfl⟩ | ⟨h1, h2, h3, h4, h5⟩ | ⟨rfl, h2, h3, rfl⟩ | ⟨rfl, h2, rfl⟩ | ⟨h1, h2, h3, h4, h5⟩
    all_goals
      go_enter Try.func7, Try.ntmps7
      go_wp2_with fail
      refine (awake4 _).mono ?_
      rintro e w1 ⟨rfl, hg1⟩
      go_wp2_with fail
      refine (H1 _).mono ?_
      rintro e w2 ⟨rfl, rfl⟩
      go_wp2_with fail
      refine (H2 _).mono ?_
      rintro e w2 ⟨rfl, rfl⟩
      go_wp2
      all_goals
        go_ret
        exact ⟨by first | rfl | (simp; done) | (simp; omega), hg1⟩
end Go.Proofs.Ytgbicckclepplaa
