import Derived.Test.YtgbicckclepplaaL04b
import Derived.Test.YtgbicckclepplaaM04b
import Derived.WalkKit
import Derived.ProofKit
import Derived.LoopTactic
import Derived.Outline
import Derived.WalkSpells
import Derived.WalkLawsBesides
import Derived.Lib.Hide
import Derived.Deep.LoopGhost
import Derived.Deep.QuietTactic
import Derived.BigQuiet
import Derived.ShutString
import Derived.IntWalk
import Derived.Lib.MinMax
import Derived.Deep.RegionWith
import Derived.Deep.RegionHeld3
import Derived.Deep.QuietTactic
import Derived.BigQuiet
namespace Go.Proofs.Ytgbicckclepplaa
open Go.ChangeShapes Go.WideShapes Go.ChangeAt Go.RowKit
open Rates
set_option linter.unusedVariables false
set_option maxHeartbeats 1000000 in
set_option maxRecDepth 100000 in
theorem driftWaits_walk (P Q T A B : Int) (w : World) :
    Calls Try.prog 4 #[.agg #[.int .i64 P, .int .i64 Q, .int .i64 T, .int .i64 A, .int .i64 B]] w fun e w' => e = .returned (.bool true) ∧ Gr w w' := by
  go_enter Try.func4, Try.ntmps4
  go_wp2_with fail
  refine (awake4 _).mono ?_
  rintro e w1 ⟨rfl, hg1⟩
  have z0 : w1.cell? ⟨w.heap.size, 0, none⟩ = some (.int .i64 P) := hg1.own.1 0 _ rfl
  have z1 : w1.cell? ⟨w.heap.size, 1, none⟩ = some (.int .i64 Q) := hg1.own.1 1 _ rfl
  have z2 : w1.cell? ⟨w.heap.size, 2, none⟩ = some (.int .i64 T) := hg1.own.1 2 _ rfl
  have z3 : w1.cell? ⟨w.heap.size, 3, none⟩ = some (.int .i64 A) := hg1.own.1 3 _ rfl
  have z4 : w1.cell? ⟨w.heap.size, 4, none⟩ = some (.int .i64 B) := hg1.own.1 4 _ rfl
  have zl := hg1.own.2.2
  have hgw : Gr w w1 := ((Gr.refl w).alloc _).trans hg1
  go_wp2_with fail
  refine (near_any P Q _).mono ?_
  rintro e w2 ⟨p, q, rfl, hgood, hg2⟩
  have y2 := hg2.cell z2
  have y3 := hg2.cell z3
  have y4 := hg2.cell z4
  have yl : w.heap.size < w2.heap.size := Nat.lt_of_lt_of_le zl hg2.size
  have hgw2 := hgw.trans hg2
  clear z0 z1 z2 z3 z4 zl hg1 hg2 hgw
  obtain ⟨t0, t1⟩ := rng_bd T 1073741824 (by decide)
  obtain ⟨a0, a1⟩ := rng_bd A 4294967296 (by decide)
  obtain ⟨b0, b1⟩ := rng_bd B 4294967296 (by decide)
  go_wp2_with fail
  go_quiet (fail)
  go_wp2_with fail
  generalize max 0 (min T 1073741824) = t at *
  generalize max 0 (min A 4294967296) = a at *
  generalize max 0 (min B 4294967296) = b at *
  clear y2 y3 y4 yl
  obtain ⟨k0, k1⟩ := RateIs.new ((Gr.refl (w2.alloc (.cells #[.int .i64 p, .int .i64 q] 24))).drewN nq) rfl
  have HG := Lib.hid ((hgw2.alloc (.cells #[.int .i64 p, .int .i64 q] 24)).drewN nq)
  generalize w2.heap.size = c at *
  generalize (w2.alloc (.cells #[.int .i64 p, .int .i64 q] 24)).drewN nq = W at *
  refine (check_ok p q _ hgood).mono ?_
  rintro e w3 ⟨rfl, g3⟩
  obtain ⟨k0, k1⟩ := RateIs.gr ⟨k0, k1⟩ g3
  cases hf : fits p q a b
  · have hf2 : fits p q b a = false := by rw [fits_symm]; exact hf
    have F1 := Lib.hid hf
    have F2 := Lib.hid hf2
    clear hf hf2
    go_wp2_with fail
    refine (fits_is p q a b false F1 _).mono ?_
    rintro e w4 ⟨rfl, g4⟩
    obtain ⟨k0, k1⟩ := RateIs.gr ⟨k0, k1⟩ g4
    go_wp2_with fail
    refine (fits_is p q b a false F2 _).mono ?_
    rintro e w5 ⟨rfl, g5⟩
    go_wp2
    go_ret
    exact ⟨rfl, ((HG.out.trans g3).trans g4).trans g5⟩
  · have hw := waits hgood t0 (by omega) a0 (by omega) b0 (by omega) hf
    have F1 := Lib.hid hf
    clear hf
    rcases hw with ⟨c1, c2, c3, c4, c5, c6⟩ | ⟨c1, c2, c3, c4, c5, c6⟩ | ⟨c1, c2, c3, c4, c5, c6⟩ | ⟨c1, c2, c3, c4, c5, c6⟩ | ⟨c1, c2, c3, c4, c5⟩ | ⟨c1, c2, c3, c4, c5⟩ | ⟨c1, c2, c3, c4⟩
    all_goals
      go_wp2_with fail
      refine (fits_is p q a b true F1 _).mono ?_
      rintro e w4 ⟨rfl, g4⟩
      obtain ⟨k0, k1⟩ := RateIs.gr ⟨k0, k1⟩ g4
      have HG4 := Lib.hid ((HG.out.trans g3).trans g4)
      go_wp2_with (first | (go_at_call 11; ((with_reducible refine (longer_any p q t _).mono ?_); rintro e w5 ⟨rfl, g5⟩; have HG4 := Lib.hid (HG4.out.trans g5); obtain ⟨k0, k1⟩ := RateIs.gr ⟨k0, k1⟩ g5)) | (go_at_call 13; ((with_reducible refine (shorter_any p q t _).mono ?_); rintro e w5 ⟨rfl, g5⟩; have HG4 := Lib.hid (HG4.out.trans g5); obtain ⟨k0, k1⟩ := RateIs.gr ⟨k0, k1⟩ g5)))
      go_ret
      exact ⟨by first | rfl | (simp; done) | (simp; omega), HG4.out⟩
end Go.Proofs.Ytgbicckclepplaa
