import Derived.Test.YtgbicckclepplaaL04b
import Derived.WalkKit
import Derived.ProofKit
import Derived.LoopTactic
import Derived.Outline
import Derived.WalkSpells
import Derived.WalkLawsBesides
import Derived.Lib.Hide
import Derived.Deep.LoopGhost
import Derived.Deep.QuietTactic
import Derived.BigQuiet
import Derived.ShutString
import Derived.IntWalk
import Derived.Lib.MinMax
import Derived.Deep.RegionWith
import Derived.Deep.RegionHeld3
namespace Go.Proofs.Ytgbicckclepplaa
open Go.ChangeShapes Go.WideShapes Go.ChangeAt Go.RowKit
open Rates
set_option linter.unusedVariables false
set_option maxHeartbeats 6000000 in
set_option maxRecDepth 100000 in
theorem driftRises_false (P Q T A B : Int) (w : World) (hz : (max 0 (min T 274877906944) == 0) = false) :
    Calls Try.prog 6 #[.agg #[.int .i64 P, .int .i64 Q, .int .i64 T, .int .i64 A, .int .i64 B]] w fun e w' => e = .returned (.bool true) ∧ Gr w w' := by
  go_enter Try.func6, Try.ntmps6
  go_wp2_with fail
  refine (awake4 _).mono ?_
  rintro e w1 ⟨rfl, hg1⟩
  have z0 : w1.cell? ⟨w.heap.size, 0, none⟩ = some (.int .i64 P) := hg1.own.1 0 _ rfl
  have z1 : w1.cell? ⟨w.heap.size, 1, none⟩ = some (.int .i64 Q) := hg1.own.1 1 _ rfl
  have z2 : w1.cell? ⟨w.heap.size, 2, none⟩ = some (.int .i64 T) := hg1.own.1 2 _ rfl
  have z3 : w1.cell? ⟨w.heap.size, 3, none⟩ = some (.int .i64 A) := hg1.own.1 3 _ rfl
  have zl := hg1.own.2.2
  have hgw : Gr w w1 := ((Gr.refl w).alloc _).trans hg1
  go_wp2_with fail
  refine (near_any P Q _).mono ?_
  rintro e w2 ⟨p, q, rfl, hgood, hg2⟩
  have y2 := hg2.cell z2
  have y3 := hg2.cell z3
  have yl : w.heap.size < w2.heap.size := Nat.lt_of_lt_of_le zl hg2.size
  have hgw2 := hgw.trans hg2
  clear z0 z1 z2 z3 zl hg1 hg2 hgw
  obtain ⟨t0, t1⟩ := rng_bd T 274877906944 (by decide)
  obtain ⟨d0, d1⟩ := rng_bd A 274877906944 (by decide)
  go_wp2_with fail
  generalize max 0 (min T 274877906944) = t at *
  generalize max 0 (min A 274877906944) = d at *
  obtain ⟨i0, i1, i2, i3, i4, i5, i6, i7, i8, i9⟩ := risesF hgood t0 t1 d0 d1
  obtain ⟨g1, g2, g3, g4⟩ := good_of hgood
  obtain ⟨m1, m2⟩ := mul_bd (x := 1099511627776) (y := 1000) t0 (show 0 ≤ p by omega) (by omega) g3
  have m3 : -1000 ≤ (longer p q t - 1) * q := by
    have h := Int.mul_le_mul_of_nonneg_right (show -1 ≤ longer p q t - 1 by omega) (show 0 ≤ q by omega); omega
  have k0 := (RateIs.new (Gr.refl (w2.alloc (.cells #[.int .i64 p, .int .i64 q] 24))) rfl).1
  have k1 := (RateIs.new (Gr.refl (w2.alloc (.cells #[.int .i64 p, .int .i64 q] 24))) rfl).2
  have x1 : IntKind.i64.wrap (t + d) = t + d := IntWalk.i64_in _ (by omega)
  have x2 : IntKind.i64.wrap (longer p q t - 1) = longer p q t - 1 := IntWalk.i64_in _ (by omega)
  have x3 : IntKind.i64.wrap ((longer p q t - 1) * q) = (longer p q t - 1) * q := IntWalk.i64_in _ (by omega)
  have x4 : IntKind.i64.wrap (t * p) = t * p := IntWalk.i64_in _ (by omega)
  have HG := Lib.hid (hgw2.alloc (.cells #[.int .i64 p, .int .i64 q] 24))
  generalize w2.heap.size = b at *
  generalize w2.alloc (.cells #[.int .i64 p, .int .i64 q] 24) = W at *
  clear y2 y3 yl hgw2 hgood m1 m2 m3 g1 g2 g3 g4
  simp only [List.append]
  go_region_held3 (fun w' => Gr W w' ∧ w'.cell? ⟨b, 0, none⟩ = some (.int .i64 p) ∧ w'.cell? ⟨b, 1, none⟩ = some (.int .i64 q)) (first | exact ⟨Gr.refl _, k0, k1⟩ | exact ⟨(Gr.refl _).drew, k0, k1⟩ | (go_split_ands; refine ⟨Gr.trans ?_ hgc, hgc.cell ?_, hgc.cell ?_⟩ <;> assumption)) (first | (go_at_call 11; ((with_reducible refine (longer_any p q _ _).mono ?_); rintro e v ⟨rfl, hgc⟩)) | (go_at_call 13; ((with_reducible refine (shorter_any p q _ _).mono ?_); rintro e v ⟨rfl, hgc⟩)) | (go_at_call 16; ((with_reducible refine (fits_any p q _ _ _).mono ?_); rintro e v ⟨rfl, hgc⟩)))
  go_split_ands
  have hgn : Gr W v := by assumption
  go_wp2
  go_ret
  exact ⟨by first | rfl | (simp; done) | (simp; omega), HG.out.trans hgn⟩
end Go.Proofs.Ytgbicckclepplaa
