import Derived.Test.YtkfkedpldndgiaaF07o
import Derived.WalkKit
import Derived.ProofKit
import Derived.LoopTactic
import Derived.Outline
import Derived.WalkSpells
import Derived.WalkLawsBesides
import Derived.Lib.Hide
import Derived.Deep.LoopGhost
import Derived.Deep.QuietTactic
import Derived.BigQuiet
import Derived.ShutString
import Derived.IntWalk
import Derived.Deep.RegionHeld3
namespace Go.Proofs.Ytkfkedpldndgiaa
open Go.ChangeShapes Go.WideShapes Go.ChangeAt Go.RowKit
open Grids
set_option linter.unusedVariables false
set_option linter.unusedSimpArgs false
set_option maxRecDepth 100000 in
set_option maxHeartbeats 2000000 in
theorem gridChecks_walk (R P : Int) (W : Nat) (z1 n1 z2 n2 : Int) (w : World) (hW : W < 4294967296) :
    Calls Try.prog 4 #[.agg #[.int .i64 R, .int .i64 P, .int .u32 W, .int .i64 z1, .int .i64 n1, .int .i64 z2, .int .i64 n2]] w fun e w' => e = .returned (.bool true) ∧ Gr w w' := by
  have SM := Lib.hid (fun w => small_any R P z1 n1 z2 n2 W w hW)
  clear hW
  go_enter Try.func4, Try.ntmps4
  go_wp2_with fail
  refine (awake07_any _).mono ?_
  rintro e w1 ⟨rfl, hg1⟩
  have k0 := hg1.own.1 0 _ rfl
  have k1 := hg1.own.1 1 _ rfl
  have k2 := hg1.own.1 2 _ rfl
  have k3 := hg1.own.1 3 _ rfl
  have k4 := hg1.own.1 4 _ rfl
  have k5 := hg1.own.1 5 _ rfl
  have k6 := hg1.own.1 6 _ rfl
  go_wp2_with fail
  refine (SM.out _).mono ?_
  rintro e w2 ⟨r, p, W', y1, y2, y3, y4, hS, rfl, hg2⟩
  have HS := Lib.hid hS
  clear hS
  have hg12 := hg1.trans hg2
  clear hg1 hg2 k0 k1 k2 k3 k4 k5 k6
  have k0 := hg12.own.1 0 _ rfl
  have f0 := hg12.own.2.1 0
  have k1 := hg12.own.1 1 _ rfl
  have f1 := hg12.own.2.1 1
  have k2 := hg12.own.1 2 _ rfl
  have f2 := hg12.own.2.1 2
  have k3 := hg12.own.1 3 _ rfl
  have f3 := hg12.own.2.1 3
  have k4 := hg12.own.1 4 _ rfl
  have f4 := hg12.own.2.1 4
  have k5 := hg12.own.1 5 _ rfl
  have f5 := hg12.own.2.1 5
  have k6 := hg12.own.1 6 _ rfl
  have f6 := hg12.own.2.1 6
  have HG2 := Lib.hid (((Gr.refl w).alloc (.cells #[.int .i64 R, .int .i64 P, .int .u32 W, .int .i64 z1, .int .i64 n1, .int .i64 z2, .int .i64 n2] 53)).trans hg12)
  clear hg12
  go_wp2_with fail
  obtain ⟨⟨x0, x1, x2, x3, x4, x5, x6⟩, hoth, hfr, hgr⟩ := put7 k0 k1 k2 k3 k4 k5 k6 (rfl : (((((((w2.setCell ⟨w.heap.size, 0, none⟩ (.int .i64 (r : Nat))).setCell ⟨w.heap.size, 1, none⟩ (.int .i64 (p : Nat))).setCell ⟨w.heap.size, 2, none⟩ (.int .u32 (W' : Nat))).setCell ⟨w.heap.size, 3, none⟩ (.int .i64 (y1 : Nat))).setCell ⟨w.heap.size, 4, none⟩ (.int .i64 (y2 : Nat))).setCell ⟨w.heap.size, 5, none⟩ (.int .i64 (y3 : Nat))).setCell ⟨w.heap.size, 6, none⟩ (.int .i64 (y4 : Nat))) = _)
  have HW3 := Lib.hid (hgr _ HG2.out (Nat.le_refl _))
  generalize (((((((w2.setCell ⟨w.heap.size, 0, none⟩ (.int .i64 (r : Nat))).setCell ⟨w.heap.size, 1, none⟩ (.int .i64 (p : Nat))).setCell ⟨w.heap.size, 2, none⟩ (.int .u32 (W' : Nat))).setCell ⟨w.heap.size, 3, none⟩ (.int .i64 (y1 : Nat))).setCell ⟨w.heap.size, 4, none⟩ (.int .i64 (y2 : Nat))).setCell ⟨w.heap.size, 5, none⟩ (.int .i64 (y3 : Nat))).setCell ⟨w.heap.size, 6, none⟩ (.int .i64 (y4 : Nat))) = w3 at *
  clear k0 k1 k2 k3 k4 k5 k6
  clear hoth hfr hgr f0 f1 f2 f3 f4 f5 f6
  refine (own_any _ _ _ _ _ _ _ _).mono ?_
  rintro e w4 ⟨rfl, hg4⟩
  replace x0 := hg4.cell x0
  replace x1 := hg4.cell x1
  replace x2 := hg4.cell x2
  replace x3 := hg4.cell x3
  replace x4 := hg4.cell x4
  replace x5 := hg4.cell x5
  replace x6 := hg4.cell x6
  have HG4 := Lib.hid (HW3.out.trans hg4)
  clear hg4
  obtain ⟨M, hM⟩ : ∃ M, meetsB r p W' y1 y2 y3 y4 = M := ⟨_, rfl⟩
  have GD := Lib.hid (good_shp HS.out M hM)
  cases M
  · have CH := Lib.hid (check_shp HS.out false hM 12 rfl)
    clear hM
    go_wp2_with fail
    refine (CH.out _).mono ?_
    rintro e w5 ⟨rfl, hg5⟩
    have hg5' := ((Gr.refl w4).alloc (.cells #[.int .i64 r, .int .i64 p, .int .u32 W', .int .i64 y1, .int .i64 y2, .int .i64 y3, .int .i64 y4] 57)).trans hg5
    replace x0 := hg5'.cell x0
    replace x1 := hg5'.cell x1
    replace x2 := hg5'.cell x2
    replace x3 := hg5'.cell x3
    replace x4 := hg5'.cell x4
    replace x5 := hg5'.cell x5
    replace x6 := hg5'.cell x6
    have HG5 := Lib.hid (HG4.out.trans hg5')
    clear hg5 hg5'
    go_wp2_with fail
    refine (GD.out _).mono ?_
    rintro e w6 ⟨rfl, hg6⟩
    go_wp2
    go_ret
    exact ⟨rfl, HG5.out.trans hg6⟩
  · have CH := Lib.hid (check_shp HS.out true hM 0 rfl)
    clear hM
    go_wp2_with fail
    refine (CH.out _).mono ?_
    rintro e w5 ⟨rfl, hg5⟩
    have hg5' := ((Gr.refl w4).alloc (.cells #[.int .i64 r, .int .i64 p, .int .u32 W', .int .i64 y1, .int .i64 y2, .int .i64 y3, .int .i64 y4] 57)).trans hg5
    replace x0 := hg5'.cell x0
    replace x1 := hg5'.cell x1
    replace x2 := hg5'.cell x2
    replace x3 := hg5'.cell x3
    replace x4 := hg5'.cell x4
    replace x5 := hg5'.cell x5
    replace x6 := hg5'.cell x6
    have HG5 := Lib.hid (HG4.out.trans hg5')
    clear hg5 hg5'
    go_wp2_with fail
    refine (GD.out _).mono ?_
    rintro e w6 ⟨rfl, hg6⟩
    go_wp2
    go_ret
    exact ⟨rfl, HG5.out.trans hg6⟩
end Go.Proofs.Ytkfkedpldndgiaa
