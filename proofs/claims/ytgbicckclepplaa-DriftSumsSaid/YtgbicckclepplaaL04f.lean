import Derived.Test.YtgbicckclepplaaL04b
import Derived.Test.YtgbicckclepplaaM04b
import Derived.Test.YtgbicckclepplaaC06
import Derived.WalkKit
import Derived.ProofKit
import Derived.LoopTactic
import Derived.Outline
import Derived.WalkSpells
import Derived.WalkLawsBesides
import Derived.Lib.Hide
import Derived.Deep.LoopGhost
import Derived.Deep.QuietTactic
import Derived.BigQuiet
import Derived.ShutString
import Derived.IntWalk
import Derived.Lib.MinMax
import Derived.Deep.RegionWith
import Derived.Deep.RegionHeld3
import Derived.Deep.QuietTactic
import Derived.BigQuiet
namespace Go.Proofs.Ytgbicckclepplaa
open Go.ChangeShapes Go.WideShapes Go.ChangeAt Go.RowKit
open Rates
set_option linter.unusedVariables false
set_option maxHeartbeats 1000000 in
set_option maxRecDepth 100000 in
theorem driftSums_walk (P Q : Int) (L : List (Int × Int)) (a : Option Addr) (cap : Nat) (w : World) (hst : PairRow w a L) :
    Calls Try.prog 5 #[.int .i64 P, .int .i64 Q, .slice a L.length cap] w fun e w' => e = .returned (.bool true) ∧ Gr w w' := by
  have hSl := hst.1
  go_enter Try.func5, Try.ntmps5
  go_wp2_with fail
  refine (awake4 _).mono ?_
  rintro e w1 ⟨rfl, hg1⟩
  go_wp2_with fail
  refine (near_any P Q _).mono ?_
  rintro e w2 ⟨p, q, rfl, hgood, hg2⟩
  have k0 := RateIs.new (Gr.refl (w2.alloc (.cells #[.int .i64 p, .int .i64 q] 24))) rfl
  have hg3 := ((hg1.trans hg2).alloc (.cells #[.int .i64 p, .int .i64 q] 24))
  go_wp2
  generalize w2.heap.size = b at *
  generalize w2.alloc (.cells #[.int .i64 p, .int .i64 q] 24) = W at *
  have HST := Lib.hid hst
  have HG := Lib.hid hgood
  have HW := Lib.hid hg3
  have HK := Lib.hid k0
  clear hst hgood hg3 k0 hg1 hg2
  go_loopw [8, 9, 10] (fun x y i wr => ∃ (k : Nat) (A B : Int), k ≤ L.length ∧ k ≤ 30 ∧ i = .int .i64 (k : Nat) ∧ x = .int .i64 A ∧ y = .int .i64 B ∧ 0 ≤ A ∧ A ≤ 1073741824 * k ∧ 0 ≤ B ∧ B ≤ 1073741824 * k ∧ Hid (A * q ≤ B * p ∧ B * q ≤ A * p) ∧ Hid (Gr W wr)) (fun _ _ i _ => 30 - (intOf i).toNat)
  case atStart => exact ⟨0, 0, 0, by omega, by omega, rfl, rfl, rfl, by omega, by omega, by omega, by omega, Lib.hid (by omega), Lib.hid (Gr.refl _)⟩
  case round =>
    obtain ⟨k, A, B, hk, hk3, rfl, rfl, rfl, A0, A1, B0, B1, hAB, hgr⟩ := hrel
    by_cases hlt : k < L.length ∧ k < 30
    · obtain ⟨h1, h2⟩ := hlt
      obtain ⟨-, hwf, hc⟩ := HST.out.gr (HW.out.trans hgr.out)
      obtain ⟨bb, off, rfl, hcc⟩ := hc.resolve_left (by intro e; rw [e] at h1; simp at h1)
      obtain ⟨c0, c1⟩ := hcc k h1
      clear hc hcc hwf
      obtain ⟨r0, r1⟩ := HK.out.gr hgr.out
      generalize L[k].1 = X at *
      generalize L[k].2 = Y at *
      obtain ⟨x0, x1⟩ := rng_bd X 1073741824 (by decide)
      obtain ⟨y0, y1⟩ := rng_bd Y 1073741824 (by decide)
      have t1 : (k : Int) < L.length := by omega
      have t2 : (k : Int) < 30 := by omega
      go_wp2_with fail
      go_quiet (fail)
      generalize max 0 (min X 1073741824) = x at *
      generalize max 0 (min Y 1073741824) = y at *
      clear c0 c1
      obtain ⟨r0, r1⟩ := RateIs.gr ⟨r0, r1⟩ ((Gr.refl wr).drewN nq)
      have hgr2 := Lib.hid (hgr.out.drewN nq)
      clear hgr
      generalize wr.drewN nq = wq at *
      cases hf : fits p q x y
      · have F1 := Lib.hid hf
        clear hf
        go_wp2_with fail
        refine (fits_is p q x y false F1 _).mono ?_
        rintro e w4 ⟨rfl, g4⟩
        go_wp2
        go_roundw
        case rel => exact ⟨k + 1, A, B, by omega, by omega, by go_num, rfl, rfl, A0, by omega, B0, by omega, hAB, Lib.hid (hgr2.out.trans g4)⟩
        case measure => simp [intOf]; omega
      · have F1 := Lib.hid hf
        have hsum := sums hAB.out ((fits_iff HG.out x0 (by omega) y0 (by omega)).1 hf)
        clear hf
        have F2 := Lib.hid ((fits_iff HG.out (show 0 ≤ A + x by omega) (by omega) (show 0 ≤ B + y by omega) (by omega)).2 hsum)
        have F3 := Lib.hid ((fits_symm p q (A + x) (B + y)).trans F2.out)
        have HS := Lib.hid hsum
        clear hsum
        go_wp2_with fail
        refine (fits_is p q x y true F1 _).mono ?_
        rintro e w4 ⟨rfl, g4⟩
        obtain ⟨r0, r1⟩ := RateIs.gr ⟨r0, r1⟩ g4
        go_wp2_with fail
        refine (fits_is p q (A + x) (B + y) true F2 _).mono ?_
        rintro e w5 ⟨rfl, g5⟩
        obtain ⟨r0, r1⟩ := RateIs.gr ⟨r0, r1⟩ g5
        go_wp2_with fail
        refine (fits_is p q (B + y) (A + x) true F3 _).mono ?_
        rintro e w6 ⟨rfl, g6⟩
        go_wp2
        go_roundw
        case rel => exact ⟨k + 1, A + x, B + y, by omega, by omega, by go_num, rfl, rfl, by omega, by omega, by omega, by omega, HS, Lib.hid (((hgr2.out.trans g4).trans g5).trans g6)⟩
        case measure => simp [intOf]; omega
    · have HE := Lib.hid (HW.out.trans hgr.out)
      by_cases h1 : k < L.length
      · have h2 : (30 : Int) ≤ (k : Int) := by omega
        go_wp2
        go_ret
        exact ⟨rfl, HE.out⟩
      · go_wp2
        go_ret
        exact ⟨rfl, HE.out⟩
end Go.Proofs.Ytgbicckclepplaa
