import Derived.Test.YtegapeplbincnaaDoorF07n
import Derived.WalkKit
import Derived.ProofKit
import Derived.LoopTactic
import Derived.Outline
import Derived.WalkSpells
import Derived.WalkLawsBesides
import Derived.Lib.Hide
import Derived.Deep.LoopGhost
import Derived.Deep.QuietTactic
import Derived.BigQuiet
import Derived.ShutString
import Derived.IntWalk
import Derived.Deep.RegionHeld3
namespace Go.Proofs.YtegapeplbincnaaDoor
open Go.ChangeShapes Go.WideShapes Go.ChangeAt Go.RowKit
open Grids
set_option linter.unusedVariables false
set_option linter.unusedSimpArgs false
/-- All that the methods answer for a right configuration. -/
theorem len_shp {r p W z1 n1 z2 n2 : Nat} (h : Rgt r p W z1 n1 z2 n2) : LenIs r p W z1 n1 z2 n2 (r * p : Nat) := by
  have h9 := shp12 h.shp
  have := len_ok (check_shp h.shp true h.good 0 rfl) (by rw [← Int.natCast_mul]; omega) (by rw [← Int.natCast_mul]; omega)
  rw [Int.natCast_mul]; exact this
theorem pow9 {r p W z1 n1 z2 n2 : Nat} (h : Shp r p W z1 n1 z2 n2) : 2 ^ (r * p) ≤ 512 := Nat.pow_le_pow_right (n := 2) (by decide) (shp12 h)
theorem first_shp {r p W z1 n1 z2 n2 : Nat} (h : Rgt r p W z1 n1 z2 n2) (s : Nat) (hs : s < 4294967296) (q : Bool) (hq : isQ r p z1 n1 s = q) : QuoIs r p W z1 n1 z2 n2 z1 n1 s q := by
  intro w
  have a1 := h.shp.hr; have a2 := h.shp.hp; have a3 := h.shp.hz1; have a4 := h.shp.hn1
  have := isQuorum_any r p W z1 n1 z2 n2 z1 n1 s w (by omega) (by omega) (Nat.le_trans (shp12 h.shp) (by decide)) hs (by omega) (by omega) (check_shp h.shp true h.good 0 rfl)
  rw [hq] at this; exact this
theorem second_shp {r p W z1 n1 z2 n2 : Nat} (h : Rgt r p W z1 n1 z2 n2) (s : Nat) (hs : s < 4294967296) (q : Bool) (hq : isQ r p z2 n2 s = q) : QuoIs r p W z1 n1 z2 n2 z2 n2 s q := by
  intro w
  have a1 := h.shp.hr; have a2 := h.shp.hp; have a3 := h.shp.hz2; have a4 := h.shp.hn2
  have := isQuorum_any r p W z1 n1 z2 n2 z2 n2 s w (by omega) (by omega) (Nat.le_trans (shp12 h.shp) (by decide)) hs (by omega) (by omega) (check_shp h.shp true h.good 0 rfl)
  rw [hq] at this; exact this
theorem rgt33 : Rgt 3 3 0 2 2 2 2 := ⟨⟨by decide, by decide, by decide, by decide, by decide, by decide, by decide⟩, by decide +kernel⟩
set_option maxRecDepth 100000 in
set_option maxHeartbeats 1000000 in
theorem awake07_any (w : World) : Calls Tryd.prog 7 #[] w fun e w' => e = .returned (.bool true) ∧ Gr w w' := by
  have CH := Lib.hid (check_shp rgt33.shp true rgt33.good 0 rfl)
  have LN := Lib.hid (len_shp rgt33)
  have Q1 := Lib.hid (isFirst_any (first_shp rgt33 27 (by decide) true (by decide +kernel)))
  have Q2 := Lib.hid (isFirst_any (first_shp rgt33 7 (by decide) false (by decide +kernel)))
  go_enter Tryd.func7, Tryd.ntmps7
  go_wp2_with fail
  refine (CH.out _).mono ?_
  rintro e w1 ⟨rfl, hg1⟩
  have k0 := hg1.own.1 0 _ rfl
  have k1 := hg1.own.1 1 _ rfl
  have k2 := hg1.own.1 2 _ rfl
  have k3 := hg1.own.1 3 _ rfl
  have k4 := hg1.own.1 4 _ rfl
  have k5 := hg1.own.1 5 _ rfl
  have k6 := hg1.own.1 6 _ rfl
  have HG1 := Lib.hid (((Gr.refl w).alloc _).trans hg1)
  clear hg1
  go_wp2_with fail
  refine (LN.out _).mono ?_
  rintro e w2 ⟨rfl, hg2⟩
  replace k0 := hg2.cell k0
  replace k1 := hg2.cell k1
  replace k2 := hg2.cell k2
  replace k3 := hg2.cell k3
  replace k4 := hg2.cell k4
  replace k5 := hg2.cell k5
  replace k6 := hg2.cell k6
  have HG2 := Lib.hid (HG1.out.trans hg2)
  clear hg2
  go_wp2_with fail
  refine (Q1.out _).mono ?_
  rintro e w3 ⟨rfl, hg3⟩
  replace k0 := hg3.cell k0
  replace k1 := hg3.cell k1
  replace k2 := hg3.cell k2
  replace k3 := hg3.cell k3
  replace k4 := hg3.cell k4
  replace k5 := hg3.cell k5
  replace k6 := hg3.cell k6
  have HG3 := Lib.hid (HG2.out.trans hg3)
  clear hg3
  go_wp2_with fail
  refine (Q2.out _).mono ?_
  rintro e w4 ⟨rfl, hg4⟩
  go_wp2
  go_ret
  exact ⟨rfl, HG3.out.trans hg4⟩
end Go.Proofs.YtegapeplbincnaaDoor
