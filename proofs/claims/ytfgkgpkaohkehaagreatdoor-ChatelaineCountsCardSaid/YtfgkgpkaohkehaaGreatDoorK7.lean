import Derived.Test.YtfgkgpkaohkehaaGreatDoorK6
import Derived.WalkKit
import Derived.ProofKit
import Derived.LoopTactic
import Derived.Outline
import Derived.WalkSpells
import Derived.WalkLawsBesides
import Derived.Lib.Hide
import Derived.Deep.LoopGhost
import Derived.Deep.QuietTactic
import Derived.BigQuiet
import Derived.ShutString
import Derived.IntWalk
import Derived.Deep.RegionHeld3
import Derived.Test.YtfgkgpkaohkehaaGreatDoorK3
import Derived.Deep.RegionWith
namespace Go.Proofs.YtfgkgpkaohkehaaGreatDoor
open Go.ChangeShapes Go.WideShapes Go.ChangeAt Go.RowKit
open Grids
set_option linter.unusedVariables false
set_option linter.unusedSimpArgs false
set_option maxRecDepth 100000 in
theorem gown_any (R P z1 n1 z2 n2 W : Int) (w : World) :
    Calls Tryz.prog 4 #[.agg #[.int .i64 R, .int .i64 P, .int .u32 W, .int .i64 z1, .int .i64 n1, .int .i64 z2, .int .i64 n2]] w fun e w' => e = .returned (.agg #[.int .i64 R, .int .i64 P, .int .u32 W, .int .i64 z1, .int .i64 n1, .int .i64 z2, .int .i64 n2]) ∧ Gr w w' := by
  go_enter Tryz.func4, Tryz.ntmps4
  go_wp2
  exact bodyPost_ret (v := .agg #[.int .i64 R, .int .i64 P, .int .u32 W, .int .i64 z1, .int .i64 n1, .int .i64 z2, .int .i64 n2]) (by simp [results, Tryz.results4, go_sem]) rfl ⟨rfl, ((Gr.refl _).alloc _).alloc _⟩
theorem shp12 {r p W z1 n1 z2 n2 : Nat} (h : Shp r p W z1 n1 z2 n2) : r * p ≤ 9 := Nat.mul_le_mul h.hr.2 h.hp.2
theorem check_shp {r p W z1 n1 z2 n2 : Nat} (h : Shp r p W z1 n1 z2 n2) (M : Bool) (hM : meetsB r p W z1 n1 z2 n2 = M) (c : Int) (hc : (if M then (0 : Int) else 12) = c) : ChkIs r p W z1 n1 z2 n2 c := by
  intro w
  have := check_any r p W z1 n1 z2 n2 w (by have := h.hr; omega) (by have := h.hp; omega) (Nat.le_trans (shp12 h) (by decide)) h.hW h.hz1 h.hn1 h.hz2 h.hn2
  rw [hM, hc] at this
  exact this
theorem good_shp {r p W z1 n1 z2 n2 : Nat} (h : Shp r p W z1 n1 z2 n2) (M : Bool) (hM : meetsB r p W z1 n1 z2 n2 = M) (w : World) :
    Calls Tryz.prog 17 #[.agg #[.int .i64 r, .int .i64 p, .int .u32 W, .int .i64 z1, .int .i64 n1, .int .i64 z2, .int .i64 n2]] w fun e w' => e = .returned (.bool M) ∧ Gr w w' := by
  have := good_any r p W z1 n1 z2 n2 w (by have := h.hr; omega) (by have := h.hp; omega) (Nat.le_trans (shp12 h) (by decide)) h.hW h.hz1 h.hn1 h.hz2 h.hn2
  rw [hM] at this
  exact this
/-- What a right configuration is. -/
structure Rgt (r p W z1 n1 z2 n2 : Nat) : Prop where
  shp : Shp r p W z1 n1 z2 n2
  good : meetsB r p W z1 n1 z2 n2 = true
theorem cnt_pos {f : Nat → Bool} {n i : Nat} (hi : i < n) (h : f i = true) : 1 ≤ cnt f n := by
  induction n with
  | zero => omega
  | succ n ih =>
    unfold cnt
    rcases Nat.lt_or_ge i n with h1 | h1
    · have := ih h1; omega
    · obtain rfl : i = n := by omega
      rw [h]; simp
theorem cnt_full {f : Nat → Bool} : ∀ n, n ≤ cnt f n → ∀ i, i < n → f i = true
  | 0, _, i, hi => by omega
  | n + 1, h, i, hi => by
    have hl := cnt_le f n
    unfold cnt at h
    cases hf : f n
    · rw [hf] at h; simp at h; omega
    · rw [hf] at h
      simp at h
      rcases Nat.lt_or_ge i n with h1 | h1
      · exact cnt_full n h i h1
      · obtain rfl : i = n := by omega
        exact hf
/-- Without witnesses, all of all regions and one of one: right. -/
theorem plain_right {r p : Nat} (hr : 1 ≤ r ∧ r ≤ 3) (hp : 1 ≤ p ∧ p ≤ 3) : Rgt r p 0 r p 1 1 := by
  refine ⟨⟨hr, hp, Nat.pow_pos (by decide), ⟨hr.1, Nat.le_refl _⟩, ⟨hp.1, Nat.le_refl _⟩, ⟨Nat.le_refl _, hr.1⟩, ⟨Nat.le_refl _, hp.1⟩⟩, ?_⟩
  refine of_meets (by omega) (Nat.le_refl _) hr.1 (Nat.le_refl _) hp.1 fun a b ha hb => ?_
  unfold isQ at ha hb
  rw [decide_eq_true_eq] at ha hb
  obtain ⟨k, hk, hk1⟩ : ∃ k, k < r ∧ 1 ≤ regC p b k := by
    apply Classical.byContradiction
    intro hno
    have : cnt (fun r => decide (1 ≤ regC p b r)) r = 0 := by
      rw [cnt_congr (g := fun _ => false) _ fun i hi => decide_eq_false fun h => hno ⟨i, hi, h⟩, cnt_none]
    omega
  have hak := cnt_full r ha k hk
  rw [decide_eq_true_eq] at hak
  obtain ⟨i, hi, hb1⟩ : ∃ i, i < p ∧ b.testBit (k * p + i) = true := by
    apply Classical.byContradiction
    intro hno
    have : regC p b k = 0 := by
      unfold regC
      rw [cnt_congr (g := fun _ => false) _ fun i hi => by
        cases h : b.testBit (k * p + i)
        · rfl
        · exact absurd ⟨i, hi, h⟩ hno, cnt_none]
    omega
  exact ⟨_, reg_lt hk hi, cnt_full p hak i hi, hb1, by simp⟩
theorem far_put {w : World} {b d i o : Nat} {v x : Value} (hd : d ≠ b) (h : w.cell? ⟨d, o, none⟩ = some x) : (w.setCell ⟨b, i, none⟩ v).cell? ⟨d, o, none⟩ = some x := by simp [go_sem, h]
/-- Behind seven stores into one block. -/
theorem put7 {w W : World} {b : Nat} {u0 u1 u2 u3 u4 u5 u6 v0 v1 v2 v3 v4 v5 v6 : Value} (k0 : w.cell? ⟨b, 0, none⟩ = some u0) (k1 : w.cell? ⟨b, 1, none⟩ = some u1) (k2 : w.cell? ⟨b, 2, none⟩ = some u2) (k3 : w.cell? ⟨b, 3, none⟩ = some u3) (k4 : w.cell? ⟨b, 4, none⟩ = some u4) (k5 : w.cell? ⟨b, 5, none⟩ = some u5) (k6 : w.cell? ⟨b, 6, none⟩ = some u6) (hW : W = (((((((w.setCell ⟨b, 0, none⟩ v0).setCell ⟨b, 1, none⟩ v1).setCell ⟨b, 2, none⟩ v2).setCell ⟨b, 3, none⟩ v3).setCell ⟨b, 4, none⟩ v4).setCell ⟨b, 5, none⟩ v5).setCell ⟨b, 6, none⟩ v6)) :
    (W.cell? ⟨b, 0, none⟩ = some v0 ∧ W.cell? ⟨b, 1, none⟩ = some v1 ∧ W.cell? ⟨b, 2, none⟩ = some v2 ∧ W.cell? ⟨b, 3, none⟩ = some v3 ∧ W.cell? ⟨b, 4, none⟩ = some v4 ∧ W.cell? ⟨b, 5, none⟩ = some v5 ∧ W.cell? ⟨b, 6, none⟩ = some v6) ∧ (∀ d o x, d ≠ b → w.cell? ⟨d, o, none⟩ = some x → W.cell? ⟨d, o, none⟩ = some x) ∧ (∀ d o, W.frozen? ⟨d, o, none⟩ = w.frozen? ⟨d, o, none⟩) ∧ (∀ a, Gr a w → a.heap.size ≤ b → Gr a W) := by
  subst hW
  refine ⟨⟨by simp [go_sem, k0], by simp [go_sem, k1], by simp [go_sem, k2], by simp [go_sem, k3], by simp [go_sem, k4], by simp [go_sem, k5], by simp [go_sem, k6]⟩, fun d o x hd hx => ?_, fun d o => by simp only [World.frozen?_setCell], fun a h hb => (((((((h.setCell hb _).setCell hb _).setCell hb _).setCell hb _).setCell hb _).setCell hb _).setCell hb _)⟩
  · simp [go_sem, hx]
set_option maxRecDepth 100000 in
set_option maxHeartbeats 2000000 in
theorem right_any (R P z1 n1 z2 n2 : Int) (W : Nat) (w : World) (hW : W < 4294967296) :
    Calls Tryz.prog 5 #[.agg #[.int .i64 R, .int .i64 P, .int .u32 W, .int .i64 z1, .int .i64 n1, .int .i64 z2, .int .i64 n2]] w fun e w' => ∃ r p W z1 n1 z2 n2 : Nat, Rgt r p W z1 n1 z2 n2 ∧ e = .returned (.agg #[.int .i64 r, .int .i64 p, .int .u32 W, .int .i64 z1, .int .i64 n1, .int .i64 z2, .int .i64 n2]) ∧ Gr w w' := by
  have SM := Lib.hid (fun w => small_any R P z1 n1 z2 n2 W w hW)
  clear hW
  go_enter Tryz.func5, Tryz.ntmps5
  go_wp2_with fail
  refine (SM.out _).mono ?_
  rintro e w1 ⟨r, p, W', y1, y2, y3, y4, hS, rfl, hg⟩
  have HG1 := Lib.hid ((((Gr.refl w).alloc (.cells #[.int .i64 R, .int .i64 P, .int .u32 W, .int .i64 z1, .int .i64 n1, .int .i64 z2, .int .i64 n2] 26)).alloc (.cells #[.int .i64 0, .int .i64 0, .int .u32 0, .int .i64 0, .int .i64 0, .int .i64 0, .int .i64 0] 26)).trans hg)
  have hgA := ((Gr.refl (w.alloc (.cells #[.int .i64 R, .int .i64 P, .int .u32 W, .int .i64 z1, .int .i64 n1, .int .i64 z2, .int .i64 n2] 26))).alloc (.cells #[.int .i64 0, .int .i64 0, .int .u32 0, .int .i64 0, .int .i64 0, .int .i64 0, .int .i64 0] 26)).trans hg
  have hsz : (w.alloc (.cells #[.int .i64 R, .int .i64 P, .int .u32 W, .int .i64 z1, .int .i64 n1, .int .i64 z2, .int .i64 n2] 26)).heap.size = w.heap.size + 1 := by simp
  have k0 := hgA.own.1 0 _ rfl
  have f0 := hgA.own.2.1 0
  have j0 := hg.own.1 0 _ rfl
  have i0 := hg.own.2.1 0
  have k1 := hgA.own.1 1 _ rfl
  have f1 := hgA.own.2.1 1
  have j1 := hg.own.1 1 _ rfl
  have i1 := hg.own.2.1 1
  have k2 := hgA.own.1 2 _ rfl
  have f2 := hgA.own.2.1 2
  have j2 := hg.own.1 2 _ rfl
  have i2 := hg.own.2.1 2
  have k3 := hgA.own.1 3 _ rfl
  have f3 := hgA.own.2.1 3
  have j3 := hg.own.1 3 _ rfl
  have i3 := hg.own.2.1 3
  have k4 := hgA.own.1 4 _ rfl
  have f4 := hgA.own.2.1 4
  have j4 := hg.own.1 4 _ rfl
  have i4 := hg.own.2.1 4
  have k5 := hgA.own.1 5 _ rfl
  have f5 := hgA.own.2.1 5
  have j5 := hg.own.1 5 _ rfl
  have i5 := hg.own.2.1 5
  have k6 := hgA.own.1 6 _ rfl
  have f6 := hgA.own.2.1 6
  have j6 := hg.own.1 6 _ rfl
  have i6 := hg.own.2.1 6
  rw [hsz] at j0 i0 j1 i1 j2 i2 j3 i3 j4 i4 j5 i5 j6 i6
  have hb : w.heap.size ≤ w.heap.size := Nat.le_refl _
  clear hsz hg hgA
  go_wp2_with fail
  obtain ⟨⟨x0, x1, x2, x3, x4, x5, x6⟩, hoth, hfr, hgr⟩ := put7 k0 k1 k2 k3 k4 k5 k6 (rfl : (((((((w1.setCell ⟨w.heap.size, 0, none⟩ (.int .i64 (r : Nat))).setCell ⟨w.heap.size, 1, none⟩ (.int .i64 (p : Nat))).setCell ⟨w.heap.size, 2, none⟩ (.int .u32 (W' : Nat))).setCell ⟨w.heap.size, 3, none⟩ (.int .i64 (y1 : Nat))).setCell ⟨w.heap.size, 4, none⟩ (.int .i64 (y2 : Nat))).setCell ⟨w.heap.size, 5, none⟩ (.int .i64 (y3 : Nat))).setCell ⟨w.heap.size, 6, none⟩ (.int .i64 (y4 : Nat))) = _)
  have HG2 := Lib.hid (hgr _ HG1.out hb)
  rw [← hfr] at f0 i0
  replace j0 := hoth _ _ _ (Nat.succ_ne_self _) j0
  rw [← hfr] at f1 i1
  replace j1 := hoth _ _ _ (Nat.succ_ne_self _) j1
  rw [← hfr] at f2 i2
  replace j2 := hoth _ _ _ (Nat.succ_ne_self _) j2
  rw [← hfr] at f3 i3
  replace j3 := hoth _ _ _ (Nat.succ_ne_self _) j3
  rw [← hfr] at f4 i4
  replace j4 := hoth _ _ _ (Nat.succ_ne_self _) j4
  rw [← hfr] at f5 i5
  replace j5 := hoth _ _ _ (Nat.succ_ne_self _) j5
  rw [← hfr] at f6 i6
  replace j6 := hoth _ _ _ (Nat.succ_ne_self _) j6
  generalize (((((((w1.setCell ⟨w.heap.size, 0, none⟩ (.int .i64 (r : Nat))).setCell ⟨w.heap.size, 1, none⟩ (.int .i64 (p : Nat))).setCell ⟨w.heap.size, 2, none⟩ (.int .u32 (W' : Nat))).setCell ⟨w.heap.size, 3, none⟩ (.int .i64 (y1 : Nat))).setCell ⟨w.heap.size, 4, none⟩ (.int .i64 (y2 : Nat))).setCell ⟨w.heap.size, 5, none⟩ (.int .i64 (y3 : Nat))).setCell ⟨w.heap.size, 6, none⟩ (.int .i64 (y4 : Nat))) = w2 at *
  clear hoth hfr hgr k0 k1 k2 k3 k4 k5 k6
  obtain ⟨M, hM⟩ : ∃ M, meetsB r p W' y1 y2 y3 y4 = M := ⟨_, rfl⟩
  have GD := Lib.hid (good_shp hS M hM)
  have HM := Lib.hid hM
  have HS := Lib.hid hS
  clear hS hM
  refine (GD.out _).mono ?_
  rintro e w3 ⟨rfl, hg3⟩
  have HG3 := Lib.hid (HG2.out.trans hg3)
  replace f0 := (hg3.frozen (o := 0) (cell_lt x0)).trans f0
  replace i0 := (hg3.frozen (o := 0) (cell_lt j0)).trans i0
  replace x0 := hg3.cell x0
  replace j0 := hg3.cell j0
  replace f1 := (hg3.frozen (o := 1) (cell_lt x1)).trans f1
  replace i1 := (hg3.frozen (o := 1) (cell_lt j1)).trans i1
  replace x1 := hg3.cell x1
  replace j1 := hg3.cell j1
  replace f2 := (hg3.frozen (o := 2) (cell_lt x2)).trans f2
  replace i2 := (hg3.frozen (o := 2) (cell_lt j2)).trans i2
  replace x2 := hg3.cell x2
  replace j2 := hg3.cell j2
  replace f3 := (hg3.frozen (o := 3) (cell_lt x3)).trans f3
  replace i3 := (hg3.frozen (o := 3) (cell_lt j3)).trans i3
  replace x3 := hg3.cell x3
  replace j3 := hg3.cell j3
  replace f4 := (hg3.frozen (o := 4) (cell_lt x4)).trans f4
  replace i4 := (hg3.frozen (o := 4) (cell_lt j4)).trans i4
  replace x4 := hg3.cell x4
  replace j4 := hg3.cell j4
  replace f5 := (hg3.frozen (o := 5) (cell_lt x5)).trans f5
  replace i5 := (hg3.frozen (o := 5) (cell_lt j5)).trans i5
  replace x5 := hg3.cell x5
  replace j5 := hg3.cell j5
  replace f6 := (hg3.frozen (o := 6) (cell_lt x6)).trans f6
  replace i6 := (hg3.frozen (o := 6) (cell_lt j6)).trans i6
  replace x6 := hg3.cell x6
  replace j6 := hg3.cell j6
  clear hg3
  cases M
  · go_wp2
    have hd : w.heap.size + 1 ≠ w.heap.size := Nat.succ_ne_self _
    replace j0 : (((((w3.setCell ⟨w.heap.size, 2, none⟩ (.int .u32 0)).setCell ⟨w.heap.size, 3, none⟩ (.int .i64 (r : Nat))).setCell ⟨w.heap.size, 4, none⟩ (.int .i64 (p : Nat))).setCell ⟨w.heap.size, 5, none⟩ (.int .i64 1)).setCell ⟨w.heap.size, 6, none⟩ (.int .i64 1)).cell? ⟨w.heap.size + 1, 0, none⟩ = some (.int .i64 0) := far_put hd (far_put hd (far_put hd (far_put hd (far_put hd j0))))
    replace j1 : (((((w3.setCell ⟨w.heap.size, 2, none⟩ (.int .u32 0)).setCell ⟨w.heap.size, 3, none⟩ (.int .i64 (r : Nat))).setCell ⟨w.heap.size, 4, none⟩ (.int .i64 (p : Nat))).setCell ⟨w.heap.size, 5, none⟩ (.int .i64 1)).setCell ⟨w.heap.size, 6, none⟩ (.int .i64 1)).cell? ⟨w.heap.size + 1, 1, none⟩ = some (.int .i64 0) := far_put hd (far_put hd (far_put hd (far_put hd (far_put hd j1))))
    replace j2 : (((((w3.setCell ⟨w.heap.size, 2, none⟩ (.int .u32 0)).setCell ⟨w.heap.size, 3, none⟩ (.int .i64 (r : Nat))).setCell ⟨w.heap.size, 4, none⟩ (.int .i64 (p : Nat))).setCell ⟨w.heap.size, 5, none⟩ (.int .i64 1)).setCell ⟨w.heap.size, 6, none⟩ (.int .i64 1)).cell? ⟨w.heap.size + 1, 2, none⟩ = some (.int .u32 0) := far_put hd (far_put hd (far_put hd (far_put hd (far_put hd j2))))
    replace j3 : (((((w3.setCell ⟨w.heap.size, 2, none⟩ (.int .u32 0)).setCell ⟨w.heap.size, 3, none⟩ (.int .i64 (r : Nat))).setCell ⟨w.heap.size, 4, none⟩ (.int .i64 (p : Nat))).setCell ⟨w.heap.size, 5, none⟩ (.int .i64 1)).setCell ⟨w.heap.size, 6, none⟩ (.int .i64 1)).cell? ⟨w.heap.size + 1, 3, none⟩ = some (.int .i64 0) := far_put hd (far_put hd (far_put hd (far_put hd (far_put hd j3))))
    replace j4 : (((((w3.setCell ⟨w.heap.size, 2, none⟩ (.int .u32 0)).setCell ⟨w.heap.size, 3, none⟩ (.int .i64 (r : Nat))).setCell ⟨w.heap.size, 4, none⟩ (.int .i64 (p : Nat))).setCell ⟨w.heap.size, 5, none⟩ (.int .i64 1)).setCell ⟨w.heap.size, 6, none⟩ (.int .i64 1)).cell? ⟨w.heap.size + 1, 4, none⟩ = some (.int .i64 0) := far_put hd (far_put hd (far_put hd (far_put hd (far_put hd j4))))
    replace j5 : (((((w3.setCell ⟨w.heap.size, 2, none⟩ (.int .u32 0)).setCell ⟨w.heap.size, 3, none⟩ (.int .i64 (r : Nat))).setCell ⟨w.heap.size, 4, none⟩ (.int .i64 (p : Nat))).setCell ⟨w.heap.size, 5, none⟩ (.int .i64 1)).setCell ⟨w.heap.size, 6, none⟩ (.int .i64 1)).cell? ⟨w.heap.size + 1, 5, none⟩ = some (.int .i64 0) := far_put hd (far_put hd (far_put hd (far_put hd (far_put hd j5))))
    replace j6 : (((((w3.setCell ⟨w.heap.size, 2, none⟩ (.int .u32 0)).setCell ⟨w.heap.size, 3, none⟩ (.int .i64 (r : Nat))).setCell ⟨w.heap.size, 4, none⟩ (.int .i64 (p : Nat))).setCell ⟨w.heap.size, 5, none⟩ (.int .i64 1)).setCell ⟨w.heap.size, 6, none⟩ (.int .i64 1)).cell? ⟨w.heap.size + 1, 6, none⟩ = some (.int .i64 0) := far_put hd (far_put hd (far_put hd (far_put hd (far_put hd j6))))
    have HG4 : Hid (Gr w (((((w3.setCell ⟨w.heap.size, 2, none⟩ (.int .u32 0)).setCell ⟨w.heap.size, 3, none⟩ (.int .i64 (r : Nat))).setCell ⟨w.heap.size, 4, none⟩ (.int .i64 (p : Nat))).setCell ⟨w.heap.size, 5, none⟩ (.int .i64 1)).setCell ⟨w.heap.size, 6, none⟩ (.int .i64 1))) := Lib.hid (((((HG3.out.setCell hb _).setCell hb _).setCell hb _).setCell hb _).setCell hb _)
    generalize (((((w3.setCell ⟨w.heap.size, 2, none⟩ (.int .u32 0)).setCell ⟨w.heap.size, 3, none⟩ (.int .i64 (r : Nat))).setCell ⟨w.heap.size, 4, none⟩ (.int .i64 (p : Nat))).setCell ⟨w.heap.size, 5, none⟩ (.int .i64 1)).setCell ⟨w.heap.size, 6, none⟩ (.int .i64 1)) = w4 at *
    obtain ⟨⟨q0, q1, q2, q3, q4, q5, q6⟩, -, -, hgr⟩ := put7 j0 j1 j2 j3 j4 j5 j6 (rfl : (((((((w4.setCell ⟨w.heap.size + 1, 0, none⟩ (.int .i64 (r : Nat))).setCell ⟨w.heap.size + 1, 1, none⟩ (.int .i64 (p : Nat))).setCell ⟨w.heap.size + 1, 2, none⟩ (.int .u32 0)).setCell ⟨w.heap.size + 1, 3, none⟩ (.int .i64 (r : Nat))).setCell ⟨w.heap.size + 1, 4, none⟩ (.int .i64 (p : Nat))).setCell ⟨w.heap.size + 1, 5, none⟩ (.int .i64 1)).setCell ⟨w.heap.size + 1, 6, none⟩ (.int .i64 1)) = _)
    have HG5 := Lib.hid (hgr _ HG4.out (Nat.le_succ _))
    generalize (((((((w4.setCell ⟨w.heap.size + 1, 0, none⟩ (.int .i64 (r : Nat))).setCell ⟨w.heap.size + 1, 1, none⟩ (.int .i64 (p : Nat))).setCell ⟨w.heap.size + 1, 2, none⟩ (.int .u32 0)).setCell ⟨w.heap.size + 1, 3, none⟩ (.int .i64 (r : Nat))).setCell ⟨w.heap.size + 1, 4, none⟩ (.int .i64 (p : Nat))).setCell ⟨w.heap.size + 1, 5, none⟩ (.int .i64 1)).setCell ⟨w.heap.size + 1, 6, none⟩ (.int .i64 1)) = w5 at *
    clear hgr x0 x1 x2 x3 x4 x5 x6 j0 j1 j2 j3 j4 j5 j6 f0 f1 f2 f3 f4 f5 f6 i0 i1 i2 i3 i4 i5 i6
    refine bodyPost_ret (v := .agg #[.int .i64 r, .int .i64 p, .int .u32 0, .int .i64 r, .int .i64 p, .int .i64 1, .int .i64 1]) ?c1 ?c2 ?c3
    case c1 => simp [results, Tryz.results5, go_sem, q0, q1, q2, q3, q4, q5, q6]
    case c2 => rfl
    case c3 => exact ⟨r, p, 0, r, p, 1, 1, plain_right HS.out.hr HS.out.hp, rfl, HG5.out⟩
  · go_wp2
    obtain ⟨⟨q0, q1, q2, q3, q4, q5, q6⟩, -, -, hgr⟩ := put7 j0 j1 j2 j3 j4 j5 j6 (rfl : (((((((w3.setCell ⟨w.heap.size + 1, 0, none⟩ (.int .i64 (r : Nat))).setCell ⟨w.heap.size + 1, 1, none⟩ (.int .i64 (p : Nat))).setCell ⟨w.heap.size + 1, 2, none⟩ (.int .u32 (W' : Nat))).setCell ⟨w.heap.size + 1, 3, none⟩ (.int .i64 (y1 : Nat))).setCell ⟨w.heap.size + 1, 4, none⟩ (.int .i64 (y2 : Nat))).setCell ⟨w.heap.size + 1, 5, none⟩ (.int .i64 (y3 : Nat))).setCell ⟨w.heap.size + 1, 6, none⟩ (.int .i64 (y4 : Nat))) = _)
    have HG5 := Lib.hid (hgr _ HG3.out (Nat.le_succ _))
    generalize (((((((w3.setCell ⟨w.heap.size + 1, 0, none⟩ (.int .i64 (r : Nat))).setCell ⟨w.heap.size + 1, 1, none⟩ (.int .i64 (p : Nat))).setCell ⟨w.heap.size + 1, 2, none⟩ (.int .u32 (W' : Nat))).setCell ⟨w.heap.size + 1, 3, none⟩ (.int .i64 (y1 : Nat))).setCell ⟨w.heap.size + 1, 4, none⟩ (.int .i64 (y2 : Nat))).setCell ⟨w.heap.size + 1, 5, none⟩ (.int .i64 (y3 : Nat))).setCell ⟨w.heap.size + 1, 6, none⟩ (.int .i64 (y4 : Nat))) = w5 at *
    clear hgr x0 x1 x2 x3 x4 x5 x6 j0 j1 j2 j3 j4 j5 j6 f0 f1 f2 f3 f4 f5 f6 i0 i1 i2 i3 i4 i5 i6
    refine bodyPost_ret (v := .agg #[.int .i64 r, .int .i64 p, .int .u32 W', .int .i64 y1, .int .i64 y2, .int .i64 y3, .int .i64 y4]) ?c1 ?c2 ?c3
    case c1 => simp [results, Tryz.results5, go_sem, q0, q1, q2, q3, q4, q5, q6]
    case c2 => rfl
    case c3 => exact ⟨r, p, W', y1, y2, y3, y4, ⟨HS.out, HM.out⟩, rfl, HG5.out⟩
end Go.Proofs.YtfgkgpkaohkehaaGreatDoor
namespace Go.Proofs.YtfgkgpkaohkehaaGreatDoor
open Go.ChangeShapes Go.WideShapes Go.ChangeAt Go.RowKit
open Grids
set_option linter.unusedVariables false
set_option linter.unusedSimpArgs false
/-- All that the methods answer for a right configuration. -/
theorem len_shp {r p W z1 n1 z2 n2 : Nat} (h : Rgt r p W z1 n1 z2 n2) : LenIs r p W z1 n1 z2 n2 (r * p : Nat) := by
  have h9 := shp12 h.shp
  have := len_ok (check_shp h.shp true h.good 0 rfl) (by rw [← Int.natCast_mul]; omega) (by rw [← Int.natCast_mul]; omega)
  rw [Int.natCast_mul]; exact this
theorem pow9 {r p W z1 n1 z2 n2 : Nat} (h : Shp r p W z1 n1 z2 n2) : 2 ^ (r * p) ≤ 512 := Nat.pow_le_pow_right (n := 2) (by decide) (shp12 h)
theorem first_shp {r p W z1 n1 z2 n2 : Nat} (h : Rgt r p W z1 n1 z2 n2) (s : Nat) (hs : s < 4294967296) (q : Bool) (hq : isQ r p z1 n1 s = q) : QuoIs r p W z1 n1 z2 n2 z1 n1 s q := by
  intro w
  have a1 := h.shp.hr; have a2 := h.shp.hp; have a3 := h.shp.hz1; have a4 := h.shp.hn1
  have := isQuorum_any r p W z1 n1 z2 n2 z1 n1 s w (by omega) (by omega) (Nat.le_trans (shp12 h.shp) (by decide)) hs (by omega) (by omega) (check_shp h.shp true h.good 0 rfl)
  rw [hq] at this; exact this
theorem second_shp {r p W z1 n1 z2 n2 : Nat} (h : Rgt r p W z1 n1 z2 n2) (s : Nat) (hs : s < 4294967296) (q : Bool) (hq : isQ r p z2 n2 s = q) : QuoIs r p W z1 n1 z2 n2 z2 n2 s q := by
  intro w
  have a1 := h.shp.hr; have a2 := h.shp.hp; have a3 := h.shp.hz2; have a4 := h.shp.hn2
  have := isQuorum_any r p W z1 n1 z2 n2 z2 n2 s w (by omega) (by omega) (Nat.le_trans (shp12 h.shp) (by decide)) hs (by omega) (by omega) (check_shp h.shp true h.good 0 rfl)
  rw [hq] at this; exact this
theorem rgt33 : Rgt 3 3 0 2 2 2 2 := ⟨⟨by decide, by decide, by decide, by decide, by decide, by decide, by decide⟩, by decide +kernel⟩
end Go.Proofs.YtfgkgpkaohkehaaGreatDoor
namespace Go.Proofs.YtfgkgpkaohkehaaGreatDoor
open Go.ChangeShapes Go.WideShapes Go.ChangeAt Go.RowKit
open Grids
set_option linter.unusedVariables false
set_option linter.unusedSimpArgs false
/-- A count lies in block b: its configuration, its kind, the nodes that have answered. -/
structure VtIs (w : World) (b : Nat) (r p W z1 n1 z2 n2 : Nat) (f : Bool) (s : Nat) : Prop where
  c0 : w.cell? ⟨b, 0, none⟩ = some (.int .i64 r)
  c1 : w.cell? ⟨b, 1, none⟩ = some (.int .i64 p)
  c2 : w.cell? ⟨b, 2, none⟩ = some (.int .u32 W)
  c3 : w.cell? ⟨b, 3, none⟩ = some (.int .i64 z1)
  c4 : w.cell? ⟨b, 4, none⟩ = some (.int .i64 n1)
  c5 : w.cell? ⟨b, 5, none⟩ = some (.int .i64 z2)
  c6 : w.cell? ⟨b, 6, none⟩ = some (.int .i64 n2)
  c7 : w.cell? ⟨b, 7, none⟩ = some (.bool f)
  c8 : w.cell? ⟨b, 8, none⟩ = some (.int .u32 s)
  f8 : w.frozen? ⟨b, 8, none⟩ = false
  lt : s < 4294967296
theorem VtIs.gr {w w' : World} {b r p W z1 n1 z2 n2 s : Nat} {f : Bool} (h : VtIs w b r p W z1 n1 z2 n2 f s) (hg : Gr w w') : VtIs w' b r p W z1 n1 z2 n2 f s :=
  ⟨hg.cell h.c0, hg.cell h.c1, hg.cell h.c2, hg.cell h.c3, hg.cell h.c4, hg.cell h.c5, hg.cell h.c6, hg.cell h.c7, hg.cell h.c8, (hg.frozen (cell_lt h.c8)).trans h.f8, h.lt⟩
theorem VtIs.set {w : World} {b r p W z1 n1 z2 n2 s s' : Nat} {f : Bool} (h : VtIs w b r p W z1 n1 z2 n2 f s) (hs : s' < 4294967296) : VtIs (w.setCell ⟨b, 8, none⟩ (.int .u32 (s' : Nat))) b r p W z1 n1 z2 n2 f s' := by
  have o : ∀ i v, i ≠ 8 → w.cell? ⟨b, i, none⟩ = some v → (w.setCell ⟨b, 8, none⟩ (.int .u32 (s' : Nat))).cell? ⟨b, i, none⟩ = some v := fun i v hi hv => by
    rw [World.cell?_setCell_other _ _ _ _ (by simp [hi])]; exact hv
  exact ⟨o 0 _ (by decide) h.c0, o 1 _ (by decide) h.c1, o 2 _ (by decide) h.c2, o 3 _ (by decide) h.c3, o 4 _ (by decide) h.c4, o 5 _ (by decide) h.c5, o 6 _ (by decide) h.c6, o 7 _ (by decide) h.c7,
    World.cell?_setCell_same' _ _ _ (by rw [h.c8]; rfl), by rw [World.frozen?_setCell]; exact h.f8, hs⟩
/-- A new count. -/
def NewIs (r p W z1 n1 z2 n2 : Nat) (f : Bool) (w : World) (e : Ending) (w' : World) : Prop := ∃ b, e = .returned (.pointer (some ⟨b, 0, none⟩)) ∧ w.heap.size ≤ b ∧ VtIs w' b r p W z1 n1 z2 n2 f 0 ∧ Gr w w'
theorem newVt {w : World} {b : Nat} (hb : b = w.heap.size) (r p W z1 n1 z2 n2 : Nat) (f : Bool) (s : Nat) (hs : s < 4294967296) (t : TypeId) :
    VtIs (w.alloc (.cells #[.int .i64 r, .int .i64 p, .int .u32 W, .int .i64 z1, .int .i64 n1, .int .i64 z2, .int .i64 n2, .bool f, .int .u32 s] t)) b r p W z1 n1 z2 n2 f s :=
  ⟨new_cell hb rfl, new_cell hb rfl, new_cell hb rfl, new_cell hb rfl, new_cell hb rfl, new_cell hb rfl, new_cell hb rfl, new_cell hb rfl, new_cell hb rfl, new_free hb, hs⟩
set_option maxRecDepth 100000 in
theorem vFirst_any (r p W z1 n1 z2 n2 : Nat) (w : World) :
    Calls Tryz.prog 7 #[.agg #[.int .i64 r, .int .i64 p, .int .u32 W, .int .i64 z1, .int .i64 n1, .int .i64 z2, .int .i64 n2]] w (NewIs r p W z1 n1 z2 n2 true w) := by
  go_enter Tryz.func7, Tryz.ntmps7
  go_wp2
  go_ret
  refine ⟨_, rfl, ?_, newVt ?_ _ _ _ _ _ _ _ _ _ (by decide) _, ((Gr.refl _).alloc _).alloc _⟩ <;> simp
set_option maxRecDepth 100000 in
theorem vSecond_any (r p W z1 n1 z2 n2 : Nat) (w : World) :
    Calls Tryz.prog 6 #[.agg #[.int .i64 r, .int .i64 p, .int .u32 W, .int .i64 z1, .int .i64 n1, .int .i64 z2, .int .i64 n2]] w (NewIs r p W z1 n1 z2 n2 false w) := by
  go_enter Tryz.func6, Tryz.ntmps6
  go_wp2
  go_ret
  refine ⟨_, rfl, ?_, newVt ?_ _ _ _ _ _ _ _ _ _ (by decide) _, ((Gr.refl _).alloc _).alloc _⟩ <;> simp
set_option maxRecDepth 100000 in
theorem vSet_any {b r p W z1 n1 z2 n2 s : Nat} {f : Bool} (w : World) (h : VtIs w b r p W z1 n1 z2 n2 f s) :
    Calls Tryz.prog 13 #[.pointer (some ⟨b, 0, none⟩)] w fun e w' => e = .returned (.int .u32 s) ∧ w = w' := by
  have c8 := h.c8
  clear h
  go_enter Tryz.func13, Tryz.ntmps13
  go_wp2
  go_ret
  exact ⟨rfl, rfl⟩
set_option maxRecDepth 100000 in
theorem vKind_any {b r p W z1 n1 z2 n2 s : Nat} {f : Bool} (w : World) (h : VtIs w b r p W z1 n1 z2 n2 f s) :
    Calls Tryz.prog 19 #[.pointer (some ⟨b, 0, none⟩)] w fun e w' => e = .returned (.agg #[.int .i64 (if f then z1 else z2 : Nat), .int .i64 (if f then n1 else n2 : Nat)]) ∧ Gr w w' := by
  have c3 := h.c3
  have c4 := h.c4
  have c5 := h.c5
  have c6 := h.c6
  have c7 := h.c7
  have lt := cell_lt h.c7
  have ne := Nat.ne_of_lt lt
  clear h
  cases f
  · go_enter Tryz.func19, Tryz.ntmps19
    go_wp2
    refine bodyPost_ret (v := .agg #[.int .i64 (z2 : Nat), .int .i64 (n2 : Nat)]) (by simp [results, Tryz.results19, go_sem]) rfl ⟨rfl, by first | exact (Gr.refl _).alloc _ | exact (((Gr.refl _).alloc _).setCell (Nat.le_refl _) _).setCell (Nat.le_refl _) _⟩
  · go_enter Tryz.func19, Tryz.ntmps19
    go_wp2
    refine bodyPost_ret (v := .agg #[.int .i64 (z1 : Nat), .int .i64 (n1 : Nat)]) (by simp [results, Tryz.results19, go_sem]) rfl ⟨rfl, by first | exact (Gr.refl _).alloc _ | exact (((Gr.refl _).alloc _).setCell (Nat.le_refl _) _).setCell (Nat.le_refl _) _⟩
/-- A copy. -/
def CopyIs (b r p W z1 n1 z2 n2 : Nat) (f : Bool) (s : Nat) (w : World) (e : Ending) (w' : World) : Prop := ∃ d, e = .returned (.pointer (some ⟨d, 0, none⟩)) ∧ w.heap.size ≤ d ∧ VtIs w' d r p W z1 n1 z2 n2 f s ∧ Gr w w'
end Go.Proofs.YtfgkgpkaohkehaaGreatDoor
namespace Go.Proofs.YtfgkgpkaohkehaaGreatDoor
open Go.ChangeShapes Go.WideShapes Go.ChangeAt Go.RowKit
open Grids
set_option linter.unusedVariables false
set_option linter.unusedSimpArgs false
/-- Of blocks other than p nothing has turned. -/
structure Sole (p : Nat) (w w' : World) : Prop where
  os : w'.os = w.os
  tape : w'.tape = w.tape
  output : w'.output = w.output
  size : w.heap.size ≤ w'.heap.size
  block : ∀ k, k < w.heap.size → k ≠ p → w'.heap[k]? = w.heap[k]?
theorem Sole.trans {p : Nat} {a b c : World} (h : Sole p a b) (k : Sole p b c) : Sole p a c :=
  ⟨k.os.trans h.os, k.tape.trans h.tape, k.output.trans h.output, Nat.le_trans h.size k.size, fun i hi hp => (k.block i (Nat.lt_of_lt_of_le hi h.size) hp).trans (h.block i hi hp)⟩
theorem Sole.setCell (p o : Nat) (w : World) (v : Value) : Sole p w (w.setCell ⟨p, o, none⟩ v) := ⟨rfl, rfl, rfl, by simp [World.setCell], fun k _ hk => Below.heap_setCell _ _ _ _ hk⟩
theorem Sole.gr {p : Nat} {w0 w w' : World} (h : Sole p w w') (hg : Gr w0 w) (hp : w0.heap.size ≤ p) : Gr w0 w' :=
  Below.trans hg ⟨h.os, h.tape, h.output, h.size, fun k hk => h.block k (Nat.lt_of_lt_of_le hk hg.size) (by omega)⟩
theorem Sole.of_gr {p : Nat} {w w' : World} (h : Gr w w') : Sole p w w' := ⟨Below.os h, Below.tape h, Below.output h, h.size, fun k hk _ => Below.block h k hk⟩
theorem Sole.cell {p : Nat} {w w' : World} (h : Sole p w w') {b o : Nat} {v : Value} (hb : b ≠ p) (hc : w.cell? ⟨b, o, none⟩ = some v) : w'.cell? ⟨b, o, none⟩ = some v :=
  (World.cell?_of_block (w := w) (a := ⟨b, o, none⟩) (h.block b (cell_lt hc) hb)).trans hc
theorem Sole.vt {p : Nat} {w w' : World} (h : Sole p w w') {b r q W z1 n1 z2 n2 s : Nat} {f : Bool} (hb : b ≠ p) (v : VtIs w b r q W z1 n1 z2 n2 f s) : VtIs w' b r q W z1 n1 z2 n2 f s :=
  ⟨h.cell hb v.c0, h.cell hb v.c1, h.cell hb v.c2, h.cell hb v.c3, h.cell hb v.c4, h.cell hb v.c5, h.cell hb v.c6, h.cell hb v.c7, h.cell hb v.c8,
    (World.frozen?_of_block (w := w) (a := ⟨b, 8, none⟩) (h.block b (cell_lt v.c8) hb)).trans v.f8, v.lt⟩
theorem TB.sole {p : Nat} {w w' : World} (h : TB w) (hs : Sole p w w') (hp : 0 ≠ p) : TB w' := fun j hj => hs.cell hp (h j hj)
/-- Is a node's answer new? -/
def freshB (r p s : Nat) (n : Int) : Bool := decide (0 ≤ n ∧ n < ((r * p : Nat) : Int)) && !s.testBit n.toNat
def addS (r p s : Nat) (n : Int) : Nat := if freshB r p s n then s ||| 2 ^ n.toNat else s
def AddIs (b r p W z1 n1 z2 n2 : Nat) (f : Bool) (s : Nat) (n : Int) (w : World) (e : Ending) (w' : World) : Prop :=
  e = .returned (.bool (freshB r p s n)) ∧ VtIs w' b r p W z1 n1 z2 n2 f (addS r p s n) ∧ Sole b w w'
theorem addIs_no {b r p W z1 n1 z2 n2 s : Nat} {f : Bool} {n : Int} {w w' : World} (hf : Hid (freshB r p s n = false)) (hv : VtIs w' b r p W z1 n1 z2 n2 f s) (hs : Sole b w w') : AddIs b r p W z1 n1 z2 n2 f s n w (.returned (.bool false)) w' := by
  refine ⟨by rw [hf.out], ?_, hs⟩
  unfold addS; rw [hf.out]; exact hv
theorem addIs_yes {b r p W z1 n1 z2 n2 s : Nat} {f : Bool} {n : Int} {w w' : World} (hf : Hid (freshB r p s n = true)) (hv : VtIs w' b r p W z1 n1 z2 n2 f (s ||| 2 ^ n.toNat)) (hs : Sole b w w') : AddIs b r p W z1 n1 z2 n2 f s n w (.returned (.bool true)) w' := by
  refine ⟨by rw [hf.out], ?_, hs⟩
  unfold addS; rw [hf.out]; exact hv
theorem and_two {s m : Nat} : (((s &&& 2 ^ m : Nat) : Int) != 0) = s.testBit m := by
  have h : s &&& 2 ^ m = if s.testBit m then 2 ^ m else 0 := by
    apply Nat.eq_of_testBit_eq
    intro i
    rw [Nat.testBit_and, Nat.testBit_two_pow]
    by_cases e : m = i
    · subst e; cases h : s.testBit m <;> simp [Nat.testBit_two_pow]
    · cases h : s.testBit m <;> simp [Nat.testBit_two_pow, e]
  have hp : 0 < 2 ^ m := Nat.two_pow_pos m
  rw [h]
  cases s.testBit m
  · rfl
  · simp only [if_true]
    rw [bne_iff_ne]
    omega
set_option maxRecDepth 100000 in
set_option maxHeartbeats 1000000 in
theorem vAdd_any {b r p W z1 n1 z2 n2 s : Nat} {f : Bool} (R : Rgt r p W z1 n1 z2 n2) (n : Int) (wn : (Lit.int .i64 n).wf = true) (w : World) (h : VtIs w b r p W z1 n1 z2 n2 f s) :
    Calls Tryz.prog 14 #[.pointer (some ⟨b, 0, none⟩), .int .i64 n] w (AddIs b r p W z1 n1 z2 n2 f s n w) := by
  have HH := Lib.hid (has2_any n (len_shp R))
  have h9 := shp12 R.shp
  have hV := Lib.hid h
  have E1 := Lib.hid (show setL [n] = one n by simp [setL])
  have hF := Lib.hid (show freshB r p s n = (decide (0 ≤ n ∧ n < ((r * p : Nat) : Int)) && !s.testBit n.toNat) from rfl)
  have hI : Ints (w.alloc (.cells #[.int .i64 n] 3)) (some ⟨w.heap.size, 0, none⟩) [n] :=
    ⟨by simp, by simpa using wn, .inr ⟨w.heap.size, 0, rfl, fun i hi => by
      have h0 : i = 0 := by simpa using hi
      subst h0; exact new_cell rfl rfl⟩⟩
  have S2 := Lib.hid (gset_any [n] _ 1 _ hI)
  have hV1 := Lib.hid (h.gr ((Gr.refl w).alloc (.cells #[.int .i64 n] 3)))
  have HG1 := Lib.hid ((Gr.refl w).alloc (.cells #[.int .i64 n] 3))
  clear hI
  generalize r * p = N at *
  by_cases hc : 0 ≤ n ∧ n < (N : Int)
  · rw [decide_eq_true hc] at HH hF
    obtain ⟨m, rfl⟩ := Int.eq_ofNat_of_zero_le hc.1
    have hm : m < 32 := by omega
    have E2 := Lib.hid (one_in hm)
    have hlt := h.lt
    have hp : 2 ^ m < 4294967296 := Nat.lt_of_lt_of_le (Nat.pow_lt_pow_right (by decide) hm) (by decide)
    have HA := Lib.hid (w32_and s (2 ^ m) hlt hp)
    have HO := Lib.hid (w32_or s (2 ^ m) hlt hp)
    have HT := Lib.hid (@and_two s m)
    have hor : s ||| 2 ^ m < 4294967296 := Nat.or_lt_two_pow (n := 32) hlt hp
    have hF2 := Lib.hid (show freshB r p s (m : Int) = !s.testBit m by rw [hF.out]; rfl)
    have ht : (m : Int).toNat = m := rfl
    have HTN := Lib.hid ht
    clear hc ht h hF
    generalize hb : s.testBit m = q at *
    clear hb
    generalize s &&& 2 ^ m = an at *
    generalize hpw : 2 ^ m = P at *
    obtain ⟨c0, c1, c2, c3, c4, c5, c6, -, c8, f8, -⟩ := hV1.out
    have HPW := Lib.hid hpw
    clear hpw
    cases q
    · go_enter Tryz.func14, Tryz.ntmps14
      go_wp2_with fail
      refine S2.out.mono ?_
      rintro e w2 ⟨rfl, rfl⟩
      rw [E1.out, E2.out]
      go_wp2_with fail
      refine (HH.out _).mono ?_
      rintro e w2 ⟨rfl, hg⟩
      have hV2 := Lib.hid (hV1.out.gr hg)
      have HG2 := Lib.hid (HG1.out.trans hg)
      replace f8 := (hg.frozen (o := 8) (cell_lt c8)).trans f8
      replace c8 := hg.cell c8
      clear c0 c1 c2 c3 c4 c5 c6 hg
      have T0 := HT.out
      go_wp2_with (simp only [HA.out, HO.out])
      go_ret
      exact addIs_yes (Lib.hid hF2.out) (by rw [HTN.out, HPW.out]; exact hV2.out.set hor) ((Sole.of_gr HG2.out).trans (Sole.setCell _ _ _ _))
    · go_enter Tryz.func14, Tryz.ntmps14
      go_wp2_with fail
      refine S2.out.mono ?_
      rintro e w2 ⟨rfl, rfl⟩
      rw [E1.out, E2.out]
      go_wp2_with fail
      refine (HH.out _).mono ?_
      rintro e w2 ⟨rfl, hg⟩
      have hV2 := Lib.hid (hV1.out.gr hg)
      have HG2 := Lib.hid (HG1.out.trans hg)
      replace f8 := (hg.frozen (o := 8) (cell_lt c8)).trans f8
      replace c8 := hg.cell c8
      clear c0 c1 c2 c3 c4 c5 c6 hg
      have T0 := HT.out
      go_wp2_with (simp only [HA.out, HO.out])
      go_ret
      exact addIs_no (Lib.hid hF2.out) hV2.out (Sole.of_gr HG2.out)
  · rw [decide_eq_false hc] at HH hF
    have hF2 := Lib.hid (show freshB r p s n = false by rw [hF.out]; rfl)
    obtain ⟨c0, c1, c2, c3, c4, c5, c6, -, -, -, -⟩ := hV1.out
    clear hc h hF h9
    generalize setL [n] = o at *
    go_enter Tryz.func14, Tryz.ntmps14
    go_wp2_with fail
    refine S2.out.mono ?_
    rintro e w2 ⟨rfl, rfl⟩
    go_wp2_with fail
    refine (HH.out _).mono ?_
    rintro e w2 ⟨rfl, hg⟩
    have hV2 := Lib.hid (hV1.out.gr hg)
    have HG2 := Lib.hid (HG1.out.trans hg)
    clear c0 c1 c2 c3 c4 c5 c6 hg
    go_wp2
    go_ret
    exact addIs_no hF2 hV2.out (Sole.of_gr HG2.out)
/-- The quorum that is counted for. -/
def kz (f : Bool) (a b : Nat) : Nat := if f then a else b
theorem quo_kz {r p W z1 n1 z2 n2 : Nat} (R : Rgt r p W z1 n1 z2 n2) (s : Nat) (hs : s < 4294967296) : QuoIs r p W z1 n1 z2 n2 z1 n1 s (isQ r p z1 n1 s) ∧ QuoIs r p W z1 n1 z2 n2 z2 n2 s (isQ r p z2 n2 s) := ⟨first_shp R s hs _ rfl, second_shp R s hs _ rfl⟩
set_option maxRecDepth 100000 in
set_option maxHeartbeats 1000000 in
theorem vCould_any {b r p W z1 n1 z2 n2 s : Nat} {f : Bool} (R : Rgt r p W z1 n1 z2 n2) (m : Nat) (hm : m < 4294967296) (w : World) (h : VtIs w b r p W z1 n1 z2 n2 f s) :
    Calls Tryz.prog 41 #[.pointer (some ⟨b, 0, none⟩), .int .u32 m] w fun e w' => e = .returned (.bool (isQ r p (kz f z1 z2) (kz f n1 n2) (s ||| m))) ∧ Gr w w' := by
  have hor : s ||| m < 4294967296 := Nat.or_lt_two_pow (n := 32) h.lt hm
  have HO := Lib.hid (w32_or s m h.lt hm)
  obtain ⟨Q1, Q2⟩ := quo_kz R (s ||| m) hor
  have Q1 := Lib.hid (isFirst_any Q1)
  have Q2 := Lib.hid (isSecond_any Q2)
  obtain ⟨c0, c1, c2, c3, c4, c5, c6, c7, c8, -, -⟩ := h
  generalize s ||| m = u at *
  cases f
  · have E := Lib.hid (show isQ r p (kz false z1 z2) (kz false n1 n2) u = isQ r p z2 n2 u from rfl)
    rw [E.out]
    generalize isQ r p z2 n2 u = q at *
    clear E Q1
    go_enter Tryz.func41, Tryz.ntmps41
    go_wp2
    go_region_with (go_at_call 69; go_loud (simp only [HO.out]; refine (Q2.out _).mono ?_; rintro e w2 ⟨rfl, hg⟩))
    all_goals
      have HG := Lib.hid hg
      go_wp2
      go_ret
      exact ⟨rfl, HG.out.of_drew⟩
  · have E := Lib.hid (show isQ r p (kz true z1 z2) (kz true n1 n2) u = isQ r p z1 n1 u from rfl)
    rw [E.out]
    generalize isQ r p z1 n1 u = q at *
    clear E Q2
    go_enter Tryz.func41, Tryz.ntmps41
    go_wp2
    go_region_with (go_at_call 68; go_loud (simp only [HO.out]; refine (Q1.out _).mono ?_; rintro e w2 ⟨rfl, hg⟩))
    all_goals
      have HG := Lib.hid hg
      go_wp2
      go_ret
      exact ⟨rfl, HG.out.of_drew⟩
set_option maxRecDepth 100000 in
theorem vDone_any {b r p W z1 n1 z2 n2 s : Nat} {f : Bool} (R : Rgt r p W z1 n1 z2 n2) (w : World) (h : VtIs w b r p W z1 n1 z2 n2 f s) :
    Calls Tryz.prog 15 #[.pointer (some ⟨b, 0, none⟩)] w fun e w' => e = .returned (.bool (isQ r p (kz f z1 z2) (kz f n1 n2) s)) ∧ Gr w w' := by
  have C := vCould_any R 0 (by decide) w h
  rw [Nat.or_zero] at C
  have C := Lib.hid C
  clear h
  generalize isQ r p (kz f z1 z2) (kz f n1 n2) s = q at *
  go_enter Tryz.func15, Tryz.ntmps15
  go_wp2_with fail
  refine C.out.mono ?_
  rintro e w2 ⟨rfl, hg⟩
  go_wp2
  go_ret
  exact ⟨rfl, hg⟩
end Go.Proofs.YtfgkgpkaohkehaaGreatDoor
