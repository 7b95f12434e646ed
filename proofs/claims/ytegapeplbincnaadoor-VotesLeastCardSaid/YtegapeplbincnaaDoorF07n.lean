import Derived.Test.YtegapeplbincnaaDoorF07m
import Derived.WalkKit
import Derived.ProofKit
import Derived.LoopTactic
import Derived.Outline
import Derived.WalkSpells
import Derived.WalkLawsBesides
import Derived.Lib.Hide
import Derived.Deep.LoopGhost
import Derived.Deep.QuietTactic
import Derived.BigQuiet
import Derived.ShutString
import Derived.IntWalk
namespace Go.Proofs.YtegapeplbincnaaDoor
open Go.ChangeShapes Go.WideShapes Go.ChangeAt Go.RowKit
open Grids
set_option linter.unusedVariables false
set_option linter.unusedSimpArgs false
set_option maxRecDepth 100000 in
theorem own_any (R P z1 n1 z2 n2 W : Int) (w : World) :
    Calls Tryd.prog 28 #[.agg #[.int .i64 R, .int .i64 P, .int .u32 W, .int .i64 z1, .int .i64 n1, .int .i64 z2, .int .i64 n2]] w fun e w' => e = .returned (.agg #[.int .i64 R, .int .i64 P, .int .u32 W, .int .i64 z1, .int .i64 n1, .int .i64 z2, .int .i64 n2]) ∧ Gr w w' := by
  go_enter Tryd.func28, Tryd.ntmps28
  go_wp2
  exact bodyPost_ret (v := .agg #[.int .i64 R, .int .i64 P, .int .u32 W, .int .i64 z1, .int .i64 n1, .int .i64 z2, .int .i64 n2]) (by simp [results, Tryd.results28, go_sem]) rfl ⟨rfl, ((Gr.refl _).alloc _).alloc _⟩
theorem shp12 {r p W z1 n1 z2 n2 : Nat} (h : Shp r p W z1 n1 z2 n2) : r * p ≤ 9 := Nat.mul_le_mul h.hr.2 h.hp.2
theorem check_shp {r p W z1 n1 z2 n2 : Nat} (h : Shp r p W z1 n1 z2 n2) (M : Bool) (hM : meetsB r p W z1 n1 z2 n2 = M) (c : Int) (hc : (if M then (0 : Int) else 12) = c) : ChkIs r p W z1 n1 z2 n2 c := by
  intro w
  have := check_any r p W z1 n1 z2 n2 w (by have := h.hr; omega) (by have := h.hp; omega) (Nat.le_trans (shp12 h) (by decide)) h.hW h.hz1 h.hn1 h.hz2 h.hn2
  rw [hM, hc] at this
  exact this
theorem good_shp {r p W z1 n1 z2 n2 : Nat} (h : Shp r p W z1 n1 z2 n2) (M : Bool) (hM : meetsB r p W z1 n1 z2 n2 = M) (w : World) :
    Calls Tryd.prog 27 #[.agg #[.int .i64 r, .int .i64 p, .int .u32 W, .int .i64 z1, .int .i64 n1, .int .i64 z2, .int .i64 n2]] w fun e w' => e = .returned (.bool M) ∧ Gr w w' := by
  have := good_any r p W z1 n1 z2 n2 w (by have := h.hr; omega) (by have := h.hp; omega) (Nat.le_trans (shp12 h) (by decide)) h.hW h.hz1 h.hn1 h.hz2 h.hn2
  rw [hM] at this
  exact this
/-- What a right configuration is. -/
structure Rgt (r p W z1 n1 z2 n2 : Nat) : Prop where
  shp : Shp r p W z1 n1 z2 n2
  good : meetsB r p W z1 n1 z2 n2 = true
theorem cnt_pos {f : Nat → Bool} {n i : Nat} (hi : i < n) (h : f i = true) : 1 ≤ cnt f n := by
  induction n with
  | zero => omega
  | succ n ih =>
    unfold cnt
    rcases Nat.lt_or_ge i n with h1 | h1
    · have := ih h1; omega
    · obtain rfl : i = n := by omega
      rw [h]; simp
theorem cnt_full {f : Nat → Bool} : ∀ n, n ≤ cnt f n → ∀ i, i < n → f i = true
  | 0, _, i, hi => by omega
  | n + 1, h, i, hi => by
    have hl := cnt_le f n
    unfold cnt at h
    cases hf : f n
    · rw [hf] at h; simp at h; omega
    · rw [hf] at h
      simp at h
      rcases Nat.lt_or_ge i n with h1 | h1
      · exact cnt_full n h i h1
      · obtain rfl : i = n := by omega
        exact hf
/-- Without witnesses, all of all regions and one of one: right. -/
theorem plain_right {r p : Nat} (hr : 1 ≤ r ∧ r ≤ 3) (hp : 1 ≤ p ∧ p ≤ 3) : Rgt r p 0 r p 1 1 := by
  refine ⟨⟨hr, hp, Nat.pow_pos (by decide), ⟨hr.1, Nat.le_refl _⟩, ⟨hp.1, Nat.le_refl _⟩, ⟨Nat.le_refl _, hr.1⟩, ⟨Nat.le_refl _, hp.1⟩⟩, ?_⟩
  refine of_meets (by omega) (Nat.le_refl _) hr.1 (Nat.le_refl _) hp.1 fun a b ha hb => ?_
  unfold isQ at ha hb
  rw [decide_eq_true_eq] at ha hb
  obtain ⟨k, hk, hk1⟩ : ∃ k, k < r ∧ 1 ≤ regC p b k := by
    apply Classical.byContradiction
    intro hno
    have : cnt (fun r => decide (1 ≤ regC p b r)) r = 0 := by
      rw [cnt_congr (g := fun _ => false) _ fun i hi => decide_eq_false fun h => hno ⟨i, hi, h⟩, cnt_none]
    omega
  have hak := cnt_full r ha k hk
  rw [decide_eq_true_eq] at hak
  obtain ⟨i, hi, hb1⟩ : ∃ i, i < p ∧ b.testBit (k * p + i) = true := by
    apply Classical.byContradiction
    intro hno
    have : regC p b k = 0 := by
      unfold regC
      rw [cnt_congr (g := fun _ => false) _ fun i hi => by
        cases h : b.testBit (k * p + i)
        · rfl
        · exact absurd ⟨i, hi, h⟩ hno, cnt_none]
    omega
  exact ⟨_, reg_lt hk hi, cnt_full p hak i hi, hb1, by simp⟩
theorem far_put {w : World} {b d i o : Nat} {v x : Value} (hd : d ≠ b) (h : w.cell? ⟨d, o, none⟩ = some x) : (w.setCell ⟨b, i, none⟩ v).cell? ⟨d, o, none⟩ = some x := by simp [go_sem, h]
/-- Behind seven stores into one block. -/
theorem put7 {w W : World} {b : Nat} {u0 u1 u2 u3 u4 u5 u6 v0 v1 v2 v3 v4 v5 v6 : Value} (k0 : w.cell? ⟨b, 0, none⟩ = some u0) (k1 : w.cell? ⟨b, 1, none⟩ = some u1) (k2 : w.cell? ⟨b, 2, none⟩ = some u2) (k3 : w.cell? ⟨b, 3, none⟩ = some u3) (k4 : w.cell? ⟨b, 4, none⟩ = some u4) (k5 : w.cell? ⟨b, 5, none⟩ = some u5) (k6 : w.cell? ⟨b, 6, none⟩ = some u6) (hW : W = (((((((w.setCell ⟨b, 0, none⟩ v0).setCell ⟨b, 1, none⟩ v1).setCell ⟨b, 2, none⟩ v2).setCell ⟨b, 3, none⟩ v3).setCell ⟨b, 4, none⟩ v4).setCell ⟨b, 5, none⟩ v5).setCell ⟨b, 6, none⟩ v6)) :
    (W.cell? ⟨b, 0, none⟩ = some v0 ∧ W.cell? ⟨b, 1, none⟩ = some v1 ∧ W.cell? ⟨b, 2, none⟩ = some v2 ∧ W.cell? ⟨b, 3, none⟩ = some v3 ∧ W.cell? ⟨b, 4, none⟩ = some v4 ∧ W.cell? ⟨b, 5, none⟩ = some v5 ∧ W.cell? ⟨b, 6, none⟩ = some v6) ∧ (∀ d o x, d ≠ b → w.cell? ⟨d, o, none⟩ = some x → W.cell? ⟨d, o, none⟩ = some x) ∧ (∀ d o, W.frozen? ⟨d, o, none⟩ = w.frozen? ⟨d, o, none⟩) ∧ (∀ a, Gr a w → a.heap.size ≤ b → Gr a W) := by
  subst hW
  refine ⟨⟨by simp [go_sem, k0], by simp [go_sem, k1], by simp [go_sem, k2], by simp [go_sem, k3], by simp [go_sem, k4], by simp [go_sem, k5], by simp [go_sem, k6]⟩, fun d o x hd hx => ?_, fun d o => by simp only [World.frozen?_setCell], fun a h hb => (((((((h.setCell hb _).setCell hb _).setCell hb _).setCell hb _).setCell hb _).setCell hb _).setCell hb _)⟩
  · simp [go_sem, hx]
set_option maxRecDepth 100000 in
set_option maxHeartbeats 2000000 in
theorem right_any (R P z1 n1 z2 n2 : Int) (W : Nat) (w : World) (hW : W < 4294967296) :
    Calls Tryd.prog 12 #[.agg #[.int .i64 R, .int .i64 P, .int .u32 W, .int .i64 z1, .int .i64 n1, .int .i64 z2, .int .i64 n2]] w fun e w' => ∃ r p W z1 n1 z2 n2 : Nat, Rgt r p W z1 n1 z2 n2 ∧ e = .returned (.agg #[.int .i64 r, .int .i64 p, .int .u32 W, .int .i64 z1, .int .i64 n1, .int .i64 z2, .int .i64 n2]) ∧ Gr w w' := by
  have SM := Lib.hid (fun w => small_any R P z1 n1 z2 n2 W w hW)
  clear hW
  go_enter Tryd.func12, Tryd.ntmps12
  go_wp2_with fail
  refine (SM.out _).mono ?_
  rintro e w1 ⟨r, p, W', y1, y2, y3, y4, hS, rfl, hg⟩
  have HG1 := Lib.hid ((((Gr.refl w).alloc (.cells #[.int .i64 R, .int .i64 P, .int .u32 W, .int .i64 z1, .int .i64 n1, .int .i64 z2, .int .i64 n2] 32)).alloc (.cells #[.int .i64 0, .int .i64 0, .int .u32 0, .int .i64 0, .int .i64 0, .int .i64 0, .int .i64 0] 32)).trans hg)
  have hgA := ((Gr.refl (w.alloc (.cells #[.int .i64 R, .int .i64 P, .int .u32 W, .int .i64 z1, .int .i64 n1, .int .i64 z2, .int .i64 n2] 32))).alloc (.cells #[.int .i64 0, .int .i64 0, .int .u32 0, .int .i64 0, .int .i64 0, .int .i64 0, .int .i64 0] 32)).trans hg
  have hsz : (w.alloc (.cells #[.int .i64 R, .int .i64 P, .int .u32 W, .int .i64 z1, .int .i64 n1, .int .i64 z2, .int .i64 n2] 32)).heap.size = w.heap.size + 1 := by simp
  have k0 := hgA.own.1 0 _ rfl
  have f0 := hgA.own.2.1 0
  have j0 := hg.own.1 0 _ rfl
  have i0 := hg.own.2.1 0
  have k1 := hgA.own.1 1 _ rfl
  have f1 := hgA.own.2.1 1
  have j1 := hg.own.1 1 _ rfl
  have i1 := hg.own.2.1 1
  have k2 := hgA.own.1 2 _ rfl
  have f2 := hgA.own.2.1 2
  have j2 := hg.own.1 2 _ rfl
  have i2 := hg.own.2.1 2
  have k3 := hgA.own.1 3 _ rfl
  have f3 := hgA.own.2.1 3
  have j3 := hg.own.1 3 _ rfl
  have i3 := hg.own.2.1 3
  have k4 := hgA.own.1 4 _ rfl
  have f4 := hgA.own.2.1 4
  have j4 := hg.own.1 4 _ rfl
  have i4 := hg.own.2.1 4
  have k5 := hgA.own.1 5 _ rfl
  have f5 := hgA.own.2.1 5
  have j5 := hg.own.1 5 _ rfl
  have i5 := hg.own.2.1 5
  have k6 := hgA.own.1 6 _ rfl
  have f6 := hgA.own.2.1 6
  have j6 := hg.own.1 6 _ rfl
  have i6 := hg.own.2.1 6
  rw [hsz] at j0 i0 j1 i1 j2 i2 j3 i3 j4 i4 j5 i5 j6 i6
  have hb : w.heap.size ≤ w.heap.size := Nat.le_refl _
  clear hsz hg hgA
  go_wp2_with fail
  obtain ⟨⟨x0, x1, x2, x3, x4, x5, x6⟩, hoth, hfr, hgr⟩ := put7 k0 k1 k2 k3 k4 k5 k6 (rfl : (((((((w1.setCell ⟨w.heap.size, 0, none⟩ (.int .i64 (r : Nat))).setCell ⟨w.heap.size, 1, none⟩ (.int .i64 (p : Nat))).setCell ⟨w.heap.size, 2, none⟩ (.int .u32 (W' : Nat))).setCell ⟨w.heap.size, 3, none⟩ (.int .i64 (y1 : Nat))).setCell ⟨w.heap.size, 4, none⟩ (.int .i64 (y2 : Nat))).setCell ⟨w.heap.size, 5, none⟩ (.int .i64 (y3 : Nat))).setCell ⟨w.heap.size, 6, none⟩ (.int .i64 (y4 : Nat))) = _)
  have HG2 := Lib.hid (hgr _ HG1.out hb)
  rw [← hfr] at f0 i0
  replace j0 := hoth _ _ _ (Nat.succ_ne_self _) j0
  rw [← hfr] at f1 i1
  replace j1 := hoth _ _ _ (Nat.succ_ne_self _) j1
  rw [← hfr] at f2 i2
  replace j2 := hoth _ _ _ (Nat.succ_ne_self _) j2
  rw [← hfr] at f3 i3
  replace j3 := hoth _ _ _ (Nat.succ_ne_self _) j3
  rw [← hfr] at f4 i4
  replace j4 := hoth _ _ _ (Nat.succ_ne_self _) j4
  rw [← hfr] at f5 i5
  replace j5 := hoth _ _ _ (Nat.succ_ne_self _) j5
  rw [← hfr] at f6 i6
  replace j6 := hoth _ _ _ (Nat.succ_ne_self _) j6
  generalize (((((((w1.setCell ⟨w.heap.size, 0, none⟩ (.int .i64 (r : Nat))).setCell ⟨w.heap.size, 1, none⟩ (.int .i64 (p : Nat))).setCell ⟨w.heap.size, 2, none⟩ (.int .u32 (W' : Nat))).setCell ⟨w.heap.size, 3, none⟩ (.int .i64 (y1 : Nat))).setCell ⟨w.heap.size, 4, none⟩ (.int .i64 (y2 : Nat))).setCell ⟨w.heap.size, 5, none⟩ (.int .i64 (y3 : Nat))).setCell ⟨w.heap.size, 6, none⟩ (.int .i64 (y4 : Nat))) = w2 at *
  clear hoth hfr hgr k0 k1 k2 k3 k4 k5 k6
  obtain ⟨M, hM⟩ : ∃ M, meetsB r p W' y1 y2 y3 y4 = M := ⟨_, rfl⟩
  have GD := Lib.hid (good_shp hS M hM)
  have HM := Lib.hid hM
  have HS := Lib.hid hS
  clear hS hM
  refine (GD.out _).mono ?_
  rintro e w3 ⟨rfl, hg3⟩
  have HG3 := Lib.hid (HG2.out.trans hg3)
  replace f0 := (hg3.frozen (o := 0) (cell_lt x0)).trans f0
  replace i0 := (hg3.frozen (o := 0) (cell_lt j0)).trans i0
  replace x0 := hg3.cell x0
  replace j0 := hg3.cell j0
  replace f1 := (hg3.frozen (o := 1) (cell_lt x1)).trans f1
  replace i1 := (hg3.frozen (o := 1) (cell_lt j1)).trans i1
  replace x1 := hg3.cell x1
  replace j1 := hg3.cell j1
  replace f2 := (hg3.frozen (o := 2) (cell_lt x2)).trans f2
  replace i2 := (hg3.frozen (o := 2) (cell_lt j2)).trans i2
  replace x2 := hg3.cell x2
  replace j2 := hg3.cell j2
  replace f3 := (hg3.frozen (o := 3) (cell_lt x3)).trans f3
  replace i3 := (hg3.frozen (o := 3) (cell_lt j3)).trans i3
  replace x3 := hg3.cell x3
  replace j3 := hg3.cell j3
  replace f4 := (hg3.frozen (o := 4) (cell_lt x4)).trans f4
  replace i4 := (hg3.frozen (o := 4) (cell_lt j4)).trans i4
  replace x4 := hg3.cell x4
  replace j4 := hg3.cell j4
  replace f5 := (hg3.frozen (o := 5) (cell_lt x5)).trans f5
  replace i5 := (hg3.frozen (o := 5) (cell_lt j5)).trans i5
  replace x5 := hg3.cell x5
  replace j5 := hg3.cell j5
  replace f6 := (hg3.frozen (o := 6) (cell_lt x6)).trans f6
  replace i6 := (hg3.frozen (o := 6) (cell_lt j6)).trans i6
  replace x6 := hg3.cell x6
  replace j6 := hg3.cell j6
  clear hg3
  cases M
  · go_wp2
    have hd : w.heap.size + 1 ≠ w.heap.size := Nat.succ_ne_self _
    replace j0 : (((((w3.setCell ⟨w.heap.size, 2, none⟩ (.int .u32 0)).setCell ⟨w.heap.size, 3, none⟩ (.int .i64 (r : Nat))).setCell ⟨w.heap.size, 4, none⟩ (.int .i64 (p : Nat))).setCell ⟨w.heap.size, 5, none⟩ (.int .i64 1)).setCell ⟨w.heap.size, 6, none⟩ (.int .i64 1)).cell? ⟨w.heap.size + 1, 0, none⟩ = some (.int .i64 0) := far_put hd (far_put hd (far_put hd (far_put hd (far_put hd j0))))
    replace j1 : (((((w3.setCell ⟨w.heap.size, 2, none⟩ (.int .u32 0)).setCell ⟨w.heap.size, 3, none⟩ (.int .i64 (r : Nat))).setCell ⟨w.heap.size, 4, none⟩ (.int .i64 (p : Nat))).setCell ⟨w.heap.size, 5, none⟩ (.int .i64 1)).setCell ⟨w.heap.size, 6, none⟩ (.int .i64 1)).cell? ⟨w.heap.size + 1, 1, none⟩ = some (.int .i64 0) := far_put hd (far_put hd (far_put hd (far_put hd (far_put hd j1))))
    replace j2 : (((((w3.setCell ⟨w.heap.size, 2, none⟩ (.int .u32 0)).setCell ⟨w.heap.size, 3, none⟩ (.int .i64 (r : Nat))).setCell ⟨w.heap.size, 4, none⟩ (.int .i64 (p : Nat))).setCell ⟨w.heap.size, 5, none⟩ (.int .i64 1)).setCell ⟨w.heap.size, 6, none⟩ (.int .i64 1)).cell? ⟨w.heap.size + 1, 2, none⟩ = some (.int .u32 0) := far_put hd (far_put hd (far_put hd (far_put hd (far_put hd j2))))
    replace j3 : (((((w3.setCell ⟨w.heap.size, 2, none⟩ (.int .u32 0)).setCell ⟨w.heap.size, 3, none⟩ (.int .i64 (r : Nat))).setCell ⟨w.heap.size, 4, none⟩ (.int .i64 (p : Nat))).setCell ⟨w.heap.size, 5, none⟩ (.int .i64 1)).setCell ⟨w.heap.size, 6, none⟩ (.int .i64 1)).cell? ⟨w.heap.size + 1, 3, none⟩ = some (.int .i64 0) := far_put hd (far_put hd (far_put hd (far_put hd (far_put hd j3))))
    replace j4 : (((((w3.setCell ⟨w.heap.size, 2, none⟩ (.int .u32 0)).setCell ⟨w.heap.size, 3, none⟩ (.int .i64 (r : Nat))).setCell ⟨w.heap.size, 4, none⟩ (.int .i64 (p : Nat))).setCell ⟨w.heap.size, 5, none⟩ (.int .i64 1)).setCell ⟨w.heap.size, 6, none⟩ (.int .i64 1)).cell? ⟨w.heap.size + 1, 4, none⟩ = some (.int .i64 0) := far_put hd (far_put hd (far_put hd (far_put hd (far_put hd j4))))
    replace j5 : (((((w3.setCell ⟨w.heap.size, 2, none⟩ (.int .u32 0)).setCell ⟨w.heap.size, 3, none⟩ (.int .i64 (r : Nat))).setCell ⟨w.heap.size, 4, none⟩ (.int .i64 (p : Nat))).setCell ⟨w.heap.size, 5, none⟩ (.int .i64 1)).setCell ⟨w.heap.size, 6, none⟩ (.int .i64 1)).cell? ⟨w.heap.size + 1, 5, none⟩ = some (.int .i64 0) := far_put hd (far_put hd (far_put hd (far_put hd (far_put hd j5))))
    replace j6 : (((((w3.setCell ⟨w.heap.size, 2, none⟩ (.int .u32 0)).setCell ⟨w.heap.size, 3, none⟩ (.int .i64 (r : Nat))).setCell ⟨w.heap.size, 4, none⟩ (.int .i64 (p : Nat))).setCell ⟨w.heap.size, 5, none⟩ (.int .i64 1)).setCell ⟨w.heap.size, 6, none⟩ (.int .i64 1)).cell? ⟨w.heap.size + 1, 6, none⟩ = some (.int .i64 0) := far_put hd (far_put hd (far_put hd (far_put hd (far_put hd j6))))
    have HG4 : Hid (Gr w (((((w3.setCell ⟨w.heap.size, 2, none⟩ (.int .u32 0)).setCell ⟨w.heap.size, 3, none⟩ (.int .i64 (r : Nat))).setCell ⟨w.heap.size, 4, none⟩ (.int .i64 (p : Nat))).setCell ⟨w.heap.size, 5, none⟩ (.int .i64 1)).setCell ⟨w.heap.size, 6, none⟩ (.int .i64 1))) := Lib.hid (((((HG3.out.setCell hb _).setCell hb _).setCell hb _).setCell hb _).setCell hb _)
    generalize (((((w3.setCell ⟨w.heap.size, 2, none⟩ (.int .u32 0)).setCell ⟨w.heap.size, 3, none⟩ (.int .i64 (r : Nat))).setCell ⟨w.heap.size, 4, none⟩ (.int .i64 (p : Nat))).setCell ⟨w.heap.size, 5, none⟩ (.int .i64 1)).setCell ⟨w.heap.size, 6, none⟩ (.int .i64 1)) = w4 at *
    obtain ⟨⟨q0, q1, q2, q3, q4, q5, q6⟩, -, -, hgr⟩ := put7 j0 j1 j2 j3 j4 j5 j6 (rfl : (((((((w4.setCell ⟨w.heap.size + 1, 0, none⟩ (.int .i64 (r : Nat))).setCell ⟨w.heap.size + 1, 1, none⟩ (.int .i64 (p : Nat))).setCell ⟨w.heap.size + 1, 2, none⟩ (.int .u32 0)).setCell ⟨w.heap.size + 1, 3, none⟩ (.int .i64 (r : Nat))).setCell ⟨w.heap.size + 1, 4, none⟩ (.int .i64 (p : Nat))).setCell ⟨w.heap.size + 1, 5, none⟩ (.int .i64 1)).setCell ⟨w.heap.size + 1, 6, none⟩ (.int .i64 1)) = _)
    have HG5 := Lib.hid (hgr _ HG4.out (Nat.le_succ _))
    generalize (((((((w4.setCell ⟨w.heap.size + 1, 0, none⟩ (.int .i64 (r : Nat))).setCell ⟨w.heap.size + 1, 1, none⟩ (.int .i64 (p : Nat))).setCell ⟨w.heap.size + 1, 2, none⟩ (.int .u32 0)).setCell ⟨w.heap.size + 1, 3, none⟩ (.int .i64 (r : Nat))).setCell ⟨w.heap.size + 1, 4, none⟩ (.int .i64 (p : Nat))).setCell ⟨w.heap.size + 1, 5, none⟩ (.int .i64 1)).setCell ⟨w.heap.size + 1, 6, none⟩ (.int .i64 1)) = w5 at *
    clear hgr x0 x1 x2 x3 x4 x5 x6 j0 j1 j2 j3 j4 j5 j6 f0 f1 f2 f3 f4 f5 f6 i0 i1 i2 i3 i4 i5 i6
    refine bodyPost_ret (v := .agg #[.int .i64 r, .int .i64 p, .int .u32 0, .int .i64 r, .int .i64 p, .int .i64 1, .int .i64 1]) ?c1 ?c2 ?c3
    case c1 => simp [results, Tryd.results12, go_sem, q0, q1, q2, q3, q4, q5, q6]
    case c2 => rfl
    case c3 => exact ⟨r, p, 0, r, p, 1, 1, plain_right HS.out.hr HS.out.hp, rfl, HG5.out⟩
  · go_wp2
    obtain ⟨⟨q0, q1, q2, q3, q4, q5, q6⟩, -, -, hgr⟩ := put7 j0 j1 j2 j3 j4 j5 j6 (rfl : (((((((w3.setCell ⟨w.heap.size + 1, 0, none⟩ (.int .i64 (r : Nat))).setCell ⟨w.heap.size + 1, 1, none⟩ (.int .i64 (p : Nat))).setCell ⟨w.heap.size + 1, 2, none⟩ (.int .u32 (W' : Nat))).setCell ⟨w.heap.size + 1, 3, none⟩ (.int .i64 (y1 : Nat))).setCell ⟨w.heap.size + 1, 4, none⟩ (.int .i64 (y2 : Nat))).setCell ⟨w.heap.size + 1, 5, none⟩ (.int .i64 (y3 : Nat))).setCell ⟨w.heap.size + 1, 6, none⟩ (.int .i64 (y4 : Nat))) = _)
    have HG5 := Lib.hid (hgr _ HG3.out (Nat.le_succ _))
    generalize (((((((w3.setCell ⟨w.heap.size + 1, 0, none⟩ (.int .i64 (r : Nat))).setCell ⟨w.heap.size + 1, 1, none⟩ (.int .i64 (p : Nat))).setCell ⟨w.heap.size + 1, 2, none⟩ (.int .u32 (W' : Nat))).setCell ⟨w.heap.size + 1, 3, none⟩ (.int .i64 (y1 : Nat))).setCell ⟨w.heap.size + 1, 4, none⟩ (.int .i64 (y2 : Nat))).setCell ⟨w.heap.size + 1, 5, none⟩ (.int .i64 (y3 : Nat))).setCell ⟨w.heap.size + 1, 6, none⟩ (.int .i64 (y4 : Nat))) = w5 at *
    clear hgr x0 x1 x2 x3 x4 x5 x6 j0 j1 j2 j3 j4 j5 j6 f0 f1 f2 f3 f4 f5 f6 i0 i1 i2 i3 i4 i5 i6
    refine bodyPost_ret (v := .agg #[.int .i64 r, .int .i64 p, .int .u32 W', .int .i64 y1, .int .i64 y2, .int .i64 y3, .int .i64 y4]) ?c1 ?c2 ?c3
    case c1 => simp [results, Tryd.results12, go_sem, q0, q1, q2, q3, q4, q5, q6]
    case c2 => rfl
    case c3 => exact ⟨r, p, W', y1, y2, y3, y4, ⟨HS.out, HM.out⟩, rfl, HG5.out⟩
end Go.Proofs.YtegapeplbincnaaDoor
