import Derived.Test.YtnanclgnjchpeaaF07m
import Derived.WalkKit
import Derived.ProofKit
import Derived.LoopTactic
import Derived.Outline
import Derived.WalkSpells
import Derived.WalkLawsBesides
import Derived.Lib.Hide
import Derived.Deep.LoopGhost
import Derived.Deep.QuietTactic
import Derived.BigQuiet
import Derived.ShutString
import Derived.IntWalk
namespace Go.Proofs.Ytnanclgnjchpeaa
open Go.ChangeShapes Go.WideShapes Go.ChangeAt Go.RowKit
open Grids
set_option linter.unusedVariables false
set_option linter.unusedSimpArgs false
theorem shp12 {r p W z1 n1 z2 n2 : Nat} (h : Shp r p W z1 n1 z2 n2) : r * p ≤ 9 := Nat.mul_le_mul h.hr.2 h.hp.2
theorem check_shp {r p W z1 n1 z2 n2 : Nat} (h : Shp r p W z1 n1 z2 n2) (M : Bool) (hM : meetsB r p W z1 n1 z2 n2 = M) (c : Int) (hc : (if M then (0 : Int) else 12) = c) : ChkIs r p W z1 n1 z2 n2 c := by
  intro w
  have := check_any r p W z1 n1 z2 n2 w (by have := h.hr; omega) (by have := h.hp; omega) (Nat.le_trans (shp12 h) (by decide)) h.hW h.hz1 h.hn1 h.hz2 h.hn2
  rw [hM, hc] at this
  exact this
/-- What a right configuration is. -/
structure Rgt (r p W z1 n1 z2 n2 : Nat) : Prop where
  shp : Shp r p W z1 n1 z2 n2
  good : meetsB r p W z1 n1 z2 n2 = true
theorem cnt_pos {f : Nat → Bool} {n i : Nat} (hi : i < n) (h : f i = true) : 1 ≤ cnt f n := by
  induction n with
  | zero => omega
  | succ n ih =>
    unfold cnt
    rcases Nat.lt_or_ge i n with h1 | h1
    · have := ih h1; omega
    · obtain rfl : i = n := by omega
      rw [h]; simp
theorem cnt_full {f : Nat → Bool} : ∀ n, n ≤ cnt f n → ∀ i, i < n → f i = true
  | 0, _, i, hi => by omega
  | n + 1, h, i, hi => by
    have hl := cnt_le f n
    unfold cnt at h
    cases hf : f n
    · rw [hf] at h; simp at h; omega
    · rw [hf] at h
      simp at h
      rcases Nat.lt_or_ge i n with h1 | h1
      · exact cnt_full n h i h1
      · obtain rfl : i = n := by omega
        exact hf
/-- Without witnesses, all of all regions and one of one: right. -/
theorem plain_right {r p : Nat} (hr : 1 ≤ r ∧ r ≤ 3) (hp : 1 ≤ p ∧ p ≤ 3) : Rgt r p 0 r p 1 1 := by
  refine ⟨⟨hr, hp, Nat.pow_pos (by decide), ⟨hr.1, Nat.le_refl _⟩, ⟨hp.1, Nat.le_refl _⟩, ⟨Nat.le_refl _, hr.1⟩, ⟨Nat.le_refl _, hp.1⟩⟩, ?_⟩
  refine of_meets (by omega) (Nat.le_refl _) hr.1 (Nat.le_refl _) hp.1 fun a b ha hb => ?_
  unfold isQ at ha hb
  rw [decide_eq_true_eq] at ha hb
  obtain ⟨k, hk, hk1⟩ : ∃ k, k < r ∧ 1 ≤ regC p b k := by
    apply Classical.byContradiction
    intro hno
    have : cnt (fun r => decide (1 ≤ regC p b r)) r = 0 := by
      rw [cnt_congr (g := fun _ => false) _ fun i hi => decide_eq_false fun h => hno ⟨i, hi, h⟩, cnt_none]
    omega
  have hak := cnt_full r ha k hk
  rw [decide_eq_true_eq] at hak
  obtain ⟨i, hi, hb1⟩ : ∃ i, i < p ∧ b.testBit (k * p + i) = true := by
    apply Classical.byContradiction
    intro hno
    have : regC p b k = 0 := by
      unfold regC
      rw [cnt_congr (g := fun _ => false) _ fun i hi => by
        cases h : b.testBit (k * p + i)
        · rfl
        · exact absurd ⟨i, hi, h⟩ hno, cnt_none]
    omega
  exact ⟨_, reg_lt hk hi, cnt_full p hak i hi, hb1, by simp⟩
theorem far_put {w : World} {b d i o : Nat} {v x : Value} (hd : d ≠ b) (h : w.cell? ⟨d, o, none⟩ = some x) : (w.setCell ⟨b, i, none⟩ v).cell? ⟨d, o, none⟩ = some x := by simp [go_sem, h]
/-- Behind seven stores into one block. -/
theorem put7 {w W : World} {b : Nat} {u0 u1 u2 u3 u4 u5 u6 v0 v1 v2 v3 v4 v5 v6 : Value} (k0 : w.cell? ⟨b, 0, none⟩ = some u0) (k1 : w.cell? ⟨b, 1, none⟩ = some u1) (k2 : w.cell? ⟨b, 2, none⟩ = some u2) (k3 : w.cell? ⟨b, 3, none⟩ = some u3) (k4 : w.cell? ⟨b, 4, none⟩ = some u4) (k5 : w.cell? ⟨b, 5, none⟩ = some u5) (k6 : w.cell? ⟨b, 6, none⟩ = some u6) (hW : W = (((((((w.setCell ⟨b, 0, none⟩ v0).setCell ⟨b, 1, none⟩ v1).setCell ⟨b, 2, none⟩ v2).setCell ⟨b, 3, none⟩ v3).setCell ⟨b, 4, none⟩ v4).setCell ⟨b, 5, none⟩ v5).setCell ⟨b, 6, none⟩ v6)) :
    (W.cell? ⟨b, 0, none⟩ = some v0 ∧ W.cell? ⟨b, 1, none⟩ = some v1 ∧ W.cell? ⟨b, 2, none⟩ = some v2 ∧ W.cell? ⟨b, 3, none⟩ = some v3 ∧ W.cell? ⟨b, 4, none⟩ = some v4 ∧ W.cell? ⟨b, 5, none⟩ = some v5 ∧ W.cell? ⟨b, 6, none⟩ = some v6) ∧ (∀ d o x, d ≠ b → w.cell? ⟨d, o, none⟩ = some x → W.cell? ⟨d, o, none⟩ = some x) ∧ (∀ d o, W.frozen? ⟨d, o, none⟩ = w.frozen? ⟨d, o, none⟩) ∧ (∀ a, Gr a w → a.heap.size ≤ b → Gr a W) := by
  subst hW
  refine ⟨⟨by simp [go_sem, k0], by simp [go_sem, k1], by simp [go_sem, k2], by simp [go_sem, k3], by simp [go_sem, k4], by simp [go_sem, k5], by simp [go_sem, k6]⟩, fun d o x hd hx => ?_, fun d o => by simp only [World.frozen?_setCell], fun a h hb => (((((((h.setCell hb _).setCell hb _).setCell hb _).setCell hb _).setCell hb _).setCell hb _).setCell hb _)⟩
  · simp [go_sem, hx]
end Go.Proofs.Ytnanclgnjchpeaa
