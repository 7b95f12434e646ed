import Derived.WalkKit
import Derived.Test.YtfgkgpkaohkehaaGreatDoorK1
import Derived.ProofKit
import Derived.LoopTactic
import Derived.Outline
import Derived.WalkSpells
import Derived.WalkLawsBesides
import Derived.Lib.Hide
import Derived.Deep.LoopGhost
import Derived.Deep.QuietTactic
import Derived.BigQuiet
import Derived.ShutString
import Derived.IntWalk
import Derived.Lib.MinMax
import Derived.Deep.RegionHeld3
import Derived.OpenShut
/- Plain mathematics of ballots. No program is imported here. -/
namespace Go.Proofs.YtfgkgpkaohkehaaGreatDoor.Bal
def cmpI (a b : Int) : Int := if a < b then -1 else if b < a then 1 else 0
theorem cmpI_ways (a b : Int) : a < b ∧ cmpI a b = -1 ∨ b < a ∧ cmpI a b = 1 ∨ a = b ∧ cmpI a b = 0 := by
  unfold cmpI
  rcases Int.lt_trichotomy a b with h | h | h
  · exact .inl ⟨h, by rw [if_pos h]⟩
  · exact .inr (.inr ⟨h, by rw [if_neg (by omega), if_neg (by omega)]⟩)
  · exact .inr (.inl ⟨h, by rw [if_neg (by omega), if_pos h]⟩)
def orI (x y : Int) : Int := if x = 0 then y else x
/-- Counters, then nodes. -/
def cmpB (c n d m : Int) : Int := orI (cmpI c d) (cmpI n m)
theorem cmpB_ways (c n d m : Int) : (c < d ∨ c = d ∧ n < m) ∧ cmpB c n d m = -1 ∨ (d < c ∨ c = d ∧ m < n) ∧ cmpB c n d m = 1 ∨ (c = d ∧ n = m) ∧ cmpB c n d m = 0 := by
  unfold cmpB orI
  rcases cmpI_ways c d with ⟨h, e⟩ | ⟨h, e⟩ | ⟨h, e⟩ <;> rw [e]
  · exact .inl ⟨.inl h, by rw [if_neg (by omega)]⟩
  · exact .inr (.inl ⟨.inl h, by rw [if_neg (by omega)]⟩)
  · rw [if_pos rfl]
    rcases cmpI_ways n m with ⟨h1, e1⟩ | ⟨h1, e1⟩ | ⟨h1, e1⟩ <;> rw [e1]
    · exact .inl ⟨.inr ⟨h, h1⟩, rfl⟩
    · exact .inr (.inl ⟨.inr ⟨h, h1⟩, rfl⟩)
    · exact .inr (.inr ⟨⟨h, h1⟩, rfl⟩)
def above (c n d m : Int) : Bool := decide (d < c ∨ c = d ∧ m < n)
theorem above_eq (c n d m : Int) : above c n d m = decide (0 < cmpB c n d m) := by
  unfold above
  rw [Bool.eq_iff_iff, decide_eq_true_eq, decide_eq_true_eq]
  rcases cmpB_ways c n d m with ⟨h, e⟩ | ⟨h, e⟩ | ⟨h, e⟩ <;> rw [e] <;> omega
theorem cmpB_anti (c n d m : Int) : cmpB c n d m = - cmpB d m c n := by
  rcases cmpB_ways c n d m with ⟨h, e⟩ | ⟨h, e⟩ | ⟨h, e⟩ <;> rcases cmpB_ways d m c n with ⟨h1, e1⟩ | ⟨h1, e1⟩ | ⟨h1, e1⟩ <;> rw [e, e1] <;> omega
def maxStep (m b : Int × Int) : Int × Int := if 0 < cmpB b.1 b.2 m.1 m.2 then b else m
def maxB (L : List (Int × Int)) : Int × Int := L.foldl maxStep (0, 0)
theorem maxB_snoc (L : List (Int × Int)) (k : Nat) (h : k < L.length) : maxB (L.take (k + 1)) = maxStep (maxB (L.take k)) L[k] := by
  unfold maxB
  rw [List.take_succ_eq_append_getElem h, List.foldl_append]; rfl
theorem ge_iff (c n d m : Int) : 0 ≤ cmpB c n d m ↔ d < c ∨ c = d ∧ m ≤ n := by
  rcases cmpB_ways c n d m with ⟨h, e⟩ | ⟨h, e⟩ | ⟨h, e⟩ <;> rw [e] <;> omega
theorem gt_iff (c n d m : Int) : 0 < cmpB c n d m ↔ d < c ∨ c = d ∧ m < n := by
  rcases cmpB_ways c n d m with ⟨h, e⟩ | ⟨h, e⟩ | ⟨h, e⟩ <;> rw [e] <;> omega
theorem maxStep_spec (m b : Int × Int) : (maxStep m b = m ∨ maxStep m b = b) ∧ 0 ≤ cmpB (maxStep m b).1 (maxStep m b).2 m.1 m.2 ∧ 0 ≤ cmpB (maxStep m b).1 (maxStep m b).2 b.1 b.2 := by
  unfold maxStep
  split
  · rename_i h
    exact ⟨.inr rfl, by omega, by rw [ge_iff]; omega⟩
  · rename_i h
    rw [gt_iff] at h
    exact ⟨.inl rfl, by rw [ge_iff]; omega, by rw [ge_iff]; omega⟩
theorem max3 {a b c d e f : Int} (ha : 0 ≤ a) (hb : 0 ≤ b) (hc : 0 ≤ c) (he : 0 ≤ e) :
    ∃ x y : Int, maxB [(a, b), (c, d), (e, f)] = (x, y) ∧ ((x = a ∧ y = b) ∨ (x = c ∧ y = d) ∨ (x = e ∧ y = f)) ∧ 0 ≤ cmpB x y a b ∧ 0 ≤ cmpB x y c d ∧ 0 ≤ cmpB x y e f := by
  have E : maxB [(a, b), (c, d), (e, f)] = maxStep (maxStep (maxStep (0, 0) (a, b)) (c, d)) (e, f) := rfl
  rw [E]; clear E
  obtain ⟨p1, p2, p3⟩ := maxStep_spec (0, 0) (a, b)
  generalize maxStep (0, 0) (a, b) = M1 at *
  obtain ⟨q1, q2, q3⟩ := maxStep_spec M1 (c, d)
  generalize maxStep M1 (c, d) = M2 at *
  obtain ⟨r1, r2, r3⟩ := maxStep_spec M2 (e, f)
  generalize maxStep M2 (e, f) = M3 at *
  obtain ⟨x1, y1⟩ := M1
  obtain ⟨x2, y2⟩ := M2
  obtain ⟨x3, y3⟩ := M3
  simp only [Prod.mk.injEq] at p1 q1 r1
  simp only [ge_iff] at *
  refine ⟨x3, y3, rfl, ?_, ?_, ?_, ?_⟩ <;> omega
def nextB (c m n : Int) : (Int × Int) × Int := if n < 0 ∨ 12 ≤ n then ((0, 0), 2) else if 0 < cmpB (max c 1) n c m then ((max c 1, n), 0) else if c = 18446744073709551615 then ((0, 0), 19) else ((c + 1, n), 0)
/-- The ways of Next. -/
theorem nextB_ways (c m n : Int) : n < 0 ∧ nextB c m n = ((0, 0), 2) ∨ 12 ≤ n ∧ nextB c m n = ((0, 0), 2) ∨
    (0 ≤ n ∧ n < 12 ∧ 0 < cmpB (max c 1) n c m ∧ nextB c m n = ((max c 1, n), 0)) ∨
    (0 ≤ n ∧ n < 12 ∧ ¬ 0 < cmpB (max c 1) n c m ∧ c = 18446744073709551615 ∧ nextB c m n = ((0, 0), 19)) ∨
    (0 ≤ n ∧ n < 12 ∧ ¬ 0 < cmpB (max c 1) n c m ∧ c ≠ 18446744073709551615 ∧ nextB c m n = ((c + 1, n), 0)) := by
  unfold nextB
  by_cases h1 : n < 0
  · exact .inl ⟨h1, by rw [if_pos (.inl h1)]⟩
  by_cases h2 : 12 ≤ n
  · exact .inr (.inl ⟨h2, by rw [if_pos (.inr h2)]⟩)
  rw [if_neg (by omega)]
  by_cases h3 : 0 < cmpB (max c 1) n c m
  · exact .inr (.inr (.inl ⟨by omega, by omega, h3, by rw [if_pos h3]⟩))
  rw [if_neg h3]
  by_cases h4 : c = 18446744073709551615
  · exact .inr (.inr (.inr (.inl ⟨by omega, by omega, h3, h4, by rw [if_pos h4]⟩)))
  · exact .inr (.inr (.inr (.inr ⟨by omega, by omega, h3, h4, by rw [if_neg h4]⟩)))
/-- For a ballot that may be, by plain numbers. -/
theorem nextB_plain {c m n : Int} (hc : 0 ≤ c) (h0 : c = 0 → m = 0) :
    n < 0 ∧ nextB c m n = ((0, 0), 2) ∨ 12 ≤ n ∧ nextB c m n = ((0, 0), 2) ∨ (0 ≤ n ∧ n < 12 ∧ 1 ≤ c ∧ m < n ∧ nextB c m n = ((c, n), 0)) ∨
    (0 ≤ n ∧ n < 12 ∧ c = 18446744073709551615 ∧ n ≤ m ∧ nextB c m n = ((0, 0), 19)) ∨ (0 ≤ n ∧ n < 12 ∧ (c = 0 ∨ n ≤ m) ∧ c ≠ 18446744073709551615 ∧ nextB c m n = ((c + 1, n), 0)) := by
  have hx : max c 1 = c ∧ 1 ≤ c ∨ max c 1 = 1 ∧ c = 0 := by omega
  rcases nextB_ways c m n with ⟨h, e⟩ | ⟨h, e⟩ | ⟨h1, h2, h3, e⟩ | ⟨h1, h2, h3, h4, e⟩ | ⟨h1, h2, h3, h4, e⟩
  · exact .inl ⟨h, e⟩
  · exact .inr (.inl ⟨h, e⟩)
  · rcases hx with ⟨x1, x2⟩ | ⟨x1, x2⟩
    · rw [x1] at h3 e
      rcases cmpB_ways c n c m with ⟨g, e2⟩ | ⟨g, e2⟩ | ⟨g, e2⟩ <;> rw [e2] at h3
      · omega
      · exact .inr (.inr (.inl ⟨h1, h2, x2, by omega, e⟩))
      · omega
    · rw [x1] at e
      subst x2
      exact .inr (.inr (.inr (.inr ⟨h1, h2, .inl rfl, by decide, e⟩)))
  · rcases hx with ⟨x1, x2⟩ | ⟨x1, x2⟩
    · rw [x1] at h3
      rcases cmpB_ways c n c m with ⟨g, e2⟩ | ⟨g, e2⟩ | ⟨g, e2⟩ <;> rw [e2] at h3
      · exact .inr (.inr (.inr (.inl ⟨h1, h2, h4, by omega, e⟩)))
      · omega
      · exact .inr (.inr (.inr (.inl ⟨h1, h2, h4, by omega, e⟩)))
    · omega
  · rcases hx with ⟨x1, x2⟩ | ⟨x1, x2⟩
    · rw [x1] at h3
      rcases cmpB_ways c n c m with ⟨g, e2⟩ | ⟨g, e2⟩ | ⟨g, e2⟩ <;> rw [e2] at h3
      · exact .inr (.inr (.inr (.inr ⟨h1, h2, .inr (by omega), h4, e⟩)))
      · omega
      · exact .inr (.inr (.inr (.inr ⟨h1, h2, .inr (by omega), h4, e⟩)))
    · exact .inr (.inr (.inr (.inr ⟨h1, h2, .inl x2, h4, e⟩)))
end Go.Proofs.YtfgkgpkaohkehaaGreatDoor.Bal
namespace Go.Proofs.YtfgkgpkaohkehaaGreatDoor
open Go.ChangeShapes Go.WideShapes Go.ChangeAt Go.RowKit
open Bal
set_option linter.unusedVariables false
theorem nanI_any (x : Int) (w : World) : Calls Tryz.prog 110 #[.int .i64 x] w fun e w' => e = .returned (.bool false) ∧ w = w' := by
  have h : (x != x) = false := by simp
  go_enter Tryz.func110, Tryz.ntmps110
  go_wp2
  go_ret
  exact ⟨rfl, rfl⟩
end Go.Proofs.YtfgkgpkaohkehaaGreatDoor
namespace Go.Proofs.YtfgkgpkaohkehaaGreatDoor
open Go.ChangeShapes Go.WideShapes Go.ChangeAt Go.RowKit
open Bal
set_option linter.unusedVariables false
set_option linter.unusedSimpArgs false
theorem calls_gr {f : Nat} {args : Array Value} {w : World} {v : Value} (h : Calls Tryz.prog f args w fun e w' => e = .returned v ∧ w = w') : Calls Tryz.prog f args w fun e w' => e = .returned v ∧ Gr w w' :=
  h.mono fun e w' ⟨h1, h2⟩ => ⟨h1, by rw [← h2]; exact Gr.refl _⟩
end Go.Proofs.YtfgkgpkaohkehaaGreatDoor
namespace Go.Proofs.YtfgkgpkaohkehaaGreatDoor
open Go.ChangeShapes Go.WideShapes Go.ChangeAt Go.RowKit
open Bal
set_option linter.unusedVariables false
set_option linter.unusedSimpArgs false
theorem none08_any (c n : Int) (w : World) :
    Calls Tryz.prog 94 #[.agg #[.int .u64 c, .int .i64 n]] w fun e w' => e = .returned (.bool (decide (c = 0 ∧ n = 0))) ∧ Gr w w' := by
  go_enter Tryz.func94, Tryz.ntmps94
  go_wp2
  all_goals (go_ret; refine ⟨?_, (Gr.refl _).alloc _⟩; simp_all)
theorem mod12 (N : Int) : ∃ n : Nat, n ≤ 11 ∧ (wrap64 (N.tmod 12 + 12)).tmod 12 = (n : Int) := by
  have h1 := Int.tmod_lt_of_pos N (show (0 : Int) < 12 by decide)
  have h2 := Int.lt_tmod_of_pos N (show (0 : Int) < 12 by decide)
  generalize N.tmod 12 = t at *
  have hw : wrap64 (t + 12) = t + 12 := by unfold wrap64; omega
  rw [hw, Int.tmod_eq_emod_of_nonneg (by omega)]
  exact ⟨((t + 12) % 12).toNat, by omega, by omega⟩
theorem right08_any (N : Int) (c : Nat) (w : World) :
    Calls Tryz.prog 30 #[.agg #[.int .u64 c, .int .i64 N]] w fun e w' => ∃ n : Nat, n ≤ 11 ∧ (c = 0 → n = 0) ∧ e = .returned (.agg #[.int .u64 c, .int .i64 n]) ∧ Gr w w' := by
  obtain ⟨n, hn, he⟩ := mod12 N
  by_cases hc : c = 0
  · subst hc
    go_enter Tryz.func30, Tryz.ntmps30
    go_wp2
    exact bodyPost_ret (v := .agg #[.int .u64 0, .int .i64 0]) (by simp [results, Tryz.results30, go_sem]) rfl ⟨0, by omega, fun _ => rfl, rfl, ((Gr.refl _).alloc _).alloc _⟩
  · have hc' : ((c : Int) == 0) = false := by simp; omega
    go_enter Tryz.func30, Tryz.ntmps30
    go_wp2
    exact bodyPost_ret (v := .agg #[.int .u64 c, .int .i64 n]) (by simp [results, Tryz.results30, go_sem, he]) rfl ⟨n, hn, fun h => absurd h hc, rfl, ((Gr.refl _).alloc _).alloc _⟩
end Go.Proofs.YtfgkgpkaohkehaaGreatDoor
namespace Go.Proofs.YtfgkgpkaohkehaaGreatDoor
open Go.ChangeShapes Go.WideShapes Go.ChangeAt Go.RowKit
open Bal
set_option linter.unusedVariables false
set_option linter.unusedSimpArgs false
def RNext (c m n : Int) (w : World) (e : Ending) (w' : World) : Prop := e = .returned (.tuple #[.agg #[.int .u64 (nextB c m n).1.1, .int .i64 (nextB c m n).1.2], .int .i64 (nextB c m n).2]) ∧ Gr w w'
theorem rnext_mk {c m n x y z : Int} {w w' : World} {e : Ending} (h : Hid (nextB c m n = ((x, y), z))) (he : e = .returned (.tuple #[.agg #[.int .u64 x, .int .i64 y], .int .i64 z])) (hg : Gr w w') : RNext c m n w e w' := by
  unfold RNext; rw [h.out]; exact ⟨he, hg⟩
end Go.Proofs.YtfgkgpkaohkehaaGreatDoor
namespace Go.Proofs.YtfgkgpkaohkehaaGreatDoor
open Go.ChangeShapes Go.WideShapes Go.ChangeAt Go.RowKit
open Bal
set_option linter.unusedVariables false
set_option linter.unusedSimpArgs false
theorem next_good {c m n x y : Int} (hc : 0 ≤ c) (h0 : c = 0 → m = 0) (h : nextB c m n = ((x, y), 0)) : y = n ∧ 0 < x ∧ 0 < cmpB x n c m := by
  rcases nextB_plain (n := n) hc h0 with ⟨_, e⟩ | ⟨_, e⟩ | ⟨h1, h2, h3, h4, e⟩ | ⟨_, _, _, _, e⟩ | ⟨h1, h2, h3, h4, e⟩ <;> rw [e] at h <;> simp only [Prod.mk.injEq] at h
  · omega
  · omega
  · obtain ⟨⟨rfl, rfl⟩, _⟩ := h
    refine ⟨rfl, by omega, ?_⟩
    rcases cmpB_ways c n c m with ⟨g, e2⟩ | ⟨g, e2⟩ | ⟨g, e2⟩ <;> rw [e2] <;> omega
  · omega
  · obtain ⟨⟨rfl, rfl⟩, _⟩ := h
    refine ⟨rfl, by omega, ?_⟩
    rcases cmpB_ways (c + 1) n c m with ⟨g, e2⟩ | ⟨g, e2⟩ | ⟨g, e2⟩ <;> rw [e2] <;> omega
/-- Behind two stores into one block. -/
theorem put2 {w W : World} {b : Nat} {u0 u1 v0 v1 : Value} (k0 : w.cell? ⟨b, 0, none⟩ = some u0) (k1 : w.cell? ⟨b, 1, none⟩ = some u1) (hW : W = ((w.setCell ⟨b, 0, none⟩ v0).setCell ⟨b, 1, none⟩ v1)) :
    (W.cell? ⟨b, 0, none⟩ = some v0 ∧ W.cell? ⟨b, 1, none⟩ = some v1) ∧ (∀ d o x, d ≠ b → w.cell? ⟨d, o, none⟩ = some x → W.cell? ⟨d, o, none⟩ = some x) ∧ (∀ d o, W.frozen? ⟨d, o, none⟩ = w.frozen? ⟨d, o, none⟩) ∧ (∀ a, Gr a w → a.heap.size ≤ b → Gr a W) := by
  subst hW
  refine ⟨⟨by simp [go_sem, k0], by simp [go_sem, k1]⟩, fun d o x hd hx => ?_, fun d o => by simp only [World.frozen?_setCell], fun a h hb => (h.setCell hb _).setCell hb _⟩
  simp [go_sem, hx]
end Go.Proofs.YtfgkgpkaohkehaaGreatDoor
