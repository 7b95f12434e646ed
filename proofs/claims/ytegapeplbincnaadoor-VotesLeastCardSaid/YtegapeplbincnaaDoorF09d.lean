import Derived.Test.YtegapeplbincnaaDoorF09c
import Derived.Test.YtegapeplbincnaaDoorM09b
import Derived.WalkKit
import Derived.ProofKit
import Derived.LoopTactic
import Derived.Outline
import Derived.WalkSpells
import Derived.WalkLawsBesides
import Derived.Lib.Hide
import Derived.Deep.LoopGhost
import Derived.Deep.QuietTactic
import Derived.BigQuiet
import Derived.ShutString
import Derived.IntWalk
import Derived.Lib.SortBridge
import Derived.Lib.MinMax
import Derived.Deep.RegionWith
import Derived.Deep.RegionHeld3
namespace Go.Proofs.YtegapeplbincnaaDoor
open Go.ChangeShapes Go.WideShapes Go.ChangeAt Go.RowKit
open Grids
open Go.Sort
set_option linter.unusedVariables false
set_option linter.unusedSimpArgs false
theorem rep_any (v : Int) (r bx : Nat) (hr : 1 ≤ r ∧ r ≤ 3) (w : World) (hc : w.cell? ⟨bx, 0, none⟩ = some (.int .i64 v)) :
    Calls Tryd.prog 32 #[.slice (some ⟨bx, 0, none⟩) 1 1, .int .i64 r] w (RepIs v r w) := by
  obtain rfl | rfl | rfl : r = 1 ∨ r = 2 ∨ r = 3 := by omega
  · exact rep1_any v bx w hc
  · exact rep2_any v bx w hc
  · exact rep3_any v bx w hc
/-- The cells of a row of r numbers. -/
def RowG (w : World) (d r : Nat) (g : Nat → Nat) : Prop := ∀ i, i < r → w.cell? ⟨d, i, none⟩ = some (.int .i64 (g i : Nat)) ∧ w.frozen? ⟨d, i, none⟩ = false
theorem RowG.gr {w w' : World} {d r : Nat} {g : Nat → Nat} (h : RowG w d r g) (hg : Gr w w') : RowG w' d r g := fun i hi => ⟨hg.cell (h i hi).1, (hg.frozen (cell_lt (h i hi).1)).trans (h i hi).2⟩
theorem RowG.put {w : World} {d r j x : Nat} {g g' : Nat → Nat} (h : RowG w d r g) (hj : j < r) (hx : g' j = x) (ho : ∀ i, i ≠ j → g' i = g i) : RowG (w.setCell ⟨d, j, none⟩ (.int .i64 (x : Nat))) d r g' := by
  intro i hi
  refine ⟨?_, by rw [World.frozen?_setCell]; exact (h i hi).2⟩
  by_cases e : i = j
  · subst e; rw [hx]; exact World.cell?_setCell_same' _ _ _ (by rw [(h i hi).1]; rfl)
  · rw [World.cell?_setCell_other _ _ _ _ (by simp [e]), ho i e]; exact (h i hi).1
theorem Sole.setCells (p : Nat) : ∀ (vs : List Value) (o : Nat) (w : World), Sole p w (w.setCells p o vs)
  | [], _, w => ⟨rfl, rfl, rfl, Nat.le_refl _, fun _ _ _ => rfl⟩
  | v :: r, o, w => (Sole.setCell p o w v).trans (Sole.setCells p r (o + 1) _)
theorem sole_grow (p : Nat) (w : World) (os : Array Obj) : Sole p w (grow w os) := by
  refine ⟨rfl, rfl, rfl, by simp [grow], fun k hk _ => ?_⟩
  simp only [grow]
  rw [Array.getElem?_append_left hk]
def SortIs (d r : Nat) (g : Nat → Nat) (w : World) (e : Ending) (w' : World) : Prop :=
  e = .returned (.tuple #[]) ∧ Sole d w w' ∧ ∃ M : List Nat, M.length = r ∧ (∀ z, z ≤ r → (M.take z).sum = lst g r z) ∧ (∀ m ∈ M, m ≤ 4) ∧ ∀ i (h : i < M.length), w'.cell? ⟨d, i, none⟩ = some (.int .i64 (M[i] : Nat))
theorem sort_any (d r : Nat) (g : Nat → Nat) (hr : 1 ≤ r ∧ r ≤ 3) (hg : ∀ i, g i ≤ 4) (w : World) (h : RowG w d r g) :
    Calls Tryd.prog 34 #[.slice (some ⟨d, 0, none⟩) r r] w (SortIs d r g w) := by
  have hz : ((List.range r).map fun i => ((g i : Nat) : Int)).length = r := by simp
  have hH : Holds (Value.int .i64) w d 0 ((List.range r).map fun i => ((g i : Nat) : Int)).toArray := by
    intro j hj
    have hj' : j < r := by simpa using hj
    rw [Nat.zero_add, getElem!_pos _ j hj]
    simp only [List.getElem_toArray, List.getElem_map, List.getElem_range]
    exact h j hj'
  have hb : d < w.heap.size := cell_lt (h 0 (by omega)).1
  have key := Tryd.slices_Sort_int d 0 r _ w hH hb (by rw [hz]; omega)
  rw [hz] at key
  refine key.mono ?_
  rintro e w' ⟨rfl, n, os, rfl⟩
  have hy : (((List.range r).map fun i => ((g i : Nat) : Int)).mergeSort fun x y => decide (x ≤ y)).length = ((List.range r).map fun i => ((g i : Nat) : Int)).toArray.size := by simp
  have hw := Go.Lib.sorted_world (Value.int .i64) w d 0 n _ _ os hH hy
  rw [hw]
  have hp := List.mergeSort_perm ((List.range r).map fun i => ((g i : Nat) : Int)) (fun x y => decide (x ≤ y))
  have hs : (((List.range r).map fun i => ((g i : Nat) : Int)).mergeSort fun x y => decide (x ≤ y)).Pairwise (· ≤ ·) := by
    refine (List.pairwise_mergeSort (fun a b c h1 h2 => ?_) (fun a b => ?_) _).imp fun {a b} h => of_decide_eq_true h
    · rw [decide_eq_true_eq] at *; omega
    · rw [Bool.or_eq_true, decide_eq_true_eq, decide_eq_true_eq]; omega
  have hcells := Go.Lib.cells_sorted_ints (W := w) (b := d) (off := 0) (n := r) (q := n) (zs := (List.range r).map fun i => ((g i : Nat) : Int)) (ys := ((List.range r).map fun i => ((g i : Nat) : Int)).mergeSort fun x y => decide (x ≤ y)) (os := os) (Nat.le_of_eq hz.symm) (by simp) (fun j hj => by
    have hj' : j < r := by simpa using hj
    rw [Nat.zero_add, (h j hj').1]
    simp [List.getD, hj'])
  obtain ⟨M, hM, hl, -, h4⟩ := sorted_least hp hs (Nat.zero_le r) hg (by omega)
  refine ⟨rfl, ((Sole.of_gr ((Gr.refl w).drewN n)).trans (Sole.setCells d _ 0 _)).trans (sole_grow d _ os), M, hl, fun z hzz => ?_, h4, fun i hi => ?_⟩
  · obtain ⟨M', hM', _, hs', _⟩ := sorted_least hp hs hzz hg (by omega)
    have : M = M' := by
      have e := hM.symm.trans hM'
      have e2 := congrArg (List.map Int.toNat) e
      simpa [List.map_map, Function.comp_def] using e2
    rw [this]; exact hs'
  · rw [hM] at hcells ⊢
    have := hcells i (by simp; omega)
    rw [Nat.zero_add] at this
    rw [this]
    simp [List.getD, hi]
end Go.Proofs.YtegapeplbincnaaDoor
