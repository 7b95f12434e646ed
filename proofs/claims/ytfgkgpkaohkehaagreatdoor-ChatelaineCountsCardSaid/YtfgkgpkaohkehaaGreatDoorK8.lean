import Derived.Test.YtfgkgpkaohkehaaGreatDoorK7
import Derived.Test.YtfgkgpkaohkehaaGreatDoorSh0
import Derived.WalkKit
import Derived.ProofKit
import Derived.LoopTactic
import Derived.Outline
import Derived.WalkSpells
import Derived.WalkLawsBesides
import Derived.Lib.Hide
import Derived.Deep.LoopGhost
import Derived.Deep.QuietTactic
import Derived.BigQuiet
import Derived.ShutString
import Derived.IntWalk
import Derived.Deep.RegionWith
import Derived.Deep.RegionHeld3
import Derived.Deep.RegionLaw
import Derived.Laws.AppendOwn
import Derived.Laws.CopyOwn
import Derived.Test.YtfgkgpkaohkehaaGreatDoorK3
import Derived.Lib.SortBridge
import Derived.Lib.MinMax
import Derived.Laws.Bits64b
namespace Go.Proofs.YtfgkgpkaohkehaaGreatDoor
open Go.ChangeShapes Go.WideShapes Go.ChangeAt Go.RowKit
open Grids
set_option linter.unusedVariables false
set_option linter.unusedSimpArgs false
/-- A row of so many equal numbers. -/
def RepIs (v : Int) (r : Nat) (w : World) (e : Ending) (w' : World) : Prop :=
  ∃ d, e = .returned (.slice (some ⟨d, 0, none⟩) r r) ∧ w.heap.size ≤ d ∧ (∀ i, i < r → w'.cell? ⟨d, i, none⟩ = some (.int .i64 v) ∧ w'.frozen? ⟨d, i, none⟩ = false) ∧ Gr w w'
theorem heap_cell {w : World} {d i : Nat} {cs : Array Value} {t : TypeId} {v : Value} (h : w.heap[d]? = some (.cells cs t (0, 0))) (hv : cs[i]? = some v) : w.cell? ⟨d, i, none⟩ = some v ∧ w.frozen? ⟨d, i, none⟩ = false := by
  refine ⟨by simp [World.cell?, h, hv], by simp [World.frozen?, h]⟩
theorem alloc_heap (w : World) (o : Obj) : (w.alloc o).heap[w.heap.size]? = some o := by
  show (w.heap.push o)[w.heap.size]? = some o
  simp
theorem one_src {w : World} {a : Addr} {v : Value} (h : w.cell? a = some v) : ∀ (j : Nat) (u : Value), [v][j]? = some u → w.cell? (a.add j) = some u := by
  intro j u hj
  obtain ⟨h1, h2⟩ := List.getElem?_eq_some_iff.1 hj
  have h0 : j = 0 := by simpa using h1
  subst h0
  simp at h2
  subst h2
  simpa [Addr.add] using h
theorem one_cell {k : IntKind} {z : Int} : ∀ u ∈ [Value.int k z], u.oneCell' = true := by
  intro u hu
  have := List.mem_singleton.1 hu
  subst this; rfl
theorem repIs_mk {v : Int} {r d : Nat} {w w' : World} {cs : Array Value} {t : TypeId} (hd : w.heap.size ≤ d) (h : w'.heap[d]? = some (.cells cs t (0, 0))) (hc : ∀ i, i < r → cs[i]? = some (.int .i64 v)) (hg : Gr w w') : RepIs v r w (.returned (.slice (some ⟨d, 0, none⟩) r r)) w' :=
  ⟨d, rfl, hd, fun i hi => heap_cell h (hc i hi), hg⟩
set_option maxRecDepth 100000 in
set_option maxHeartbeats 1000000 in
theorem rep1_any (v : Int) (bx : Nat) (w : World) (hc : w.cell? ⟨bx, 0, none⟩ = some (.int .i64 v)) :
    Calls Tryz.prog 20 #[.slice (some ⟨bx, 0, none⟩) 1 1, .int .i64 1] w (RepIs v 1 w) := by
  have M := Lib.hid (fun w => Tryz.bits_Mul 1 1 (by decide) (by decide) w)
  have e1 : (1 * 1 / 18446744073709551616 : Nat) = 0 := by decide
  have e2 : (1 * 1 % 18446744073709551616 : Nat) = 1 := by decide
  rw [e1, e2] at M
  clear e1 e2
  have hmk : ∀ w, (Instr.makeSlice 61 (.int .i64 1) (.int .i64 1)).run Tryz.prog w = .ok (.slice (some ⟨w.heap.size, 0, none⟩) 1 1) (w.alloc (.cells #[.int .i64 0] 3)) := fun _ => by kernel_rfl
  have hc1 := ((Gr.refl w).alloc (.cells #[.int .i64 0] 3)).cell hc
  go_enter Tryz.func20, Tryz.ntmps20
  go_wp2_with fail
  refine (M.out _).mono ?_
  rintro e w2 ⟨rfl, rfl⟩
  go_wp2_with (with_reducible refine wpList_copy_splice rfl (.tmp 31) (.tmp 32) 61 61 rfl 3 Tryz.underlying61 (by kernel_rfl) _ _ _ _ _ _ rfl rfl w2.heap.size 0 [.int .i64 0] 3 (alloc_heap _ _) [.int .i64 v] rfl (fun _ => ⟨rfl, ⟨bx, 0, none⟩, rfl, one_src hc1⟩) (by simp) one_cell w2.heap.size w2 ((Below.refl _ _).alloc (Nat.le_refl _) _) (Nat.le_refl _) ?_)
  intro w3 hh3 hb3
  have h3 : w3.heap[w2.heap.size]? = some (.cells #[.int .i64 v] 3 (0, 0)) := hh3.out
  have HG3 := Lib.hid (Gr.of hb3)
  have HD := Lib.hid (Nat.le_refl w2.heap.size)
  clear hc1 hc hh3 hb3
  generalize hdd : w2.heap.size = d at *
  have H3 := Lib.hid h3
  clear h3
  go_wp2
  refine wp_loop_rounds 1 ?_
  rw [rounds_succ]
  go_wp2
  go_ret
  exact repIs_mk (by omega) H3.out (fun i hi => by have h0 : i = 0 := (by omega); subst h0; rfl) HG3.out
set_option maxRecDepth 100000 in
set_option maxHeartbeats 1000000 in
theorem rep2_any (v : Int) (bx : Nat) (w : World) (hc : w.cell? ⟨bx, 0, none⟩ = some (.int .i64 v)) :
    Calls Tryz.prog 20 #[.slice (some ⟨bx, 0, none⟩) 1 1, .int .i64 2] w (RepIs v 2 w) := by
  have M := Lib.hid (fun w => Tryz.bits_Mul 1 2 (by decide) (by decide) w)
  have e1 : (1 * 2 / 18446744073709551616 : Nat) = 0 := by decide
  have e2 : (1 * 2 % 18446744073709551616 : Nat) = 2 := by decide
  rw [e1, e2] at M
  clear e1 e2
  have hmk : ∀ w, (Instr.makeSlice 61 (.int .i64 2) (.int .i64 2)).run Tryz.prog w = .ok (.slice (some ⟨w.heap.size, 0, none⟩) 2 2) (w.alloc (.cells #[.int .i64 0, .int .i64 0] 3)) := fun _ => by kernel_rfl
  have hc1 := ((Gr.refl w).alloc (.cells #[.int .i64 0, .int .i64 0] 3)).cell hc
  go_enter Tryz.func20, Tryz.ntmps20
  go_wp2_with fail
  refine (M.out _).mono ?_
  rintro e w2 ⟨rfl, rfl⟩
  go_wp2_with (with_reducible refine wpList_copy_splice rfl (.tmp 31) (.tmp 32) 61 61 rfl 3 Tryz.underlying61 (by kernel_rfl) _ _ _ _ _ _ rfl rfl w2.heap.size 0 [.int .i64 0, .int .i64 0] 3 (alloc_heap _ _) [.int .i64 v] rfl (fun _ => ⟨rfl, ⟨bx, 0, none⟩, rfl, one_src hc1⟩) (by simp) one_cell w2.heap.size w2 ((Below.refl _ _).alloc (Nat.le_refl _) _) (Nat.le_refl _) ?_)
  intro w3 hh3 hb3
  have h3 : w3.heap[w2.heap.size]? = some (.cells #[.int .i64 v, .int .i64 0] 3 (0, 0)) := hh3.out
  have HG3 := Lib.hid (Gr.of hb3)
  have HD := Lib.hid (Nat.le_refl w2.heap.size)
  clear hc1 hc hh3 hb3
  generalize hdd : w2.heap.size = d at *
  have H3 := Lib.hid h3
  clear h3
  go_wp2
  refine wp_loop_rounds 2 ?_
  rw [rounds_succ]
  go_wp2
  have hs1 := (heap_cell H3.out (i := 0) rfl).1
  go_region_law (refine step_copy_splice rfl (.tmp 41) (.tmp 44) 61 61 rfl 3 Tryz.underlying61 (by kernel_rfl) (some ⟨d, 1, none⟩) (some ⟨d, 0, none⟩) 1 1 1 2 (by simp [Act.eval, Act.put]) (by simp [Act.eval, Act.put]) d 1 [.int .i64 v, .int .i64 0] 3 H3.out [.int .i64 v] (by rfl) (fun _ => ⟨by rfl, ⟨d, 0, none⟩, by rfl, one_src hs1⟩) (by simp) one_cell w2.heap.size w2 (Gr.below HG3.out.drew) (by omega) ?_; intro w4 hh hb; have H4 := hh; have HG4 := Lib.hid (Gr.of hb); clear hh hb)
  go_wp2
  rw [rounds_succ]
  go_wp2
  go_ret
  exact repIs_mk (by omega) H4.out (fun i hi => by have h0 : i = 0 ∨ i = 1 := (by omega); rcases h0 with rfl | rfl <;> rfl) HG4.out
set_option maxRecDepth 100000 in
set_option maxHeartbeats 1000000 in
theorem rep3_any (v : Int) (bx : Nat) (w : World) (hc : w.cell? ⟨bx, 0, none⟩ = some (.int .i64 v)) :
    Calls Tryz.prog 20 #[.slice (some ⟨bx, 0, none⟩) 1 1, .int .i64 3] w (RepIs v 3 w) := by
  have M := Lib.hid (fun w => Tryz.bits_Mul 1 3 (by decide) (by decide) w)
  have e1 : (1 * 3 / 18446744073709551616 : Nat) = 0 := by decide
  have e2 : (1 * 3 % 18446744073709551616 : Nat) = 3 := by decide
  rw [e1, e2] at M
  clear e1 e2
  have hmk : ∀ w, (Instr.makeSlice 61 (.int .i64 3) (.int .i64 3)).run Tryz.prog w = .ok (.slice (some ⟨w.heap.size, 0, none⟩) 3 3) (w.alloc (.cells #[.int .i64 0, .int .i64 0, .int .i64 0] 3)) := fun _ => by kernel_rfl
  have hc1 := ((Gr.refl w).alloc (.cells #[.int .i64 0, .int .i64 0, .int .i64 0] 3)).cell hc
  go_enter Tryz.func20, Tryz.ntmps20
  go_wp2_with fail
  refine (M.out _).mono ?_
  rintro e w2 ⟨rfl, rfl⟩
  go_wp2_with (with_reducible refine wpList_copy_splice rfl (.tmp 31) (.tmp 32) 61 61 rfl 3 Tryz.underlying61 (by kernel_rfl) _ _ _ _ _ _ rfl rfl w2.heap.size 0 [.int .i64 0, .int .i64 0, .int .i64 0] 3 (alloc_heap _ _) [.int .i64 v] rfl (fun _ => ⟨rfl, ⟨bx, 0, none⟩, rfl, one_src hc1⟩) (by simp) one_cell w2.heap.size w2 ((Below.refl _ _).alloc (Nat.le_refl _) _) (Nat.le_refl _) ?_)
  intro w3 hh3 hb3
  have h3 : w3.heap[w2.heap.size]? = some (.cells #[.int .i64 v, .int .i64 0, .int .i64 0] 3 (0, 0)) := hh3.out
  have HG3 := Lib.hid (Gr.of hb3)
  have HD := Lib.hid (Nat.le_refl w2.heap.size)
  clear hc1 hc hh3 hb3
  generalize hdd : w2.heap.size = d at *
  have H3 := Lib.hid h3
  clear h3
  go_wp2
  refine wp_loop_rounds 3 ?_
  rw [rounds_succ]
  go_wp2
  have hs1 := (heap_cell H3.out (i := 0) rfl).1
  go_region_law (refine step_copy_splice rfl (.tmp 41) (.tmp 44) 61 61 rfl 3 Tryz.underlying61 (by kernel_rfl) (some ⟨d, 1, none⟩) (some ⟨d, 0, none⟩) 2 2 1 3 (by simp [Act.eval, Act.put]) (by simp [Act.eval, Act.put]) d 1 [.int .i64 v, .int .i64 0, .int .i64 0] 3 H3.out [.int .i64 v] (by rfl) (fun _ => ⟨by rfl, ⟨d, 0, none⟩, by rfl, one_src hs1⟩) (by simp) one_cell w2.heap.size w2 (Gr.below HG3.out.drew) (by omega) ?_; intro w4 hh hb; have H4 := hh; have HG4 := Lib.hid (Gr.of hb); clear hh hb)
  go_wp2
  rw [rounds_succ]
  go_wp2
  have hs2 := (heap_cell H4.out (i := 0) rfl).1
  go_region_law (refine step_copy_splice rfl (.tmp 41) (.tmp 44) 61 61 rfl 3 Tryz.underlying61 (by kernel_rfl) (some ⟨d, 2, none⟩) (some ⟨d, 0, none⟩) 1 1 2 3 (by simp [Act.eval, Act.put]) (by simp [Act.eval, Act.put]) d 2 [.int .i64 v, .int .i64 v, .int .i64 0] 3 H4.out [.int .i64 v] (by rfl) (fun _ => ⟨by rfl, ⟨d, 0, none⟩, by rfl, one_src hs2⟩) (by simp) one_cell w2.heap.size w2 (Gr.below HG4.out.drew) (by omega) ?_; intro w5 hh hb; have H5 := hh; have HG5 := Lib.hid (Gr.of hb); clear hh hb)
  go_wp2
  rw [rounds_succ]
  go_wp2
  go_ret
  exact repIs_mk (by omega) H5.out (fun i hi => by have h0 : i = 0 ∨ i = 1 ∨ i = 2 := (by omega); rcases h0 with rfl | rfl | rfl <;> rfl) HG5.out
end Go.Proofs.YtfgkgpkaohkehaaGreatDoor
/- Plain mathematics of wanted votes: node by node, and in order. No program is imported here. -/
namespace Go.Proofs.YtfgkgpkaohkehaaGreatDoor.Grids
set_option linter.unusedVariables false
theorem cnt_single (t : Nat) : ∀ n, cnt (fun j => decide (j = t)) n = if t < n then 1 else 0
  | 0 => rfl
  | n + 1 => by
    have ih := cnt_single t n
    unfold cnt
    rw [ih]
    by_cases h : n = t
    · subst h; simp
    · rw [decide_eq_false h]
      rcases Nat.lt_or_ge t n with h1 | h1
      · rw [if_pos h1, if_pos (show t < n + 1 by omega)]; rfl
      · rw [if_neg (show ¬ t < n by omega), if_neg (show ¬ t < n + 1 by omega)]; rfl
/-- A node that is new to a set. -/
theorem regC_new {p a m i : Nat} (hp : 0 < p) (h : a.testBit m = false) : regC p (a ||| 2 ^ m) i = regC p a i + (if i = m / p then 1 else 0) := by
  have e : regC p (a ||| 2 ^ m) i = regC p a i + cnt (fun j => decide (m = i * p + j)) p := by
    refine cnt_disj (fun j hj => ?_) (fun j => ?_) p
    · have := of_decide_eq_true hj
      rw [← this]; exact h
    · rw [Nat.testBit_or, Nat.testBit_two_pow]
  rw [e]
  congr 1
  have hm := Nat.div_add_mod m p
  by_cases hi : i = m / p
  · rw [if_pos hi, cnt_congr (g := fun j => decide (j = m % p)) p fun j hj => by rw [decide_eq_decide, hi, Nat.mul_comm]; omega, cnt_single, if_pos (Nat.mod_lt _ hp)]
  · rw [if_neg hi, cnt_congr (g := fun _ => false) p fun j hj => by
      rw [decide_eq_false_iff_not]
      intro e2
      apply hi
      rw [e2, reg_div hj], cnt_none]
theorem setL_take {B : List Int} {k : Nat} (h : k < B.length) : setL (B.take (k + 1)) = setL (B.take k) ||| one B[k] := by
  rw [List.take_succ_eq_append_getElem h, setL_snoc]
/-- In order, what is wanted first is the least. -/
theorem sorted_least {r z : Nat} {g : Nat → Nat} {ys : List Int} (hp : ys.Perm ((List.range r).map fun i => ((g i : Nat) : Int))) (hs : ys.Pairwise (· ≤ ·)) (hz : z ≤ r) (hg : ∀ i, g i ≤ 4) (hr : r ≤ 4) :
    ∃ M : List Nat, ys = M.map (fun n : Nat => (n : Int)) ∧ M.length = r ∧ (M.take z).sum = lst g r z ∧ ∀ m ∈ M, m ≤ 4 := by
  have hM : (ys.map Int.toNat).Perm ((List.range r).map g) := by
    have := hp.map Int.toNat
    rw [List.map_map] at this
    exact this
  have hy : ys = (ys.map Int.toNat).map (fun n : Nat => (n : Int)) := by
    rw [List.map_map]
    have : ∀ y ∈ ys, ((fun n : Nat => (n : Int)) ∘ Int.toNat) y = y := by
      intro y hy
      obtain ⟨i, _, rfl⟩ := List.mem_map.1 (hp.subset hy)
      rfl
    exact ((List.map_congr_left (g := id) this).trans (List.map_id ys)).symm
  have h4 : ∀ m ∈ ys.map Int.toNat, m ≤ 4 := by
    intro m hm
    obtain ⟨i, _, rfl⟩ := List.mem_map.1 (hM.subset hm)
    exact hg i
  have hlen : (ys.map Int.toNat).length = r := by rw [hM.length_eq]; simp
  refine ⟨_, hy, hlen, ?_, h4⟩
  have hsum : ∀ l : List Nat, (∀ m ∈ l, m ≤ 4) → l.sum ≤ 4 * l.length := by
    intro l
    induction l with
    | nil => intro _; simp
    | cons x l ih =>
      intro h
      have h1 := h x (by simp)
      have h2 := ih fun m hm => h m (by simp [hm])
      simp only [List.sum_cons, List.length_cons]; omega
  have h5 := hsum _ h4
  rw [hlen] at h5
  rw [ld_sorted _ z ?_ (by omega) (by omega)]
  · exact ld_perm hM z
  · rw [List.pairwise_map]
    refine hs.imp_of_mem fun {a b} ha hb hab => ?_
    omega
theorem sum_take_succ {M : List Nat} {k : Nat} (h : k < M.length) : (M.take (k + 1)).sum = (M.take k).sum + M[k] := by
  rw [List.take_succ_eq_append_getElem h, List.sum_append]; simp
end Go.Proofs.YtfgkgpkaohkehaaGreatDoor.Grids
namespace Go.Proofs.YtfgkgpkaohkehaaGreatDoor
open Go.ChangeShapes Go.WideShapes Go.ChangeAt Go.RowKit
open Grids
open Go.Sort
set_option linter.unusedVariables false
set_option linter.unusedSimpArgs false
theorem rep_any (v : Int) (r bx : Nat) (hr : 1 ≤ r ∧ r ≤ 3) (w : World) (hc : w.cell? ⟨bx, 0, none⟩ = some (.int .i64 v)) :
    Calls Tryz.prog 20 #[.slice (some ⟨bx, 0, none⟩) 1 1, .int .i64 r] w (RepIs v r w) := by
  obtain rfl | rfl | rfl : r = 1 ∨ r = 2 ∨ r = 3 := by omega
  · exact rep1_any v bx w hc
  · exact rep2_any v bx w hc
  · exact rep3_any v bx w hc
/-- The cells of a row of r numbers. -/
def RowG (w : World) (d r : Nat) (g : Nat → Nat) : Prop := ∀ i, i < r → w.cell? ⟨d, i, none⟩ = some (.int .i64 (g i : Nat)) ∧ w.frozen? ⟨d, i, none⟩ = false
theorem RowG.gr {w w' : World} {d r : Nat} {g : Nat → Nat} (h : RowG w d r g) (hg : Gr w w') : RowG w' d r g := fun i hi => ⟨hg.cell (h i hi).1, (hg.frozen (cell_lt (h i hi).1)).trans (h i hi).2⟩
theorem RowG.put {w : World} {d r j x : Nat} {g g' : Nat → Nat} (h : RowG w d r g) (hj : j < r) (hx : g' j = x) (ho : ∀ i, i ≠ j → g' i = g i) : RowG (w.setCell ⟨d, j, none⟩ (.int .i64 (x : Nat))) d r g' := by
  intro i hi
  refine ⟨?_, by rw [World.frozen?_setCell]; exact (h i hi).2⟩
  by_cases e : i = j
  · subst e; rw [hx]; exact World.cell?_setCell_same' _ _ _ (by rw [(h i hi).1]; rfl)
  · rw [World.cell?_setCell_other _ _ _ _ (by simp [e]), ho i e]; exact (h i hi).1
theorem Sole.setCells (p : Nat) : ∀ (vs : List Value) (o : Nat) (w : World), Sole p w (w.setCells p o vs)
  | [], _, w => ⟨rfl, rfl, rfl, Nat.le_refl _, fun _ _ _ => rfl⟩
  | v :: r, o, w => (Sole.setCell p o w v).trans (Sole.setCells p r (o + 1) _)
theorem sole_grow (p : Nat) (w : World) (os : Array Obj) : Sole p w (grow w os) := by
  refine ⟨rfl, rfl, rfl, by simp [grow], fun k hk _ => ?_⟩
  simp only [grow]
  rw [Array.getElem?_append_left hk]
def SortIs (d r : Nat) (g : Nat → Nat) (w : World) (e : Ending) (w' : World) : Prop :=
  e = .returned (.tuple #[]) ∧ Sole d w w' ∧ ∃ M : List Nat, M.length = r ∧ (∀ z, z ≤ r → (M.take z).sum = lst g r z) ∧ (∀ m ∈ M, m ≤ 4) ∧ ∀ i (h : i < M.length), w'.cell? ⟨d, i, none⟩ = some (.int .i64 (M[i] : Nat))
theorem sort_any (d r : Nat) (g : Nat → Nat) (hr : 1 ≤ r ∧ r ≤ 3) (hg : ∀ i, g i ≤ 4) (w : World) (h : RowG w d r g) :
    Calls Tryz.prog 23 #[.slice (some ⟨d, 0, none⟩) r r] w (SortIs d r g w) := by
  have hz : ((List.range r).map fun i => ((g i : Nat) : Int)).length = r := by simp
  have hH : Holds (Value.int .i64) w d 0 ((List.range r).map fun i => ((g i : Nat) : Int)).toArray := by
    intro j hj
    have hj' : j < r := by simpa using hj
    rw [Nat.zero_add, getElem!_pos _ j hj]
    simp only [List.getElem_toArray, List.getElem_map, List.getElem_range]
    exact h j hj'
  have hb : d < w.heap.size := cell_lt (h 0 (by omega)).1
  have key := Tryz.slices_Sort_int d 0 r _ w hH hb (by rw [hz]; omega)
  rw [hz] at key
  refine key.mono ?_
  rintro e w' ⟨rfl, n, os, rfl⟩
  have hy : (((List.range r).map fun i => ((g i : Nat) : Int)).mergeSort fun x y => decide (x ≤ y)).length = ((List.range r).map fun i => ((g i : Nat) : Int)).toArray.size := by simp
  have hw := Go.Lib.sorted_world (Value.int .i64) w d 0 n _ _ os hH hy
  rw [hw]
  have hp := List.mergeSort_perm ((List.range r).map fun i => ((g i : Nat) : Int)) (fun x y => decide (x ≤ y))
  have hs : (((List.range r).map fun i => ((g i : Nat) : Int)).mergeSort fun x y => decide (x ≤ y)).Pairwise (· ≤ ·) := by
    refine (List.pairwise_mergeSort (fun a b c h1 h2 => ?_) (fun a b => ?_) _).imp fun {a b} h => of_decide_eq_true h
    · rw [decide_eq_true_eq] at *; omega
    · rw [Bool.or_eq_true, decide_eq_true_eq, decide_eq_true_eq]; omega
  have hcells := Go.Lib.cells_sorted_ints (W := w) (b := d) (off := 0) (n := r) (q := n) (zs := (List.range r).map fun i => ((g i : Nat) : Int)) (ys := ((List.range r).map fun i => ((g i : Nat) : Int)).mergeSort fun x y => decide (x ≤ y)) (os := os) (Nat.le_of_eq hz.symm) (by simp) (fun j hj => by
    have hj' : j < r := by simpa using hj
    rw [Nat.zero_add, (h j hj').1]
    simp [List.getD, hj'])
  obtain ⟨M, hM, hl, -, h4⟩ := sorted_least hp hs (Nat.zero_le r) hg (by omega)
  refine ⟨rfl, ((Sole.of_gr ((Gr.refl w).drewN n)).trans (Sole.setCells d _ 0 _)).trans (sole_grow d _ os), M, hl, fun z hzz => ?_, h4, fun i hi => ?_⟩
  · obtain ⟨M', hM', _, hs', _⟩ := sorted_least hp hs hzz hg (by omega)
    have : M = M' := by
      have e := hM.symm.trans hM'
      have e2 := congrArg (List.map Int.toNat) e
      simpa [List.map_map, Function.comp_def] using e2
    rw [this]; exact hs'
  · rw [hM] at hcells ⊢
    have := hcells i (by simp; omega)
    rw [Nat.zero_add] at this
    rw [this]
    simp [List.getD, hi]
end Go.Proofs.YtfgkgpkaohkehaaGreatDoor
namespace Go.Proofs.YtfgkgpkaohkehaaGreatDoor
open Go.ChangeShapes Go.WideShapes Go.ChangeAt Go.RowKit
open Grids
set_option linter.unusedVariables false
set_option linter.unusedSimpArgs false
theorem own_base {w : World} {base : Nat} {e : TypeId} {size : Nat} {n cap : Nat} {a : Option Addr} {xs : List Value} (h : w.ownsRow base e size (.slice a n cap) n xs) : ∀ b o, a = some ⟨b, o, none⟩ → base ≤ b := by
  intro b o ha
  rcases h.2 with ⟨hv, _⟩ | ⟨g, cap, cur, hv, hb, _⟩
  · rw [ha] at hv; cases hv
  · rw [ha] at hv; cases hv; exact hb
/-- What List returns: a row of its own. -/
def ListIs3 (x : Nat) (w : World) (e : Ending) (w' : World) : Prop := ∃ a cap, e = .returned (.slice a (ints (bitsL x)).length cap) ∧ Ints w' a (ints (bitsL x)) ∧ Gr w w' ∧ ∀ b o, a = some ⟨b, o, none⟩ → w.heap.size ≤ b
theorem listIs3_mk {x : Nat} {P : List Nat} {v : Value} {w w' : World} (hP : P = bitsL x) (ho : w'.ownsRow w.heap.size 3 1 v P.length ((ints P).map (Value.int .i64))) (hg : Gr w w') : ListIs3 x w (.returned v) w' := by
  subst hP
  have hl : (ints (bitsL x)).length ≤ 9223372036854775807 := by
    have h1 := bitsL_len x
    have h2 := cnt_le x.testBit 32
    simp [ints]; omega
  obtain ⟨a, cap, rfl, hn, hi⟩ := ints_of_row ho (ints_wf fun n hn => (bitsL_mem hn).1) hl
  exact ⟨a, cap, by rw [hn], hi, hg, own_base ho⟩
set_option maxRecDepth 100000 in
set_option maxHeartbeats 1000000 in
theorem list3_any (x : Nat) (w : World) (hx : x < 4294967296) (hT : TB w) : Calls Tryz.prog 21 #[.int .u32 x] w (ListIs3 x w) := by
  obtain ⟨i0, hi, hz0, hz1, hz2⟩ := info_parts info_int
  have HT := Lib.hid hT
  clear hT
  go_enter Tryz.func21, Tryz.ntmps21
  go_wp2
  go_loopw [3, 0] (fun v s wr => ∃ (P : List Nat) (y : Nat), y < 4294967296 ∧ s = .int .u32 (y : Nat) ∧ Hid (P ++ bitsL y = bitsL x) ∧ wr.ownsRow w.heap.size 3 1 v P.length ((ints P).map (Value.int .i64)) ∧ Hid (Gr w wr)) (fun _ s _ => (intOf s).toNat)
  case atStart => exact ⟨[], x, hx, rfl, Lib.hid rfl, World.ownsRow_nil _ _ _ _, Lib.hid (Gr.refl _)⟩
  case round =>
    obtain ⟨P, y, hy, rfl, hP, hown, hG⟩ := hrel
    by_cases hy0 : y = 0
    · subst hy0
      have HP := Lib.hid (show P = bitsL x by have := hP.out; rwa [bitsL_zero, List.append_nil] at this)
      go_wp2
      go_ret
      exact listIs3_mk HP.out hown hG.out
    · have t0 : ((y : Int) != 0) = true := by simp; omega
      have hPl : P.length ≤ 32 := by
        have h1 := congrArg List.length hP.out
        have h2 := bitsL_len x
        have h3 := cnt_le x.testBit 32
        rw [List.length_append] at h1; omega
      have TZ := Lib.hid (tz_any y wr hy0 hy (HT.out.gr hG.out))
      have HB := Lib.hid (bitsL_step hy0 hy)
      have HL := Lib.hid (and_less hy0)
      have HA := Lib.hid (w32_and y (y - 1) hy (by omega))
      have hc32 : Lib.ctz 32 y < 32 := (Lib.lowest_bit 32 y hy0 hy).2
      have y1 : ((y : Int) - 1) = ((y - 1 : Nat) : Int) := by omega
      have HY := Lib.hid y1
      have hy1 : 1 ≤ y := by omega
      clear y1 hy0
      generalize hc : Lib.ctz 32 y = c at *
      clear hc
      go_wp2_with fail
      refine TZ.out.mono ?_
      rintro e w2 ⟨rfl, rfl⟩
      go_wp2_with (at_builtin; refine wpList_append_own _ rfl (.tmp 10) (.tmp 13) 61 rfl w.heap.size 3 i0 (.int .i64 0) 1 8 Tryz.underlying61 hi hz0 hz1 hz2 rfl (by decide) _ _ _ rfl (hown.alloc _) ⟨wr.heap.size, 0, none⟩ 1 1 [.int .i64 (c : Nat)] rfl rfl ?c1 ?c2 ?c3 ?c4 ?c5 ?_)
      case c1 => intro j u hj; obtain ⟨hj1, hj2⟩ := List.getElem?_eq_some_iff.1 hj; simp at hj1; subst hj1; simp at hj2; subst hj2; exact new_cell rfl rfl
      case c2 => intro u hu; simp at hu; rcases hu with rfl; rfl
      case c3 => unfold maxLen; omega
      case c4 => omega
      case c5 => have := hG.out.size; simp; omega
      · intro v' w3 hown3 hgrow _
        have hg3 := Lib.hid ((hG.out.alloc _).append (hown.alloc _) hgrow)
        clear hgrow hown
        go_wp2
        go_roundw
        case rel =>
          refine ⟨P ++ [c], y &&& (y - 1), Nat.lt_trans HL.out hy, ?_, ?_, ?_, hg3⟩
          · rw [← HA.out, ← HY.out]
          · exact Lib.hid (by rw [List.append_assoc]; have := hP.out; rw [HB.out] at this; exact this)
          · have := hown3
            simpa [ints] using this
        case measure => simp only [intOf]; rw [HY.out, HA.out]; have := HL.out; omega
end Go.Proofs.YtfgkgpkaohkehaaGreatDoor
namespace Go.Proofs.YtfgkgpkaohkehaaGreatDoor
open Go.ChangeShapes Go.WideShapes Go.ChangeAt Go.RowKit
open Grids
set_option linter.unusedVariables false
set_option linter.unusedSimpArgs false
theorem region_in {r p W z1 n1 z2 n2 : Nat} (R : Rgt r p W z1 n1 z2 n2) (m : Nat) (hm : m < r * p) (w : World) :
    Calls Tryz.prog 22 #[.agg #[.int .i64 r, .int .i64 p, .int .u32 W, .int .i64 z1, .int .i64 n1, .int .i64 z2, .int .i64 n2], .int .i64 m] w fun e w' => e = .returned (.int .i64 (m / p : Nat)) ∧ Gr w w' := by
  have h := has2_any (m : Int) (len_shp R)
  rw [decide_eq_true (show 0 ≤ (m : Int) ∧ (m : Int) < ((r * p : Nat) : Int) by omega)] at h
  have h9 := shp12 R.shp
  exact regionOf_yes m p (by have := R.shp.hp; omega) (by omega) h w
theorem want_none (p n i : Nat) : want p n 0 i = n := by
  unfold want regC
  rw [cnt_congr (g := fun _ => false) p fun j _ => Nat.zero_testBit _, cnt_none]; rfl
theorem Ints.sole {w w' : World} {p b off : Nat} {l : List Int} (h : Ints w (some ⟨b, off, none⟩) l) (ho : Sole p w w') (hb : b ≠ p) : Ints w' (some ⟨b, off, none⟩) l := by
  obtain ⟨h1, h2, h3⟩ := h
  refine ⟨h1, h2, h3.imp id ?_⟩
  rintro ⟨b', off', e, hc⟩
  cases e
  exact ⟨b, off, rfl, fun i hi => ho.cell hb (hc i hi)⟩
theorem sum_le4 : ∀ (l : List Nat), (∀ m ∈ l, m ≤ 4) → l.sum ≤ 4 * l.length
  | [], _ => by simp
  | x :: l, h => by
    have h1 := h x (by simp)
    have h2 := sum_le4 l fun m hm => h m (by simp [hm])
    simp only [List.sum_cons, List.length_cons]; omega
theorem less_one (g : Nat) : max ((g : Int) - 1) 0 = ((g - 1 : Nat) : Int) := by omega
theorem kz_in {r p W z1 n1 z2 n2 : Nat} (R : Rgt r p W z1 n1 z2 n2) (f : Bool) : 1 ≤ kz f z1 z2 ∧ kz f z1 z2 ≤ r ∧ 1 ≤ kz f n1 n2 ∧ kz f n1 n2 ≤ p := by
  have h1 := R.shp.hz1; have h2 := R.shp.hn1; have h3 := R.shp.hz2; have h4 := R.shp.hn2
  cases f
  · exact ⟨h3.1, h3.2, h4.1, h4.2⟩
  · exact ⟨h1.1, h1.2, h2.1, h2.2⟩
theorem want_new {p n a m i : Nat} (hp : 0 < p) (h : a.testBit m = false) : want p n (a ||| 2 ^ m) i = if i = m / p then want p n a i - 1 else want p n a i := by
  unfold want
  rw [regC_new hp h]
  split <;> omega
/-- What a set's list says to the walk. -/
theorem list_facts {r p s : Nat} (hp : 0 < p) (hs : s < 2 ^ (r * p)) : ∀ k, k < (ints (bitsL s)).length → ∃ m : Nat, (ints (bitsL s))[k]? = some (m : Int) ∧ m < r * p ∧ m < 32 ∧ m / p < r ∧ (setL ((ints (bitsL s)).take k)).testBit m = false ∧ setL ((ints (bitsL s)).take (k + 1)) = setL ((ints (bitsL s)).take k) ||| 2 ^ m := by
  intro k hk
  have hk' : k < (bitsL s).length := by simpa [ints] using hk
  have hb := bitsL_mem (List.getElem_mem hk')
  have hm : (bitsL s)[k] < r * p := by
    apply Nat.lt_of_not_le
    intro hle
    have := Nat.testBit_lt_two_pow (Nat.lt_of_lt_of_le hs (Nat.pow_le_pow_right (n := 2) (by decide) hle))
    rw [hb.2] at this; cases this
  have he : (ints (bitsL s))[k] = ((bitsL s)[k] : Int) := by simp [ints]
  refine ⟨(bitsL s)[k], by rw [List.getElem?_eq_getElem hk, he], hm, hb.1, by rw [Nat.div_lt_iff_lt_mul hp]; exact hm, ?_, by rw [setL_take hk, he, one_in hb.1]⟩
  rw [← Bool.not_eq_true, setL_bit]
  rintro ⟨_, h2⟩
  obtain ⟨j, hj, hj2⟩ := List.getElem_of_mem h2
  rw [List.getElem_take] at hj2
  have hjk : j < k := by simp at hj; omega
  have := List.pairwise_iff_getElem.1 (bitsL_up s) j k (by omega) hk' hjk
  have e2 : (ints (bitsL s))[j]'(by omega) = ((bitsL s)[j]'(by omega) : Int) := by simp [ints]
  rw [e2] at hj2
  omega
set_option maxRecDepth 100000 in
set_option maxHeartbeats 2000000 in
theorem vLeast_any {b r p W z1 n1 z2 n2 s : Nat} {f : Bool} (R : Rgt r p W z1 n1 z2 n2) (hs : s < 2 ^ (r * p)) (w : World) (h : VtIs w b r p W z1 n1 z2 n2 f s) (hT : TB w) :
    Calls Tryz.prog 8 #[.pointer (some ⟨b, 0, none⟩)] w fun e w' => e = .returned (.int .i64 (least r p (kz f z1 z2) (kz f n1 n2) s : Nat)) ∧ Gr w w' := by
  obtain ⟨z0, zr, n0, np⟩ := kz_in R f
  have hr := R.shp.hr
  have hp := R.shp.hp
  have CH := Lib.hid (check_shp R.shp true R.good 0 rfl)
  have RG := Lib.hid (fun m hm w => region_in R m hm w)
  have LF := Lib.hid (list_facts (r := r) (p := p) (s := s) (by omega) hs)
  have KK := Lib.hid (fun w h => vKind_any (f := f) (b := b) (r := r) (p := p) (W := W) (z1 := z1) (n1 := n1) (z2 := z2) (n2 := n2) (s := s) w h)
  have WL := Lib.hid (fun a i => want_le (per := p) (nodes := kz f n1 n2) (set := a) (by omega) i)
  have HV := Lib.hid h
  have HT := Lib.hid hT
  have hls := h.lt
  have hbw := cell_lt h.c0
  obtain ⟨c0, c1, c2, c3, c4, c5, c6, -, -, -, -⟩ := h
  have KZ : Hid (∀ w, VtIs w b r p W z1 n1 z2 n2 f s → Calls Tryz.prog 19 #[.pointer (some ⟨b, 0, none⟩)] w fun e w' => e = .returned (.agg #[.int .i64 (kz f z1 z2 : Nat), .int .i64 (kz f n1 n2 : Nat)]) ∧ Gr w w') := Lib.hid fun w h => KK.out w h
  clear KK hs hT
  unfold least
  generalize kz f z1 z2 = z at *
  generalize kz f n1 n2 = n at *
  go_enter Tryz.func8, Tryz.ntmps8
  go_wp2_with fail
  refine (CH.out _).mono ?_
  rintro e w1 ⟨rfl, hg1⟩
  have HV1 := Lib.hid (HV.out.gr hg1)
  have HG1 := Lib.hid hg1
  clear c0 c1 c2 c3 c4 c5 c6 hg1
  go_wp2_with fail
  refine (KZ.out _ HV1.out).mono ?_
  rintro e w2 ⟨rfl, hg2⟩
  have HG2 := Lib.hid (HG1.out.trans hg2)
  have hz := (Gr.refl w2).alloc (.cells #[.int .i64 (z : Nat), .int .i64 (n : Nat)] 28)
  have hk2 := HG2.out.size
  have HVk := Lib.hid ((HV1.out.gr hg2).gr hz)
  have HGk := Lib.hid (HG2.out.trans hz)
  have k0 : (w2.alloc (.cells #[.int .i64 (z : Nat), .int .i64 (n : Nat)] 28)).cell? ⟨w2.heap.size, 0, none⟩ = some (.int .i64 (z : Nat)) := new_cell rfl rfl
  have k1 : (w2.alloc (.cells #[.int .i64 (z : Nat), .int .i64 (n : Nat)] 28)).cell? ⟨w2.heap.size, 1, none⟩ = some (.int .i64 (n : Nat)) := new_cell rfl rfl
  have hlt : w2.heap.size < (w2.alloc (.cells #[.int .i64 (z : Nat), .int .i64 (n : Nat)] 28)).heap.size := by simp
  have e0 := HVk.out.c0
  have hbk : b < w2.heap.size := by omega
  clear hg2 hz
  go_wp2
  generalize w2.alloc (.cells #[.int .i64 (z : Nat), .int .i64 (n : Nat)] 28) = wk at *
  generalize w2.heap.size = kb at *
  have hlt2 : b < wk.heap.size := by omega
  have RC : Hid (((wk.alloc (.cells #[.int .i64 (n : Nat)] 3)).drew).cell? ⟨wk.heap.size, 0, none⟩ = some (.int .i64 (n : Nat))) := Lib.hid (((Gr.refl _).drew).cell (new_cell rfl rfl))
  have HX := Lib.hid (((Gr.refl wk).alloc (.cells #[.int .i64 (n : Nat)] 3)).drew)
  have hxz : wk.heap.size < ((wk.alloc (.cells #[.int .i64 (n : Nat)] 3)).drew).heap.size := by simp
  go_region_with (go_at_call 20; go_loud (refine (rep_any n r _ hr _ RC.out).mono ?_; rintro e w3 ⟨d, rfl, hd, hrow, hg3⟩))
  all_goals
    have hx3 := HX.out.trans hg3
    have HV3 := Lib.hid (HVk.out.gr hx3)
    have HG3 := Lib.hid (HGk.out.trans hx3)
    have HT3 := Lib.hid (HT.out.gr HG3.out)
    have K0 := Lib.hid (hx3.cell k0)
    have hbd : b ≠ d := by omega
    have hkd : kb ≠ d := by omega
    have hwd : w.heap.size ≤ d := by omega
    have HR3 : Hid (RowG w3 d r (want p n (setL ((ints (bitsL s)).take 0)))) := Lib.hid fun i hi => (by
      have e9 : want p n (setL ((ints (bitsL s)).take 0)) i = n := want_none p n i
      rw [e9]; exact hrow i hi)
    have c8 := HV3.out.c8
    have hd3 : d < w3.heap.size := cell_lt (hrow 0 (by omega)).1
    clear hx3 hrow hg3 k0 k1 e0 RC HX hxz hlt hbk hlt2 hd
    go_wp2_with fail
    refine (list3_any s _ hls HT3.out).mono ?_
    rintro e w4 ⟨a2, cap2, rfl, hi2, hg4, hba⟩
    have HB := Lib.hid (fun b o h => Nat.ne_of_gt (Nat.lt_of_lt_of_le hd3 (hba b o h)))
    clear hba hd3
    have HV4 := Lib.hid (HV3.out.gr hg4)
    have HG4 := Lib.hid (HG3.out.trans hg4)
    have K4 := Lib.hid (hg4.cell K0.out)
    have HR4 := Lib.hid (HR3.out.gr hg4)
    have HI := Lib.hid hi2
    have SB := Lib.hid (show setL (ints (bitsL s)) = s from setL_bitsL hls)
    clear hi2 hg4 c8
    have hB32 : (ints (bitsL s)).length ≤ 32 := by have h1 := bitsL_len s; have h2 := cnt_le s.testBit 32; simp [ints]; omega
    generalize ints (bitsL s) = B at *
    go_wp2
    go_loopw [34] (fun i wr => ∃ k : Nat, k ≤ B.length ∧ i = .int .i64 (k : Nat) ∧ Hid (VtIs wr b r p W z1 n1 z2 n2 f s) ∧ Hid (Gr w wr) ∧ Hid (wr.cell? ⟨kb, 0, none⟩ = some (.int .i64 (z : Nat))) ∧ Hid (RowG wr d r (want p n (setL (B.take k)))) ∧ Hid (Ints wr a2 B)) (fun i _ => B.length - (intOf i).toNat)
    case atStart => exact ⟨0, by omega, rfl, HV4.out, HG4.out, K4.out, HR4.out, HI.out⟩
    case round =>
      obtain ⟨k, hk, rfl, hV, hG, hK, hRow, hIn⟩ := hrel
      by_cases hlt : k < B.length
      · obtain ⟨m, hBm, hm9, hm32, hmr, hfr, hst⟩ := LF.out k hlt
        obtain ⟨-, -, hcl⟩ := hIn.out
        obtain ⟨bl, ol, rfl, hcc⟩ := hcl.resolve_left (by intro e; rw [e] at hlt; simp at hlt)
        have hbl : bl ≠ d := HB.out _ _ rfl
        have x0 := hcc k hlt
        have hBk : B[k] = (m : Int) := by rw [List.getElem?_eq_getElem hlt] at hBm; exact Option.some.inj hBm
        rw [hBk] at x0
        have HN := Lib.hid (fun i => @want_new p n (setL (B.take k)) m i (by omega) hfr)
        rw [← hst] at HN
        have hg4 := WL.out (setL (B.take k)) (m / p)
        clear hBk hBm hcc hcl hfr hst
        have RGm := Lib.hid (RG.out m hm9)
        clear hm9 hm32
        obtain ⟨c0, c1, c2, c3, c4, c5, c6, -, -, -, -⟩ := hV.out
        generalize m / p = t at *
        go_wp2_with fail
        refine (RGm.out _).mono ?_
        rintro e w5 ⟨rfl, hg5⟩
        have hRow5 := hRow.out.gr hg5
        obtain ⟨y0, y1⟩ := hRow5 t hmr
        have HRow5 := Lib.hid hRow5
        have HV5 := Lib.hid (hV.out.gr hg5)
        have HG5 := Lib.hid (hG.out.trans hg5)
        have HK5 := Lib.hid (hg5.cell hK.out)
        have HI5 := Lib.hid (hIn.out.gr hg5)
        have LO := Lib.hid (less_one (want p n (setL (B.take k)) t))
        have HP := Lib.hid (HRow5.out.put (g' := want p n (setL (B.take (k + 1)))) (x := want p n (setL (B.take k)) t - 1) hmr (by rw [HN.out, if_pos rfl]) (fun i hi => by rw [HN.out, if_neg hi]))
        clear c0 c1 c2 c3 c4 c5 c6 x0 hRow5 hg5
        generalize want p n (setL (B.take k)) t = q at *
        go_wp2_with (simp only [LO.out])
        all_goals
          go_roundw
          case rel => exact ⟨k + 1, by omega, by go_num, Lib.hid ((Sole.setCell d t w5 _).vt hbd HV5.out), Lib.hid ((Sole.setCell d t w5 _).gr HG5.out hwd), Lib.hid ((Sole.setCell d t w5 _).cell hkd HK5.out), HP, Lib.hid (HI5.out.sole (Sole.setCell d t w5 _) hbl)⟩
          case measure => simp [intOf]; omega
      · obtain rfl : k = B.length := by omega
        have hR := hRow.out
        rw [List.take_length, SB.out] at hR
        have SO := Lib.hid (sort_any d r (want p n s) hr (fun i => WL.out s i) wr hR)
        clear hR
        go_wp2_with fail
        refine SO.out.mono ?_
        rintro e w5 ⟨rfl, hS, M, hMl, hMs, hM4, hMc⟩
        have kz0 := hS.cell hkd hK.out
        have HG5 := Lib.hid (hS.gr hG.out hwd)
        have HMs := Lib.hid hMs
        have HM4 := Lib.hid hM4
        have HMc := Lib.hid hMc
        have HMl := Lib.hid hMl
        clear hS hMl hMs hM4 hMc
        go_wp2
        go_loop [8, 61] (fun v i => ∃ k : Nat, k ≤ z ∧ i = .int .i64 (k : Nat) ∧ v = .int .i64 ((M.take k).sum : Nat)) (fun _ i => z - (intOf i).toNat)
        case atStart => exact ⟨0, by omega, rfl, rfl⟩
        case round =>
          obtain ⟨k, hk3, rfl, rfl⟩ := hrel
          by_cases hlt3 : k < z
          · have hkM : k < M.length := by rw [HMl.out]; omega
            have y0 := HMc.out k hkM
            have y4 := HM4.out M[k] (List.getElem_mem hkM)
            have HS := Lib.hid (sum_take_succ hkM)
            have hsb : (M.take k).sum ≤ 4 * 4 := by
              have h1 := sum_le4 (M.take k) fun m hm => HM4.out m (List.mem_of_mem_take hm)
              have h2 : (M.take k).length ≤ 4 := by rw [List.length_take]; omega
              omega
            generalize M[k] = q at *
            clear hkM
            generalize (M.take k).sum = sm at *
            go_wp2
            go_round
            case rel => exact ⟨k + 1, by omega, by go_num, by rw [HS.out]; go_num⟩
            case measure => simp [intOf]; omega
          · obtain rfl : k = z := by omega
            have HE := Lib.hid (HMs.out k zr)
            go_wp2
            go_ret
            exact ⟨by rw [← HE.out]; rfl, HG5.out⟩
end Go.Proofs.YtfgkgpkaohkehaaGreatDoor
namespace Go.Proofs.YtfgkgpkaohkehaaGreatDoor
open Go.ChangeShapes Go.WideShapes Go.ChangeAt Go.RowKit
open Grids
set_option linter.unusedVariables false
set_option linter.unusedSimpArgs false
theorem vAdd_to {b r p W z1 n1 z2 n2 s s' : Nat} {f q : Bool} {n : Int} (R : Rgt r p W z1 n1 z2 n2) (wn : (Lit.int .i64 n).wf = true) (hf : freshB r p s n = q) (ha : addS r p s n = s') (w : World) (h : VtIs w b r p W z1 n1 z2 n2 f s) :
    Calls Tryz.prog 14 #[.pointer (some ⟨b, 0, none⟩), .int .i64 n] w fun e w' => e = .returned (.bool q) ∧ VtIs w' b r p W z1 n1 z2 n2 f s' ∧ Sole b w w' := by
  have := vAdd_any R n wn w h
  unfold AddIs at this
  rwa [hf, ha] at this
theorem vLeast_to {b r p W z1 n1 z2 n2 s k : Nat} {f : Bool} (R : Rgt r p W z1 n1 z2 n2) (hs : s < 2 ^ (r * p)) (hl : least r p (kz f z1 z2) (kz f n1 n2) s = k) (w : World) (h : VtIs w b r p W z1 n1 z2 n2 f s) (hT : TB w) :
    Calls Tryz.prog 8 #[.pointer (some ⟨b, 0, none⟩)] w fun e w' => e = .returned (.int .i64 (k : Nat)) ∧ Gr w w' := by
  have := vLeast_any R hs w h hT
  rwa [hl] at this
theorem vDone_to {b r p W z1 n1 z2 n2 s : Nat} {f q : Bool} (R : Rgt r p W z1 n1 z2 n2) (hq : isQ r p (kz f z1 z2) (kz f n1 n2) s = q) (w : World) (h : VtIs w b r p W z1 n1 z2 n2 f s) :
    Calls Tryz.prog 15 #[.pointer (some ⟨b, 0, none⟩)] w fun e w' => e = .returned (.bool q) ∧ Gr w w' := by
  have := vDone_any R w h
  rwa [hq] at this
theorem tb_ne {w : World} {b : Nat} (h : TB w) (hb : w.heap.size ≤ b) : 0 ≠ b := by
  have := cell_lt (h 0 (by decide))
  omega
def BegunIs (r p W z1 n1 z2 n2 : Nat) (f : Bool) (w : World) (e : Ending) (w' : World) : Prop :=
  ∃ b, e = .returned (.tuple #[.pointer (some ⟨b, 0, none⟩), .agg #[.int .i64 (kz f z1 z2 : Nat), .int .i64 (kz f n1 n2 : Nat)]]) ∧ w.heap.size ≤ b ∧ VtIs w' b r p W z1 n1 z2 n2 f 0 ∧ Gr w w'
theorem own_nat (r p W z1 n1 z2 n2 : Nat) (w : World) :
    Calls Tryz.prog 4 #[.agg #[.int .i64 r, .int .i64 p, .int .u32 W, .int .i64 z1, .int .i64 n1, .int .i64 z2, .int .i64 n2]] w fun e w' => e = .returned (.agg #[.int .i64 r, .int .i64 p, .int .u32 W, .int .i64 z1, .int .i64 n1, .int .i64 z2, .int .i64 n2]) ∧ Gr w w' := gown_any r p z1 n1 z2 n2 W w
end Go.Proofs.YtfgkgpkaohkehaaGreatDoor
