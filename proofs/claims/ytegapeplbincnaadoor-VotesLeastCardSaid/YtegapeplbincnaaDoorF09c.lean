import Derived.Test.YtegapeplbincnaaDoorF09b
import Derived.Test.YtegapeplbincnaaDoorSh0
import Derived.WalkKit
import Derived.ProofKit
import Derived.LoopTactic
import Derived.Outline
import Derived.WalkSpells
import Derived.WalkLawsBesides
import Derived.Lib.Hide
import Derived.Deep.LoopGhost
import Derived.Deep.QuietTactic
import Derived.BigQuiet
import Derived.ShutString
import Derived.IntWalk
import Derived.Deep.RegionWith
import Derived.Deep.RegionHeld3
import Derived.Deep.RegionLaw
import Derived.Laws.AppendOwn
import Derived.Laws.CopyOwn
namespace Go.Proofs.YtegapeplbincnaaDoor
open Go.ChangeShapes Go.WideShapes Go.ChangeAt Go.RowKit
open Grids
set_option linter.unusedVariables false
set_option linter.unusedSimpArgs false
/-- A row of so many equal numbers. -/
def RepIs (v : Int) (r : Nat) (w : World) (e : Ending) (w' : World) : Prop :=
  ∃ d, e = .returned (.slice (some ⟨d, 0, none⟩) r r) ∧ w.heap.size ≤ d ∧ (∀ i, i < r → w'.cell? ⟨d, i, none⟩ = some (.int .i64 v) ∧ w'.frozen? ⟨d, i, none⟩ = false) ∧ Gr w w'
theorem heap_cell {w : World} {d i : Nat} {cs : Array Value} {t : TypeId} {v : Value} (h : w.heap[d]? = some (.cells cs t (0, 0))) (hv : cs[i]? = some v) : w.cell? ⟨d, i, none⟩ = some v ∧ w.frozen? ⟨d, i, none⟩ = false := by
  refine ⟨by simp [World.cell?, h, hv], by simp [World.frozen?, h]⟩
theorem alloc_heap (w : World) (o : Obj) : (w.alloc o).heap[w.heap.size]? = some o := by
  show (w.heap.push o)[w.heap.size]? = some o
  simp
theorem one_src {w : World} {a : Addr} {v : Value} (h : w.cell? a = some v) : ∀ (j : Nat) (u : Value), [v][j]? = some u → w.cell? (a.add j) = some u := by
  intro j u hj
  obtain ⟨h1, h2⟩ := List.getElem?_eq_some_iff.1 hj
  have h0 : j = 0 := by simpa using h1
  subst h0
  simp at h2
  subst h2
  simpa [Addr.add] using h
theorem one_cell {k : IntKind} {z : Int} : ∀ u ∈ [Value.int k z], u.oneCell' = true := by
  intro u hu
  have := List.mem_singleton.1 hu
  subst this; rfl
theorem repIs_mk {v : Int} {r d : Nat} {w w' : World} {cs : Array Value} {t : TypeId} (hd : w.heap.size ≤ d) (h : w'.heap[d]? = some (.cells cs t (0, 0))) (hc : ∀ i, i < r → cs[i]? = some (.int .i64 v)) (hg : Gr w w') : RepIs v r w (.returned (.slice (some ⟨d, 0, none⟩) r r)) w' :=
  ⟨d, rfl, hd, fun i hi => heap_cell h (hc i hi), hg⟩
set_option maxRecDepth 100000 in
set_option maxHeartbeats 1000000 in
theorem rep1_any (v : Int) (bx : Nat) (w : World) (hc : w.cell? ⟨bx, 0, none⟩ = some (.int .i64 v)) :
    Calls Tryd.prog 32 #[.slice (some ⟨bx, 0, none⟩) 1 1, .int .i64 1] w (RepIs v 1 w) := by
  have M := Lib.hid (fun w => Tryd.bits_Mul 1 1 (by decide) (by decide) w)
  have e1 : (1 * 1 / 18446744073709551616 : Nat) = 0 := by decide
  have e2 : (1 * 1 % 18446744073709551616 : Nat) = 1 := by decide
  rw [e1, e2] at M
  clear e1 e2
  have hmk : ∀ w, (Instr.makeSlice 22 (.int .i64 1) (.int .i64 1)).run Tryd.prog w = .ok (.slice (some ⟨w.heap.size, 0, none⟩) 1 1) (w.alloc (.cells #[.int .i64 0] 3)) := fun _ => by kernel_rfl
  have hc1 := ((Gr.refl w).alloc (.cells #[.int .i64 0] 3)).cell hc
  go_enter Tryd.func32, Tryd.ntmps32
  go_wp2_with fail
  refine (M.out _).mono ?_
  rintro e w2 ⟨rfl, rfl⟩
  go_wp2_with (with_reducible refine wpList_copy_splice rfl (.tmp 31) (.tmp 32) 22 22 rfl 3 Tryd.underlying22 (by kernel_rfl) _ _ _ _ _ _ rfl rfl w2.heap.size 0 [.int .i64 0] 3 (alloc_heap _ _) [.int .i64 v] rfl (fun _ => ⟨rfl, ⟨bx, 0, none⟩, rfl, one_src hc1⟩) (by simp) one_cell w2.heap.size w2 ((Below.refl _ _).alloc (Nat.le_refl _) _) (Nat.le_refl _) ?_)
  intro w3 hh3 hb3
  have h3 : w3.heap[w2.heap.size]? = some (.cells #[.int .i64 v] 3 (0, 0)) := hh3.out
  have HG3 := Lib.hid (Gr.of hb3)
  have HD := Lib.hid (Nat.le_refl w2.heap.size)
  clear hc1 hc hh3 hb3
  generalize hdd : w2.heap.size = d at *
  have H3 := Lib.hid h3
  clear h3
  go_wp2
  refine wp_loop_rounds 1 ?_
  rw [rounds_succ]
  go_wp2
  go_ret
  exact repIs_mk (by omega) H3.out (fun i hi => by have h0 : i = 0 := (by omega); subst h0; rfl) HG3.out
set_option maxRecDepth 100000 in
set_option maxHeartbeats 1000000 in
theorem rep2_any (v : Int) (bx : Nat) (w : World) (hc : w.cell? ⟨bx, 0, none⟩ = some (.int .i64 v)) :
    Calls Tryd.prog 32 #[.slice (some ⟨bx, 0, none⟩) 1 1, .int .i64 2] w (RepIs v 2 w) := by
  have M := Lib.hid (fun w => Tryd.bits_Mul 1 2 (by decide) (by decide) w)
  have e1 : (1 * 2 / 18446744073709551616 : Nat) = 0 := by decide
  have e2 : (1 * 2 % 18446744073709551616 : Nat) = 2 := by decide
  rw [e1, e2] at M
  clear e1 e2
  have hmk : ∀ w, (Instr.makeSlice 22 (.int .i64 2) (.int .i64 2)).run Tryd.prog w = .ok (.slice (some ⟨w.heap.size, 0, none⟩) 2 2) (w.alloc (.cells #[.int .i64 0, .int .i64 0] 3)) := fun _ => by kernel_rfl
  have hc1 := ((Gr.refl w).alloc (.cells #[.int .i64 0, .int .i64 0] 3)).cell hc
  go_enter Tryd.func32, Tryd.ntmps32
  go_wp2_with fail
  refine (M.out _).mono ?_
  rintro e w2 ⟨rfl, rfl⟩
  go_wp2_with (with_reducible refine wpList_copy_splice rfl (.tmp 31) (.tmp 32) 22 22 rfl 3 Tryd.underlying22 (by kernel_rfl) _ _ _ _ _ _ rfl rfl w2.heap.size 0 [.int .i64 0, .int .i64 0] 3 (alloc_heap _ _) [.int .i64 v] rfl (fun _ => ⟨rfl, ⟨bx, 0, none⟩, rfl, one_src hc1⟩) (by simp) one_cell w2.heap.size w2 ((Below.refl _ _).alloc (Nat.le_refl _) _) (Nat.le_refl _) ?_)
  intro w3 hh3 hb3
  have h3 : w3.heap[w2.heap.size]? = some (.cells #[.int .i64 v, .int .i64 0] 3 (0, 0)) := hh3.out
  have HG3 := Lib.hid (Gr.of hb3)
  have HD := Lib.hid (Nat.le_refl w2.heap.size)
  clear hc1 hc hh3 hb3
  generalize hdd : w2.heap.size = d at *
  have H3 := Lib.hid h3
  clear h3
  go_wp2
  refine wp_loop_rounds 2 ?_
  rw [rounds_succ]
  go_wp2
  have hs1 := (heap_cell H3.out (i := 0) rfl).1
  go_region_law (refine step_copy_splice rfl (.tmp 41) (.tmp 44) 22 22 rfl 3 Tryd.underlying22 (by kernel_rfl) (some ⟨d, 1, none⟩) (some ⟨d, 0, none⟩) 1 1 1 2 (by simp [Act.eval, Act.put]) (by simp [Act.eval, Act.put]) d 1 [.int .i64 v, .int .i64 0] 3 H3.out [.int .i64 v] (by rfl) (fun _ => ⟨by rfl, ⟨d, 0, none⟩, by rfl, one_src hs1⟩) (by simp) one_cell w2.heap.size w2 (Gr.below HG3.out.drew) (by omega) ?_; intro w4 hh hb; have H4 := hh; have HG4 := Lib.hid (Gr.of hb); clear hh hb)
  go_wp2
  rw [rounds_succ]
  go_wp2
  go_ret
  exact repIs_mk (by omega) H4.out (fun i hi => by have h0 : i = 0 ∨ i = 1 := (by omega); rcases h0 with rfl | rfl <;> rfl) HG4.out
set_option maxRecDepth 100000 in
set_option maxHeartbeats 1000000 in
theorem rep3_any (v : Int) (bx : Nat) (w : World) (hc : w.cell? ⟨bx, 0, none⟩ = some (.int .i64 v)) :
    Calls Tryd.prog 32 #[.slice (some ⟨bx, 0, none⟩) 1 1, .int .i64 3] w (RepIs v 3 w) := by
  have M := Lib.hid (fun w => Tryd.bits_Mul 1 3 (by decide) (by decide) w)
  have e1 : (1 * 3 / 18446744073709551616 : Nat) = 0 := by decide
  have e2 : (1 * 3 % 18446744073709551616 : Nat) = 3 := by decide
  rw [e1, e2] at M
  clear e1 e2
  have hmk : ∀ w, (Instr.makeSlice 22 (.int .i64 3) (.int .i64 3)).run Tryd.prog w = .ok (.slice (some ⟨w.heap.size, 0, none⟩) 3 3) (w.alloc (.cells #[.int .i64 0, .int .i64 0, .int .i64 0] 3)) := fun _ => by kernel_rfl
  have hc1 := ((Gr.refl w).alloc (.cells #[.int .i64 0, .int .i64 0, .int .i64 0] 3)).cell hc
  go_enter Tryd.func32, Tryd.ntmps32
  go_wp2_with fail
  refine (M.out _).mono ?_
  rintro e w2 ⟨rfl, rfl⟩
  go_wp2_with (with_reducible refine wpList_copy_splice rfl (.tmp 31) (.tmp 32) 22 22 rfl 3 Tryd.underlying22 (by kernel_rfl) _ _ _ _ _ _ rfl rfl w2.heap.size 0 [.int .i64 0, .int .i64 0, .int .i64 0] 3 (alloc_heap _ _) [.int .i64 v] rfl (fun _ => ⟨rfl, ⟨bx, 0, none⟩, rfl, one_src hc1⟩) (by simp) one_cell w2.heap.size w2 ((Below.refl _ _).alloc (Nat.le_refl _) _) (Nat.le_refl _) ?_)
  intro w3 hh3 hb3
  have h3 : w3.heap[w2.heap.size]? = some (.cells #[.int .i64 v, .int .i64 0, .int .i64 0] 3 (0, 0)) := hh3.out
  have HG3 := Lib.hid (Gr.of hb3)
  have HD := Lib.hid (Nat.le_refl w2.heap.size)
  clear hc1 hc hh3 hb3
  generalize hdd : w2.heap.size = d at *
  have H3 := Lib.hid h3
  clear h3
  go_wp2
  refine wp_loop_rounds 3 ?_
  rw [rounds_succ]
  go_wp2
  have hs1 := (heap_cell H3.out (i := 0) rfl).1
  go_region_law (refine step_copy_splice rfl (.tmp 41) (.tmp 44) 22 22 rfl 3 Tryd.underlying22 (by kernel_rfl) (some ⟨d, 1, none⟩) (some ⟨d, 0, none⟩) 2 2 1 3 (by simp [Act.eval, Act.put]) (by simp [Act.eval, Act.put]) d 1 [.int .i64 v, .int .i64 0, .int .i64 0] 3 H3.out [.int .i64 v] (by rfl) (fun _ => ⟨by rfl, ⟨d, 0, none⟩, by rfl, one_src hs1⟩) (by simp) one_cell w2.heap.size w2 (Gr.below HG3.out.drew) (by omega) ?_; intro w4 hh hb; have H4 := hh; have HG4 := Lib.hid (Gr.of hb); clear hh hb)
  go_wp2
  rw [rounds_succ]
  go_wp2
  have hs2 := (heap_cell H4.out (i := 0) rfl).1
  go_region_law (refine step_copy_splice rfl (.tmp 41) (.tmp 44) 22 22 rfl 3 Tryd.underlying22 (by kernel_rfl) (some ⟨d, 2, none⟩) (some ⟨d, 0, none⟩) 1 1 2 3 (by simp [Act.eval, Act.put]) (by simp [Act.eval, Act.put]) d 2 [.int .i64 v, .int .i64 v, .int .i64 0] 3 H4.out [.int .i64 v] (by rfl) (fun _ => ⟨by rfl, ⟨d, 0, none⟩, by rfl, one_src hs2⟩) (by simp) one_cell w2.heap.size w2 (Gr.below HG4.out.drew) (by omega) ?_; intro w5 hh hb; have H5 := hh; have HG5 := Lib.hid (Gr.of hb); clear hh hb)
  go_wp2
  rw [rounds_succ]
  go_wp2
  go_ret
  exact repIs_mk (by omega) H5.out (fun i hi => by have h0 : i = 0 ∨ i = 1 ∨ i = 2 := (by omega); rcases h0 with rfl | rfl | rfl <;> rfl) HG5.out
end Go.Proofs.YtegapeplbincnaaDoor
